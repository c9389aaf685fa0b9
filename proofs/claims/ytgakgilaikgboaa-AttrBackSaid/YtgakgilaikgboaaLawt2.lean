/- AttrBack: the walk comes to true. -/
import Derived.Test.YtgakgilaikgboaaLt2
import Derived.Test.YtgakgilaikgboaaOt2
import Derived.Test.YtgakgilaikgboaaPt2
namespace Go.Proofs.Ytgakgilaikgboaa
open Go.RowKit
set_option linter.unusedVariables false
theorem attrBack_av (a0 : AV) (s0 : ShA (Opn.T (List Attr)) a0) : ACt Try.prog 10 [a0] (.bool true) [] := by
  obtain ⟨x0, k0, rfl⟩ := opn s0
  exact a_ridgewaylaw07_AttrBack (attrBack_true x0 (by have := k0.1; unfold maxLen at this; omega))
end Go.Proofs.Ytgakgilaikgboaa
