/- AttrTurn: the walk comes to true. -/
import Derived.Test.YtgakgilaikgboaaLt3
import Derived.Test.YtgakgilaikgboaaOt3
import Derived.Test.YtgakgilaikgboaaT3t3
namespace Go.Proofs.Ytgakgilaikgboaa
open Go.RowKit
set_option linter.unusedVariables false
theorem attrTurn_av (a0 : AV) (s0 : ShA (Opn.T (List Attr)) a0) : ACt Try.prog 13 [a0] (.bool true) [] := by
  obtain ⟨x0, k0, rfl⟩ := opn s0
  exact a_ridgewaylaw07_AttrTurn (attrTurn_true x0 (by have := k0.1; unfold maxLen at this; omega))
end Go.Proofs.Ytgakgilaikgboaa
