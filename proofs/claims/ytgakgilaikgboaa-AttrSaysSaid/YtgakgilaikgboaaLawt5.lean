/- AttrSays: the walk comes to true. -/
import Derived.Test.YtgakgilaikgboaaLt5
import Derived.Test.YtgakgilaikgboaaOt5
import Derived.Test.YtgakgilaikgboaaPt5
namespace Go.Proofs.Ytgakgilaikgboaa
open Go.RowKit
set_option linter.unusedVariables false
theorem attrSays_av (a0 : AV) (s0 : ShA (Opn.T Path) a0) (a1 : AV) (s1 : ShA (Opn.T Int) a1) (a2 : AV) (s2 : ShA (Opn.T Attr) a2) : ACt Try.prog 11 [a0, a1, a2] (.bool true) [] := by
  obtain ⟨x0, k0, rfl⟩ := opn s0
  obtain ⟨x1, k1, rfl⟩ := opn s1
  obtain ⟨x2, k2, rfl⟩ := opn s2
  exact a_ridgewaylaw07_AttrSays (attrSays_true x0 x1 x2 (by have := k0.2.1.1; unfold maxLen at this; omega) (by have := k2.2.2.1; unfold maxLen at this; omega))
end Go.Proofs.Ytgakgilaikgboaa
