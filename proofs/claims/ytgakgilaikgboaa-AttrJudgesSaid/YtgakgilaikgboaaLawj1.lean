/- AttrJudges: the walk comes to true. -/
import Derived.Test.YtgakgilaikgboaaLj1_2
import Derived.Test.YtgakgilaikgboaaOj1
import Derived.Test.YtgakgilaikgboaaZj1
namespace Go.Proofs.Ytgakgilaikgboaa
open Go.RowKit
set_option linter.unusedVariables false
theorem attrJudges_av (a0 : AV) (s0 : ShA (Opn.T (List Attr)) a0) : ACt Try.prog 9 [a0] (.bool true) [] := by
  obtain ⟨x0, k0, rfl⟩ := opn s0
  exact a_ridgewaylaw07_AttrJudges (attrJudges_true x0 (by have := k0.1; unfold maxLen at this; omega))
end Go.Proofs.Ytgakgilaikgboaa
