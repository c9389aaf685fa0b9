/- UpdateGot: the walk comes to true. -/
import Derived.Test.YtkdodhkiemfpeaaLu1_2
import Derived.Test.YtkdodhkiemfpeaaOu1
import Derived.Test.YtkdodhkiemfpeaaZu1
namespace Go.Proofs.Ytkdodhkiemfpeaa
open Go.RowKit
set_option linter.unusedVariables false
theorem updateGot_av (a0 : AV) (s0 : ShA (Opn.T Msg) a0) : ACt Try.prog 6 [a0] (.bool true) [] := by
  obtain ⟨x0, k0, rfl⟩ := opn s0
  exact a_ridgewaylaw08_UpdateGot (updateGot_true x0 (by have := k0.2.1; unfold maxLen at this; omega))
end Go.Proofs.Ytkdodhkiemfpeaa
