/- UpdateSays: the walk comes to true. -/
import Derived.Test.YtkdodhkiemfpeaaLu5_2
import Derived.Test.YtkdodhkiemfpeaaOu5
import Derived.Test.YtkdodhkiemfpeaaZu5
namespace Go.Proofs.Ytkdodhkiemfpeaa
open Go.RowKit
set_option linter.unusedVariables false
theorem updateSays_av (a0 : AV) (s0 : ShA (Opn.T News) a0) : ACt Try.prog 8 [a0] (.bool true) [] := by
  obtain ⟨x0, k0, rfl⟩ := opn s0
  exact a_ridgewaylaw08_UpdateSays (updateSays_true x0)
end Go.Proofs.Ytkdodhkiemfpeaa
