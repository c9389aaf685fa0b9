/- UpdateFull: the walk comes to true. -/
import Derived.Test.YtkdodhkiemfpeaaLu6_2
import Derived.Test.YtkdodhkiemfpeaaOu6
import Derived.Test.YtkdodhkiemfpeaaZu6
namespace Go.Proofs.Ytkdodhkiemfpeaa
open Go.RowKit
set_option linter.unusedVariables false
theorem updateFull_av (a0 : AV) (s0 : ShA (Opn.T Int) a0) : ACt Try.prog 9 [a0] (.bool true) [] := by
  obtain ⟨x0, k0, rfl⟩ := opn s0
  exact a_ridgewaylaw08_UpdateFull (updateFull_true x0)
end Go.Proofs.Ytkdodhkiemfpeaa
