/- UpdateGone: the walk comes to true. -/
import Derived.Test.YtkdodhkiemfpeaaLu3_2
import Derived.Test.YtkdodhkiemfpeaaOu3
import Derived.Test.YtkdodhkiemfpeaaZu3
namespace Go.Proofs.Ytkdodhkiemfpeaa
open Go.RowKit
set_option linter.unusedVariables false
theorem updateGone_av (a0 : AV) (s0 : ShA (Opn.T News) a0) : ACt Try.prog 10 [a0] (.bool true) [] := by
  obtain ⟨x0, k0, rfl⟩ := opn s0
  exact a_ridgewaylaw08_UpdateGone (updateGone_true x0)
end Go.Proofs.Ytkdodhkiemfpeaa
