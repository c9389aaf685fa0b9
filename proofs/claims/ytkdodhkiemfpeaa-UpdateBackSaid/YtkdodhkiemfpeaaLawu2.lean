/- UpdateBack: the walk comes to true. -/
import Derived.Test.YtkdodhkiemfpeaaLu2_2
import Derived.Test.YtkdodhkiemfpeaaOu2
import Derived.Test.YtkdodhkiemfpeaaZu2
namespace Go.Proofs.Ytkdodhkiemfpeaa
open Go.RowKit
set_option linter.unusedVariables false
theorem updateBack_av (a0 : AV) (s0 : ShA (Opn.T News) a0) : ACt Try.prog 5 [a0] (.bool true) [] := by
  obtain ⟨x0, k0, rfl⟩ := opn s0
  exact a_ridgewaylaw08_UpdateBack (updateBack_true x0)
end Go.Proofs.Ytkdodhkiemfpeaa
