/- UpdatePacks: the walk comes to true. -/
import Derived.Test.YtkdodhkiemfpeaaLu8_3
import Derived.Test.YtkdodhkiemfpeaaOu8
import Derived.Test.YtkdodhkiemfpeaaZu8
namespace Go.Proofs.Ytkdodhkiemfpeaa
open Go.RowKit
set_option linter.unusedVariables false
theorem updatePacks_av (a0 : AV) (s0 : ShA (Opn.T News) a0) : ACt Try.prog 4 [a0] (.bool true) [] := by
  obtain ⟨x0, k0, rfl⟩ := opn s0
  exact a_ridgewaylaw08_UpdatePacks (updatePacks_true x0)
end Go.Proofs.Ytkdodhkiemfpeaa
