/- UpdateIs: the walk comes to true. -/
import Derived.Test.YtkdodhkiemfpeaaLu7_3
import Derived.Test.YtkdodhkiemfpeaaOu7
import Derived.Test.YtkdodhkiemfpeaaZu7
namespace Go.Proofs.Ytkdodhkiemfpeaa
open Go.RowKit
set_option linter.unusedVariables false
theorem updateIs_av (a0 : AV) (s0 : ShA (Opn.T News) a0) (a1 : AV) (s1 : ShA (Opn.T Msg) a1) : ACt Try.prog 3 [a0, a1] (.bool true) [] := by
  obtain ⟨x0, k0, rfl⟩ := opn s0
  obtain ⟨x1, k1, rfl⟩ := opn s1
  exact a_ridgewaylaw08_UpdateIs (updateIs_true x0 x1 (by have := k1.2.1; unfold maxLen at this; omega))
end Go.Proofs.Ytkdodhkiemfpeaa
