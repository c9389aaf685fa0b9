/- UpdateSpoilt: the walk comes to true. -/
import Derived.Test.YtkdodhkiemfpeaaLu4_2
import Derived.Test.YtkdodhkiemfpeaaOu4
import Derived.Test.YtkdodhkiemfpeaaZu4
namespace Go.Proofs.Ytkdodhkiemfpeaa
open Go.RowKit
set_option linter.unusedVariables false
theorem updateSpoilt_av (a0 : AV) (s0 : ShA (Opn.T (List Prefix)) a0) (a1 : AV) (s1 : ShA (Opn.T (List Prefix)) a1) (a2 : AV) (s2 : ShA (Opn.T (List UInt8)) a2) : ACt Try.prog 7 [a0, a1, a2] (.bool true) [] := by
  obtain ⟨x0, k0, rfl⟩ := opn s0
  obtain ⟨x1, k1, rfl⟩ := opn s1
  obtain ⟨x2, k2, rfl⟩ := opn s2
  exact a_ridgewaylaw08_UpdateSpoilt (updateSpoilt_true x0 x1 x2 (by have := k0.1; unfold maxLen at this; omega) (by have := k1.1; unfold maxLen at this; omega) (by have := k2.1; unfold maxLen at this; omega))
end Go.Proofs.Ytkdodhkiemfpeaa
