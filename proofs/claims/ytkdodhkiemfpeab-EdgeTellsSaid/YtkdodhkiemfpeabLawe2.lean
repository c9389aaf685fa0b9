/- EdgeTells: the walk comes to true. -/
import Derived.Test.YtkdodhkiemfpeabLe2_2
import Derived.Test.YtkdodhkiemfpeabOe2
import Derived.Test.YtkdodhkiemfpeabE2e2
namespace Go.Proofs.Ytkdodhkiemfpeab
open Go.RowKit
set_option linter.unusedVariables false
theorem edgeTells_av (a0 : AV) (s0 : ShA (Opn.T Conf) a0) (a1 : AV) (s1 : ShA (Opn.T Int) a1) (a2 : AV) (s2 : ShA (Opn.T Prefix) a2) (a3 : AV) (s3 : ShA (Opn.T Route) a3) : ACt Try.prog 5 [a0, a1, a2, a3] (.bool true) [] := by
  obtain ⟨x0, k0, rfl⟩ := opn s0
  obtain ⟨x1, k1, rfl⟩ := opn s1
  obtain ⟨x2, k2, rfl⟩ := opn s2
  obtain ⟨x3, k3, rfl⟩ := opn s3
  exact a_ridgewaylaw14_EdgeTells (edgeTells_true x0 x1 x2 x3 (by have := k0.2.2.2.2.2.1; unfold maxLen at this; omega) (by have := k3.2.1.2.1.1; unfold maxLen at this; omega))
end Go.Proofs.Ytkdodhkiemfpeab
