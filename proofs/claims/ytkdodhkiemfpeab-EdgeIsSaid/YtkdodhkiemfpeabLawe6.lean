/- EdgeIs: the walk comes to true. -/
import Derived.Test.YtkdodhkiemfpeabLe6_2
import Derived.Test.YtkdodhkiemfpeabOe6
import Derived.Test.YtkdodhkiemfpeabPe6
namespace Go.Proofs.Ytkdodhkiemfpeab
open Go.RowKit
set_option linter.unusedVariables false
theorem edgeIs_av (a0 : AV) (s0 : ShA (Opn.T Conf) a0) (a1 : AV) (s1 : ShA (Opn.T Int) a1) (a2 : AV) (s2 : ShA (Opn.T Prefix) a2) (a3 : AV) (s3 : ShA (Opn.T Path) a3) (a4 : AV) (s4 : ShA (Opn.T Route) a4) : ACt Try.prog 3 [a0, a1, a2, a3, a4] (.bool true) [] := by
  obtain ⟨x0, k0, rfl⟩ := opn s0
  obtain ⟨x1, k1, rfl⟩ := opn s1
  obtain ⟨x2, k2, rfl⟩ := opn s2
  obtain ⟨x3, k3, rfl⟩ := opn s3
  obtain ⟨x4, k4, rfl⟩ := opn s4
  exact a_ridgewaylaw14_EdgeIs (edgeIs_true x0 x1 x2 x3 x4 (by have := k0.2.2.2.2.2.1; unfold maxLen at this; omega) (by have := k3.2.1.1; unfold maxLen at this; omega) (by have := k4.2.1.2.1.1; unfold maxLen at this; omega))
end Go.Proofs.Ytkdodhkiemfpeab
