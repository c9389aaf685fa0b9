/- RiseFew: the walk comes to true. -/
import Derived.Test.YtpclfdndjillnaaLw1_2
import Derived.Test.YtpclfdndjillnaaOw1
import Derived.Test.YtpclfdndjillnaaPw1
namespace Go.Proofs.Ytpclfdndjillnaa
open Go.RowKit
set_option linter.unusedVariables false
theorem riseFew_av (a0 : AV) (s0 : ShA (Opn.T Conf) a0) (a1 : AV) (s1 : ShA (Opn.T Conf) a1) (a2 : AV) (s2 : ShA (Opn.T Int) a2) : ACt Try.prog 6 [a0, a1, a2] (.bool true) [] := by
  obtain ⟨x0, k0, rfl⟩ := opn s0
  obtain ⟨x1, k1, rfl⟩ := opn s1
  obtain ⟨x2, k2, rfl⟩ := opn s2
  exact a_ridgewaylaw15_RiseFew (riseFew_true x0 x1 x2 (by have := k0.2.2.2.2.2.1; unfold maxLen at this; omega) (by have := k1.2.2.2.2.2.1; unfold maxLen at this; omega))
end Go.Proofs.Ytpclfdndjillnaa
