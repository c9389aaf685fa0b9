/- RiseLess: the walk comes to true. -/
import Derived.Test.YtpclfdndjillnaaLrs_2
import Derived.Test.YtpclfdndjillnaaOrs
import Derived.Test.YtpclfdndjillnaaPr5
namespace Go.Proofs.Ytpclfdndjillnaa
open Go.RowKit
theorem riseLess_av (a0 : AV) (s0 : ShA (Opn.T Conf) a0) (a1 : AV) (s1 : ShA (Opn.T Conf) a1) : ACt Try.prog 5 [a0, a1] (.bool true) [] := by
  obtain ⟨x0, k0, rfl⟩ := opn s0
  obtain ⟨x1, k1, rfl⟩ := opn s1
  have h0 : x0.Sides.length ≤ 9223372036854775807 := by have := k0.2.2.2.2.2.1; unfold maxLen at this; omega
  have h1 : x1.Sides.length ≤ 9223372036854775807 := by have := k1.2.2.2.2.2.1; unfold maxLen at this; omega
  exact a_ridgewaylaw15_RiseLess (riseLess_true x0 x1 h0 h1)
end Go.Proofs.Ytpclfdndjillnaa
