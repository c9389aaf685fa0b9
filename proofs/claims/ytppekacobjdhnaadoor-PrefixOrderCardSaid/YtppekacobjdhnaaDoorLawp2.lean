/- PrefixOrder: the walk comes to true. -/
import Derived.Test.YtppekacobjdhnaaDoorLp2
import Derived.Test.YtppekacobjdhnaaDoorOp2
import Derived.Test.YtppekacobjdhnaaDoorZp2
namespace Go.Proofs.YtppekacobjdhnaaDoor
open Go.RowKit
set_option linter.unusedVariables false
theorem prefixOrder_av (a0 : AV) (s0 : ShA (Opn.T Prefix) a0) (a1 : AV) (s1 : ShA (Opn.T Prefix) a1) (a2 : AV) (s2 : ShA (Opn.T Prefix) a2) : ACt Tryd.prog 8 [a0, a1, a2] (.bool true) [] := by
  obtain ⟨x0, k0, rfl⟩ := opn s0
  obtain ⟨x1, k1, rfl⟩ := opn s1
  obtain ⟨x2, k2, rfl⟩ := opn s2
  exact a_ridgewaylaw02_PrefixOrder (prefixOrder_true x0 x1 x2)
end Go.Proofs.YtppekacobjdhnaaDoor
