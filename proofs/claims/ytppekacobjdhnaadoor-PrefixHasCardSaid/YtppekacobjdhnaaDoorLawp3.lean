/- PrefixHas: the walk comes to true. -/
import Derived.Test.YtppekacobjdhnaaDoorLp3
import Derived.Test.YtppekacobjdhnaaDoorOp3
import Derived.Test.YtppekacobjdhnaaDoorZp3
namespace Go.Proofs.YtppekacobjdhnaaDoor
open Go.RowKit
set_option linter.unusedVariables false
theorem prefixHas_av (a0 : AV) (s0 : ShA (Opn.T Prefix) a0) (a1 : AV) (s1 : ShA (Opn.T Prefix) a1) (a2 : AV) (s2 : ShA (Opn.T Prefix) a2) (a3 : AV) (s3 : ShA (Opn.T Int) a3) (a4 : AV) (s4 : ShA (Opn.T Int) a4) (a5 : AV) (s5 : ShA (Opn.T Int) a5) : ACt Tryd.prog 7 [a0, a1, a2, a3, a4, a5] (.bool true) [] := by
  obtain ⟨x0, k0, rfl⟩ := opn s0
  obtain ⟨x1, k1, rfl⟩ := opn s1
  obtain ⟨x2, k2, rfl⟩ := opn s2
  obtain ⟨x3, k3, rfl⟩ := opn s3
  obtain ⟨x4, k4, rfl⟩ := opn s4
  obtain ⟨x5, k5, rfl⟩ := opn s5
  exact a_ridgewaylaw02_PrefixHas (prefixHas_true x0 x1 x2 x3 x4 x5)
end Go.Proofs.YtppekacobjdhnaaDoor
