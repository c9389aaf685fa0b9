/- PrefixMask: the walk comes to true. -/
import Derived.Test.YtppekacobjdhnaaDoorLp1
import Derived.Test.YtppekacobjdhnaaDoorOp1
import Derived.Test.YtppekacobjdhnaaDoorZp1
namespace Go.Proofs.YtppekacobjdhnaaDoor
open Go.RowKit
set_option linter.unusedVariables false
theorem prefixMask_av (a0 : AV) (s0 : ShA (Opn.T Int) a0) (a1 : AV) (s1 : ShA (Opn.T Int) a1) (a2 : AV) (s2 : ShA (Opn.T Int) a2) : ACt Tryd.prog 9 [a0, a1, a2] (.bool true) [] := by
  obtain ⟨x0, k0, rfl⟩ := opn s0
  obtain ⟨x1, k1, rfl⟩ := opn s1
  obtain ⟨x2, k2, rfl⟩ := opn s2
  exact a_ridgewaylaw02_PrefixMask (prefixMask_true x0 x1 x2)
end Go.Proofs.YtppekacobjdhnaaDoor
