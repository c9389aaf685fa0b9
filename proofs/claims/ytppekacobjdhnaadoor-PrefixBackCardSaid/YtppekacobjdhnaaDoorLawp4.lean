/- PrefixBack: the walk comes to true. -/
import Derived.Test.YtppekacobjdhnaaDoorLp4
import Derived.Test.YtppekacobjdhnaaDoorOp4
import Derived.Test.YtppekacobjdhnaaDoorZp4
namespace Go.Proofs.YtppekacobjdhnaaDoor
open Go.RowKit
set_option linter.unusedVariables false
theorem prefixBack_av (a0 : AV) (s0 : ShA (Opn.T (List Prefix)) a0) (a1 : AV) (s1 : ShA (Opn.T (List UInt8)) a1) : ACt Tryd.prog 4 [a0, a1] (.bool true) [] := by
  obtain ⟨x0, k0, rfl⟩ := opn s0
  obtain ⟨x1, k1, rfl⟩ := opn s1
  exact a_ridgewaylaw02_PrefixBack (prefixBack_true x0 x1 (by have := k0.1; unfold maxLen at this; omega) (by have := k1.1; unfold maxLen at this; omega))
end Go.Proofs.YtppekacobjdhnaaDoor
