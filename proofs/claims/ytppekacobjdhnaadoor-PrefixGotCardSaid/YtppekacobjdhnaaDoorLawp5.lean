/- PrefixGot: the walk comes to true. -/
import Derived.Test.YtppekacobjdhnaaDoorLp5
import Derived.Test.YtppekacobjdhnaaDoorOp5
import Derived.Test.YtppekacobjdhnaaDoorZp5
namespace Go.Proofs.YtppekacobjdhnaaDoor
open Go.RowKit
set_option linter.unusedVariables false
theorem prefixGot_av (a0 : AV) (s0 : ShA (Opn.T (List UInt8)) a0) : ACt Tryd.prog 5 [a0] (.bool true) [] := by
  obtain ⟨x0, k0, rfl⟩ := opn s0
  exact a_ridgewaylaw02_PrefixGot (prefixGot_true x0 (by have := k0.1; unfold maxLen at this; omega))
end Go.Proofs.YtppekacobjdhnaaDoor
