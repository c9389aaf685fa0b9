/- The example, run by the kernel. -/
import Derived.Test.YtmlhbmlppgoklacAcR1
namespace Go.Proofs.Ytmlhbmlppgoklac
set_option maxRecDepth 100000
theorem awake_ac : ACt Try.prog 8 [] (.bool true) [] :=
  execF_ok tab_ok (n := 40) (d := 12) (by kernel_rfl)
end Go.Proofs.Ytmlhbmlppgoklac
