/- The example, run by the kernel. -/
import Derived.Test.YtgakgilaikgboaaAc
namespace Go.Proofs.Ytgakgilaikgboaa
set_option maxRecDepth 100000
theorem awake_ac : ACt Try.prog 15 [] (.bool true) [] :=
  execF_ok tab_ok (O := []) trivial (n := 40) (d := 14) (by kernel_rfl)
end Go.Proofs.Ytgakgilaikgboaa
