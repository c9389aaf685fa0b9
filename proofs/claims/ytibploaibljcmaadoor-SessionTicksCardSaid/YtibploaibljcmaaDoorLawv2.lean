/- SessionTicks: the walk comes to true. -/
import Derived.Test.YtibploaibljcmaaDoorLv2_2
import Derived.Test.YtibploaibljcmaaDoorOv2
import Derived.Test.YtibploaibljcmaaDoorZv2
namespace Go.Proofs.YtibploaibljcmaaDoor
open Go.RowKit
set_option linter.unusedVariables false
theorem sessionTicks_av (a0 : AV) (s0 : ShA (Opn.T Sess) a0) (a1 : AV) (s1 : ShA (Opn.T Int) a1) (a2 : AV) (s2 : ShA (Opn.T Int) a2) : ACt Tryd.prog 5 [a0, a1, a2] (.bool true) [] := by
  obtain ⟨x0, k0, rfl⟩ := opn s0
  obtain ⟨x1, k1, rfl⟩ := opn s1
  obtain ⟨x2, k2, rfl⟩ := opn s2
  exact a_ridgewaylaw17_SessionTicks (sessionTicks_true x0 x1 x2)
end Go.Proofs.YtibploaibljcmaaDoor
