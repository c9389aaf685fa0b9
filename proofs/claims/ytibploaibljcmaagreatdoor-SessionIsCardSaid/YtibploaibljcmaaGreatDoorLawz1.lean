/- SessionIs: the walk comes to true. -/
import Derived.Test.YtibploaibljcmaaGreatDoorLz1_3
import Derived.Test.YtibploaibljcmaaGreatDoorOz1
import Derived.Test.YtibploaibljcmaaGreatDoorZz1
namespace Go.Proofs.YtibploaibljcmaaGreatDoor
open Go.RowKit
set_option linter.unusedVariables false
theorem sessionIs_av (a0 : AV) (s0 : ShA (Opn.T Sess) a0) (a1 : AV) (s1 : ShA (Opn.T Conf) a1) (a2 : AV) (s2 : ShA (Opn.T Int) a2) (a3 : AV) (s3 : ShA (Opn.T Msg) a3) (a4 : AV) (s4 : ShA (Opn.T Int) a4) : ACt Tryz.prog 3 [a0, a1, a2, a3, a4] (.bool true) [] := by
  obtain ⟨x0, k0, rfl⟩ := opn s0
  obtain ⟨x1, k1, rfl⟩ := opn s1
  obtain ⟨x2, k2, rfl⟩ := opn s2
  obtain ⟨x3, k3, rfl⟩ := opn s3
  obtain ⟨x4, k4, rfl⟩ := opn s4
  exact a_ridgewaylaw17_SessionIs (sessionIs_true x0 x1 x2 x3 x4 (by have := k1.2.2.2.2.2.1; unfold maxLen at this; omega) (by have := k3.2.1; unfold maxLen at this; omega))
end Go.Proofs.YtibploaibljcmaaGreatDoor
