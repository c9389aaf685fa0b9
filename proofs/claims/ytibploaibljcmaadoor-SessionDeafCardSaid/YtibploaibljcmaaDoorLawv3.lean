/- SessionDeaf: the walk comes to true. -/
import Derived.Test.YtibploaibljcmaaDoorLv3_2
import Derived.Test.YtibploaibljcmaaDoorOv3
import Derived.Test.YtibploaibljcmaaDoorZv3
namespace Go.Proofs.YtibploaibljcmaaDoor
open Go.RowKit
set_option linter.unusedVariables false
theorem sessionDeaf_av (a0 : AV) (s0 : ShA (Opn.T Sess) a0) (a1 : AV) (s1 : ShA (Opn.T Conf) a1) (a2 : AV) (s2 : ShA (Opn.T Int) a2) (a3 : AV) (s3 : ShA (Opn.T Msg) a3) : ACt Tryd.prog 6 [a0, a1, a2, a3] (.bool true) [] := by
  obtain ⟨x0, k0, rfl⟩ := opn s0
  obtain ⟨x1, k1, rfl⟩ := opn s1
  obtain ⟨x2, k2, rfl⟩ := opn s2
  obtain ⟨x3, k3, rfl⟩ := opn s3
  exact a_ridgewaylaw17_SessionDeaf (sessionDeaf_true x0 x1 x2 x3 (by have := k1.2.2.2.2.2.1; unfold maxLen at this; omega) (by have := k3.2.1; unfold maxLen at this; omega))
end Go.Proofs.YtibploaibljcmaaDoor
