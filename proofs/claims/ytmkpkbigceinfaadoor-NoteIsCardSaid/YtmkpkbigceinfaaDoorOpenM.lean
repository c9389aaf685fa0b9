/- What an argument that came in reads as: messages. -/
import Derived.Test.YtmkpkbigceinfaaDoorOpen
import Derived.Test.YtmkpkbigceinfaaDoorRows
import Derived.Lib.SmallJoins
import Derived.WideShapes
namespace Go.Proofs.YtmkpkbigceinfaaDoor
open Go.RowKit Go.ChangeShapes Go.WideShapes Go.ChangeAt Go.Joins

theorem open_bytesF {H : Type} {enc : TypeId × Value → H} {W : World} {held : Bool} {fuel : Nat} {v : Value} {y : DataW H × List MemPlace} (h : DataW.trod enc Tryd.prog W 0 (fun _ => true) held fuel 22 [v] = some y) :
    ∃ A n c l, v = .slice A n c ∧ RdB W A n c l := by
  rcases open_ints Tryd.underlying22 Tryd.underlying5 (by kernel_rfl) h with ⟨hcs, _⟩ | ⟨x, l, c, zs, hcs, _, hl, hm, hz, _, hcell, hwz⟩
  · injection hcs with hcs
    subst hcs
    obtain ⟨l, hr⟩ := rdB_nil W
    exact ⟨_, _, _, l, rfl, hr⟩
  · injection hcs with hcs
    subst hcs
    obtain ⟨l', hr⟩ := rdB_of_ints hl hm (by simpa using hz) hcell hwz
    exact ⟨_, _, _, l', rfl, hr⟩
theorem open_intF {H : Type} {enc : TypeId × Value → H} {W : World} {held : Bool} {fuel : Nat} {v : Value} {y : DataW H × List MemPlace} (h : DataW.trod enc Tryd.prog W 0 (fun _ => true) held fuel 3 [v] = some y) :
    ∃ t, v = .int .i64 t ∧ (Lit.int .i64 t).wf = true := by
  obtain ⟨t, hv, _, hw⟩ := DataW.trod_int Tryd.underlying3 h
  injection hv with hv
  exact ⟨t, hv, hw⟩
theorem open_msg {H : Type} {enc : TypeId × Value → H} {W : World} {held : Bool} {r : Reach} {b0 : Nat} {v : Value} {d : DataW H} {p : List MemPlace} (hv : Value.okWide Tryd.prog W r b0 26 v) (h : DataW.Trod enc Tryd.prog W 0 (fun _ => true) held 26 v d p) :
    ∃ t A n c l, v = .agg #[.int .i64 t, .slice A n c] ∧ RdB W A n c l := by
  obtain ⟨v0, v1, y0, y1, n, rfl, _, _, h0, h1⟩ := open_agg2 Tryd.underlying26 (by kernel_rfl) (by kernel_rfl) hv h
  obtain ⟨t, rfl, _⟩ := open_intF h0
  obtain ⟨A, m, c, l, rfl, hr⟩ := open_bytesF h1
  exact ⟨t, A, m, c, l, rfl, hr⟩
end Go.Proofs.YtmkpkbigceinfaaDoor
