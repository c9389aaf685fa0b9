import Derived.Test.YtibploaibljcmaaGreatDoorOpE
import Derived.Test.YtibploaibljcmaaGreatDoorRows
import Derived.ProofKit
import Derived.LaidMore
import Derived.OpenShut
import Derived.Stop.Joined
import Derived.MakeChecks
namespace Go.Proofs.YtibploaibljcmaaGreatDoor
open Go.RowKit Go.ChangeShapes Go.WideShapes Go.ChangeAt
set_option linter.unusedVariables false
set_option maxRecDepth 100000
theorem nPairs : Tryz.prog.globalNamed "ridgeway/role.pairs" = some 0 := by kernel_rfl
theorem tPairs : (Tryz.prog.globals[0]?).map (·.type) = some 101 := by kernel_rfl
abbrev laidP : List (String × DataW Unit) := [("ridgeway/role.pairs", Rows.laid_ridgeway_role_pairs)]
theorem two_of_trod {w : World} {base : Nat} {sp : Nat → Bool} {held : Bool} {fuel : Nat} {l : List Value} {x y : Int} {q : List MemPlace}
   (h : DataW.trod (fun _ => ()) Tryz.prog w base sp held fuel 100 l = some (.agg [.lit (.int .i64 x), .lit (.int .i64 y)], q)) : l = [.int .i64 x, .int .i64 y] := by
 have c2 : Tryz.prog.cellsOf 100 = 2 := by kernel_rfl
 have c1 : Tryz.prog.cellsOf 3 = 1 := by kernel_rfl
 obtain ⟨xs, m, rfl, hx, hl, hn, hel⟩ := DataW.trod_array Tryz.underlying100 h
 rw [c2] at hl
 match xs, hn with
 | [a, b], _ =>
   simp only [List.map_cons, List.map_nil, Prod.mk.injEq, DataW.agg.injEq, List.cons.injEq, and_true] at hx
   match l, hl with
   | [u, v], _ =>
     have h0 := hel 0 (by omega)
     have h1 := hel 1 (by omega)
     rw [c1] at h0 h1
     simp at h0 h1
     obtain ⟨n0, e0, e0', _⟩ := DataW.trod_int Tryz.underlying3 h0
     obtain ⟨n1, e1, e1', _⟩ := DataW.trod_int Tryz.underlying3 h1
     rw [e0', e1'] at hx
     simp at hx e0 e1
     rw [e0, e1, hx.1.1, hx.1.2]
theorem tab_of_laid {W : World} (h : laidMetH Tryz.prog laidP W) : KG W.cell? := by
 refine ⟨fun g vs hg => ?_, fun g hg => by simp [gamI] at hg⟩
 unfold gam at hg
 split at hg
 rotate_left
 · cases hg
 rename_i hg0
 injection hg with hg
 subst hg0 hg
 rw [MakeChecks.laidMetH_plain _ _ _ (by kernel_rfl)] at h
 obtain ⟨ps, ⟨g0, t0, cs0, f0, p0, q0, hg0, ht0, hv0, hd0, _⟩, _⟩ := h
 obtain rfl := Option.some.inj (nPairs.symm.trans hg0)
 obtain rfl := Option.some.inj (tPairs.symm.trans ht0)
 have c10 : Tryz.prog.cellsOf 101 = 10 := by kernel_rfl
 have c2 : Tryz.prog.cellsOf 100 = 2 := by kernel_rfl
 obtain ⟨xs, m, rfl, hx, hl, hn, hel⟩ := DataW.trod_array Tryz.underlying101 hd0
 rw [c10] at hl
 have key : cs0.toList = tabV := by
   match xs, hn with
   | [a, b, c, d, e], _ =>
     simp only [Rows.laid_ridgeway_role_pairs, List.map_cons, List.map_nil, Prod.mk.injEq, DataW.agg.injEq, List.cons.injEq, and_true] at hx
     obtain ⟨⟨ha, hb, hc, hd, he⟩, _⟩ := hx
     have h0 := hel 0 (by omega)
     have h1 := hel 1 (by omega)
     have h2 := hel 2 (by omega)
     have h3 := hel 3 (by omega)
     have h4 := hel 4 (by omega)
     rw [c2] at h0 h1 h2 h3 h4
     obtain ⟨a1, a2⟩ := a
     obtain ⟨b1, b2⟩ := b
     obtain ⟨c1, c2'⟩ := c
     obtain ⟨d1, d2⟩ := d
     obtain ⟨e1, e2⟩ := e
     simp only at ha hb hc hd he
     subst ha hb hc hd he
     have k0 := two_of_trod (show DataW.trod _ Tryz.prog W 0 _ false m 100 _ = some _ from h0)
     have k1 := two_of_trod (show DataW.trod _ Tryz.prog W 0 _ false m 100 _ = some _ from h1)
     have k2 := two_of_trod (show DataW.trod _ Tryz.prog W 0 _ false m 100 _ = some _ from h2)
     have k3 := two_of_trod (show DataW.trod _ Tryz.prog W 0 _ false m 100 _ = some _ from h3)
     have k4 := two_of_trod (show DataW.trod _ Tryz.prog W 0 _ false m 100 _ = some _ from h4)
     generalize cs0.toList = l at *
     match l, hl with
     | [u0, u1, u2, u3, u4, u5, u6, u7, u8, u9], _ =>
       simp at k0 k1 k2 k3 k4
       simp [tabV, k0, k1, k2, k3, k4]
 intro j hj
 rw [World.var?_cell nPairs hv0 j, ← Array.getElem?_toList, key]
 exact List.getElem?_eq_getElem hj
theorem door_met (os : Os) (args : Array Value) : laidMetH Tryz.prog laidP ((World.doorLaid Tryz.prog 400 os).forCall (fun _ _ => 0) ⟨#[], args, []⟩).memory :=
 laidMetH_of_parts3 (fuel := 8) (laidMet_of_run' 8 (by kernel_rfl) (by kernel_rfl)) (by kernel_rfl) (by kernel_rfl)
end Go.Proofs.YtibploaibljcmaaGreatDoor
