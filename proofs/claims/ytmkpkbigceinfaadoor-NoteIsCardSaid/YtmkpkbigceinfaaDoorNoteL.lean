/- What the listed variables give the walks: their cells. -/
import Derived.Test.YtmkpkbigceinfaaDoorNote1
import Derived.Test.YtmkpkbigceinfaaDoorRows
import Derived.ProofKit
import Derived.LaidMore
import Derived.OpenShut
import Derived.Stop.Joined
import Derived.Stop.LaidErr
import Derived.MakeChecks
import Derived.Deep.Strs
namespace Go.Proofs.YtmkpkbigceinfaaDoor
open Go.RowKit Go.ChangeShapes Go.WideShapes Go.ChangeAt
set_option linter.unusedVariables false
set_option linter.unusedSimpArgs false

abbrev laidP : List (String × DataW Unit) := [("math/bits.deBruijn32tab", Rows.laid_math_bits_deBruijn32tab), ("math/bits.deBruijn64tab", Rows.laid_math_bits_deBruijn64tab), ("internal/strconv.uint64pow10", Rows.laid_internal_strconv_uint64pow10), ("ridgeway/note.names", Rows.laid_ridgeway_note_names), ("ridgeway/note.known", Rows.laid_ridgeway_note_known)]

theorem pow_of_laid {W : World} (h : laidMet Tryd.prog laidP W) : Lib.TabIs Tryd.prog W "internal/strconv.uint64pow10" .u64 Lib.pow10Tab := by
  have h2 := h.tail.tail
  have e : (Rows.laid_internal_strconv_uint64pow10 : DataW Unit) = Lib.tabData .u64 Lib.pow10Tab := by rfl
  rw [e] at h2
  exact Lib.tabIs_of_head (g := 2) (t := 53) (e := 47) (n := 20) (by kernel_rfl) (by kernel_rfl) Tryd.underlying53 Tryd.underlying47 (by kernel_rfl) (by kernel_rfl) h2

theorem three_of_trod {w : World} {base : Nat} {sp : Nat → Bool} {held : Bool} {fuel : Nat} {l : List Value} {x y z : Int} {q : List MemPlace}
    (h : DataW.trod (fun _ => ()) Tryd.prog w base sp held fuel 39 l = some (.agg [.lit (.int .i64 x), .lit (.int .i64 y), .lit (.int .i64 z)], q)) : l = [.int .i64 x, .int .i64 y, .int .i64 z] := by
  have c3 : Tryd.prog.cellsOf 39 = 3 := by kernel_rfl
  have c1 : Tryd.prog.cellsOf 3 = 1 := by kernel_rfl
  obtain ⟨y0, y1, y2, n, hx, hl, h0, h1, h2⟩ := Deep.trod_struct3 Tryd.underlying39 h
  rw [c3] at hl
  simp only [Prod.mk.injEq, DataW.agg.injEq, List.cons.injEq, and_true] at hx
  match l, hl with
  | [u, v, s], _ =>
    simp only [c1] at h0 h1 h2
    obtain ⟨n0, e0, e0', _⟩ := DataW.trod_int Tryd.underlying3 h0
    obtain ⟨n1, e1, e1', _⟩ := DataW.trod_int Tryd.underlying3 h1
    obtain ⟨n2, e2, e2', _⟩ := DataW.trod_int Tryd.underlying3 h2
    rw [e0', e1', e2'] at hx
    simp at hx e0 e1 e2
    rw [e0, e1, e2, hx.1.1, hx.1.2.1, hx.1.2.2]

theorem drop9 {l : List Value} {n : Nat} (h : l.length = n) : l.drop n = [] := List.drop_eq_nil_of_le (by omega)
theorem join_take {l : List Value} (k : Nat) : l = l.take k ++ l.drop k := (List.take_append_drop k l).symm

theorem known_of_laid {W : World} (h : laidMet Tryd.prog laidP W) : ∀ j, ∀ h : j < tabK.length, W.cell? ⟨0, j, none⟩ = some tabK[j] := by
  have nK : Tryd.prog.globalNamed "ridgeway/note.known" = some 0 := by kernel_rfl
  have tK : (Tryd.prog.globals[0]?).map (·.type) = some 40 := by kernel_rfl
  obtain ⟨ps, ⟨g0, t0, cs0, f0, p0, q0, hg0, ht0, hv0, hd0, _⟩, _⟩ := h.tail.tail.tail.tail
  obtain rfl := Option.some.inj (nK.symm.trans hg0)
  obtain rfl := Option.some.inj (tK.symm.trans ht0)
  have c27 : Tryd.prog.cellsOf 40 = 27 := by kernel_rfl
  have c3 : Tryd.prog.cellsOf 39 = 3 := by kernel_rfl
  obtain ⟨xs, m, rfl, hx, hl, hn, hel⟩ := DataW.trod_array Tryd.underlying40 hd0
  rw [c27] at hl
  have key : cs0.toList = tabK := by
    match xs, hn with
    | [x0, x1, x2, x3, x4, x5, x6, x7, x8], _ =>
      simp only [Rows.laid_ridgeway_note_known, List.map_cons, List.map_nil, Prod.mk.injEq, DataW.agg.injEq, List.cons.injEq, and_true] at hx
      obtain ⟨⟨a0, a1, a2, a3, a4, a5, a6, a7, a8⟩, _⟩ := hx
      have h0 := hel 0 (by omega)
      rw [c3] at h0
      obtain ⟨d0, e0⟩ := x0
      simp only at a0
      subst a0
      have k0 := three_of_trod (show DataW.trod _ Tryd.prog W 0 _ false m 39 _ = some _ from h0)
      clear h0
      have h1 := hel 1 (by omega)
      rw [c3] at h1
      obtain ⟨d1, e1⟩ := x1
      simp only at a1
      subst a1
      have k1 := three_of_trod (show DataW.trod _ Tryd.prog W 0 _ false m 39 _ = some _ from h1)
      clear h1
      have h2 := hel 2 (by omega)
      rw [c3] at h2
      obtain ⟨d2, e2⟩ := x2
      simp only at a2
      subst a2
      have k2 := three_of_trod (show DataW.trod _ Tryd.prog W 0 _ false m 39 _ = some _ from h2)
      clear h2
      have h3 := hel 3 (by omega)
      rw [c3] at h3
      obtain ⟨d3, e3⟩ := x3
      simp only at a3
      subst a3
      have k3 := three_of_trod (show DataW.trod _ Tryd.prog W 0 _ false m 39 _ = some _ from h3)
      clear h3
      have h4 := hel 4 (by omega)
      rw [c3] at h4
      obtain ⟨d4, e4⟩ := x4
      simp only at a4
      subst a4
      have k4 := three_of_trod (show DataW.trod _ Tryd.prog W 0 _ false m 39 _ = some _ from h4)
      clear h4
      have h5 := hel 5 (by omega)
      rw [c3] at h5
      obtain ⟨d5, e5⟩ := x5
      simp only at a5
      subst a5
      have k5 := three_of_trod (show DataW.trod _ Tryd.prog W 0 _ false m 39 _ = some _ from h5)
      clear h5
      have h6 := hel 6 (by omega)
      rw [c3] at h6
      obtain ⟨d6, e6⟩ := x6
      simp only at a6
      subst a6
      have k6 := three_of_trod (show DataW.trod _ Tryd.prog W 0 _ false m 39 _ = some _ from h6)
      clear h6
      have h7 := hel 7 (by omega)
      rw [c3] at h7
      obtain ⟨d7, e7⟩ := x7
      simp only at a7
      subst a7
      have k7 := three_of_trod (show DataW.trod _ Tryd.prog W 0 _ false m 39 _ = some _ from h7)
      clear h7
      have h8 := hel 8 (by omega)
      rw [c3] at h8
      obtain ⟨d8, e8⟩ := x8
      simp only at a8
      subst a8
      have k8 := three_of_trod (show DataW.trod _ Tryd.prog W 0 _ false m 39 _ = some _ from h8)
      clear h8
      generalize cs0.toList = l at *
      have hh : l = l.take 3 ++ ((l.drop 3).take 3 ++ ((l.drop 6).take 3 ++ ((l.drop 9).take 3 ++ ((l.drop 12).take 3 ++ ((l.drop 15).take 3 ++ ((l.drop 18).take 3 ++ ((l.drop 21).take 3 ++ (l.drop 24).take 3))))))) := by
        match l, hl with
        | [u0, u1, u2, u3, u4, u5, u6, u7, u8, u9, u10, u11, u12, u13, u14, u15, u16, u17, u18, u19, u20, u21, u22, u23, u24, u25, u26], _ => rfl
      rw [hh]
      simp only [Nat.zero_mul, List.drop_zero] at k0
      rw [k0, show (l.drop 3).take 3 = _ from k1, show (l.drop 6).take 3 = _ from k2, show (l.drop 9).take 3 = _ from k3, show (l.drop 12).take 3 = _ from k4, show (l.drop 15).take 3 = _ from k5, show (l.drop 18).take 3 = _ from k6, show (l.drop 21).take 3 = _ from k7, show (l.drop 24).take 3 = _ from k8]
      rfl
  intro j hj
  rw [World.var?_cell nK hv0 j, ← Array.getElem?_toList, key]
  exact List.getElem?_eq_getElem hj

theorem str_of_trod {w : World} {base : Nat} {sp : Nat → Bool} {held : Bool} {fuel : Nat} {l : List Value} {x : List UInt8} {q : List MemPlace}
    (h : DataW.trod (fun _ => ()) Tryd.prog w base sp held fuel 9 l = some (.lit (.string x), q)) : l = [.string (ByteArray.mk x.toArray)] := by
  obtain ⟨s, hl, hx, _⟩ := DataW.trod_string Tryd.underlying9 h
  simp only [Prod.mk.injEq, DataW.lit.injEq, Lit.string.injEq] at hx
  rw [hl, hx.1]
theorem names_of_laid {W : World} (h : laidMet Tryd.prog laidP W) : ∀ j, ∀ h : j < tabN.length, W.cell? ⟨1, j, none⟩ = some tabN[j] := by
  have nK : Tryd.prog.globalNamed "ridgeway/note.names" = some 1 := by kernel_rfl
  have tK : (Tryd.prog.globals[1]?).map (·.type) = some 42 := by kernel_rfl
  obtain ⟨ps, ⟨g0, t0, cs0, f0, p0, q0, hg0, ht0, hv0, hd0, _⟩, _⟩ := h.tail.tail.tail
  obtain rfl := Option.some.inj (nK.symm.trans hg0)
  obtain rfl := Option.some.inj (tK.symm.trans ht0)
  have c7 : Tryd.prog.cellsOf 42 = 7 := by kernel_rfl
  have c1 : Tryd.prog.cellsOf 9 = 1 := by kernel_rfl
  obtain ⟨xs, m, rfl, hx, hl, hn, hel⟩ := DataW.trod_array Tryd.underlying42 hd0
  rw [c7] at hl
  have key : cs0.toList = tabN := by
    match xs, hn with
    | [x0, x1, x2, x3, x4, x5, x6], _ =>
      simp only [Rows.laid_ridgeway_note_names, List.map_cons, List.map_nil, Prod.mk.injEq, DataW.agg.injEq, List.cons.injEq, and_true] at hx
      obtain ⟨⟨a0, a1, a2, a3, a4, a5, a6⟩, _⟩ := hx
      have h0 := hel 0 (by omega)
      rw [c1] at h0
      obtain ⟨d0, e0⟩ := x0
      simp only at a0
      subst a0
      have k0 := str_of_trod (show DataW.trod _ Tryd.prog W 0 _ false m 9 _ = some _ from h0)
      clear h0
      have h1 := hel 1 (by omega)
      rw [c1] at h1
      obtain ⟨d1, e1⟩ := x1
      simp only at a1
      subst a1
      have k1 := str_of_trod (show DataW.trod _ Tryd.prog W 0 _ false m 9 _ = some _ from h1)
      clear h1
      have h2 := hel 2 (by omega)
      rw [c1] at h2
      obtain ⟨d2, e2⟩ := x2
      simp only at a2
      subst a2
      have k2 := str_of_trod (show DataW.trod _ Tryd.prog W 0 _ false m 9 _ = some _ from h2)
      clear h2
      have h3 := hel 3 (by omega)
      rw [c1] at h3
      obtain ⟨d3, e3⟩ := x3
      simp only at a3
      subst a3
      have k3 := str_of_trod (show DataW.trod _ Tryd.prog W 0 _ false m 9 _ = some _ from h3)
      clear h3
      have h4 := hel 4 (by omega)
      rw [c1] at h4
      obtain ⟨d4, e4⟩ := x4
      simp only at a4
      subst a4
      have k4 := str_of_trod (show DataW.trod _ Tryd.prog W 0 _ false m 9 _ = some _ from h4)
      clear h4
      have h5 := hel 5 (by omega)
      rw [c1] at h5
      obtain ⟨d5, e5⟩ := x5
      simp only at a5
      subst a5
      have k5 := str_of_trod (show DataW.trod _ Tryd.prog W 0 _ false m 9 _ = some _ from h5)
      clear h5
      have h6 := hel 6 (by omega)
      rw [c1] at h6
      obtain ⟨d6, e6⟩ := x6
      simp only at a6
      subst a6
      have k6 := str_of_trod (show DataW.trod _ Tryd.prog W 0 _ false m 9 _ = some _ from h6)
      clear h6
      generalize cs0.toList = l at *
      match l, hl with
      | [u0, u1, u2, u3, u4, u5, u6], _ =>
        simp at k0 k1 k2 k3 k4 k5 k6
        simp [tabN, k0, k1, k2, k3, k4, k5, k6]
  intro j hj
  rw [World.var?_cell nK hv0 j, ← Array.getElem?_toList, key]
  exact List.getElem?_eq_getElem hj

theorem tab_of_laid {W : World} (h : laidMetH Tryd.prog laidP W) : Tab W := by
  rw [MakeChecks.laidMetH_plain _ _ _ (by kernel_rfl)] at h
  exact ⟨known_of_laid h, names_of_laid h, pow_of_laid h⟩

theorem door_met (os : Os) (args : Array Value) : laidMetH Tryd.prog laidP ((World.doorLaid Tryd.prog 400 os).forCall (fun _ _ => 0) ⟨#[], args, []⟩).memory :=
  laidMetH_of_parts3 (fuel := 8) (laidMet_of_run' 8 (by kernel_rfl) (by kernel_rfl)) (by kernel_rfl) (by kernel_rfl)
end Go.Proofs.YtmkpkbigceinfaaDoor
