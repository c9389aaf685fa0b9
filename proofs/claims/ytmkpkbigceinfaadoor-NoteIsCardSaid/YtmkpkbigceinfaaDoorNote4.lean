/- The walk of note.Get. -/
import Derived.Test.YtmkpkbigceinfaaDoorNote3
namespace Go.Proofs.YtmkpkbigceinfaaDoor
open Go.RowKit
set_option maxHeartbeats 400000
set_option linter.unusedVariables false
set_option linter.unusedSimpArgs false

/-- What note.Get answers: a code, a sub-code, octets, and whether it is one. -/
def noteG (t : Int) (l : List UInt8) : Int × Int × List UInt8 × Bool :=
  if t = 3 ∧ 2 ≤ l.length ∧ nsaneB (l.getD 0 0).toNat (l.getD 1 0).toNat (l.length - 2) = true then ((l.getD 0 0).toNat, (l.getD 1 0).toNat, l.drop 2, true) else (0, 0, [], false)
def IsNG (g : Int × Int × List UInt8 × Bool) : Value → World → Prop := fun v w => ∃ A n c, v = .tuple #[.agg #[.int .i64 g.1, .int .i64 g.2.1, .slice A n c], .bool g.2.2.2] ∧ RdB w A n c g.2.2.1

theorem results_ct {P : Program} {fn : Func} {p u : Tmp} {t1 : TypeId} (h : fn.results = #[.cell p t1, .tmp u]) (tmps : Array Value) (w : World) (g1 : Nat) (y1 : TypeId) (cs1 : Array Value) (fr1 : Nat × Nat) (d1 : TypeDesc) (x : Value)
    (hp1 : tmps.getD p undef = .pointer (some ⟨g1, 0, none⟩)) (hx : tmps.getD u undef = x) (hg1 : w.heap[g1]? = some (.cells cs1 y1 fr1))
    (hu1 : P.underlying t1 = some d1) (hd1 : (match d1 with | .struct _ | .array _ _ => true | _ => false) = true) (hi1 : (P.info? t1).map (·.size) = some cs1.size) :
    (results fn tmps).run P w = .ok (.tuple #[.agg cs1, x]) w := by
  have h1 : tmps[p]?.getD undef = .pointer (some ⟨g1, 0, none⟩) := by simpa using hp1
  have h3 : tmps[u]?.getD undef = x := by simpa using hx
  simp [results, h, h1, h3, asAddr, Sem.run_bind, run_loadVar_row w g1 y1 t1 cs1 fr1 d1 hg1 hu1 hd1 hi1]

theorem nget_short (t : Int) (A : Option Addr) (n c : Nat) (w : World) (h : t ≠ 3 ∨ (t = 3 ∧ n < 2)) :
    Calls Tryd.prog 8 #[.agg #[.int .i64 t, .slice A n c]] w (Ret (IsNG (0, 0, [], false)) w) := by
  rcases h with h | ⟨rfl, h⟩
  · have h' : (t != 3) = true := by simpa using h
    go_enter Tryd.func8, Tryd.ntmps8
    go_wp2
    exact bodyPost_ret (results_ct rfl _ _ (w.heap.size + 1) _ _ _ _ _ rfl rfl (heap_alloc2_new w _ _) Tryd.underlying24 rfl noteSize) rfl ⟨_, rfl, ⟨_, _, _, rfl, RdB.nil _⟩, balloc (bnew w _) _⟩
  · have h' : (n : Int) < 2 := by omega
    go_enter Tryd.func8, Tryd.ntmps8
    go_wp2
    exact bodyPost_ret (results_ct rfl _ _ (w.heap.size + 1) _ _ _ _ _ rfl rfl (heap_alloc2_new w _ _) Tryd.underlying24 rfl noteSize) rfl ⟨_, rfl, ⟨_, _, _, rfl, RdB.nil _⟩, balloc (bnew w _) _⟩

theorem own3_drew {w w1 : World} {t : TypeId} {a b c : Value} (hb : Below (w.alloc (.cells #[a, b, c] t)).drew.heap.size (w.alloc (.cells #[a, b, c] t)).drew w1) :
    w1.heap[w.heap.size]? = some (.cells #[a, b, c] t (0, 0)) := (hb.block w.heap.size (by show w.heap.size < (w.alloc _).heap.size; simp)).trans (heap_alloc_new w _)

theorem nget_long (A : Option Addr) (n c : Nat) (l : List UInt8) (w : World) (h : RdB w A n c l) (hn : 2 ≤ n) (hm : n ≤ 100000000) :
    Calls Tryd.prog 8 #[.agg #[.int .i64 3, .slice A n c]] w (Ret (IsNG (noteG 3 l)) w) := by
  have hlen := h.len
  have hle := h.le
  have hcut := h.cut (k := 2) hn
  have h1 : ¬ (n : Int) < 2 := by omega
  obtain ⟨b, o, rfl, hcell⟩ := h.at_ (k := 0) (by omega)
  obtain ⟨x, hx⟩ : ∃ x, l[0] = x := ⟨_, rfl⟩
  obtain ⟨y, hy⟩ : ∃ y, l[1] = y := ⟨_, rfl⟩
  have c0 := hcell 0 (by omega)
  have c1 := hcell 1 (by omega)
  rw [hx] at c0
  rw [hy] at c1
  simp only [Nat.add_zero] at c0
  have hbl : b < w.heap.size := World.block_lt_of_cell? _ _ c0
  have hxl : x.toNat < 256 := x.toNat_lt
  have hyl : y.toNat < 256 := y.toNat_lt
  obtain ⟨S, hS⟩ : ∃ S, nsaneB (x.toNat : Int) (y.toNat : Int) (n - 2) = S := ⟨_, rfl⟩
  have hG : noteG 3 l = if S = true then ((x.toNat : Int), (y.toNat : Int), l.drop 2, true) else (0, 0, [], false) := by
    unfold noteG
    have e0 : l.getD 0 0 = x := by simp [List.getD, List.getElem?_eq_getElem (show 0 < l.length by omega), hx]
    have e1 : l.getD 1 0 = y := by simp [List.getD, List.getElem?_eq_getElem (show 1 < l.length by omega), hy]
    rw [e0, e1, hlen, hS]
    cases S
    · rw [if_neg (by simp)]; rfl
    · rw [if_pos ⟨rfl, hn, rfl⟩]; rfl
  have HS := Lib.hid hS
  have HGG := Lib.hid hG
  have HCUT := Lib.hid hcut
  have k1 : 1 < n := by omega
  clear hcell h hx hy hlen hS hG hcut
  have hcc : (c = 2 ∨ 2 < c) := by omega
  obtain ⟨HC⟩ : (Hid (c = 2) ∨ Hid (2 < c)) ∧ True := ⟨hcc.imp Lib.hid Lib.hid, trivial⟩
  clear hcc
  rcases HC with HE | HE
  all_goals
    go_enter Tryd.func8, Tryd.ntmps8
    go_wp2_with fail
    have hg1 := heap_alloc2_old w (.cells #[.int .i64 3, .slice (some ⟨b, o, none⟩) n c] 26) (.cells #[.int .i64 0, .int .i64 0, .slice none 0 0] 24)
    have hg2 := heap_alloc2_new w (.cells #[.int .i64 3, .slice (some ⟨b, o, none⟩) n c] 26) (.cells #[.int .i64 0, .int .i64 0, .slice none 0 0] 24)
    have hbw := balloc (bnew w (.cells #[.int .i64 3, .slice (some ⟨b, o, none⟩) n c] 26)) (.cells #[.int .i64 0, .int .i64 0, .slice none 0 0] 24)
    have hsz : ((w.alloc (.cells #[.int .i64 3, .slice (some ⟨b, o, none⟩) n c] 26)).alloc (.cells #[.int .i64 0, .int .i64 0, .slice none 0 0] 24)).heap.size = w.heap.size + 2 := by simp
    generalize ((w.alloc (.cells #[.int .i64 3, .slice (some ⟨b, o, none⟩) n c] 26)).alloc (.cells #[.int .i64 0, .int .i64 0, .slice none 0 0] 24)) = W at *
    obtain ⟨⟨p0, p1⟩, f0, f1⟩ := row2_cells hg1
    have d0 := (hbw.cell hbl).trans c0
    have d1 := (hbw.cell (p := ⟨b, o + 1, none⟩) hbl).trans c1
    have hbl2 : b < W.heap.size := by omega
    have hz1 : w.heap.size < W.heap.size := by omega
    have HG2 := Lib.hid hg2
    have HBW := Lib.hid hbw
    clear hg1 hg2 hbw c0 c1
    have e0 := (World.cell?_alloc_lt W (.cells #[.int .i64 0, .int .i64 0, .slice none 0 0] 24) ⟨b, o, none⟩ hbl2).trans d0
    have e1 := (World.cell?_alloc_lt W (.cells #[.int .i64 0, .int .i64 0, .slice none 0 0] 24) ⟨b, o + 1, none⟩ hbl2).trans d1
    have e2 := HE.out
    go_region
    clear e2
    go_wp2_with fail
    with_reducible refine (nsane_any (x.toNat : Int) (y.toNat : Int) _ (n - 2) _ _ (by omega)).mono ?_
    rw [HS.out]
    rintro e w1 ⟨rfl, hb1⟩
    have hg3 := own3_drew hb1
    rw [hsz] at hg3
    have hz3 := row_lt hg3
    have hg4 := (hb1.block (w.heap.size + 1) (by show _ < (W.alloc _).heap.size; simp; omega)).trans ((heap_alloc_old W _ (by omega)).trans HG2.out)
    have hz4 := row_lt hg4
    obtain ⟨⟨q0, q1, q2⟩, r0, r1, r2⟩ := own3_cells hg4
    obtain ⟨⟨s0, s1, s2⟩, t0, t1, t2⟩ := own3_cells hg3
    have HBB := Lib.hid (bstep ((balloc HBW.out _).drew) hb1)
    have HG3 := Lib.hid hg3
    have HG4 := Lib.hid hg4
    clear hb1 hg3 hg4
    cases S
    · go_wp2
      refine bodyPost_ret (results_ct rfl _ _ (w.heap.size + 1) _ _ _ _ _ rfl rfl (set3 HG4.out _ _ _) Tryd.underlying24 rfl noteSize) rfl ⟨_, rfl, ?_, below_set3 HBB.out (by omega) _ _ _⟩
      rw [HGG.out]
      exact ⟨_, _, _, rfl, RdB.nil _⟩
    · go_wp2
      refine bodyPost_ret (results_ct rfl _ _ (w.heap.size + 1) _ _ _ _ _ rfl rfl (set3 HG4.out _ _ _) Tryd.underlying24 rfl noteSize) rfl ⟨_, rfl, ?_, below_set3 HBB.out (by omega) _ _ _⟩
      rw [HGG.out]
      have hc2 := HCUT.out.below HBB.out
      refine ⟨_, _, _, rfl, ?_⟩
      refine ((RdB.setCell ?_ ?_ _).setCell ?_ _).setCell ?_ _
      · first
          | (rw [if_pos HE.out, HE.out] at hc2; exact hc2)
          | (rw [if_neg (by have := HE.out; omega)] at hc2; exact hc2)
      all_goals
        intro b' o' hA
        injection hA with hA
        injection hA with hA
        omega
end Go.Proofs.YtmkpkbigceinfaaDoor
