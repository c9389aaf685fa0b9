/- The walk of msg.Get. -/
import Derived.Test.YtpoikmbogcggkaaMsg3
import Derived.Deep.QuietTactic
import Derived.BigQuiet
import Derived.RegionTactic
import Derived.ChangeAlike
namespace Go.Proofs.Ytpoikmbogcggkaa
open Go.RowKit
set_option maxHeartbeats 400000
set_option linter.unusedVariables false
set_option linter.unusedSimpArgs false

theorem results_ctc {P : Program} {fn : Func} {p u q : Tmp} {t1 t2 : TypeId} (h : fn.results = #[.cell p t1, .tmp u, .cell q t2]) (tmps : Array Value) (w : World) (g1 g2 : Nat) (y1 y2 : TypeId) (cs1 cs2 : Array Value) (fr1 fr2 : Nat × Nat) (d1 d2 : TypeDesc) (x : Value)
    (hp1 : tmps.getD p undef = .pointer (some ⟨g1, 0, none⟩)) (hp2 : tmps.getD q undef = .pointer (some ⟨g2, 0, none⟩)) (hx : tmps.getD u undef = x)
    (hg1 : w.heap[g1]? = some (.cells cs1 y1 fr1)) (hg2 : w.heap[g2]? = some (.cells cs2 y2 fr2))
    (hu1 : P.underlying t1 = some d1) (hd1 : (match d1 with | .struct _ | .array _ _ => true | _ => false) = true) (hi1 : (P.info? t1).map (·.size) = some cs1.size)
    (hu2 : P.underlying t2 = some d2) (hd2 : (match d2 with | .struct _ | .array _ _ => true | _ => false) = true) (hi2 : (P.info? t2).map (·.size) = some cs2.size) :
    (results fn tmps).run P w = .ok (.tuple #[.agg cs1, x, .agg cs2]) w := by
  have h1 : tmps[p]?.getD undef = .pointer (some ⟨g1, 0, none⟩) := by simpa using hp1
  have h2 : tmps[q]?.getD undef = .pointer (some ⟨g2, 0, none⟩) := by simpa using hp2
  have h3 : tmps[u]?.getD undef = x := by simpa using hx
  simp [results, h, h1, h2, h3, asAddr, Sem.run_bind, run_loadVar_row w g1 y1 t1 cs1 fr1 d1 hg1 hu1 hd1 hi1, run_loadVar_row w g2 y2 t2 cs2 fr2 d2 hg2 hu2 hd2 hi2]

theorem row_frozen {w : World} {g : Nat} {cs : Array Value} {t : TypeId} (h : w.heap[g]? = some (.cells cs t (0, 0))) (j : Nat) : w.frozen? ⟨g, j, none⟩ = false := by
  simp [World.frozen?, h]
theorem set5 {w : World} {g : Nat} {t u : TypeId} {a b c d e : Value} (h : w.heap[g]? = some (.cells #[a, b] t (0, 0))) (k : w.heap[g + 1]? = some (.cells #[c, d, e] u (0, 0))) (x y p q r : Value) (O : Obj) :
    ((((((w.setCell ⟨g, 0, none⟩ x).setCell ⟨g, 1, none⟩ y).setCell ⟨g + 1, 0, none⟩ p).setCell ⟨g + 1, 1, none⟩ q).setCell ⟨g + 1, 2, none⟩ r).alloc O).drew.heap[g]? = some (.cells #[x, y] t (0, 0)) ∧
    ((((((w.setCell ⟨g, 0, none⟩ x).setCell ⟨g, 1, none⟩ y).setCell ⟨g + 1, 0, none⟩ p).setCell ⟨g + 1, 1, none⟩ q).setCell ⟨g + 1, 2, none⟩ r).alloc O).drew.heap[g + 1]? = some (.cells #[p, q, r] u (0, 0)) := by
  have h1 : g < w.heap.size := (Array.getElem?_eq_some_iff.1 h).1
  have h2 : g + 1 < w.heap.size := (Array.getElem?_eq_some_iff.1 k).1
  constructor
  · rw [heap_drew, Below.heap_alloc _ _ _ (by simpa using h1)]
    simp [World.setCell, Array.getElem?_modify, h]
  · rw [heap_drew, Below.heap_alloc _ _ _ (by simpa using h2)]
    simp [World.setCell, Array.getElem?_modify, k]
theorem get_keep {w : World} {g n c : Nat} {A : Option Addr} {l : List UInt8} (h : RdB w A n c l) (hA : ∀ b o, A = some ⟨b, o, none⟩ → b ≠ g ∧ b ≠ g + 1) (x y p q r : Value) (O : Obj) :
    RdB ((((((w.setCell ⟨g, 0, none⟩ x).setCell ⟨g, 1, none⟩ y).setCell ⟨g + 1, 0, none⟩ p).setCell ⟨g + 1, 1, none⟩ q).setCell ⟨g + 1, 2, none⟩ r).alloc O).drew A n c l := by
  refine ⟨h.len, h.le, h.max, ?_⟩
  rcases h.lies with hl | ⟨b', o, hb, hc⟩
  · exact .inl hl
  · obtain ⟨n1, n2⟩ := hA b' o hb
    refine .inr ⟨b', o, hb, fun j hj => ?_⟩
    have hj' := hc j hj
    have hlt := World.block_lt_of_cell? _ _ hj'
    rw [World.cell?_drew, World.cell?_alloc_lt _ _ _ (by simpa using hlt), World.cell?_setCell_other _ _ _ _ (fun e => n2 (by injection e with e; exact e.symm)), World.cell?_setCell_other _ _ _ _ (fun e => n2 (by injection e with e; exact e.symm)), World.cell?_setCell_other _ _ _ _ (fun e => n2 (by injection e with e; exact e.symm)), World.cell?_setCell_other _ _ _ _ (fun e => n1 (by injection e with e; exact e.symm)), World.cell?_setCell_other _ _ _ _ (fun e => n1 (by injection e with e; exact e.symm))]
    exact hj'
theorem below_set5 {w w1 : World} (h : Below w.heap.size w w1) (x y p q r : Value) (O : Obj) :
    Below w.heap.size w ((((((w1.setCell ⟨w.heap.size, 0, none⟩ x).setCell ⟨w.heap.size, 1, none⟩ y).setCell ⟨w.heap.size + 1, 0, none⟩ p).setCell ⟨w.heap.size + 1, 1, none⟩ q).setCell ⟨w.heap.size + 1, 2, none⟩ r).alloc O).drew :=
  (balloc (((((h.setCell (p := ⟨w.heap.size, 0, none⟩) (Nat.le_refl _) x).setCell (p := ⟨w.heap.size, 1, none⟩) (Nat.le_refl _) y).setCell (p := ⟨w.heap.size + 1, 0, none⟩) (Nat.le_succ _) p).setCell (p := ⟨w.heap.size + 1, 1, none⟩) (Nat.le_succ _) q).setCell (p := ⟨w.heap.size + 1, 2, none⟩) (Nat.le_succ _) r) O).drew
theorem set5' {w : World} {g : Nat} {t u : TypeId} {a b c d e : Value} (h : w.heap[g]? = some (.cells #[a, b] t (0, 0))) (k : w.heap[g + 1]? = some (.cells #[c, d, e] u (0, 0))) (x y p q r : Value) (O : Obj) :
    (((((w.setCell ⟨g, 0, none⟩ x).setCell ⟨g, 1, none⟩ y).setCell ⟨g + 1, 0, none⟩ p).setCell ⟨g + 1, 1, none⟩ q).setCell ⟨g + 1, 2, none⟩ r |>.alloc O).heap[g]? = some (.cells #[x, y] t (0, 0)) ∧
    (((((w.setCell ⟨g, 0, none⟩ x).setCell ⟨g, 1, none⟩ y).setCell ⟨g + 1, 0, none⟩ p).setCell ⟨g + 1, 1, none⟩ q).setCell ⟨g + 1, 2, none⟩ r |>.alloc O).heap[g + 1]? = some (.cells #[p, q, r] u (0, 0)) := by
  have := set5 h k x y p q r O
  rwa [heap_drew] at this
theorem get_keep' {w : World} {g n c : Nat} {A : Option Addr} {l : List UInt8} (h : RdB w A n c l) (hA : ∀ b o, A = some ⟨b, o, none⟩ → b ≠ g ∧ b ≠ g + 1) (x y p q r : Value) (O : Obj) :
    RdB (((((w.setCell ⟨g, 0, none⟩ x).setCell ⟨g, 1, none⟩ y).setCell ⟨g + 1, 0, none⟩ p).setCell ⟨g + 1, 1, none⟩ q).setCell ⟨g + 1, 2, none⟩ r |>.alloc O) A n c l := by
  have := get_keep h hA x y p q r O
  refine ⟨this.len, this.le, this.max, this.lies.imp id fun ⟨b, o, hb, hc⟩ => ⟨b, o, hb, fun j hj => ?_⟩⟩
  have := hc j hj
  rwa [World.cell?_drew] at this
theorem below_set5' {w w1 : World} (h : Below w.heap.size w w1) (x y p q r : Value) (O : Obj) :
    Below w.heap.size w (((((w1.setCell ⟨w.heap.size, 0, none⟩ x).setCell ⟨w.heap.size, 1, none⟩ y).setCell ⟨w.heap.size + 1, 0, none⟩ p).setCell ⟨w.heap.size + 1, 1, none⟩ q).setCell ⟨w.heap.size + 1, 2, none⟩ r |>.alloc O) := by
  have k := below_set5 h x y p q r O
  exact ⟨k.os, k.tape, k.output, k.size, k.block⟩
theorem size2 (w : World) (o1 o2 : Obj) (k : Nat) : (((w.alloc o1).alloc o2).drewN k).heap.size = w.heap.size + 2 := by
  show ((w.heap.push o1).push o2).size = _
  simp
theorem msgSize : (Try.prog.info? 35).map (·.size) = some 2 := by kernel_rfl
theorem get_short (A : Option Addr) (n c : Nat) (w : World) (hn : n < 19) :
    Calls Try.prog 16 #[.slice A n c] w fun e w' => e = .returned (.tuple #[.agg #[.int .i64 0, .slice none 0 0], .int .i64 0, .agg #[.int .i64 0, .int .i64 0, .slice none 0 0]]) ∧ Below w.heap.size w w' := by
  have h1 : (n : Int) < 19 := by omega
  go_enter Try.func16, Try.ntmps16
  go_wp2
  exact bodyPost_ret (results_ctc rfl _ _ w.heap.size (w.heap.size + 1) _ _ _ _ _ _ _ _ _ rfl rfl rfl (heap_alloc2_old w _ _) (heap_alloc2_new w _ _) Try.underlying35 rfl msgSize Try.underlying37 rfl noteSize) rfl ⟨rfl, balloc (bnew w _) _⟩

def szN (l : List UInt8) : Nat := (l.getD 16 0).toNat * 256 + (l.getD 17 0).toNat
def kdN (l : List UInt8) : Nat := (l.getD 18 0).toNat

theorem get_bad (A : Option Addr) (n c : Nat) (l : List UInt8) (w : World) (h : RdB w A n c l) (hn : 19 ≤ n) (F : Int × Int × List UInt8) (hF : faultN (decide (l.take 16 = List.replicate 16 255)) (szN l) (kdN l) = F)
    (hc : 0 < F.1 ∨ (F.1 = 0 ∧ n < szN l)) :
    Calls Try.prog 16 #[.slice A n c] w fun e w' => ∃ A2 n2 c2, e = .returned (.tuple #[.agg #[.int .i64 0, .slice none 0 0], .int .i64 0, .agg #[.int .i64 F.1, .int .i64 F.2.1, .slice A2 n2 c2]]) ∧ RdB w' A2 n2 c2 F.2.2 ∧ Below w.heap.size w w' := by
  have h1 : ¬ (n : Int) < 19 := by omega
  have hlen := h.len
  obtain ⟨b, o, rfl, hcell⟩ := h.at_ (k := 16) (by omega)
  obtain ⟨x, hx⟩ : ∃ x, l[16] = x := ⟨_, rfl⟩
  obtain ⟨y, hy⟩ : ∃ y, l[17] = y := ⟨_, rfl⟩
  obtain ⟨z, hz⟩ : ∃ z, l[18] = z := ⟨_, rfl⟩
  have c16 := hcell 16 (by omega)
  have c17 := hcell 17 (by omega)
  have c18 := hcell 18 (by omega)
  rw [hx] at c16
  rw [hy] at c17
  rw [hz] at c18
  have hs : szN l = x.toNat * 256 + y.toNat := by simp [szN, List.getD, List.getElem?_eq_getElem (show 16 < l.length by omega), List.getElem?_eq_getElem (show 17 < l.length by omega), hx, hy]
  have hk : kdN l = z.toNat := by simp [kdN, List.getD, List.getElem?_eq_getElem (show 18 < l.length by omega), hz]
  rw [hs, hk] at hF
  rw [hs] at hc
  have hxl : x.toNat < 256 := x.toNat_lt
  have hyl : y.toNat < 256 := y.toNat_lt
  have hzl : z.toNat < 256 := z.toNat_lt
  have hbl : b < w.heap.size := World.block_lt_of_cell? _ _ c16
  have hor := or_byte x.toNat y.toNat hyl (by omega)
  have g16 : (16 : Int) < n := by omega
  have g17 : (17 : Int) < n := by omega
  have g18 : (18 : Int) < n := by omega
  obtain ⟨F1, F2, F3⟩ := F
  simp only at hc ⊢
  have hF2 : faultN (decide (l.take 16 = List.replicate 16 255)) ((x.toNat : Int) * 256 + (y.toNat : Int)) (z.toNat : Int) = (F1, F2, F3) := by rw [← hF]; simp
  have HF := Lib.hid hF2
  have HB := Lib.hid h
  clear hF2
  have HC := Lib.hid hcell
  clear hF hs hk hx hy hz h hcell
  have hc' : 0 < F1 ∨ (F1 = 0 ∧ (n : Int) < (x.toNat : Int) * 256 + (y.toNat : Int)) := hc.imp id fun ⟨h1, h2⟩ => ⟨h1, by omega⟩
  clear hc
  rcases hc' with hc | ⟨rfl, hc2⟩
  all_goals
    go_enter Try.func16, Try.ntmps16
    go_wp2_with fail
    go_quiet (fail)
    go_wp2_with fail
    with_reducible refine (fault_any _ _ _ _ _ _ _ ((HB.out.below (balloc (bnew w _) _)).below (below_drewN _)) (by omega)).mono ?_
    rw [HF.out]
    rintro e w1 ⟨_, rfl, ⟨A2, n2, c2, rfl, hr2, hfr⟩, hb1⟩
    have hg1 := (hb1.block w.heap.size (by simp; omega)).trans (heap_alloc2_old w _ _)
    have hg2 := (hb1.block (w.heap.size + 1) (by simp)).trans (heap_alloc2_new w _ _)
    have HG1 := Lib.hid hg1
    have HG2 := Lib.hid hg2
    have hz : w.heap.size + 1 < w1.heap.size := (Array.getElem?_eq_some_iff.1 hg2).1
    have hz' : w.heap.size < w1.heap.size := by omega
    have q0 := cell_of_row _ _ 0 _ _ _ hg1
    have q1 := cell_of_row _ _ 1 _ _ _ hg1
    have q2 := cell_of_row _ _ 0 _ _ _ hg2
    have q3 := cell_of_row _ _ 1 _ _ _ hg2
    have q4 := cell_of_row _ _ 2 _ _ _ hg2
    simp at q0 q1 q2 q3 q4
    have r0 := row_frozen hg1 0
    have r1 := row_frozen hg1 1
    have r2 := row_frozen hg2 0
    have r3 := row_frozen hg2 1
    have r4 := row_frozen hg2 2
    clear hg1 hg2
    go_wp2_with fail
    go_region
    go_wp2
    refine bodyPost_ret (results_ctc rfl _ _ w.heap.size (w.heap.size + 1) _ _ _ _ _ _ _ _ _ rfl rfl rfl (set5 HG1.out HG2.out _ _ _ _ _ _).1 (set5 HG1.out HG2.out _ _ _ _ _ _).2 Try.underlying35 rfl msgSize Try.underlying37 rfl noteSize) rfl ⟨_, _, _, rfl, ?_, ?_⟩
    · exact get_keep hr2 (fun b' o' hA => ⟨by have := hfr b' o' hA; rw [size2] at this; omega, by have := hfr b' o' hA; rw [size2] at this; omega⟩) _ _ _ _ _ _
    · exact below_set5 (bstep (bstep (balloc (bnew w _) _) (below_drewN _)) hb1) _ _ _ _ _ _
theorem get_ok (A : Option Addr) (n c : Nat) (l : List UInt8) (w : World) (h : RdB w A n c l) (hn : 19 ≤ n) (F : Int × Int × List UInt8) (hF : faultN (decide (l.take 16 = List.replicate 16 255)) (szN l) (kdN l) = F)
    (hc : F.1 = 0) (hs1 : 19 ≤ szN l) (hs2 : szN l ≤ n) :
    Calls Try.prog 16 #[.slice A n c] w fun e w' => ∃ A2 n2 c2, e = .returned (.tuple #[.agg #[.int .i64 (kdN l), .slice A2 n2 c2], .int .i64 (szN l), .agg #[.int .i64 0, .int .i64 0, .slice none 0 0]]) ∧ RdB w' A2 n2 c2 ((l.take (szN l)).drop 19) ∧ Below w.heap.size w w' := by
  have h1 : ¬ (n : Int) < 19 := by omega
  have hlen := h.len
  obtain ⟨b, o, rfl, hcell⟩ := h.at_ (k := 16) (by omega)
  obtain ⟨x, hx⟩ : ∃ x, l[16] = x := ⟨_, rfl⟩
  obtain ⟨y, hy⟩ : ∃ y, l[17] = y := ⟨_, rfl⟩
  obtain ⟨z, hz⟩ : ∃ z, l[18] = z := ⟨_, rfl⟩
  have c16 := hcell 16 (by omega)
  have c17 := hcell 17 (by omega)
  have c18 := hcell 18 (by omega)
  rw [hx] at c16
  rw [hy] at c17
  rw [hz] at c18
  have hs : szN l = x.toNat * 256 + y.toNat := by simp [szN, List.getD, List.getElem?_eq_getElem (show 16 < l.length by omega), List.getElem?_eq_getElem (show 17 < l.length by omega), hx, hy]
  have hk : kdN l = z.toNat := by simp [kdN, List.getD, List.getElem?_eq_getElem (show 18 < l.length by omega), hz]
  rw [hs, hk] at hF
  have hbody := ((h.take hs2 (Nat.le_refl _) (Nat.le_trans hs2 h.le)).cut hs1)
  rw [hs] at hs1 hs2 hbody
  rw [hs, hk]
  have hxl : x.toNat < 256 := x.toNat_lt
  have hyl : y.toNat < 256 := y.toNat_lt
  have hzl : z.toNat < 256 := z.toNat_lt
  have hbl : b < w.heap.size := World.block_lt_of_cell? _ _ c16
  have hor := or_byte x.toNat y.toNat hyl (by omega)
  have g16 : (16 : Int) < n := by omega
  have g17 : (17 : Int) < n := by omega
  have g18 : (18 : Int) < n := by omega
  obtain ⟨F1, F2, F3⟩ := F
  simp only at hc ⊢
  have hF2 : faultN (decide (l.take 16 = List.replicate 16 255)) ((x.toNat : Int) * 256 + (y.toNat : Int)) (z.toNat : Int) = (F1, F2, F3) := by rw [← hF]; simp
  have hF3 : F1 = 0 → ∀ s : Int, s = (x.toNat : Int) * 256 + (y.toNat : Int) → faultN (decide (l.take 16 = List.replicate 16 255)) s (z.toNat : Int) = (0, F2, F3) := by
    rintro rfl s rfl
    exact hF2
  have HB := Lib.hid h
  clear hF2
  have HC := Lib.hid hcell
  clear hF hs hk hx hy hz h hcell
  have HF := Lib.hid (hF3 hc)
  clear hF3
  subst hc
  have hcap : (n : Int) ≤ c := by have := HB.out.le; omega
  have hs2' : (x.toNat : Int) * 256 + (y.toNat : Int) ≤ n := by omega
  have hs3' : (x.toNat : Int) * 256 + (y.toNat : Int) ≤ c := by omega
  have HBD := Lib.hid hbody
  clear hbody
  rcases (show (x.toNat : Int) * 256 + (y.toNat : Int) = 19 ∨ 19 < (x.toNat : Int) * 256 + (y.toNat : Int) by omega) with e19 | e19
  all_goals
    go_enter Try.func16, Try.ntmps16
    go_wp2_with fail
    go_quiet (fail)
    go_wp2_with fail
    with_reducible refine (fault_any _ _ _ _ _ _ _ ((HB.out.below (balloc (bnew w _) _)).below (below_drewN _)) (by omega)).mono ?_
    rw [HF.out]
    rotate_left
    · omega
    rintro e w1 ⟨_, rfl, ⟨A2, n2, c2, rfl, hr2, hfr⟩, hb1⟩
    have hg1 := (hb1.block w.heap.size (by simp; omega)).trans (heap_alloc2_old w _ _)
    have hg2 := (hb1.block (w.heap.size + 1) (by simp)).trans (heap_alloc2_new w _ _)
    have HG1 := Lib.hid hg1
    have HG2 := Lib.hid hg2
    have hz : w.heap.size + 1 < w1.heap.size := (Array.getElem?_eq_some_iff.1 hg2).1
    have hz' : w.heap.size < w1.heap.size := by omega
    have q0 := cell_of_row _ _ 0 _ _ _ hg1
    have q1 := cell_of_row _ _ 1 _ _ _ hg1
    have q2 := cell_of_row _ _ 0 _ _ _ hg2
    have q3 := cell_of_row _ _ 1 _ _ _ hg2
    have q4 := cell_of_row _ _ 2 _ _ _ hg2
    simp at q0 q1 q2 q3 q4
    have r0 := row_frozen hg1 0
    have r1 := row_frozen hg1 1
    have r2 := row_frozen hg2 0
    have r3 := row_frozen hg2 1
    have r4 := row_frozen hg2 2
    clear hg1 hg2
    go_wp2
    refine bodyPost_ret (results_ctc rfl _ _ w.heap.size (w.heap.size + 1) _ _ _ _ _ _ _ _ _ rfl rfl rfl (set5' HG1.out HG2.out _ _ _ _ _ _).1 (set5' HG1.out HG2.out _ _ _ _ _ _).2 Try.underlying35 rfl msgSize Try.underlying37 rfl noteSize) rfl ?_
  · refine ⟨some ⟨b, o, none⟩, 0, 0, by rw [show ((x.toNat * 256 + y.toNat : Nat) : Int) = 19 by omega]; rfl, ?_, below_set5' (bstep (bstep (balloc (bnew w _) _) (below_drewN _)) hb1) _ _ _ _ _ _⟩
    have hq := HBD.out
    rw [if_pos (by omega), show x.toNat * 256 + y.toNat - 19 = 0 by omega] at hq
    exact get_keep' (hq.below (bstep (bstep (balloc (bnew w _) _) (below_drewN _)) hb1)) (fun b' o' hA => by injection hA with hA; injection hA with hA; omega) _ _ _ _ _ _
  · refine ⟨some ⟨b, o + 19, none⟩, x.toNat * 256 + y.toNat - 19, x.toNat * 256 + y.toNat - 19, by rw [show ((x.toNat * 256 + y.toNat : Nat) : Int) = (x.toNat : Int) * 256 + (y.toNat : Int) by omega]; rfl, ?_, below_set5' (bstep (bstep (balloc (bnew w _) _) (below_drewN _)) hb1) _ _ _ _ _ _⟩
    have hq := HBD.out
    rw [if_neg (by omega)] at hq
    replace hq : RdB w (some ⟨b, o + 19, none⟩) _ _ _ := hq
    exact get_keep' (hq.below (bstep (bstep (balloc (bnew w _) _) (below_drewN _)) hb1)) (fun b' o' hA => by injection hA with hA; injection hA with hA; omega) _ _ _ _ _ _
/-- What msg.Get answers: kind, body, size; code, sub-code, octets. -/
structure GotM where
  kind : Int
  body : List UInt8
  size : Int
  code : Int
  sub : Int
  data : List UInt8
def getM (l : List UInt8) : GotM :=
  if l.length < 19 then ⟨0, [], 0, 0, 0, []⟩ else
    if 0 < (faultN (decide (l.take 16 = List.replicate 16 255)) (szN l) (kdN l)).1 ∨ l.length < szN l then ⟨0, [], 0, (faultN (decide (l.take 16 = List.replicate 16 255)) (szN l) (kdN l)).1, (faultN (decide (l.take 16 = List.replicate 16 255)) (szN l) (kdN l)).2.1, (faultN (decide (l.take 16 = List.replicate 16 255)) (szN l) (kdN l)).2.2⟩
    else ⟨kdN l, (l.take (szN l)).drop 19, szN l, 0, 0, []⟩
/-- A message, its size and a note. -/
def IsGot (g : GotM) : Value → World → Prop := fun v w => ∃ A n c A2 n2 c2, v = .tuple #[.agg #[.int .i64 g.kind, .slice A n c], .int .i64 g.size, .agg #[.int .i64 g.code, .int .i64 g.sub, .slice A2 n2 c2]] ∧ RdB w A n c g.body ∧ RdB w A2 n2 c2 g.data
theorem faultN_code (P : Bool) (s k : Int) : (faultN P s k).1 = 0 ∨ 0 < (faultN P s k).1 := by
  unfold faultN
  repeat' split
  all_goals simp
theorem faultN_none (P : Bool) (s k : Int) (h : (faultN P s k).1 = 0) : 19 ≤ s ∧ (faultN P s k).2 = (0, []) := by
  unfold faultN at h ⊢
  repeat' split
  all_goals simp_all
theorem get_any (A : Option Addr) (n c : Nat) (l : List UInt8) (w : World) (h : RdB w A n c l) : Calls Try.prog 16 #[.slice A n c] w (Ret (IsGot (getM l)) w) := by
  have hl := h.len
  by_cases h1 : n < 19
  · refine (get_short A n c w h1).mono ?_
    rintro e w' ⟨rfl, hb⟩
    refine ⟨_, rfl, ?_, hb⟩
    unfold getM
    rw [if_pos (by omega)]
    exact ⟨_, _, _, _, _, _, rfl, RdB.nil _, RdB.nil _⟩
  · rcases faultN_code (decide (l.take 16 = List.replicate 16 255)) (szN l) (kdN l) with h2 | h2
    · by_cases h3 : n < szN l
      · refine (get_bad A n c l w h (by omega) _ rfl (.inr ⟨h2, h3⟩)).mono ?_
        rintro e w' ⟨A2, n2, c2, rfl, hr, hb⟩
        refine ⟨_, rfl, ?_, hb⟩
        unfold getM
        rw [if_neg (by omega), if_pos (.inr (by omega))]
        exact ⟨_, _, _, _, _, _, rfl, RdB.nil _, hr⟩
      · have h4 := (faultN_none _ _ _ h2).1
        refine (get_ok A n c l w h (by omega) _ rfl h2 (by omega) (by omega)).mono ?_
        rintro e w' ⟨A2, n2, c2, rfl, hr, hb⟩
        refine ⟨_, rfl, ?_, hb⟩
        unfold getM
        rw [if_neg (by omega), if_neg (by omega)]
        exact ⟨_, _, _, _, _, _, rfl, hr, RdB.nil _⟩
    · refine (get_bad A n c l w h (by omega) _ rfl (.inl h2)).mono ?_
      rintro e w' ⟨A2, n2, c2, rfl, hr, hb⟩
      refine ⟨_, rfl, ?_, hb⟩
      unfold getM
      rw [if_neg (by omega), if_pos (.inl h2)]
      exact ⟨_, _, _, _, _, _, rfl, RdB.nil _, hr⟩
end Go.Proofs.Ytpoikmbogcggkaa
