/- The walk of note.Put. -/
import Derived.Test.YtmkpkbigceinfaaDoorNote0
namespace Go.Proofs.YtmkpkbigceinfaaDoor
open Go.RowKit
set_option maxHeartbeats 400000
set_option linter.unusedVariables false
set_option linter.unusedSimpArgs false

theorem RdB.setCell {w : World} {A : Option Addr} {n c : Nat} {l : List UInt8} (h : RdB w A n c l) {g o : Nat} (hA : ∀ b' o', A = some ⟨b', o', none⟩ → b' ≠ g) (x : Value) : RdB (w.setCell ⟨g, o, none⟩ x) A n c l := by
  refine ⟨h.len, h.le, h.max, h.lies.imp id fun ⟨b', o', hb, hc⟩ => ⟨b', o', hb, fun j hj => ?_⟩⟩
  rw [World.cell?_setCell_other _ _ _ _ (fun e => hA b' o' hb (by injection e with e; exact e.symm))]
  exact hc j hj
theorem set2 {w : World} {g : Nat} {t : TypeId} {a b : Value} (h : w.heap[g]? = some (.cells #[a, b] t (0, 0))) (x y : Value) :
    ((w.setCell ⟨g, 0, none⟩ x).setCell ⟨g, 1, none⟩ y).heap[g]? = some (.cells #[x, y] t (0, 0)) := by
  simp [World.setCell, Array.getElem?_modify, h]
theorem below_set2 {B g : Nat} {w w1 : World} (h : Below B w w1) (hg : B ≤ g) (x y : Value) : Below B w ((w1.setCell ⟨g, 0, none⟩ x).setCell ⟨g, 1, none⟩ y) :=
  (h.setCell (p := ⟨g, 0, none⟩) hg x).setCell (p := ⟨g, 1, none⟩) hg y
theorem row2_cells {w1 : World} {g : Nat} {t : TypeId} {a b : Value} (h : w1.heap[g]? = some (.cells #[a, b] t (0, 0))) :
    (w1.cell? ⟨g, 0, none⟩ = some a ∧ w1.cell? ⟨g, 1, none⟩ = some b) ∧ (w1.frozen? ⟨g, 0, none⟩ = false ∧ w1.frozen? ⟨g, 1, none⟩ = false) := by
  refine ⟨⟨?_, ?_⟩, ?_, ?_⟩ <;> simp [World.cell?, World.frozen?, h]
/-- Two new cells, in a block of their own. -/
theorem lies_new2 (w : World) (u v : Value) (e : TypeId) : Lies (w.alloc (.cells #[u, v] e)) (some ⟨w.heap.size, 0, none⟩) [u, v] := by
  refine .inr ⟨_, _, rfl, fun j hj => ?_⟩
  rw [cell_of_row _ _ _ _ _ _ (heap_alloc_new w _)]
  match j, hj with
  | 0, _ => rfl
  | 1, _ => rfl
theorem rdB_of_gr {w : World} {base n c : Nat} {A : Option Addr} {l : List UInt8} (h : Gr base 5 1 w (.slice A n c) n (l.map bv)) : RdB w A n c l := by
  rcases h with h | ⟨h1, h2, A', hv, h3⟩
  · exact rdB_of_own h
  · injection hv with e1 e2 e3
    subst e1 e3
    exact ⟨by simpa using h1, Nat.le_refl _, h2, h3⟩
theorem bv_one {v : Int} (h0 : 0 ≤ v) (h1 : v ≤ 255) : bv (octAt v 0) = .int .u8 v := by
  rw [bv_octAt]
  congr 1
  simp
  omega
theorem nsane_bd {c s : Int} {n : Nat} (h : nsaneB c s n = true) : 1 ≤ c ∧ c ≤ 255 ∧ 0 ≤ s ∧ s ≤ 255 ∧ n ≤ 4075 := of_decide_eq_true h

theorem nput_no (c s : Int) (A : Option Addr) (n k : Nat) (w : World) (hm : n ≤ 140737488355328) (hs : nsaneB c s n = false) :
    Calls Tryd.prog 14 #[.agg #[.int .i64 c, .int .i64 s, .slice A n k]] w fun e w' => e = .returned (.agg #[.int .i64 0, .slice none 0 0]) ∧ Below w.heap.size w w' := by
  have HS := Lib.hid hs
  clear hs
  go_enter Tryd.func14, Tryd.ntmps14
  go_wp2_with fail
  with_reducible refine (nsane_any _ _ _ _ _ _ hm).mono ?_
  rw [HS.out]
  rintro e w1 ⟨rfl, hb1⟩
  have hg2 := (hb1.block (w.heap.size + 1) (by simp)).trans (heap_alloc2_new w _ _)
  have hz : w.heap.size + 1 < w1.heap.size := (Array.getElem?_eq_some_iff.1 hg2).1
  obtain ⟨⟨q0, q1⟩, r0, r1⟩ := row2_cells hg2
  have HG := Lib.hid hg2
  clear hg2
  go_wp2
  exact bodyPost_ret (results_cell_row rfl _ _ (w.heap.size + 1) _ _ _ _ rfl (set2 HG.out _ _) Tryd.underlying26 rfl msgSize) rfl ⟨rfl, below_set2 (bstep (balloc (bnew w _) _) hb1) (by omega) _ _⟩

theorem nput_yes (c s : Int) (A : Option Addr) (n k : Nat) (l : List UInt8) (w : World) (h : RdB w A n k l) (hs : nsaneB c s n = true) :
    Calls Tryd.prog 14 #[.agg #[.int .i64 c, .int .i64 s, .slice A n k]] w (Ret (IsMsg 3 (octAt c 0 :: octAt s 0 :: l)) w) := by
  obtain ⟨c1, c2, s1, s2, hn⟩ := nsane_bd hs
  have HS := Lib.hid hs
  have HL := Lib.hid h
  have hm : n ≤ 140737488355328 := by omega
  obtain ⟨i0, hi, hz0, hz1, hz2⟩ := info_row infoB
  have HI := Lib.hid hi
  have H0 := Lib.hid hz0
  have H1 := Lib.hid hz1
  have H2 := Lib.hid hz2
  clear hi hz0 hz1 hz2 hs h
  go_enter Tryd.func14, Tryd.ntmps14
  go_wp2_with fail
  with_reducible refine (nsane_any _ _ _ _ _ _ hm).mono ?_
  rw [HS.out]
  rintro e w1 ⟨rfl, hb1⟩
  have hg1 := (hb1.block w.heap.size (by simp; omega)).trans (heap_alloc2_old w _ _)
  have hg2 := (hb1.block (w.heap.size + 1) (by simp)).trans (heap_alloc2_new w _ _)
  have hz : w.heap.size + 1 < w1.heap.size := (Array.getElem?_eq_some_iff.1 hg2).1
  have hz' : w.heap.size < w1.heap.size := by omega
  obtain ⟨⟨p0, p1, p2⟩, o0, o1, o2⟩ := own3_cells hg1
  have HB1 := Lib.hid (bstep (balloc (bnew w _) _) hb1)
  have HG := Lib.hid hg2
  clear hg1 hg2 hb1
  go_wp2_with (at_builtin; (refine wpList_append_gr _ rfl _ _ 22 rfl w1.heap.size 5 i0 (.int .u8 0) 1 1 Tryd.underlying22 HI.out H0.out H1.out H2.out rfl (by decide) _ 2 [.int .u8 c, .int .u8 s] rfl (.inr ⟨rfl, by unfold maxLen; omega, _, rfl, lies_new2 w1 _ _ _⟩) A n k (l.map bv) rfl (by simp [HL.out.len]) (HL.out.below (balloc HB1.out _)).lies ?_ (oneCell_bv l) (by unfold maxLen; omega) (by omega) (by simp); intro A' c' w' hG; have hg3 := (hG.below.block (w.heap.size + 1) hz).trans ((heap_alloc_old w1 _ hz).trans HG.out); obtain ⟨⟨q0, q1⟩, r0, r1⟩ := row2_cells hg3; have hz3 : w.heap.size + 1 < w'.heap.size := (Array.getElem?_eq_some_iff.1 hg3).1; have HG3 := Lib.hid hg3; have HGG := Lib.hid hG; clear hg3 hG))
  have e1 : ([.int .u8 c, .int .u8 s] ++ l.map bv) = (octAt c 0 :: octAt s 0 :: l).map bv := by
    simp [bv_one (show 0 ≤ c by omega) c2, bv_one s1 s2]
  have hgr := HGG.out.gr
  rw [e1] at hgr
  have hr := rdB_of_gr hgr
  have hf : ∀ b' o', A' = some ⟨b', o', none⟩ → b' ≠ w.heap.size + 1 := by
    rintro b' o' rfl
    rcases HGG.out.where_ with h1 | h1
    · have h2 : b' = w1.heap.size := Option.some.inj h1
      omega
    · have h2 : b' = (w1.alloc _).heap.size := Option.some.inj h1
      simp at h2
      omega
  exact bodyPost_ret (results_cell_row rfl _ _ (w.heap.size + 1) _ _ _ _ rfl (set2 HG3.out _ _) Tryd.underlying26 rfl msgSize) rfl
    ⟨_, rfl, ⟨_, _, _, rfl, (hr.setCell hf _).setCell hf _⟩, below_set2 ((balloc HB1.out _).trans (HGG.out.below.mono (by omega))) (by omega) _ _⟩
end Go.Proofs.YtmkpkbigceinfaaDoor
