/- The walks of the reference of layer 10: what may be. -/
import Derived.Test.YtmlhbmlppgoklabPolR2
import Derived.Test.YtmlhbmlppgoklabPol8
namespace Go.Proofs.Ytmlhbmlppgoklab
open Go.RowKit
set_option maxHeartbeats 4000000
set_option linter.unusedVariables false
set_option linter.unusedSimpArgs false

section
variable (r1 r2 r3 r4 r5 r6 : Int) (i : Bool) (w : World)
theorem rmatch_at1 : Calls Try.prog 22 #[.agg #[.int .i64 1, .int .i64 r2, .int .i64 r3, .int .i64 r4, .int .i64 r5, .int .i64 r6]] w (Ret (Just (.bool (matchB (1, r2, r3, r4, r5, r6) false))) w) := by
  obtain ⟨V, hV⟩ : ∃ V, matchB (1, r2, r3, r4, r5, r6) false = V := ⟨_, rfl⟩
  obtain ⟨Q, hQ⟩ : ∃ Q, pfxB r2 r3 = Q := ⟨_, rfl⟩
  obtain ⟨z, hz⟩ : ∃ z, (r4 == 0) = z := ⟨_, rfl⟩
  have e : V = (Q && z) := by
    rw [← hV, ← hQ, ← hz]
    unfold matchB
    rw [if_pos rfl]
    congr 1
  have HV := Lib.hid hV
  have HQ := Lib.hid hQ
  clear hV hQ
  subst e
  cases Q <;> cases z
  all_goals
    go_enter Try.func22, Try.ntmps22
    go_wp2_with fail
    have hp := rpsane_any r2 r3 ((w.alloc (.cells #[.int .i64 1, .int .i64 r2, .int .i64 r3, .int .i64 r4, .int .i64 r5, .int .i64 r6] 31)).alloc (.cells #[.int .i64 0, .int .i64 0] 24))
    rw [HQ.out] at hp
    with_reducible refine hp.mono ?_
    clear hp
    rintro e w1 ⟨_, rfl, rfl, hb⟩
    have q2 := (hb.cell (p := ⟨w.heap.size, 3, none⟩) (by simp; omega)).trans (cell_of_row _ _ 3 _ _ _ (heap_alloc2_old w _ _))
    simp at q2
    have HB := Lib.hid (bstep (balloc (bnew w _) _) hb)
    clear hb
    go_wp2
    go_ret
    exact ⟨_, rfl, by rw [HV.out]; rfl, HB.out⟩
theorem rmatch_no (h : r1 ≠ 1) (hx : r2 ≠ 0 ∨ r3 ≠ 0) : Calls Try.prog 22 #[.agg #[.int .i64 r1, .int .i64 r2, .int .i64 r3, .int .i64 r4, .int .i64 r5, .int .i64 r6]] w (Ret (Just (.bool (matchB (r1, r2, r3, r4, r5, r6) false))) w) := by
  have HV := Lib.hid (show matchB (r1, r2, r3, r4, r5, r6) false = false by unfold matchB; rw [if_neg h, if_pos hx])
  have hz : (r2 == 0 && r3 == 0) = false := by
    rw [Bool.and_eq_false_iff]
    exact hx.imp beq_eq_false_iff_ne.2 beq_eq_false_iff_ne.2
  have g := beq_eq_false_iff_ne.2 h
  obtain ⟨a, ha⟩ : ∃ a, (r2 == 0) = a := ⟨_, rfl⟩
  obtain ⟨b, hb⟩ : ∃ b, (r3 == 0) = b := ⟨_, rfl⟩
  rw [ha, hb] at hz
  clear hx
  rcases (show r1 = 0 ∨ r1 = 2 ∨ r1 = 3 ∨ r1 = 4 ∨ (r1 ≠ 0 ∧ r1 ≠ 2 ∧ r1 ≠ 3 ∧ r1 ≠ 4) by omega) with rfl | rfl | rfl | rfl | ⟨k0, k2, k3, k4⟩
  · clear h g
    cases a <;> cases b <;> first | (exfalso; revert hz; decide; done) | skip
    all_goals
      go_enter Try.func22, Try.ntmps22
      go_wp2
      go_ret
      exact ⟨_, rfl, by rw [HV.out]; rfl, balloc (bnew w _) _⟩
  · clear h g
    cases a <;> cases b <;> first | (exfalso; revert hz; decide; done) | skip
    all_goals
      go_enter Try.func22, Try.ntmps22
      go_wp2
      go_ret
      exact ⟨_, rfl, by rw [HV.out]; rfl, balloc (bnew w _) _⟩
  · clear h g
    cases a <;> cases b <;> first | (exfalso; revert hz; decide; done) | skip
    all_goals
      go_enter Try.func22, Try.ntmps22
      go_wp2
      go_ret
      exact ⟨_, rfl, by rw [HV.out]; rfl, balloc (bnew w _) _⟩
  · clear h g
    cases a <;> cases b <;> first | (exfalso; revert hz; decide; done) | skip
    all_goals
      go_enter Try.func22, Try.ntmps22
      go_wp2
      go_ret
      exact ⟨_, rfl, by rw [HV.out]; rfl, balloc (bnew w _) _⟩
  · have b0 := beq_eq_false_iff_ne.2 k0
    have b2 := beq_eq_false_iff_ne.2 k2
    have b3 := beq_eq_false_iff_ne.2 k3
    have b4 := beq_eq_false_iff_ne.2 k4
    clear h k0 k2 k3 k4 ha hb hz
    go_enter Try.func22, Try.ntmps22
    go_wp2
    go_ret
    exact ⟨_, rfl, by rw [HV.out]; rfl, balloc (bnew w _) _⟩
theorem rmatch_zero (h : r1 ≠ 1) : Calls Try.prog 22 #[.agg #[.int .i64 r1, .int .i64 0, .int .i64 0, .int .i64 r4, .int .i64 r5, .int .i64 r6]] w (Ret (Just (.bool (matchB (r1, 0, 0, r4, r5, r6) false))) w) := by
  obtain ⟨V, hV⟩ : ∃ V, matchB (r1, 0, 0, r4, r5, r6) false = V := ⟨_, rfl⟩
  have HV := Lib.hid hV
  rcases (show r1 = 0 ∨ r1 = 2 ∨ r1 = 3 ∨ r1 = 4 ∨ (r1 ≠ 0 ∧ r1 ≠ 2 ∧ r1 ≠ 3 ∧ r1 ≠ 4) by omega) with rfl | rfl | rfl | rfl | ⟨g0, g1, g2, g3⟩
  · clear h
    rcases (show r4 ≤ -1 ∨ r4 = 0 ∨ (1 ≤ r4 ∧ r4 ≤ 3) ∨ (4 ≤ r4 ∧ r4 ≤ 32) ∨ (33 ≤ r4 ∧ r4 ≤ 4294967295) ∨ 4294967296 ≤ r4 by omega) with h | rfl | ⟨h, h'⟩ | ⟨h, h'⟩ | ⟨h, h'⟩ | h
    all_goals
      have hk0 : V = true ∨ V = false := by cases V <;> simp
      rcases hk0 with rfl | rfl
      all_goals first
        | (exfalso; revert hV; unfold matchB; simp; done)
        | (exfalso; revert hV; unfold matchB; simp; omega)
        | (clear hV
           go_enter Try.func22, Try.ntmps22
           go_wp2
           go_ret
           exact ⟨_, rfl, by rw [HV.out]; first | rfl | (refine congrArg Value.bool (?_ : (_ : Bool) = _); simp; omega), balloc (bnew w _) _⟩)
  · clear h
    rcases (show r4 ≤ -1 ∨ r4 = 0 ∨ (1 ≤ r4 ∧ r4 ≤ 3) ∨ (4 ≤ r4 ∧ r4 ≤ 32) ∨ (33 ≤ r4 ∧ r4 ≤ 4294967295) ∨ 4294967296 ≤ r4 by omega) with h | rfl | ⟨h, h'⟩ | ⟨h, h'⟩ | ⟨h, h'⟩ | h
    all_goals
      have hk0 : V = true ∨ V = false := by cases V <;> simp
      rcases hk0 with rfl | rfl
      all_goals first
        | (exfalso; revert hV; unfold matchB; simp; done)
        | (exfalso; revert hV; unfold matchB; simp; omega)
        | (clear hV
           go_enter Try.func22, Try.ntmps22
           go_wp2
           go_ret
           exact ⟨_, rfl, by rw [HV.out]; first | rfl | (refine congrArg Value.bool (?_ : (_ : Bool) = _); simp; omega), balloc (bnew w _) _⟩)
  · clear h
    rcases (show r4 ≤ -1 ∨ r4 = 0 ∨ (1 ≤ r4 ∧ r4 ≤ 3) ∨ (4 ≤ r4 ∧ r4 ≤ 32) ∨ (33 ≤ r4 ∧ r4 ≤ 4294967295) ∨ 4294967296 ≤ r4 by omega) with h | rfl | ⟨h, h'⟩ | ⟨h, h'⟩ | ⟨h, h'⟩ | h
    all_goals
      have hk0 : V = true ∨ V = false := by cases V <;> simp
      rcases hk0 with rfl | rfl
      all_goals first
        | (exfalso; revert hV; unfold matchB; simp; done)
        | (exfalso; revert hV; unfold matchB; simp; omega)
        | (clear hV
           go_enter Try.func22, Try.ntmps22
           go_wp2
           go_ret
           exact ⟨_, rfl, by rw [HV.out]; first | rfl | (refine congrArg Value.bool (?_ : (_ : Bool) = _); simp; omega), balloc (bnew w _) _⟩)
  · clear h
    rcases (show r4 ≤ -1 ∨ r4 = 0 ∨ (1 ≤ r4 ∧ r4 ≤ 3) ∨ (4 ≤ r4 ∧ r4 ≤ 32) ∨ (33 ≤ r4 ∧ r4 ≤ 4294967295) ∨ 4294967296 ≤ r4 by omega) with h | rfl | ⟨h, h'⟩ | ⟨h, h'⟩ | ⟨h, h'⟩ | h
    all_goals
      have hk0 : V = true ∨ V = false := by cases V <;> simp
      rcases hk0 with rfl | rfl
      all_goals first
        | (exfalso; revert hV; unfold matchB; simp; done)
        | (exfalso; revert hV; unfold matchB; simp; omega)
        | (clear hV
           go_enter Try.func22, Try.ntmps22
           go_wp2
           go_ret
           exact ⟨_, rfl, by rw [HV.out]; first | rfl | (refine congrArg Value.bool (?_ : (_ : Bool) = _); simp; omega), balloc (bnew w _) _⟩)
  · have b := beq_eq_false_iff_ne.2 h
    have b0 := beq_eq_false_iff_ne.2 g0
    have b1 := beq_eq_false_iff_ne.2 g1
    have b2 := beq_eq_false_iff_ne.2 g2
    have b3 := beq_eq_false_iff_ne.2 g3
    have hVf : V = false := by rw [← hV]; unfold matchB; rw [if_neg h, if_neg (by simp), if_neg g0, if_neg g1, if_neg g2, if_neg g3]
    subst hVf
    clear hV h g0 g1 g2 g3
    go_enter Try.func22, Try.ntmps22
    go_wp2
    go_ret
    exact ⟨_, rfl, by rw [HV.out]; rfl, balloc (bnew w _) _⟩
theorem rmatch_any : Calls Try.prog 22 #[.agg #[.int .i64 r1, .int .i64 r2, .int .i64 r3, .int .i64 r4, .int .i64 r5, .int .i64 r6]] w (Ret (Just (.bool (matchB (r1, r2, r3, r4, r5, r6) false))) w) := by
  by_cases h : r1 = 1
  · subst h
    exact rmatch_at1 r2 r3 r4 r5 r6 w
  · by_cases h2 : r2 = 0 ∧ r3 = 0
    · obtain ⟨rfl, rfl⟩ := h2
      exact rmatch_zero r1 r4 r5 r6 w h
    · exact rmatch_no r1 r2 r3 r4 r5 r6 w h (by by_cases e : r2 = 0 <;> omega)

theorem saneR_ref (r : Rul) (i : Bool) : saneR r i = (matchB r false && (!(i && r.1 == 4) && actB r.2.2.2.2.1 r.2.2.2.2.2 i)) := by
  unfold saneR
  have e : matchB r i = (matchB r false && !(i && r.1 == 4)) := by
    unfold matchB
    by_cases h1 : r.1 = 1
    · rw [if_pos h1, if_pos h1, h1]; simp
    · rw [if_neg h1, if_neg h1]
      split
      · simp
      · by_cases h4 : r.1 = 4
        · rw [if_neg (by omega), if_neg (by omega), if_neg (by omega), if_pos h4, if_neg (by omega), if_neg (by omega), if_neg (by omega), if_pos h4, h4]
          cases i <;> simp
        · rw [beq_eq_false_iff_ne.2 h4]
          simp [h4]
  rw [e, Bool.and_assoc]
theorem rsane_any : Calls Try.prog 10 #[.agg #[.int .i64 r1, .int .i64 r2, .int .i64 r3, .int .i64 r4, .int .i64 r5, .int .i64 r6], .bool i] w (Ret (Just (.bool (saneR (r1, r2, r3, r4, r5, r6) i))) w) := by
  obtain ⟨a, ha⟩ : ∃ a, matchB (r1, r2, r3, r4, r5, r6) false = a := ⟨_, rfl⟩
  obtain ⟨g, hg⟩ : ∃ g, (r1 == 4) = g := ⟨_, rfl⟩
  obtain ⟨V, hV⟩ : ∃ V, actB r5 r6 i = V := ⟨_, rfl⟩
  have HF := Lib.hid (show saneR (r1, r2, r3, r4, r5, r6) i = (a && (!(i && g) && V)) by rw [saneR_ref, ha, hg, hV])
  have HA := Lib.hid ha
  have HV := Lib.hid hV
  clear ha
  have hc : (a = false) ∨ (a = true ∧ i = true ∧ g = true) ∨ (a = true ∧ i = false) ∨ (a = true ∧ i = true ∧ g = false) := by cases a <;> cases i <;> cases g <;> simp
  rcases hc with rfl | ⟨rfl, rfl, rfl⟩ | ⟨rfl, rfl⟩ | ⟨rfl, rfl, rfl⟩
  · clear hV
    go_enter Try.func10, Try.ntmps10
    go_wp2_with fail
    have hm := rmatch_any r1 r2 r3 r4 r5 r6 (w.alloc (.cells #[.int .i64 r1, .int .i64 r2, .int .i64 r3, .int .i64 r4, .int .i64 r5, .int .i64 r6] 31))
    rw [HA.out] at hm
    with_reducible refine hm.mono ?_
    clear hm
    rintro e w1 ⟨_, rfl, rfl, hb1⟩
    go_wp2
    go_ret
    exact ⟨_, rfl, by rw [HF.out]; rfl, bstep (bnew w _) hb1⟩
  · clear hV
    go_enter Try.func10, Try.ntmps10
    go_wp2_with fail
    have hm := rmatch_any r1 r2 r3 r4 r5 r6 (w.alloc (.cells #[.int .i64 r1, .int .i64 r2, .int .i64 r3, .int .i64 r4, .int .i64 r5, .int .i64 r6] 31))
    rw [HA.out] at hm
    with_reducible refine hm.mono ?_
    clear hm
    rintro e w1 ⟨_, rfl, rfl, hb1⟩
    obtain ⟨q0, q1, q2, q3, q4, q5⟩ := row6 ((hb1.block w.heap.size (by simp)).trans (heap_alloc_new w _))
    go_wp2
    go_ret
    exact ⟨_, rfl, by rw [HF.out]; rfl, bstep (bnew w _) hb1⟩
  · have HMT := Lib.hid (show ∀ (x y : Int) (W : World), Calls Try.prog 22 #[.agg #[.int .i64 r1, .int .i64 r2, .int .i64 r3, .int .i64 r4, .int .i64 x, .int .i64 y]] W (Ret (Just (.bool true)) W) from fun x y W => by
      have hq := rmatch_any r1 r2 r3 r4 x y W
      rw [show matchB (r1, r2, r3, r4, x, y) false = true from HA.out] at hq
      exact hq)
    rcases (show r5 = 0 ∨ r5 = 1 ∨ r5 = 2 ∨ r5 = 3 ∨ (r5 ≠ 0 ∧ r5 ≠ 1 ∧ r5 ≠ 2 ∧ r5 ≠ 3) by omega) with rfl | rfl | rfl | rfl | ⟨g0, g1, g2, g3⟩
    · rcases (show r6 ≤ -1 ∨ r6 = 0 ∨ (1 ≤ r6 ∧ r6 ≤ 8) ∨ (9 ≤ r6 ∧ r6 ≤ 399) ∨ 400 ≤ r6 by omega) with h | rfl | ⟨h, h'⟩ | ⟨h, h'⟩ | h
      all_goals
        have hk0 : V = true ∨ V = false := by cases V <;> simp
        rcases hk0 with rfl | rfl
        all_goals first
          | (exfalso; revert hV; unfold actB; simp; done)
          | (exfalso; revert hV; unfold actB; simp; omega)
          | (clear hV
             go_enter Try.func10, Try.ntmps10
             go_wp2_with fail
             with_reducible refine (HMT.out _ _ _).mono ?_
             rintro e w1 ⟨_, rfl, rfl, hb1⟩
             obtain ⟨q0, q1, q2, q3, q4, q5⟩ := row6 ((hb1.block w.heap.size (by simp)).trans (heap_alloc_new w _))
             go_wp2
             go_ret
             exact ⟨_, rfl, by rw [HF.out]; first | rfl | (refine congrArg Value.bool (?_ : (_ : Bool) = _); simp; omega), bstep (bnew w _) hb1⟩)
    · rcases (show r6 ≤ -1 ∨ r6 = 0 ∨ (1 ≤ r6 ∧ r6 ≤ 8) ∨ (9 ≤ r6 ∧ r6 ≤ 399) ∨ 400 ≤ r6 by omega) with h | rfl | ⟨h, h'⟩ | ⟨h, h'⟩ | h
      all_goals
        have hk0 : V = true ∨ V = false := by cases V <;> simp
        rcases hk0 with rfl | rfl
        all_goals first
          | (exfalso; revert hV; unfold actB; simp; done)
          | (exfalso; revert hV; unfold actB; simp; omega)
          | (clear hV
             go_enter Try.func10, Try.ntmps10
             go_wp2_with fail
             with_reducible refine (HMT.out _ _ _).mono ?_
             rintro e w1 ⟨_, rfl, rfl, hb1⟩
             obtain ⟨q0, q1, q2, q3, q4, q5⟩ := row6 ((hb1.block w.heap.size (by simp)).trans (heap_alloc_new w _))
             go_wp2
             go_ret
             exact ⟨_, rfl, by rw [HF.out]; first | rfl | (refine congrArg Value.bool (?_ : (_ : Bool) = _); simp; omega), bstep (bnew w _) hb1⟩)
    · rcases (show r6 ≤ -1 ∨ r6 = 0 ∨ (1 ≤ r6 ∧ r6 ≤ 8) ∨ (9 ≤ r6 ∧ r6 ≤ 399) ∨ 400 ≤ r6 by omega) with h | rfl | ⟨h, h'⟩ | ⟨h, h'⟩ | h
      all_goals
        have hk0 : V = true ∨ V = false := by cases V <;> simp
        rcases hk0 with rfl | rfl
        all_goals first
          | (exfalso; revert hV; unfold actB; simp; done)
          | (exfalso; revert hV; unfold actB; simp; omega)
          | (clear hV
             go_enter Try.func10, Try.ntmps10
             go_wp2_with fail
             with_reducible refine (HMT.out _ _ _).mono ?_
             rintro e w1 ⟨_, rfl, rfl, hb1⟩
             obtain ⟨q0, q1, q2, q3, q4, q5⟩ := row6 ((hb1.block w.heap.size (by simp)).trans (heap_alloc_new w _))
             go_wp2
             go_ret
             exact ⟨_, rfl, by rw [HF.out]; first | rfl | (refine congrArg Value.bool (?_ : (_ : Bool) = _); simp; omega), bstep (bnew w _) hb1⟩)
    · rcases (show r6 ≤ -1 ∨ r6 = 0 ∨ (1 ≤ r6 ∧ r6 ≤ 8) ∨ (9 ≤ r6 ∧ r6 ≤ 399) ∨ 400 ≤ r6 by omega) with h | rfl | ⟨h, h'⟩ | ⟨h, h'⟩ | h
      all_goals
        have hk0 : V = true ∨ V = false := by cases V <;> simp
        rcases hk0 with rfl | rfl
        all_goals first
          | (exfalso; revert hV; unfold actB; simp; done)
          | (exfalso; revert hV; unfold actB; simp; omega)
          | (clear hV
             go_enter Try.func10, Try.ntmps10
             go_wp2_with fail
             with_reducible refine (HMT.out _ _ _).mono ?_
             rintro e w1 ⟨_, rfl, rfl, hb1⟩
             obtain ⟨q0, q1, q2, q3, q4, q5⟩ := row6 ((hb1.block w.heap.size (by simp)).trans (heap_alloc_new w _))
             go_wp2
             go_ret
             exact ⟨_, rfl, by rw [HF.out]; first | rfl | (refine congrArg Value.bool (?_ : (_ : Bool) = _); simp; omega), bstep (bnew w _) hb1⟩)
    · have b0 := beq_eq_false_iff_ne.2 g0
      have b1 := beq_eq_false_iff_ne.2 g1
      have b2 := beq_eq_false_iff_ne.2 g2
      have b3 := beq_eq_false_iff_ne.2 g3
      have hVf : V = false := by rw [← hV]; unfold actB; rw [if_neg g0, if_neg g1, if_neg g2, if_neg g3]
      subst hVf
      clear hV g0 g1 g2 g3
      go_enter Try.func10, Try.ntmps10
      go_wp2_with fail
      have hm := rmatch_any r1 r2 r3 r4 r5 r6 (w.alloc (.cells #[.int .i64 r1, .int .i64 r2, .int .i64 r3, .int .i64 r4, .int .i64 r5, .int .i64 r6] 31))
      rw [HA.out] at hm
      with_reducible refine hm.mono ?_
      clear hm
      rintro e w1 ⟨_, rfl, rfl, hb1⟩
      obtain ⟨q0, q1, q2, q3, q4, q5⟩ := row6 ((hb1.block w.heap.size (by simp)).trans (heap_alloc_new w _))
      go_wp2
      go_ret
      exact ⟨_, rfl, by rw [HF.out]; rfl, bstep (bnew w _) hb1⟩
  · have HMT := Lib.hid (show ∀ (x y : Int) (W : World), Calls Try.prog 22 #[.agg #[.int .i64 r1, .int .i64 r2, .int .i64 r3, .int .i64 r4, .int .i64 x, .int .i64 y]] W (Ret (Just (.bool true)) W) from fun x y W => by
      have hq := rmatch_any r1 r2 r3 r4 x y W
      rw [show matchB (r1, r2, r3, r4, x, y) false = true from HA.out] at hq
      exact hq)
    rcases (show r5 = 0 ∨ r5 = 1 ∨ r5 = 2 ∨ r5 = 3 ∨ (r5 ≠ 0 ∧ r5 ≠ 1 ∧ r5 ≠ 2 ∧ r5 ≠ 3) by omega) with rfl | rfl | rfl | rfl | ⟨g0, g1, g2, g3⟩
    · rcases (show r6 ≤ -1 ∨ r6 = 0 ∨ (1 ≤ r6 ∧ r6 ≤ 8) ∨ (9 ≤ r6 ∧ r6 ≤ 399) ∨ 400 ≤ r6 by omega) with h | rfl | ⟨h, h'⟩ | ⟨h, h'⟩ | h
      all_goals
        have hk0 : V = true ∨ V = false := by cases V <;> simp
        rcases hk0 with rfl | rfl
        all_goals first
          | (exfalso; revert hV; unfold actB; simp; done)
          | (exfalso; revert hV; unfold actB; simp; omega)
          | (clear hV
             go_enter Try.func10, Try.ntmps10
             go_wp2_with fail
             with_reducible refine (HMT.out _ _ _).mono ?_
             rintro e w1 ⟨_, rfl, rfl, hb1⟩
             obtain ⟨q0, q1, q2, q3, q4, q5⟩ := row6 ((hb1.block w.heap.size (by simp)).trans (heap_alloc_new w _))
             go_wp2
             go_ret
             exact ⟨_, rfl, by rw [HF.out]; first | rfl | (refine congrArg Value.bool (?_ : (_ : Bool) = _); simp; omega), bstep (bnew w _) hb1⟩)
    · rcases (show r6 ≤ -1 ∨ r6 = 0 ∨ (1 ≤ r6 ∧ r6 ≤ 8) ∨ (9 ≤ r6 ∧ r6 ≤ 399) ∨ 400 ≤ r6 by omega) with h | rfl | ⟨h, h'⟩ | ⟨h, h'⟩ | h
      all_goals
        have hk0 : V = true ∨ V = false := by cases V <;> simp
        rcases hk0 with rfl | rfl
        all_goals first
          | (exfalso; revert hV; unfold actB; simp; done)
          | (exfalso; revert hV; unfold actB; simp; omega)
          | (clear hV
             go_enter Try.func10, Try.ntmps10
             go_wp2_with fail
             with_reducible refine (HMT.out _ _ _).mono ?_
             rintro e w1 ⟨_, rfl, rfl, hb1⟩
             obtain ⟨q0, q1, q2, q3, q4, q5⟩ := row6 ((hb1.block w.heap.size (by simp)).trans (heap_alloc_new w _))
             go_wp2
             go_ret
             exact ⟨_, rfl, by rw [HF.out]; first | rfl | (refine congrArg Value.bool (?_ : (_ : Bool) = _); simp; omega), bstep (bnew w _) hb1⟩)
    · rcases (show r6 ≤ -1 ∨ r6 = 0 ∨ (1 ≤ r6 ∧ r6 ≤ 8) ∨ (9 ≤ r6 ∧ r6 ≤ 399) ∨ 400 ≤ r6 by omega) with h | rfl | ⟨h, h'⟩ | ⟨h, h'⟩ | h
      all_goals
        have hk0 : V = true ∨ V = false := by cases V <;> simp
        rcases hk0 with rfl | rfl
        all_goals first
          | (exfalso; revert hV; unfold actB; simp; done)
          | (exfalso; revert hV; unfold actB; simp; omega)
          | (clear hV
             go_enter Try.func10, Try.ntmps10
             go_wp2_with fail
             with_reducible refine (HMT.out _ _ _).mono ?_
             rintro e w1 ⟨_, rfl, rfl, hb1⟩
             obtain ⟨q0, q1, q2, q3, q4, q5⟩ := row6 ((hb1.block w.heap.size (by simp)).trans (heap_alloc_new w _))
             go_wp2
             go_ret
             exact ⟨_, rfl, by rw [HF.out]; first | rfl | (refine congrArg Value.bool (?_ : (_ : Bool) = _); simp; omega), bstep (bnew w _) hb1⟩)
    · rcases (show r6 ≤ -1 ∨ r6 = 0 ∨ (1 ≤ r6 ∧ r6 ≤ 8) ∨ (9 ≤ r6 ∧ r6 ≤ 399) ∨ 400 ≤ r6 by omega) with h | rfl | ⟨h, h'⟩ | ⟨h, h'⟩ | h
      all_goals
        have hk0 : V = true ∨ V = false := by cases V <;> simp
        rcases hk0 with rfl | rfl
        all_goals first
          | (exfalso; revert hV; unfold actB; simp; done)
          | (exfalso; revert hV; unfold actB; simp; omega)
          | (clear hV
             go_enter Try.func10, Try.ntmps10
             go_wp2_with fail
             with_reducible refine (HMT.out _ _ _).mono ?_
             rintro e w1 ⟨_, rfl, rfl, hb1⟩
             obtain ⟨q0, q1, q2, q3, q4, q5⟩ := row6 ((hb1.block w.heap.size (by simp)).trans (heap_alloc_new w _))
             go_wp2
             go_ret
             exact ⟨_, rfl, by rw [HF.out]; first | rfl | (refine congrArg Value.bool (?_ : (_ : Bool) = _); simp; omega), bstep (bnew w _) hb1⟩)
    · have b0 := beq_eq_false_iff_ne.2 g0
      have b1 := beq_eq_false_iff_ne.2 g1
      have b2 := beq_eq_false_iff_ne.2 g2
      have b3 := beq_eq_false_iff_ne.2 g3
      have hVf : V = false := by rw [← hV]; unfold actB; rw [if_neg g0, if_neg g1, if_neg g2, if_neg g3]
      subst hVf
      clear hV g0 g1 g2 g3
      go_enter Try.func10, Try.ntmps10
      go_wp2_with fail
      have hm := rmatch_any r1 r2 r3 r4 r5 r6 (w.alloc (.cells #[.int .i64 r1, .int .i64 r2, .int .i64 r3, .int .i64 r4, .int .i64 r5, .int .i64 r6] 31))
      rw [HA.out] at hm
      with_reducible refine hm.mono ?_
      clear hm
      rintro e w1 ⟨_, rfl, rfl, hb1⟩
      obtain ⟨q0, q1, q2, q3, q4, q5⟩ := row6 ((hb1.block w.heap.size (by simp)).trans (heap_alloc_new w _))
      go_wp2
      go_ret
      exact ⟨_, rfl, by rw [HF.out]; rfl, bstep (bnew w _) hb1⟩
end
end Go.Proofs.Ytmlhbmlppgoklab
