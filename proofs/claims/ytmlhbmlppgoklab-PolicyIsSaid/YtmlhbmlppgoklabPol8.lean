/- The walks of policy.saneMatch and policy.Sane. -/
import Derived.Test.YtmlhbmlppgoklabPol7
namespace Go.Proofs.Ytmlhbmlppgoklab
open Go.RowKit
set_option maxHeartbeats 4000000
set_option linter.unusedVariables false
set_option linter.unusedSimpArgs false

section
variable (r1 r2 r3 r4 r5 r6 : Int) (i : Bool) (w : World)
theorem match_at1 : Calls Try.prog 20 #[.agg #[.int .i64 1, .int .i64 r2, .int .i64 r3, .int .i64 r4, .int .i64 r5, .int .i64 r6], .bool i] w (Ret (Just (.bool (matchB (1, r2, r3, r4, r5, r6) i))) w) := by
  obtain ⟨V, hV⟩ : ∃ V, matchB (1, r2, r3, r4, r5, r6) i = V := ⟨_, rfl⟩
  obtain ⟨Q, hQ⟩ : ∃ Q, pfxB r2 r3 = Q := ⟨_, rfl⟩
  obtain ⟨z, hz⟩ : ∃ z, (r4 == 0) = z := ⟨_, rfl⟩
  have e : V = (Q && z) := by
    rw [← hV, ← hQ, ← hz]
    unfold matchB
    rw [if_pos rfl]
    congr 1
  have HV := Lib.hid hV
  have HQ := Lib.hid hQ
  clear hV hQ
  subst e
  cases Q <;> cases z
  all_goals
    go_enter Try.func20, Try.ntmps20
    go_wp2_with fail
    have hp := psane_any r2 r3 (w.alloc (.cells #[.int .i64 1, .int .i64 r2, .int .i64 r3, .int .i64 r4, .int .i64 r5, .int .i64 r6] 31))
    rw [HQ.out] at hp
    with_reducible refine hp.mono ?_
    clear hp
    rintro e w1 ⟨_, rfl, rfl, hb⟩
    have q2 := (hb.cell (p := ⟨w.heap.size, 3, none⟩) (by simp)).trans (cell_of_row _ _ 3 _ _ _ (heap_alloc_new w _))
    simp at q2
    have HB := Lib.hid (bstep (bnew w _) hb)
    clear hb
    go_wp2
    go_ret
    exact ⟨_, rfl, by rw [HV.out]; rfl, HB.out⟩
theorem match_no (h : r1 ≠ 1) (hx : r2 ≠ 0 ∨ r3 ≠ 0) : Calls Try.prog 20 #[.agg #[.int .i64 r1, .int .i64 r2, .int .i64 r3, .int .i64 r4, .int .i64 r5, .int .i64 r6], .bool i] w (Ret (Just (.bool (matchB (r1, r2, r3, r4, r5, r6) i))) w) := by
  have HV := Lib.hid (show matchB (r1, r2, r3, r4, r5, r6) i = false by unfold matchB; rw [if_neg h, if_pos hx])
  have hz : (r2 == 0 && r3 == 0) = false := by
    rw [Bool.and_eq_false_iff]
    exact hx.imp beq_eq_false_iff_ne.2 beq_eq_false_iff_ne.2
  have g := beq_eq_false_iff_ne.2 h
  obtain ⟨a, ha⟩ : ∃ a, (r2 == 0) = a := ⟨_, rfl⟩
  obtain ⟨b, hb⟩ : ∃ b, (r3 == 0) = b := ⟨_, rfl⟩
  rw [ha, hb] at hz
  clear h hx
  cases a <;> cases b <;> first | (exfalso; revert hz; decide; done) | skip
  all_goals
    go_enter Try.func20, Try.ntmps20
    go_wp2
    go_ret
    exact ⟨_, rfl, by rw [HV.out]; rfl, bnew w _⟩
theorem match_zero (h : r1 ≠ 1) : Calls Try.prog 20 #[.agg #[.int .i64 r1, .int .i64 0, .int .i64 0, .int .i64 r4, .int .i64 r5, .int .i64 r6], .bool i] w (Ret (Just (.bool (matchB (r1, 0, 0, r4, r5, r6) i))) w) := by
  obtain ⟨V, hV⟩ : ∃ V, matchB (r1, 0, 0, r4, r5, r6) i = V := ⟨_, rfl⟩
  have HV := Lib.hid hV
  rcases (show r1 = 0 ∨ r1 = 2 ∨ r1 = 3 ∨ r1 = 4 ∨ (r1 ≠ 0 ∧ r1 ≠ 2 ∧ r1 ≠ 3 ∧ r1 ≠ 4) by omega) with rfl | rfl | rfl | rfl | ⟨g0, g1, g2, g3⟩
  · clear h
    rcases (show r4 ≤ -1 ∨ r4 = 0 ∨ (1 ≤ r4 ∧ r4 ≤ 3) ∨ (4 ≤ r4 ∧ r4 ≤ 32) ∨ (33 ≤ r4 ∧ r4 ≤ 4294967295) ∨ 4294967296 ≤ r4 by omega) with h | rfl | ⟨h, h'⟩ | ⟨h, h'⟩ | ⟨h, h'⟩ | h <;> cases i
    all_goals
      have hk0 : V = true ∨ V = false := by cases V <;> simp
      rcases hk0 with rfl | rfl
      all_goals first
        | (exfalso; revert hV; unfold matchB; simp; done)
        | (exfalso; revert hV; unfold matchB; simp; omega)
        | (clear hV
           go_enter Try.func20, Try.ntmps20
           go_wp2
           go_ret
           exact ⟨_, rfl, by rw [HV.out]; first | rfl | (refine congrArg Value.bool (?_ : (_ : Bool) = _); simp; omega), bnew w _⟩)
  · clear h
    rcases (show r4 ≤ -1 ∨ r4 = 0 ∨ (1 ≤ r4 ∧ r4 ≤ 3) ∨ (4 ≤ r4 ∧ r4 ≤ 32) ∨ (33 ≤ r4 ∧ r4 ≤ 4294967295) ∨ 4294967296 ≤ r4 by omega) with h | rfl | ⟨h, h'⟩ | ⟨h, h'⟩ | ⟨h, h'⟩ | h <;> cases i
    all_goals
      have hk0 : V = true ∨ V = false := by cases V <;> simp
      rcases hk0 with rfl | rfl
      all_goals first
        | (exfalso; revert hV; unfold matchB; simp; done)
        | (exfalso; revert hV; unfold matchB; simp; omega)
        | (clear hV
           go_enter Try.func20, Try.ntmps20
           go_wp2
           go_ret
           exact ⟨_, rfl, by rw [HV.out]; first | rfl | (refine congrArg Value.bool (?_ : (_ : Bool) = _); simp; omega), bnew w _⟩)
  · clear h
    rcases (show r4 ≤ -1 ∨ r4 = 0 ∨ (1 ≤ r4 ∧ r4 ≤ 3) ∨ (4 ≤ r4 ∧ r4 ≤ 32) ∨ (33 ≤ r4 ∧ r4 ≤ 4294967295) ∨ 4294967296 ≤ r4 by omega) with h | rfl | ⟨h, h'⟩ | ⟨h, h'⟩ | ⟨h, h'⟩ | h <;> cases i
    all_goals
      have hk0 : V = true ∨ V = false := by cases V <;> simp
      rcases hk0 with rfl | rfl
      all_goals first
        | (exfalso; revert hV; unfold matchB; simp; done)
        | (exfalso; revert hV; unfold matchB; simp; omega)
        | (clear hV
           go_enter Try.func20, Try.ntmps20
           go_wp2
           go_ret
           exact ⟨_, rfl, by rw [HV.out]; first | rfl | (refine congrArg Value.bool (?_ : (_ : Bool) = _); simp; omega), bnew w _⟩)
  · clear h
    rcases (show r4 ≤ -1 ∨ r4 = 0 ∨ (1 ≤ r4 ∧ r4 ≤ 3) ∨ (4 ≤ r4 ∧ r4 ≤ 32) ∨ (33 ≤ r4 ∧ r4 ≤ 4294967295) ∨ 4294967296 ≤ r4 by omega) with h | rfl | ⟨h, h'⟩ | ⟨h, h'⟩ | ⟨h, h'⟩ | h <;> cases i
    all_goals
      have hk0 : V = true ∨ V = false := by cases V <;> simp
      rcases hk0 with rfl | rfl
      all_goals first
        | (exfalso; revert hV; unfold matchB; simp; done)
        | (exfalso; revert hV; unfold matchB; simp; omega)
        | (clear hV
           go_enter Try.func20, Try.ntmps20
           go_wp2
           go_ret
           exact ⟨_, rfl, by rw [HV.out]; first | rfl | (refine congrArg Value.bool (?_ : (_ : Bool) = _); simp; omega), bnew w _⟩)
  · have b := beq_eq_false_iff_ne.2 h
    have b0 := beq_eq_false_iff_ne.2 g0
    have b1 := beq_eq_false_iff_ne.2 g1
    have b2 := beq_eq_false_iff_ne.2 g2
    have b3 := beq_eq_false_iff_ne.2 g3
    have hVf : V = false := by rw [← hV]; unfold matchB; rw [if_neg h, if_neg (by simp), if_neg g0, if_neg g1, if_neg g2, if_neg g3]
    subst hVf
    clear hV h g0 g1 g2 g3
    go_enter Try.func20, Try.ntmps20
    go_wp2
    go_ret
    exact ⟨_, rfl, by rw [HV.out]; rfl, bnew w _⟩
theorem match_any : Calls Try.prog 20 #[.agg #[.int .i64 r1, .int .i64 r2, .int .i64 r3, .int .i64 r4, .int .i64 r5, .int .i64 r6], .bool i] w (Ret (Just (.bool (matchB (r1, r2, r3, r4, r5, r6) i))) w) := by
  by_cases h : r1 = 1
  · subst h
    exact match_at1 r2 r3 r4 r5 r6 i w
  · by_cases h2 : r2 = 0 ∧ r3 = 0
    · obtain ⟨rfl, rfl⟩ := h2
      exact match_zero r1 r4 r5 r6 i w h
    · exact match_no r1 r2 r3 r4 r5 r6 i w h (by by_cases e : r2 = 0 <;> omega)
theorem sane_any : Calls Try.prog 9 #[.agg #[.int .i64 r1, .int .i64 r2, .int .i64 r3, .int .i64 r4, .int .i64 r5, .int .i64 r6], .bool i] w (Ret (Just (.bool (saneR (r1, r2, r3, r4, r5, r6) i))) w) := by
  obtain ⟨a, ha⟩ : ∃ a, matchB (r1, r2, r3, r4, r5, r6) i = a := ⟨_, rfl⟩
  obtain ⟨b, hb⟩ : ∃ b, actB r5 r6 i = b := ⟨_, rfl⟩
  have HF := Lib.hid (show saneR (r1, r2, r3, r4, r5, r6) i = (a && b) by unfold saneR; rw [ha, hb])
  have HA := Lib.hid ha
  have HB := Lib.hid hb
  clear ha hb
  cases a <;> cases b
  all_goals
    go_enter Try.func9, Try.ntmps9
    go_wp2_with fail
    have hm := match_any r1 r2 r3 r4 r5 r6 i (w.alloc (.cells #[.int .i64 r1, .int .i64 r2, .int .i64 r3, .int .i64 r4, .int .i64 r5, .int .i64 r6] 31))
    rw [HA.out] at hm
    with_reducible refine hm.mono ?_
    clear hm
    rintro e w1 ⟨_, rfl, rfl, hb1⟩
    have hg := (hb1.block w.heap.size (by simp)).trans (heap_alloc_new w _)
    obtain ⟨q0, q1, q2, q3, q4, q5⟩ := row6 hg
    have HB1 := Lib.hid (bstep (bnew w _) hb1)
    clear hg hb1
    try
      (go_wp2_with fail
       have hc := act_any r1 r2 r3 r4 r5 r6 i w1
       rw [HB.out] at hc
       with_reducible refine hc.mono ?_
       clear hc
       rintro e w2 ⟨_, rfl, rfl, hb2⟩
       have HB2 := Lib.hid (bstep HB1.out hb2)
       clear hb2)
    go_wp2
    go_ret
    exact ⟨_, rfl, by rw [HF.out]; rfl, by first | exact HB2.out | exact HB1.out⟩
end
end Go.Proofs.Ytmlhbmlppgoklab
