/- The walks of policy.Sane and its parts. -/
import Derived.Test.YtmlhbmlppgoklabPol6
namespace Go.Proofs.Ytmlhbmlppgoklab
open Go.RowKit
set_option maxHeartbeats 4000000
set_option linter.unusedVariables false
set_option linter.unusedSimpArgs false

def actB (act k : Int) (i : Bool) : Bool :=
  if act = 0 then decide (k = 0) else if act = 1 then !i && decide (k = 0) else if act = 2 then i && decide (1 ≤ k ∧ k ≤ 399) else if act = 3 then !i && decide (1 ≤ k ∧ k ≤ 8) else false
def matchB (r : Rul) (i : Bool) : Bool :=
  if r.1 = 1 then pfxB r.2.1 r.2.2.1 && decide (r.2.2.2.1 = 0)
  else if r.2.1 ≠ 0 ∨ r.2.2.1 ≠ 0 then false
  else if r.1 = 0 then decide (r.2.2.2.1 = 0) else if r.1 = 2 then decide (1 ≤ r.2.2.2.1 ∧ r.2.2.2.1 ≤ 4294967295) else if r.1 = 3 then decide (0 ≤ r.2.2.2.1 ∧ r.2.2.2.1 ≤ 32)
  else if r.1 = 4 then !i && decide (0 ≤ r.2.2.2.1 ∧ r.2.2.2.1 ≤ 3) else false
def saneR (r : Rul) (i : Bool) : Bool := matchB r i && actB r.2.2.2.2.1 r.2.2.2.2.2 i
theorem saneR_both {r : Rul} (h1 : saneR r true = true) (h2 : saneR r false = true) : r.2.2.2.2.1 = 0 := by
  unfold saneR at h1 h2
  rw [Bool.and_eq_true] at h1 h2
  have a := h1.2
  have b := h2.2
  unfold actB at a b
  split at a
  · assumption
  · rename_i h0
    rw [if_neg h0] at b
    split at a
    · simp at a
    · rename_i h1
      rw [if_neg h1] at b
      split at a
      · rename_i h2
        rw [if_pos h2] at b
        simp at b
      · rename_i h2
        rw [if_neg h2] at b
        split at a
        · simp at a
        · simp at a

theorem act_any (r1 r2 r3 r4 act k : Int) (i : Bool) (w : World) : Calls Try.prog 21 #[.agg #[.int .i64 r1, .int .i64 r2, .int .i64 r3, .int .i64 r4, .int .i64 act, .int .i64 k], .bool i] w (Ret (Just (.bool (actB act k i))) w) := by
  obtain ⟨V, hV⟩ : ∃ V, actB act k i = V := ⟨_, rfl⟩
  have HV := Lib.hid hV
  rcases (show act = 0 ∨ act = 1 ∨ act = 2 ∨ act = 3 ∨ (act ≠ 0 ∧ act ≠ 1 ∧ act ≠ 2 ∧ act ≠ 3) by omega) with rfl | rfl | rfl | rfl | ⟨g0, g1, g2, g3⟩
  · rcases (show k ≤ -1 ∨ k = 0 ∨ (1 ≤ k ∧ k ≤ 8) ∨ (9 ≤ k ∧ k ≤ 399) ∨ 400 ≤ k by omega) with h | rfl | ⟨h, h'⟩ | ⟨h, h'⟩ | h <;> cases i
    all_goals
      have hk0 : V = true ∨ V = false := by cases V <;> simp
      rcases hk0 with rfl | rfl
      all_goals first
        | (exfalso; revert hV; unfold actB; simp; done)
        | (exfalso; revert hV; unfold actB; simp; omega)
        | (clear hV
           go_enter Try.func21, Try.ntmps21
           go_wp2
           go_ret
           exact ⟨_, rfl, by rw [HV.out]; first | rfl | (refine congrArg Value.bool (?_ : (_ : Bool) = _); simp; omega), bnew w _⟩)
  · rcases (show k ≤ -1 ∨ k = 0 ∨ (1 ≤ k ∧ k ≤ 8) ∨ (9 ≤ k ∧ k ≤ 399) ∨ 400 ≤ k by omega) with h | rfl | ⟨h, h'⟩ | ⟨h, h'⟩ | h <;> cases i
    all_goals
      have hk0 : V = true ∨ V = false := by cases V <;> simp
      rcases hk0 with rfl | rfl
      all_goals first
        | (exfalso; revert hV; unfold actB; simp; done)
        | (exfalso; revert hV; unfold actB; simp; omega)
        | (clear hV
           go_enter Try.func21, Try.ntmps21
           go_wp2
           go_ret
           exact ⟨_, rfl, by rw [HV.out]; first | rfl | (refine congrArg Value.bool (?_ : (_ : Bool) = _); simp; omega), bnew w _⟩)
  · rcases (show k ≤ -1 ∨ k = 0 ∨ (1 ≤ k ∧ k ≤ 8) ∨ (9 ≤ k ∧ k ≤ 399) ∨ 400 ≤ k by omega) with h | rfl | ⟨h, h'⟩ | ⟨h, h'⟩ | h <;> cases i
    all_goals
      have hk0 : V = true ∨ V = false := by cases V <;> simp
      rcases hk0 with rfl | rfl
      all_goals first
        | (exfalso; revert hV; unfold actB; simp; done)
        | (exfalso; revert hV; unfold actB; simp; omega)
        | (clear hV
           go_enter Try.func21, Try.ntmps21
           go_wp2
           go_ret
           exact ⟨_, rfl, by rw [HV.out]; first | rfl | (refine congrArg Value.bool (?_ : (_ : Bool) = _); simp; omega), bnew w _⟩)
  · rcases (show k ≤ -1 ∨ k = 0 ∨ (1 ≤ k ∧ k ≤ 8) ∨ (9 ≤ k ∧ k ≤ 399) ∨ 400 ≤ k by omega) with h | rfl | ⟨h, h'⟩ | ⟨h, h'⟩ | h <;> cases i
    all_goals
      have hk0 : V = true ∨ V = false := by cases V <;> simp
      rcases hk0 with rfl | rfl
      all_goals first
        | (exfalso; revert hV; unfold actB; simp; done)
        | (exfalso; revert hV; unfold actB; simp; omega)
        | (clear hV
           go_enter Try.func21, Try.ntmps21
           go_wp2
           go_ret
           exact ⟨_, rfl, by rw [HV.out]; first | rfl | (refine congrArg Value.bool (?_ : (_ : Bool) = _); simp; omega), bnew w _⟩)
  · have b0 := beq_eq_false_iff_ne.2 g0
    have b1 := beq_eq_false_iff_ne.2 g1
    have b2 := beq_eq_false_iff_ne.2 g2
    have b3 := beq_eq_false_iff_ne.2 g3
    have hVf : V = false := by rw [← hV]; unfold actB; rw [if_neg g0, if_neg g1, if_neg g2, if_neg g3]
    subst hVf
    clear hV g0 g1 g2 g3
    go_enter Try.func21, Try.ntmps21
    go_wp2
    go_ret
    exact ⟨_, rfl, by rw [HV.out]; rfl, bnew w _⟩
end Go.Proofs.Ytmlhbmlppgoklab
