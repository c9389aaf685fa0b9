/- The walks of the reference of layer 5, but for its names. -/
import Derived.Test.YtmkpkbigceinfaaDoorNote8
namespace Go.Proofs.YtmkpkbigceinfaaDoor
open Go.RowKit
set_option maxHeartbeats 1000000
set_option linter.unusedVariables false
set_option linter.unusedSimpArgs false

theorem rnsane_any (c s : Int) (A : Option Addr) (n k : Nat) (w : World) (hn : n ≤ 140737488355328) :
    Calls Tryd.prog 12 #[.agg #[.int .i64 c, .int .i64 s, .slice A n k]] w fun e w' => e = .returned (.bool (nsaneB c s n)) ∧ Below w.heap.size w w' := by
  rcases (show c ≤ 0 ∨ (1 ≤ c ∧ 256 ≤ c) ∨ (1 ≤ c ∧ c ≤ 255 ∧ s ≤ -1) ∨ (1 ≤ c ∧ c ≤ 255 ∧ 0 ≤ s ∧ 256 ≤ s) ∨ (1 ≤ c ∧ c ≤ 255 ∧ 0 ≤ s ∧ s ≤ 255 ∧ 4076 ≤ n) ∨ (1 ≤ c ∧ c ≤ 255 ∧ 0 ≤ s ∧ s ≤ 255 ∧ n ≤ 4075) by omega) with h1 | ⟨h1, h2⟩ | ⟨h1, h2, h3⟩ | ⟨h1, h2, h3, h4⟩ | ⟨h1, h2, h3, h4, h5⟩ | ⟨h1, h2, h3, h4, h5⟩
  · have HF := Lib.hid (show nsaneB c s n = false from by unfold nsaneB; simp; omega)
    go_enter Tryd.func12, Tryd.ntmps12
    go_wp2
    go_ret
    exact ⟨by rw [HF.out]; first | rfl | exact congrArg (fun b => Ending.returned (Value.bool b)) (decide_eq_false (p := (n : Int) ≤ 4075) (by omega)) | exact congrArg (fun b => Ending.returned (Value.bool b)) (decide_eq_true (p := (n : Int) ≤ 4075) (by omega)), bnew _ _⟩
  · have HF := Lib.hid (show nsaneB c s n = false from by unfold nsaneB; simp; omega)
    go_enter Tryd.func12, Tryd.ntmps12
    go_wp2
    go_ret
    exact ⟨by rw [HF.out]; first | rfl | exact congrArg (fun b => Ending.returned (Value.bool b)) (decide_eq_false (p := (n : Int) ≤ 4075) (by omega)) | exact congrArg (fun b => Ending.returned (Value.bool b)) (decide_eq_true (p := (n : Int) ≤ 4075) (by omega)), bnew _ _⟩
  · have HF := Lib.hid (show nsaneB c s n = false from by unfold nsaneB; simp; omega)
    go_enter Tryd.func12, Tryd.ntmps12
    go_wp2
    go_ret
    exact ⟨by rw [HF.out]; first | rfl | exact congrArg (fun b => Ending.returned (Value.bool b)) (decide_eq_false (p := (n : Int) ≤ 4075) (by omega)) | exact congrArg (fun b => Ending.returned (Value.bool b)) (decide_eq_true (p := (n : Int) ≤ 4075) (by omega)), bnew _ _⟩
  · have HF := Lib.hid (show nsaneB c s n = false from by unfold nsaneB; simp; omega)
    go_enter Tryd.func12, Tryd.ntmps12
    go_wp2
    go_ret
    exact ⟨by rw [HF.out]; first | rfl | exact congrArg (fun b => Ending.returned (Value.bool b)) (decide_eq_false (p := (n : Int) ≤ 4075) (by omega)) | exact congrArg (fun b => Ending.returned (Value.bool b)) (decide_eq_true (p := (n : Int) ≤ 4075) (by omega)), bnew _ _⟩
  · have HF := Lib.hid (show nsaneB c s n = false from by unfold nsaneB; simp; omega)
    go_enter Tryd.func12, Tryd.ntmps12
    go_wp2
    go_ret
    exact ⟨by rw [HF.out]; first | rfl | exact congrArg (fun b => Ending.returned (Value.bool b)) (decide_eq_false (p := (n : Int) ≤ 4075) (by omega)) | exact congrArg (fun b => Ending.returned (Value.bool b)) (decide_eq_true (p := (n : Int) ≤ 4075) (by omega)), bnew _ _⟩
  · have HF := Lib.hid (show nsaneB c s n = true from by unfold nsaneB; simp; omega)
    go_enter Tryd.func12, Tryd.ntmps12
    go_wp2
    go_ret
    exact ⟨by rw [HF.out]; first | rfl | exact congrArg (fun b => Ending.returned (Value.bool b)) (decide_eq_false (p := (n : Int) ≤ 4075) (by omega)) | exact congrArg (fun b => Ending.returned (Value.bool b)) (decide_eq_true (p := (n : Int) ≤ 4075) (by omega)), bnew _ _⟩

theorem knownB_spec (a b : Int) : knownB a b = (if a = 1 then decide (1 ≤ b ∧ b ≤ 3) else if a = 2 then decide ((1 ≤ b ∧ b ≤ 4) ∨ b = 6 ∨ b = 7 ∨ b = 11) else if a = 3 then decide (1 ≤ b ∧ b ≤ 11 ∧ b ≠ 7) else if a = 4 then decide (b = 0) else if a = 5 then decide (0 ≤ b ∧ b ≤ 3) else if a = 6 then decide (1 ≤ b ∧ b ≤ 10) else false) := by
  rw [Bool.eq_iff_iff]
  have e : knownB a b = true ↔ (hitAt a b 0 = true ∨ hitAt a b 1 = true ∨ hitAt a b 2 = true ∨ hitAt a b 3 = true ∨ hitAt a b 4 = true ∨ hitAt a b 5 = true ∨ hitAt a b 6 = true ∨ hitAt a b 7 = true ∨ hitAt a b 8 = true) := by
    simp [knownB, List.range_succ, or_assoc]
  rw [e]
  simp only [hitAt, Bool.and_eq_true, beq_iff_eq, decide_eq_true_eq]
  repeat' split
  all_goals first | (simp only [decide_eq_true_eq]; omega) | (simp only [Bool.false_eq_true, iff_false]; omega)
theorem rknown_any (a b : Int) (w : World) : Calls Tryd.prog 17 #[.int .i64 a, .int .i64 b] w fun e w' => e = .returned (.bool (knownB a b)) ∧ w = w' := by
  have hcase : (a = 1 ∨ a = 2 ∨ a = 3 ∨ a = 4 ∨ a = 5 ∨ a = 6 ∨ (a ≠ 1 ∧ a ≠ 2 ∧ a ≠ 3 ∧ a ≠ 4 ∧ a ≠ 5 ∧ a ≠ 6)) := by omega
  rcases hcase with rfl | rfl | rfl | rfl | rfl | rfl | ⟨h1, h2, h3, h4, h5, h6⟩
  · rcases (show b ≤ 0 ∨ (1 ≤ b ∧ b ≤ 3) ∨ 4 ≤ b by omega) with h | ⟨h, k⟩ | h
    all_goals
      have HF := Lib.hid (fun b : Int => knownB_spec 1 b)
      go_enter Tryd.func17, Tryd.ntmps17
      go_wp2
      go_ret
      exact ⟨by rw [HF.out]; simp <;> first | omega | (rw [Bool.eq_iff_iff]; simp <;> omega), rfl⟩
  · rcases (show b ≤ 0 ∨ (1 ≤ b ∧ b ≤ 4) ∨ b = 5 ∨ b = 6 ∨ b = 7 ∨ (8 ≤ b ∧ b ≤ 10) ∨ b = 11 ∨ 12 ≤ b by omega) with h | ⟨h, k⟩ | rfl | rfl | rfl | ⟨h, k⟩ | rfl | h
    all_goals
      have HF := Lib.hid (fun b : Int => knownB_spec 2 b)
      go_enter Tryd.func17, Tryd.ntmps17
      go_wp2
      go_ret
      exact ⟨by rw [HF.out]; simp <;> first | omega | (rw [Bool.eq_iff_iff]; simp <;> omega), rfl⟩
  · rcases (show b ≤ 0 ∨ (1 ≤ b ∧ b ≤ 6) ∨ b = 7 ∨ (8 ≤ b ∧ b ≤ 11) ∨ 12 ≤ b by omega) with h | ⟨h, k⟩ | rfl | ⟨h, k⟩ | h
    all_goals
      have HF := Lib.hid (fun b : Int => knownB_spec 3 b)
      go_enter Tryd.func17, Tryd.ntmps17
      go_wp2
      go_ret
      exact ⟨by rw [HF.out]; simp <;> first | omega | (rw [Bool.eq_iff_iff]; simp <;> omega), rfl⟩
  · rcases (show b ≤ -1 ∨ b = 0 ∨ 1 ≤ b by omega) with h | rfl | h
    all_goals
      have HF := Lib.hid (fun b : Int => knownB_spec 4 b)
      go_enter Tryd.func17, Tryd.ntmps17
      go_wp2
      go_ret
      exact ⟨by rw [HF.out]; simp <;> first | omega | (rw [Bool.eq_iff_iff]; simp <;> omega), rfl⟩
  · rcases (show b ≤ -1 ∨ (0 ≤ b ∧ b ≤ 3) ∨ 4 ≤ b by omega) with h | ⟨h, k⟩ | h
    all_goals
      have HF := Lib.hid (fun b : Int => knownB_spec 5 b)
      go_enter Tryd.func17, Tryd.ntmps17
      go_wp2
      go_ret
      exact ⟨by rw [HF.out]; simp <;> first | omega | (rw [Bool.eq_iff_iff]; simp <;> omega), rfl⟩
  · rcases (show b ≤ 0 ∨ (1 ≤ b ∧ b ≤ 10) ∨ 11 ≤ b by omega) with h | ⟨h, k⟩ | h
    all_goals
      have HF := Lib.hid (fun b : Int => knownB_spec 6 b)
      go_enter Tryd.func17, Tryd.ntmps17
      go_wp2
      go_ret
      exact ⟨by rw [HF.out]; simp <;> first | omega | (rw [Bool.eq_iff_iff]; simp <;> omega), rfl⟩
  · have HF := Lib.hid (show knownB a b = false by rw [knownB_spec, if_neg h1, if_neg h2, if_neg h3, if_neg h4, if_neg h5, if_neg h6])
    have g1 := beq_eq_false_iff_ne.2 h1
    have g2 := beq_eq_false_iff_ne.2 h2
    have g3 := beq_eq_false_iff_ne.2 h3
    have g4 := beq_eq_false_iff_ne.2 h4
    have g5 := beq_eq_false_iff_ne.2 h5
    have g6 := beq_eq_false_iff_ne.2 h6
    go_enter Tryd.func17, Tryd.ntmps17
    go_wp2
    go_ret
    exact ⟨by rw [HF.out]; rfl, rfl⟩
end Go.Proofs.YtmkpkbigceinfaaDoor
