/- The walks of the marks and roles. -/
import Derived.Test.YtmlhbmlppgoklaaDoorRole1
namespace Go.Proofs.YtmlhbmlppgoklaaDoor
open Go.RowKit
set_option maxHeartbeats 400000
set_option linter.unusedVariables false
set_option linter.unusedSimpArgs false

def mineZ (rel : Int) : Int := if (rel == 1) = true then 0 else if (rel == 2) = true then 4 else if (rel == 3) = true then 3 else -1
def inZ (rel as_ otc : Int) : Int × Bool :=
  if (rel == 1 && otc == 0) = true then (0, true) else if (rel == 2 && (otc == 0 || otc == as_) || rel == 3 && otc == 0) = true then (as_, true) else if (rel == 3) = true then (otc, true) else (0, false)
def outZ (rel own otc : Int) : Int × Bool :=
  if (rel == 1 && otc != 0) = true then (otc, true) else if ((rel == 1 || rel == 2) && otc == 0) = true then (own, true) else if (rel == 3 && otc == 0) = true then (0, true) else (0, false)

theorem mine_any (rel : Int) (w : World) : Calls Tryd.prog 13 #[.int .i64 rel] w fun e w' => e = .returned (.int .i64 (mineZ rel)) ∧ w = w' := by
  cases h1 : (rel == 1) <;> cases h2 : (rel == 2) <;> cases h3 : (rel == 3)
  all_goals
    have HF := Lib.hid (show mineZ rel = _ by simp only [mineZ, h1, h2, h3, if_true, Bool.false_eq_true, if_false]; rfl)
    go_enter Tryd.func13, Tryd.ntmps13
    go_wp2
    go_ret
    exact ⟨by rw [HF.out]; rfl, rfl⟩
theorem rmine_any (rel : Int) (w : World) : Calls Tryd.prog 14 #[.int .i64 rel] w fun e w' => e = .returned (.int .i64 (mineZ rel)) ∧ w = w' := by
  cases h1 : (rel == 1) <;> cases h2 : (rel == 2) <;> cases h3 : (rel == 3)
  all_goals
    have HF := Lib.hid (show mineZ rel = _ by simp only [mineZ, h1, h2, h3, if_true, Bool.false_eq_true, if_false]; rfl)
    go_enter Tryd.func14, Tryd.ntmps14
    go_wp2
    go_ret
    exact ⟨by rw [HF.out]; rfl, rfl⟩
theorem in_any (rel as_ otc : Int) (w : World) : Calls Tryd.prog 9 #[.int .i64 rel, .int .i64 as_, .int .i64 otc] w fun e w' => e = .returned (.tuple #[.int .i64 (inZ rel as_ otc).1, .bool (inZ rel as_ otc).2]) ∧ w = w' := by
  cases h1 : (rel == 1) <;> cases h2 : (rel == 2) <;> cases h3 : (rel == 3) <;> cases h4 : (otc == 0) <;> cases h5 : (otc == as_)
  all_goals
    have HF := Lib.hid (show inZ rel as_ otc = _ by simp only [inZ, h1, h2, h3, h4, h5, Bool.and_true, Bool.and_false, Bool.true_and, Bool.false_and, Bool.or_true, Bool.or_false, if_true, Bool.false_eq_true, if_false]; rfl)
    go_enter Tryd.func9, Tryd.ntmps9
    go_wp2
    go_ret2
    exact ⟨by rw [HF.out]; rfl, rfl⟩
theorem rin_any (rel as_ otc : Int) (w : World) : Calls Tryd.prog 10 #[.int .i64 rel, .int .i64 as_, .int .i64 otc] w fun e w' => e = .returned (.tuple #[.int .i64 (inZ rel as_ otc).1, .bool (inZ rel as_ otc).2]) ∧ w = w' := by
  cases h1 : (rel == 1) <;> cases h2 : (rel == 2) <;> cases h3 : (rel == 3) <;> cases h4 : (otc == 0) <;> cases h5 : (otc == as_)
  all_goals
    have HF := Lib.hid (show inZ rel as_ otc = _ by simp only [inZ, h1, h2, h3, h4, h5, Bool.and_true, Bool.and_false, Bool.true_and, Bool.false_and, Bool.or_true, Bool.or_false, if_true, Bool.false_eq_true, if_false]; rfl)
    go_enter Tryd.func10, Tryd.ntmps10
    go_wp2
    go_ret2
    exact ⟨by rw [HF.out]; rfl, rfl⟩
theorem out_any (rel own otc : Int) (w : World) : Calls Tryd.prog 11 #[.int .i64 rel, .int .i64 own, .int .i64 otc] w fun e w' => e = .returned (.tuple #[.int .i64 (outZ rel own otc).1, .bool (outZ rel own otc).2]) ∧ w = w' := by
  cases h1 : (rel == 1) <;> cases h2 : (rel == 2) <;> cases h3 : (rel == 3) <;> cases h4 : (otc == 0)
  all_goals
    have h5 : (otc != 0) = !(otc == 0) := rfl
    rw [h4] at h5
    have HF := Lib.hid (show outZ rel own otc = _ by simp only [outZ, h1, h2, h3, h4, h5, Bool.and_true, Bool.and_false, Bool.true_and, Bool.false_and, Bool.or_true, Bool.or_false, Bool.not_false, Bool.not_true, if_true, Bool.false_eq_true, if_false]; rfl)
    go_enter Tryd.func11, Tryd.ntmps11
    go_wp2
    go_ret2
    exact ⟨by rw [HF.out]; rfl, rfl⟩
theorem rout_any (rel own otc : Int) (w : World) : Calls Tryd.prog 12 #[.int .i64 rel, .int .i64 own, .int .i64 otc] w fun e w' => e = .returned (.tuple #[.int .i64 (outZ rel own otc).1, .bool (outZ rel own otc).2]) ∧ w = w' := by
  cases h1 : (rel == 1) <;> cases h2 : (rel == 2) <;> cases h3 : (rel == 3) <;> cases h4 : (otc == 0)
  all_goals
    have h5 : (otc != 0) = !(otc == 0) := rfl
    rw [h4] at h5
    have HF := Lib.hid (show outZ rel own otc = _ by simp only [outZ, h1, h2, h3, h4, h5, Bool.and_true, Bool.and_false, Bool.true_and, Bool.false_and, Bool.or_true, Bool.or_false, Bool.not_false, Bool.not_true, if_true, Bool.false_eq_true, if_false]; rfl)
    go_enter Tryd.func12, Tryd.ntmps12
    go_wp2
    go_ret2
    exact ⟨by rw [HF.out]; rfl, rfl⟩
theorem rpairs_0 (b : Int) (w : World) :
    Calls Tryd.prog 16 #[.int .i64 0, .int .i64 b] w fun e w' => e = .returned (.bool (pairsB 0 b)) ∧ w = w' := by
  have HF := Lib.hid (show pairsB 0 b = (b == 3) by simp [pairsB])
  cases hb : (b == 3)
  all_goals
    have HB := Lib.hid hb
    go_enter Tryd.func16, Tryd.ntmps16
    go_wp2
    go_ret
    exact ⟨by rw [HF.out, HB.out]; rfl, rfl⟩
theorem rpairs_1 (b : Int) (w : World) :
    Calls Tryd.prog 16 #[.int .i64 1, .int .i64 b] w fun e w' => e = .returned (.bool (pairsB 1 b)) ∧ w = w' := by
  have HF := Lib.hid (show pairsB 1 b = (b == 2) by simp [pairsB])
  cases hb : (b == 2)
  all_goals
    have HB := Lib.hid hb
    go_enter Tryd.func16, Tryd.ntmps16
    go_wp2
    go_ret
    exact ⟨by rw [HF.out, HB.out]; rfl, rfl⟩
theorem rpairs_2 (b : Int) (w : World) :
    Calls Tryd.prog 16 #[.int .i64 2, .int .i64 b] w fun e w' => e = .returned (.bool (pairsB 2 b)) ∧ w = w' := by
  have HF := Lib.hid (show pairsB 2 b = (b == 1) by simp [pairsB])
  cases hb : (b == 1)
  all_goals
    have HB := Lib.hid hb
    go_enter Tryd.func16, Tryd.ntmps16
    go_wp2
    go_ret
    exact ⟨by rw [HF.out, HB.out]; rfl, rfl⟩
theorem rpairs_3 (b : Int) (w : World) :
    Calls Tryd.prog 16 #[.int .i64 3, .int .i64 b] w fun e w' => e = .returned (.bool (pairsB 3 b)) ∧ w = w' := by
  have HF := Lib.hid (show pairsB 3 b = (b == 0) by simp [pairsB])
  cases hb : (b == 0)
  all_goals
    have HB := Lib.hid hb
    go_enter Tryd.func16, Tryd.ntmps16
    go_wp2
    go_ret
    exact ⟨by rw [HF.out, HB.out]; rfl, rfl⟩
theorem rpairs_4 (b : Int) (w : World) :
    Calls Tryd.prog 16 #[.int .i64 4, .int .i64 b] w fun e w' => e = .returned (.bool (pairsB 4 b)) ∧ w = w' := by
  have HF := Lib.hid (show pairsB 4 b = (b == 4) by simp [pairsB])
  cases hb : (b == 4)
  all_goals
    have HB := Lib.hid hb
    go_enter Tryd.func16, Tryd.ntmps16
    go_wp2
    go_ret
    exact ⟨by rw [HF.out, HB.out]; rfl, rfl⟩
theorem rpairs_any (a b : Int) (w : World) :
    Calls Tryd.prog 16 #[.int .i64 a, .int .i64 b] w fun e w' => e = .returned (.bool (pairsB a b)) ∧ w = w' := by
  by_cases e0 : a = 0
  · subst e0; exact rpairs_0 b w
  by_cases e1 : a = 1
  · subst e1; exact rpairs_1 b w
  by_cases e2 : a = 2
  · subst e2; exact rpairs_2 b w
  by_cases e3 : a = 3
  · subst e3; exact rpairs_3 b w
  by_cases e4 : a = 4
  · subst e4; exact rpairs_4 b w
  have h0 : (a == 0) = false := by simp [e0]
  have h1 : (a == 1) = false := by simp [e1]
  have h2 : (a == 2) = false := by simp [e2]
  have h3 : (a == 3) = false := by simp [e3]
  have h4 : (a == 4) = false := by simp [e4]
  have HF := Lib.hid (show pairsB a b = false by simp [pairsB, h0, h1, h2, h3, h4])
  clear e0 e1 e2 e3 e4
  go_enter Tryd.func16, Tryd.ntmps16
  go_wp2
  go_ret
  exact ⟨by rw [HF.out]; rfl, rfl⟩

theorem rawake_any (w : World) (ht : Tab w) : Calls Tryd.prog 8 #[] w fun e w' => e = .returned (.bool true) ∧ Below w.heap.size w w' := by
  go_enter Tryd.func8, Tryd.ntmps8
  go_wp2_with fail
  with_reducible refine (in_any _ _ _ _).mono ?_
  rintro e w1 ⟨rfl, rfl⟩
  have e1 : inZ 3 7 0 = (7, true) := rfl
  rw [e1]
  go_wp2_with fail
  with_reducible refine (out_any _ _ _ _).mono ?_
  rintro e w1 ⟨rfl, rfl⟩
  have e2 : outZ 1 9 7 = (7, true) := rfl
  rw [e2]
  go_wp2_with fail
  with_reducible refine (pairs_any _ _ _ ht).mono ?_
  rintro e w1 ⟨rfl, hb⟩
  have e3 : pairsB 0 3 = true := rfl
  rw [e3]
  go_wp2_with fail
  with_reducible refine (mine_any _ _).mono ?_
  rintro e w2 ⟨rfl, rfl⟩
  have e4 : mineZ 3 = 3 := rfl
  rw [e4]
  go_wp2
  go_ret
  exact ⟨rfl, hb⟩

theorem roleIs_law (w : World) (ht : Tab w) (rel a b otc : Int) : Calls Tryd.prog 3 #[.int .i64 rel, .int .i64 a, .int .i64 b, .int .i64 otc] w fun e w' => e = .returned (.bool true) ∧ Below w.heap.size w w' := by
  go_enter Tryd.func3, Tryd.ntmps3
  go_wp2_with fail
  refine (rawake_any _ ht).mono ?_
  rintro e w1 ⟨rfl, hb1⟩
  have ht1 := ht.below hb1
  go_wp2_with fail
  with_reducible refine (in_any _ _ _ _).mono ?_
  rintro e w2 ⟨rfl, rfl⟩
  go_wp2_with fail
  with_reducible refine (rin_any _ _ _ _).mono ?_
  rintro e w2 ⟨rfl, rfl⟩
  go_wp2_with fail
  with_reducible refine (out_any _ _ _ _).mono ?_
  rintro e w2 ⟨rfl, rfl⟩
  go_wp2_with fail
  with_reducible refine (rout_any _ _ _ _).mono ?_
  rintro e w2 ⟨rfl, rfl⟩
  go_wp2_with fail
  with_reducible refine (mine_any _ _).mono ?_
  rintro e w2 ⟨rfl, rfl⟩
  go_wp2_with fail
  with_reducible refine (rmine_any _ _).mono ?_
  rintro e w2 ⟨rfl, rfl⟩
  go_wp2_with fail
  with_reducible refine (pairs_any _ _ _ ht1).mono ?_
  rintro e w2 ⟨rfl, hb2⟩
  go_wp2_with fail
  with_reducible refine (rpairs_any _ _ _).mono ?_
  rintro e w3 ⟨rfl, rfl⟩
  go_wp2
  go_ret
  exact ⟨rfl, bstep hb1 hb2⟩
end Go.Proofs.YtmlhbmlppgoklaaDoor
