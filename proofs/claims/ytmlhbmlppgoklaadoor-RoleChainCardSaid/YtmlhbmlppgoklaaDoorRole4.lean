/- The laws RoleLeaks, RoleWays, RolePairs and RoleChain. -/
import Derived.Test.YtmlhbmlppgoklaaDoorRole2
namespace Go.Proofs.YtmlhbmlppgoklaaDoor
open Go.RowKit
set_option maxHeartbeats 400000
set_option linter.unusedVariables false
set_option linter.unusedSimpArgs false

theorem leaks_plain (rel as_ otc own to : Int) (h1 : (inZ rel as_ otc).2 = true) (h2 : (as_ == 0) = false) (h3 : (own == 0) = false) (h4 : (rel == 1) = false) :
    (inZ rel as_ otc).1 ≠ 0 ∧ (outZ to own (inZ rel as_ otc).1).2 = (to == 1) ∧ ((to == 1) = true → (outZ to own (inZ rel as_ otc).1).1 = (inZ rel as_ otc).1) := by
  have hm : (inZ rel as_ otc).1 ≠ 0 := by
    have h2' : as_ ≠ 0 := by simpa using h2
    unfold inZ at h1 ⊢
    cases hr2 : (rel == 2) <;> cases hr3 : (rel == 3) <;> cases ho : (otc == 0) <;> cases ha : (otc == as_) <;> simp_all
  refine ⟨hm, ?_, ?_⟩
  · generalize (inZ rel as_ otc).1 = m at *
    have e0 : (m == 0) = false := by simpa using hm
    have e1 : (m != 0) = true := by simpa using hm
    unfold outZ
    cases ht : (to == 1) <;> simp [e0, e1]
  · generalize (inZ rel as_ otc).1 = m at *
    intro ht
    have e1 : (m != 0) = true := by simpa using hm
    unfold outZ
    simp [e1, ht]

theorem inZ_no (rel as_ otc : Int) (h : (inZ rel as_ otc).2 = false) : (inZ rel as_ otc).1 = 0 := by
  unfold inZ at h ⊢
  cases h1 : (rel == 1) <;> cases h2 : (rel == 2) <;> cases h3 : (rel == 3) <;> cases h4 : (otc == 0) <;> cases h5 : (otc == as_) <;>
    simp only [h1, h2, h3, h4, h5, Bool.and_true, Bool.and_false, Bool.true_and, Bool.false_and, Bool.or_true, Bool.or_false, if_true, Bool.false_eq_true, if_false] at h ⊢ <;> first | rfl | cases h | trivial

theorem roleLeaks_law (w : World) (ht : Tab w) (rel as_ otc own to : Int) : Calls Tryd.prog 4 #[.int .i64 rel, .int .i64 as_, .int .i64 otc, .int .i64 own, .int .i64 to] w fun e w' => e = .returned (.bool true) ∧ Below w.heap.size w w' := by
  have start : ∀ (m n : Int) (ok is_ : Bool), inZ rel as_ otc = (m, ok) → outZ to own m = (n, is_) → (ok = false → m = 0) → (ok = true → (as_ == 0) = false → (own == 0) = false → (rel == 1) = false → m ≠ 0 ∧ is_ = (to == 1) ∧ ((to == 1) = true → n = m)) →
      Calls Tryd.prog 4 #[.int .i64 rel, .int .i64 as_, .int .i64 otc, .int .i64 own, .int .i64 to] w fun e w' => e = .returned (.bool true) ∧ Below w.heap.size w w' := by
    intro m n ok is_ hX hY hno hyes
    have HX := Lib.hid hX
    have HY := Lib.hid hY
    clear hX hY
    have HNO := Lib.hid hno
    have HYES := Lib.hid hyes
    clear hno hyes
    cases ok
    · have hm := HNO.out rfl
      subst hm
      go_enter Tryd.func4, Tryd.ntmps4
      go_wp2_with fail
      with_reducible refine (rawake_any _ ht).mono ?_
      rintro e w1 ⟨rfl, hb1⟩
      go_wp2_with fail
      with_reducible refine (in_any _ _ _ _).mono ?_
      rw [HX.out]
      rintro e w2 ⟨rfl, rfl⟩
      go_wp2_with fail
      with_reducible refine (out_any _ _ _ _).mono ?_
      rw [HY.out]
      rintro e w2 ⟨rfl, rfl⟩
      go_wp2
      go_ret
      exact ⟨rfl, hb1⟩
    · rcases (show (as_ == 0) = true ∨ ((as_ == 0) = false ∧ (own == 0) = true) ∨ ((as_ == 0) = false ∧ (own == 0) = false ∧ (rel == 1) = true) ∨ ((as_ == 0) = false ∧ (own == 0) = false ∧ (rel == 1) = false ∧ (to == 1) = true) ∨ ((as_ == 0) = false ∧ (own == 0) = false ∧ (rel == 1) = false ∧ (to == 1) = false) by
        cases (as_ == 0) <;> cases (own == 0) <;> cases (rel == 1) <;> cases (to == 1) <;> simp) with h | ⟨h, h'⟩ | ⟨h, h', h''⟩ | ⟨h, h', h'', h3⟩ | ⟨h, h', h'', h3⟩
      · go_enter Tryd.func4, Tryd.ntmps4
        go_wp2_with fail
        with_reducible refine (rawake_any _ ht).mono ?_
        rintro e w1 ⟨rfl, hb1⟩
        go_wp2_with fail
        with_reducible refine (in_any _ _ _ _).mono ?_
        rw [HX.out]
        rintro e w2 ⟨rfl, rfl⟩
        go_wp2_with fail
        with_reducible refine (out_any _ _ _ _).mono ?_
        rw [HY.out]
        rintro e w2 ⟨rfl, rfl⟩
        go_wp2
        go_ret
        exact ⟨rfl, hb1⟩
      · go_enter Tryd.func4, Tryd.ntmps4
        go_wp2_with fail
        with_reducible refine (rawake_any _ ht).mono ?_
        rintro e w1 ⟨rfl, hb1⟩
        go_wp2_with fail
        with_reducible refine (in_any _ _ _ _).mono ?_
        rw [HX.out]
        rintro e w2 ⟨rfl, rfl⟩
        go_wp2_with fail
        with_reducible refine (out_any _ _ _ _).mono ?_
        rw [HY.out]
        rintro e w2 ⟨rfl, rfl⟩
        go_wp2
        go_ret
        exact ⟨rfl, hb1⟩
      · go_enter Tryd.func4, Tryd.ntmps4
        go_wp2_with fail
        with_reducible refine (rawake_any _ ht).mono ?_
        rintro e w1 ⟨rfl, hb1⟩
        go_wp2_with fail
        with_reducible refine (in_any _ _ _ _).mono ?_
        rw [HX.out]
        rintro e w2 ⟨rfl, rfl⟩
        go_wp2_with fail
        with_reducible refine (out_any _ _ _ _).mono ?_
        rw [HY.out]
        rintro e w2 ⟨rfl, rfl⟩
        go_wp2
        go_ret
        exact ⟨rfl, hb1⟩
      · obtain ⟨hm, his, hn⟩ := HYES.out rfl h h' h''
        have hn' := hn h3
        subst hn'
        rw [h3] at his
        subst his
        have hm' : (n != 0) = true := by simpa using hm
        clear hm hn
        go_enter Tryd.func4, Tryd.ntmps4
        go_wp2_with fail
        with_reducible refine (rawake_any _ ht).mono ?_
        rintro e w1 ⟨rfl, hb1⟩
        go_wp2_with fail
        with_reducible refine (in_any _ _ _ _).mono ?_
        rw [HX.out]
        rintro e w2 ⟨rfl, rfl⟩
        go_wp2_with fail
        with_reducible refine (out_any _ _ _ _).mono ?_
        rw [HY.out]
        rintro e w2 ⟨rfl, rfl⟩
        go_wp2
        go_ret
        exact ⟨rfl, hb1⟩
      · obtain ⟨hm, his, hn⟩ := HYES.out rfl h h' h''
        rw [h3] at his
        subst his
        have hm' : (m != 0) = true := by simpa using hm
        clear hm hn
        go_enter Tryd.func4, Tryd.ntmps4
        go_wp2_with fail
        with_reducible refine (rawake_any _ ht).mono ?_
        rintro e w1 ⟨rfl, hb1⟩
        go_wp2_with fail
        with_reducible refine (in_any _ _ _ _).mono ?_
        rw [HX.out]
        rintro e w2 ⟨rfl, rfl⟩
        go_wp2_with fail
        with_reducible refine (out_any _ _ _ _).mono ?_
        rw [HY.out]
        rintro e w2 ⟨rfl, rfl⟩
        go_wp2
        go_ret
        exact ⟨rfl, hb1⟩
  exact start (inZ rel as_ otc).1 (outZ to own (inZ rel as_ otc).1).1 (inZ rel as_ otc).2 (outZ to own (inZ rel as_ otc).1).2 rfl rfl (fun h => inZ_no rel as_ otc h) (fun h1 h2 h3 h4 => leaks_plain rel as_ otc own to h1 h2 h3 h4)

theorem ways_1 (w : World) (ht : Tab w) (a b : Int) (ha : (a == 0) = false) (hb : (b == 0) = false) : Calls Tryd.prog 5 #[.int .i64 1, .int .i64 a, .int .i64 b] w fun e w' => e = .returned (.bool true) ∧ Below w.heap.size w w' := by
  have hn : (a != 0) = true := by simpa using ha
  have hX : outZ 1 a 0 = (if (1 : Nat) = 3 then 0 else a, true) := by simp [outZ]
  have hY : inZ 3 a (if (1 : Nat) = 3 then 0 else a) = (if (1 : Nat) = 3 then 0 else a, true) := by simp [inZ, ha]
  have HX := Lib.hid hX
  have HY := Lib.hid hY
  clear hX hY
  go_enter Tryd.func5, Tryd.ntmps5
  go_wp2_with fail
  with_reducible refine (rawake_any _ ht).mono ?_
  rintro e w1 ⟨rfl, hb1⟩
  have ht1 := ht.below hb1
  go_wp2_with fail
  with_reducible refine (out_any _ _ _ _).mono ?_
  rw [HX.out]
  rintro e w2 ⟨rfl, rfl⟩
  go_wp2_with fail
  with_reducible refine (in_any _ _ _ _).mono ?_
  first
    | rw [HY.out]
    | (have h2 := HY.out; simp at h2; rw [h2])
  rintro e w2 ⟨rfl, rfl⟩
  go_wp2_with fail
  with_reducible refine (mine_any _ _).mono ?_
  rw [show mineZ 1 = _ from rfl]
  rintro e w2 ⟨rfl, rfl⟩
  go_wp2_with fail
  with_reducible refine (mine_any _ _).mono ?_
  rw [show mineZ 3 = _ from rfl]
  rintro e w2 ⟨rfl, rfl⟩
  go_wp2_with fail
  refine (pairs_any _ _ _ ht1).mono ?_
  rw [show pairsB (mineZ 1) (mineZ 3) = true from rfl]
  rintro e w2 ⟨rfl, hb2⟩
  go_wp2
  go_ret
  exact ⟨rfl, bstep hb1 hb2⟩
theorem ways_2 (w : World) (ht : Tab w) (a b : Int) (ha : (a == 0) = false) (hb : (b == 0) = false) : Calls Tryd.prog 5 #[.int .i64 2, .int .i64 a, .int .i64 b] w fun e w' => e = .returned (.bool true) ∧ Below w.heap.size w w' := by
  have hn : (a != 0) = true := by simpa using ha
  have hX : outZ 2 a 0 = (if (2 : Nat) = 3 then 0 else a, true) := by simp [outZ]
  have hY : inZ 2 a (if (2 : Nat) = 3 then 0 else a) = (if (2 : Nat) = 3 then 0 else a, true) := by simp [inZ, ha]
  have HX := Lib.hid hX
  have HY := Lib.hid hY
  clear hX hY
  go_enter Tryd.func5, Tryd.ntmps5
  go_wp2_with fail
  with_reducible refine (rawake_any _ ht).mono ?_
  rintro e w1 ⟨rfl, hb1⟩
  have ht1 := ht.below hb1
  go_wp2_with fail
  with_reducible refine (out_any _ _ _ _).mono ?_
  rw [HX.out]
  rintro e w2 ⟨rfl, rfl⟩
  go_wp2_with fail
  with_reducible refine (in_any _ _ _ _).mono ?_
  first
    | rw [HY.out]
    | (have h2 := HY.out; simp at h2; rw [h2])
  rintro e w2 ⟨rfl, rfl⟩
  go_wp2_with fail
  with_reducible refine (mine_any _ _).mono ?_
  rw [show mineZ 2 = _ from rfl]
  rintro e w2 ⟨rfl, rfl⟩
  go_wp2_with fail
  with_reducible refine (mine_any _ _).mono ?_
  rw [show mineZ 2 = _ from rfl]
  rintro e w2 ⟨rfl, rfl⟩
  go_wp2_with fail
  refine (pairs_any _ _ _ ht1).mono ?_
  rw [show pairsB (mineZ 2) (mineZ 2) = true from rfl]
  rintro e w2 ⟨rfl, hb2⟩
  go_wp2
  go_ret
  exact ⟨rfl, bstep hb1 hb2⟩
theorem ways_3 (w : World) (ht : Tab w) (a b : Int) (ha : (a == 0) = false) (hb : (b == 0) = false) : Calls Tryd.prog 5 #[.int .i64 3, .int .i64 a, .int .i64 b] w fun e w' => e = .returned (.bool true) ∧ Below w.heap.size w w' := by
  have hn : (a != 0) = true := by simpa using ha
  have hX : outZ 3 a 0 = (if (3 : Nat) = 3 then 0 else a, true) := by simp [outZ]
  have hY : inZ 1 a (if (3 : Nat) = 3 then 0 else a) = (if (3 : Nat) = 3 then 0 else a, true) := by simp [inZ, ha]
  have HX := Lib.hid hX
  have HY := Lib.hid hY
  clear hX hY
  go_enter Tryd.func5, Tryd.ntmps5
  go_wp2_with fail
  with_reducible refine (rawake_any _ ht).mono ?_
  rintro e w1 ⟨rfl, hb1⟩
  have ht1 := ht.below hb1
  go_wp2_with fail
  with_reducible refine (out_any _ _ _ _).mono ?_
  rw [HX.out]
  rintro e w2 ⟨rfl, rfl⟩
  go_wp2_with fail
  with_reducible refine (in_any _ _ _ _).mono ?_
  first
    | rw [HY.out]
    | (have h2 := HY.out; simp at h2; rw [h2])
  rintro e w2 ⟨rfl, rfl⟩
  go_wp2_with fail
  with_reducible refine (mine_any _ _).mono ?_
  rw [show mineZ 3 = _ from rfl]
  rintro e w2 ⟨rfl, rfl⟩
  go_wp2_with fail
  with_reducible refine (mine_any _ _).mono ?_
  rw [show mineZ 1 = _ from rfl]
  rintro e w2 ⟨rfl, rfl⟩
  go_wp2_with fail
  refine (pairs_any _ _ _ ht1).mono ?_
  rw [show pairsB (mineZ 3) (mineZ 1) = true from rfl]
  rintro e w2 ⟨rfl, hb2⟩
  go_wp2
  go_ret
  exact ⟨rfl, bstep hb1 hb2⟩
theorem roleWays_law (w : World) (ht : Tab w) (rel a b : Int) : Calls Tryd.prog 5 #[.int .i64 rel, .int .i64 a, .int .i64 b] w fun e w' => e = .returned (.bool true) ∧ Below w.heap.size w w' := by
  have early : (rel < 1 ∨ 3 < rel) ∨ (a == 0) = true ∨ (b == 0) = true → Calls Tryd.prog 5 #[.int .i64 rel, .int .i64 a, .int .i64 b] w fun e w' => e = .returned (.bool true) ∧ Below w.heap.size w w' := by
    intro h
    have h' : rel < 1 ∨ (1 ≤ rel ∧ 3 < rel) ∨ (1 ≤ rel ∧ rel ≤ 3 ∧ (a == 0) = true) ∨ (1 ≤ rel ∧ rel ≤ 3 ∧ (a == 0) = false ∧ (b == 0) = true) := by
      by_cases g1 : rel < 1
      · exact .inl g1
      by_cases g2 : 3 < rel
      · exact .inr (.inl ⟨by omega, g2⟩)
      rcases h with h | h | h
      · omega
      · exact .inr (.inr (.inl ⟨by omega, by omega, h⟩))
      · cases ha : (a == 0)
        · exact .inr (.inr (.inr ⟨by omega, by omega, rfl, h⟩))
        · exact .inr (.inr (.inl ⟨by omega, by omega, rfl⟩))
    clear h
    rcases h' with h | ⟨h, h1⟩ | ⟨h, h1, h2⟩ | ⟨h, h1, h2, h3⟩
    all_goals
      go_enter Tryd.func5, Tryd.ntmps5
      go_wp2_with fail
      with_reducible refine (rawake_any _ ht).mono ?_
      rintro e w1 ⟨rfl, hb1⟩
      go_wp2
      go_ret
      exact ⟨rfl, hb1⟩
  by_cases h : (rel < 1 ∨ 3 < rel) ∨ (a == 0) = true ∨ (b == 0) = true
  · exact early h
  · have ha : (a == 0) = false := by cases h' : (a == 0) <;> simp_all
    have hb : (b == 0) = false := by cases h' : (b == 0) <;> simp_all
    rcases (show rel = 1 ∨ rel = 2 ∨ rel = 3 by omega) with rfl | rfl | rfl
    · exact ways_1 w ht a b ha hb
    · exact ways_2 w ht a b ha hb
    · exact ways_3 w ht a b ha hb
end Go.Proofs.YtmlhbmlppgoklaaDoor
