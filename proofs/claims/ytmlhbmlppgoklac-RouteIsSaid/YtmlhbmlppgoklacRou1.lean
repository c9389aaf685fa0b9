/- The walks of cmp.Compare and slices.Compare at int, and of the methods that compare two routes by one thing. -/
import Derived.Test.YtmlhbmlppgoklacRouP
import Derived.Test.YtmlhbmlppgoklacRdI
namespace Go.Proofs.Ytmlhbmlppgoklac
open Go.RowKit
set_option maxHeartbeats 1000000
set_option linter.unusedVariables false
set_option linter.unusedSimpArgs false

theorem isNaN_any (a : Int) (w : World) : Calls Try.prog 34 #[.int .i64 a] w fun e w' => e = .returned (.bool false) ∧ w = w' := by
  go_enter Try.func34, Try.ntmps34
  go_wp2
  go_ret
  exact ⟨rfl, rfl⟩
theorem cmp_any (a b : Int) (w : World) : Calls Try.prog 32 #[.int .i64 a, .int .i64 b] w fun e w' => e = .returned (.int .i64 (cmpI a b)) ∧ w = w' := by
  have HN := Lib.hid isNaN_any
  rcases (show a < b ∨ (¬ a < b ∧ b < a) ∨ (¬ a < b ∧ ¬ b < a) by omega) with h | ⟨h, h2⟩ | ⟨h, h2⟩
  · have HF := Lib.hid (show cmpI a b = -1 by unfold cmpI; repeat' split; all_goals first | rfl | omega)
    go_enter Try.func32, Try.ntmps32
    go_wp2_with fail
    with_reducible refine (HN.out a w).mono ?_
    rintro e w1 ⟨rfl, rfl⟩
    go_wp2_with fail
    with_reducible refine (HN.out b w).mono ?_
    rintro e w1 ⟨rfl, rfl⟩
    go_wp2
    go_ret
    exact ⟨by rw [HF.out]; rfl, rfl⟩
  · have HF := Lib.hid (show cmpI a b = 1 by unfold cmpI; repeat' split; all_goals first | rfl | omega)
    go_enter Try.func32, Try.ntmps32
    go_wp2_with fail
    with_reducible refine (HN.out a w).mono ?_
    rintro e w1 ⟨rfl, rfl⟩
    go_wp2_with fail
    with_reducible refine (HN.out b w).mono ?_
    rintro e w1 ⟨rfl, rfl⟩
    go_wp2
    go_ret
    exact ⟨by rw [HF.out]; rfl, rfl⟩
  · have HF := Lib.hid (show cmpI a b = 0 by unfold cmpI; repeat' split; all_goals first | rfl | omega)
    go_enter Try.func32, Try.ntmps32
    go_wp2_with fail
    with_reducible refine (HN.out a w).mono ?_
    rintro e w1 ⟨rfl, rfl⟩
    go_wp2_with fail
    with_reducible refine (HN.out b w).mono ?_
    rintro e w1 ⟨rfl, rfl⟩
    go_wp2
    go_ret
    exact ⟨by rw [HF.out]; rfl, rfl⟩
theorem cmpL_step {x y : Int} {l m : List Int} (h : cmpI x y = 0) : cmpL (x :: l) (y :: m) = cmpL l m := by
  conv => lhs; unfold cmpL
  rw [if_neg (by omega)]
theorem cmpL_stop {x y : Int} {l m : List Int} (h : cmpI x y ≠ 0) : cmpL (x :: l) (y :: m) = cmpI x y := by
  conv => lhs; unfold cmpL
  rw [if_pos h]
theorem dropI {l : List Int} {j : Nat} (h : j < l.length) : l.drop j = l[j] :: l.drop (j + 1) := List.drop_eq_getElem_cons h
theorem scmp_any (A : Option Addr) (n c : Nat) (l : List Int) (B : Option Addr) (m d : Nat) (k : List Int) (w : World) (h : RdI w A n c l) (h2 : RdI w B m d k) :
    Calls Try.prog 33 #[.slice A n c, .slice B m d] w fun e w' => e = .returned (.int .i64 (cmpL l k)) ∧ w = w' := by
  have hl1 := h.len
  have hl2 := h2.len
  have hm1 := h.max
  have hm2 := h2.max
  have hc1 := h.le
  have hc2 := h2.le
  unfold maxLen at hm1 hm2
  have H1 := Lib.hid h
  have H2 := Lib.hid h2
  clear h h2
  go_enter Try.func33, Try.ntmps33
  go_wp2
  go_loopw [11] (fun i wr => ∃ j : Nat, j ≤ n ∧ j ≤ m ∧ i = .int .i64 j ∧ cmpL l k = cmpL (l.drop j) (k.drop j) ∧ wr = w) (fun i _ => n - (intOf i).toNat)
  case atStart => exact ⟨0, by omega, by omega, rfl, by simp, rfl⟩
  case round =>
    obtain ⟨j, hj, hj2, rfl, heq, rfl⟩ := hrel
    have HE := Lib.hid heq
    clear heq
    by_cases hlt : j < n
    · obtain ⟨b, o, rfl, hcell⟩ := H1.out.at_ hlt
      have c0 := hcell j (by omega)
      have HD1 := Lib.hid (dropI (l := l) (j := j) (by omega))
      obtain ⟨x, hx⟩ : ∃ x, l[j] = x := ⟨_, rfl⟩
      rw [hx] at c0 HD1
      have hlt' : (j : Int) < n := by omega
      clear hcell hx
      by_cases hlt2 : j < m
      · obtain ⟨b', o', rfl, hcell⟩ := H2.out.at_ hlt2
        have d0 := hcell j (by omega)
        have HD2 := Lib.hid (dropI (l := k) (j := j) (by omega))
        obtain ⟨y, hy⟩ : ∃ y, k[j] = y := ⟨_, rfl⟩
        rw [hy] at d0 HD2
        have hlt2' : (j : Int) < m := by omega
        have hlt3' : ¬ (m : Int) ≤ j := by omega
        clear hcell hy
        obtain ⟨C, hC⟩ : ∃ C, cmpI x y = C := ⟨_, rfl⟩
        have HC := Lib.hid hC
        clear hC
        go_wp2_with fail
        with_reducible refine (cmp_any x y _).mono ?_
        rw [HC.out]
        rintro e w1 ⟨rfl, rfl⟩
        cases hz : (C != 0)
        · have e0 : C = 0 := by simpa using hz
          subst e0
          go_wp2
          go_roundw
          case rel => exact ⟨j + 1, by omega, by omega, by go_num, by rw [HE.out, HD1.out, HD2.out, cmpL_step HC.out], by first | trivial | rfl⟩
          case measure => simp [intOf]; omega
        · have e0 : C ≠ 0 := by simpa using hz
          go_wp2
          go_ret
          exact ⟨by rw [HE.out, HD1.out, HD2.out, cmpL_stop (by rw [HC.out]; exact e0), HC.out]; rfl, by first | trivial | rfl⟩
      · obtain rfl : j = m := by omega
        have HF := Lib.hid (show cmpL l k = 1 by
          rw [HE.out, HD1.out, show k.drop j = [] from List.drop_of_length_le (by omega)]
          rfl)
        go_wp2
        go_ret
        exact ⟨by rw [HF.out]; rfl, by first | trivial | rfl⟩
    · obtain rfl : j = n := by omega
      rcases (show j < m ∨ j = m by omega) with h3 | h3
      · have HD2 := Lib.hid (dropI (l := k) (j := j) (by omega))
        have HF := Lib.hid (show cmpL l k = -1 by
          rw [HE.out, HD2.out, show l.drop j = [] from List.drop_of_length_le (by omega)]
          rfl)
        have h3' : (j : Int) < m := by omega
        go_wp2
        go_ret
        exact ⟨by rw [HF.out]; rfl, by first | trivial | rfl⟩
      · have HF := Lib.hid (show cmpL l k = 0 by
          rw [HE.out, show l.drop j = [] from List.drop_of_length_le (by omega), show k.drop j = [] from List.drop_of_length_le (by omega)]
          rfl)
        subst h3
        go_wp2
        go_ret
        exact ⟨by rw [HF.out]; rfl, by first | trivial | rfl⟩
end Go.Proofs.Ytmlhbmlppgoklac
