/- The walks of the reference's digits. -/
import Derived.Test.YtmkpkbigceinfaaDoorNote2
namespace Go.Proofs.YtmkpkbigceinfaaDoor
open Go.RowKit
set_option maxHeartbeats 1000000
set_option linter.unusedVariables false
set_option linter.unusedSimpArgs false

theorem dec_size (u : Nat) (h : u ≤ 9223372036854775808) : (str (Lib.decDigits u)).size ≤ 20 := by
  rw [str_size, Lib.decDigits_length]
  exact Lib.nDigits_le20 u (by omega)
theorem dec_step (u : Nat) (h : 10 ≤ u) : Lib.decDigits u = Lib.decDigits (u / 10) ++ Lib.decDigits (u % 10) := by
  rw [Lib.decDigits_one (show u % 10 < 10 by omega)]
  conv => lhs; rw [Lib.decDigits]
  rw [dif_neg (by omega)]
theorem rdig_0 (w : World) : Calls Tryd.prog 26 #[.int .i64 0] w fun e w' => e = .returned (.string (str (Lib.decDigits 0))) ∧ w = w' := by
  have e1 : str (Lib.decDigits 0) = ByteArray.mk #[48 + 0] := by
    rw [Lib.decDigits_one (by decide)]
    rfl
  have E := Lib.hid e1
  clear e1
  go_enter Tryd.func26, Tryd.ntmps26
  go_wp2
  go_ret
  exact ⟨by rw [E.out]; rfl, rfl⟩
theorem rdig_1 (w : World) : Calls Tryd.prog 26 #[.int .i64 1] w fun e w' => e = .returned (.string (str (Lib.decDigits 1))) ∧ w = w' := by
  have e1 : str (Lib.decDigits 1) = ByteArray.mk #[48 + 1] := by
    rw [Lib.decDigits_one (by decide)]
    rfl
  have E := Lib.hid e1
  clear e1
  go_enter Tryd.func26, Tryd.ntmps26
  go_wp2
  go_ret
  exact ⟨by rw [E.out]; rfl, rfl⟩
theorem rdig_2 (w : World) : Calls Tryd.prog 26 #[.int .i64 2] w fun e w' => e = .returned (.string (str (Lib.decDigits 2))) ∧ w = w' := by
  have e1 : str (Lib.decDigits 2) = ByteArray.mk #[48 + 2] := by
    rw [Lib.decDigits_one (by decide)]
    rfl
  have E := Lib.hid e1
  clear e1
  go_enter Tryd.func26, Tryd.ntmps26
  go_wp2
  go_ret
  exact ⟨by rw [E.out]; rfl, rfl⟩
theorem rdig_3 (w : World) : Calls Tryd.prog 26 #[.int .i64 3] w fun e w' => e = .returned (.string (str (Lib.decDigits 3))) ∧ w = w' := by
  have e1 : str (Lib.decDigits 3) = ByteArray.mk #[48 + 3] := by
    rw [Lib.decDigits_one (by decide)]
    rfl
  have E := Lib.hid e1
  clear e1
  go_enter Tryd.func26, Tryd.ntmps26
  go_wp2
  go_ret
  exact ⟨by rw [E.out]; rfl, rfl⟩
theorem rdig_4 (w : World) : Calls Tryd.prog 26 #[.int .i64 4] w fun e w' => e = .returned (.string (str (Lib.decDigits 4))) ∧ w = w' := by
  have e1 : str (Lib.decDigits 4) = ByteArray.mk #[48 + 4] := by
    rw [Lib.decDigits_one (by decide)]
    rfl
  have E := Lib.hid e1
  clear e1
  go_enter Tryd.func26, Tryd.ntmps26
  go_wp2
  go_ret
  exact ⟨by rw [E.out]; rfl, rfl⟩
theorem rdig_5 (w : World) : Calls Tryd.prog 26 #[.int .i64 5] w fun e w' => e = .returned (.string (str (Lib.decDigits 5))) ∧ w = w' := by
  have e1 : str (Lib.decDigits 5) = ByteArray.mk #[48 + 5] := by
    rw [Lib.decDigits_one (by decide)]
    rfl
  have E := Lib.hid e1
  clear e1
  go_enter Tryd.func26, Tryd.ntmps26
  go_wp2
  go_ret
  exact ⟨by rw [E.out]; rfl, rfl⟩
theorem rdig_6 (w : World) : Calls Tryd.prog 26 #[.int .i64 6] w fun e w' => e = .returned (.string (str (Lib.decDigits 6))) ∧ w = w' := by
  have e1 : str (Lib.decDigits 6) = ByteArray.mk #[48 + 6] := by
    rw [Lib.decDigits_one (by decide)]
    rfl
  have E := Lib.hid e1
  clear e1
  go_enter Tryd.func26, Tryd.ntmps26
  go_wp2
  go_ret
  exact ⟨by rw [E.out]; rfl, rfl⟩
theorem rdig_7 (w : World) : Calls Tryd.prog 26 #[.int .i64 7] w fun e w' => e = .returned (.string (str (Lib.decDigits 7))) ∧ w = w' := by
  have e1 : str (Lib.decDigits 7) = ByteArray.mk #[48 + 7] := by
    rw [Lib.decDigits_one (by decide)]
    rfl
  have E := Lib.hid e1
  clear e1
  go_enter Tryd.func26, Tryd.ntmps26
  go_wp2
  go_ret
  exact ⟨by rw [E.out]; rfl, rfl⟩
theorem rdig_8 (w : World) : Calls Tryd.prog 26 #[.int .i64 8] w fun e w' => e = .returned (.string (str (Lib.decDigits 8))) ∧ w = w' := by
  have e1 : str (Lib.decDigits 8) = ByteArray.mk #[48 + 8] := by
    rw [Lib.decDigits_one (by decide)]
    rfl
  have E := Lib.hid e1
  clear e1
  go_enter Tryd.func26, Tryd.ntmps26
  go_wp2
  go_ret
  exact ⟨by rw [E.out]; rfl, rfl⟩
theorem rdig_9 (w : World) : Calls Tryd.prog 26 #[.int .i64 9] w fun e w' => e = .returned (.string (str (Lib.decDigits 9))) ∧ w = w' := by
  have e1 : str (Lib.decDigits 9) = ByteArray.mk #[48 + 9] := by
    rw [Lib.decDigits_one (by decide)]
    rfl
  have E := Lib.hid e1
  clear e1
  go_enter Tryd.func26, Tryd.ntmps26
  go_wp2
  go_ret
  exact ⟨by rw [E.out]; rfl, rfl⟩
theorem rdig_small (n : Nat) (h : n < 10) (w : World) : Calls Tryd.prog 26 #[.int .i64 n] w fun e w' => e = .returned (.string (str (Lib.decDigits n))) ∧ w = w' := by
  rcases (show n = 0 ∨ n = 1 ∨ n = 2 ∨ n = 3 ∨ n = 4 ∨ n = 5 ∨ n = 6 ∨ n = 7 ∨ n = 8 ∨ n = 9 by omega) with rfl | rfl | rfl | rfl | rfl | rfl | rfl | rfl | rfl | rfl
  · exact rdig_0 w
  · exact rdig_1 w
  · exact rdig_2 w
  · exact rdig_3 w
  · exact rdig_4 w
  · exact rdig_5 w
  · exact rdig_6 w
  · exact rdig_7 w
  · exact rdig_8 w
  · exact rdig_9 w
theorem rdig_any (n : Nat) : n ≤ 9223372036854775807 → ∀ w : World, Calls Tryd.prog 26 #[.int .i64 n] w fun e w' => e = .returned (.string (str (Lib.decDigits n))) ∧ w = w' := by
  induction n using Nat.strongRecOn with
  | _ n ih =>
    intro hn w
    by_cases h : n < 10
    · exact rdig_small n h w
    · have I1 := ih (n / 10) (by omega) (by omega)
      have I2 := rdig_small (n % 10) (by omega)
      have l1 := dec_size (n / 10) (by omega)
      have l2 := dec_size (n % 10) (by omega)
      have hs := dec_step n (by omega)
      rw [show ((n / 10 : Nat) : Int) = (n : Int) / 10 by omega] at I1
      rw [show ((n % 10 : Nat) : Int) = (n : Int) % 10 by omega] at I2
      obtain ⟨X, hX⟩ : ∃ X, str (Lib.decDigits (n / 10)) = X := ⟨_, rfl⟩
      obtain ⟨Y, hY⟩ : ∃ Y, str (Lib.decDigits (n % 10)) = Y := ⟨_, rfl⟩
      have HF := Lib.hid (show str (Lib.decDigits n) = X ++ Y by rw [hs, ← str_append, hX, hY])
      rw [hX] at I1 l1
      rw [hY] at I2 l2
      have HI1 := Lib.hid I1
      have HI2 := Lib.hid I2
      have h0 : ¬ (n : Int) < 10 := by omega
      have h1 : (0 : Int) ≤ n := by omega
      have h2 : (n : Int) ≤ 9223372036854775807 := by omega
      clear ih hn I1 I2 hs hX hY h
      go_enter Tryd.func26, Tryd.ntmps26
      go_wp2_with fail
      with_reducible refine (HI1.out _).mono ?_
      rintro e w1 ⟨rfl, rfl⟩
      go_wp2_with fail
      with_reducible refine (HI2.out _).mono ?_
      rintro e w1 ⟨rfl, rfl⟩
      go_wp2
      go_ret
      exact ⟨by rw [HF.out]; rfl, rfl⟩
theorem rneg_any (u : Nat) : 1 ≤ u → u ≤ 9223372036854775808 → ∀ w : World, Calls Tryd.prog 22 #[.int .i64 (-(u : Int))] w fun e w' => e = .returned (.string (str (45 :: Lib.decDigits u))) ∧ w = w' := by
  induction u using Nat.strongRecOn with
  | _ u ih =>
    intro h1 hu w
    have l0 := dec_size u hu
    by_cases h : u < 10
    · have I1 := rdig_small u h
      obtain ⟨X, hX⟩ : ∃ X, str (Lib.decDigits u) = X := ⟨_, rfl⟩
      have HF := Lib.hid (show str (45 :: Lib.decDigits u) = ByteArray.mk #[45] ++ X by rw [← hX]; exact (str_append [45] (Lib.decDigits u)).symm)
      rw [hX] at I1 l0
      have HI1 := Lib.hid I1
      clear ih I1 hX
      go_enter Tryd.func22, Tryd.ntmps22
      go_wp2_with fail
      with_reducible refine (HI1.out _).mono ?_
      rintro e w1 ⟨rfl, rfl⟩
      go_wp2
      go_ret
      exact ⟨by rw [HF.out]; rfl, rfl⟩
    · have I1 := ih (u / 10) (by omega) (by omega) (by omega)
      have I2 := rdig_small (u % 10) (by omega)
      have l1 := dec_size (u / 10) (by omega)
      have l2 := dec_size (u % 10) (by omega)
      have hs := dec_step u (by omega)
      have q1 : (-(u : Int)).tdiv 10 = -((u / 10 : Nat) : Int) := by rw [Int.neg_tdiv]; rfl
      have q2 : (-(u : Int)).tmod 10 = -((u % 10 : Nat) : Int) := by rw [Int.neg_tmod]; rfl
      obtain ⟨X, hX⟩ : ∃ X, str (45 :: Lib.decDigits (u / 10)) = X := ⟨_, rfl⟩
      obtain ⟨Y, hY⟩ : ∃ Y, str (Lib.decDigits (u % 10)) = Y := ⟨_, rfl⟩
      have HF := Lib.hid (show str (45 :: Lib.decDigits u) = X ++ Y by rw [hs, ← hX, ← hY, str_append]; rfl)
      have l1' : X.size ≤ 21 := by rw [← hX, str_size]; rw [str_size] at l1; simp; omega
      rw [hX] at I1
      rw [hY] at I2 l2
      obtain ⟨a, ha⟩ : ∃ a, u / 10 = a := ⟨_, rfl⟩
      obtain ⟨b, hb⟩ : ∃ b, u % 10 = b := ⟨_, rfl⟩
      rw [ha] at I1 q1
      rw [hb] at I2 q2
      have ha1 : 1 ≤ a := by omega
      have hb1 : b < 10 := by omega
      have ha2 : (a : Int) ≤ 922337203685477580 := by omega
      have HI1 := Lib.hid I1
      have HI2 := Lib.hid I2
      have hu10 : ¬ (-(u : Int)) > -10 := by omega
      clear ih I1 I2 hs hX hY h l0 l1 ha hb
      go_enter Tryd.func22, Tryd.ntmps22
      go_wp2_with fail
      with_reducible refine (HI1.out _).mono ?_
      rintro e w1 ⟨rfl, rfl⟩
      go_wp2_with fail
      with_reducible refine (HI2.out _).mono ?_
      rintro e w1 ⟨rfl, rfl⟩
      go_wp2
      go_ret
      exact ⟨by rw [HF.out]; rfl, rfl⟩
theorem rdigits_any (n : Int) (h0 : -9223372036854775808 ≤ n) (h1 : n ≤ 9223372036854775807) (w : World) : Calls Tryd.prog 22 #[.int .i64 n] w fun e w' => e = .returned (.string (str (Lib.itoa n))) ∧ w = w' := by
  by_cases h : 0 ≤ n
  · obtain ⟨u, rfl⟩ : ∃ u : Nat, n = u := ⟨n.toNat, by omega⟩
    have I1 := Lib.hid (rdig_any u (by omega))
    rw [Lib.itoa_nonneg]
    clear h0 h1
    go_enter Tryd.func22, Tryd.ntmps22
    go_wp2_with fail
    with_reducible refine (I1.out _).mono ?_
    rintro e w1 ⟨rfl, rfl⟩
    go_wp2
    go_ret
    exact ⟨rfl, rfl⟩
  · obtain ⟨u, hu⟩ : ∃ u : Nat, n = -(u : Int) := ⟨(-n).toNat, by omega⟩
    rw [hu, Lib.itoa_neg u (by omega)]
    exact rneg_any u (by omega) (by omega) w
end Go.Proofs.YtmkpkbigceinfaaDoor
