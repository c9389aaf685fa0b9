/- The walks of the reference of layer 2 that layer 10 needs. -/
import Derived.Test.YtmlhbmlppgoklabPol6
namespace Go.Proofs.Ytmlhbmlppgoklab
open Go.RowKit
set_option maxHeartbeats 4000000
set_option linter.unusedVariables false
set_option linter.unusedSimpArgs false

def gapN (n : Int) : Nat := (32 - min (max n 0) 32).toNat
theorem pow_bd (j : Nat) (h : j ≤ 31) : 2 ^ j ≤ 2147483648 := by
  have : 2 ^ j ≤ 2 ^ 31 := Nat.pow_le_pow_right (by decide) h
  omega
theorem rsize_any (n : Int) (w : World) : Calls Try.prog 38 #[.int .i64 n] w fun e w' => e = .returned (.int .i64 ((2 ^ gapN n : Nat) : Int)) ∧ w = w' := by
  rcases (show n < 0 ∨ (0 ≤ n ∧ n ≤ 32) ∨ (0 ≤ n ∧ 33 ≤ n) by omega) with h | ⟨h, h2⟩ | ⟨h, h2⟩
  · have HG := Lib.hid (show gapN n = 32 - (0 : Nat) by unfold gapN; omega)
    obtain ⟨p, hp⟩ : ∃ p : Nat, (0 : Nat) = p := ⟨_, rfl⟩
    have hp32 : p ≤ 32 := by omega
    have hpn : p = (0 : Nat) := hp.symm
    rw [hp] at HG
    have HP := Lib.hid hpn
    have hstart : (if n < 0 then (0 : Int) else n) = p := by split <;> omega
    have HST := Lib.hid hstart
    clear hp hpn hstart
    go_enter Try.func38, Try.ntmps38
    go_wp2
    go_loopw [3, 4] (fun s i wr => ∃ j : Nat, p + j ≤ 32 ∧ i = .int .i64 ((p + j : Nat) : Int) ∧ s = .int .i64 ((2 ^ j : Nat) : Int) ∧ wr = w) (fun _ i _ => 32 - (intOf i).toNat)
    case atStart => exact ⟨0, by omega, by first | (rw [show ((p + 0 : Nat) : Int) = 0 by have := HP.out; omega]) | (rw [show ((p + 0 : Nat) : Int) = n by have := HP.out; omega]), rfl, rfl⟩
    case round =>
      obtain ⟨j, hj, rfl, rfl, rfl⟩ := hrel
      by_cases hlt : p + j < 32
      · have hb := pow_bd j (by omega)
        have hst := Lib.hid (show ((2 ^ (j + 1) : Nat) : Int) = ((2 ^ j : Nat) : Int) * 2 by rw [Nat.pow_succ]; simp)
        obtain ⟨S, hS⟩ : ∃ S : Nat, 2 ^ j = S := ⟨_, rfl⟩
        rw [hS] at hb hst
        have HSS := Lib.hid hS
        clear hS
        obtain ⟨q, hq⟩ : ∃ q : Nat, p + j = q := ⟨_, rfl⟩
        rw [hq] at hlt hj
        have HQ := Lib.hid hq
        rw [HSS.out, HQ.out]
        clear hq
        have hlt' : (q : Int) < 32 := by omega
        go_wp2
        go_roundw
        case rel => exact ⟨j + 1, by have := HQ.out; omega, by rw [show ((p + (j + 1) : Nat) : Int) = (q : Int) + 1 by have := HQ.out; omega], by rw [hst.out], by first | trivial | rfl⟩
        case measure => simp [intOf]; omega
      · have hj32 : j = 32 - p := by omega
        subst hj32
        rw [show p + (32 - p) = 32 by omega]
        go_wp2
        go_ret
        exact ⟨by rw [HG.out]; rfl, by first | trivial | rfl⟩
  · have HG := Lib.hid (show gapN n = 32 - n.toNat by unfold gapN; omega)
    obtain ⟨p, hp⟩ : ∃ p : Nat, n.toNat = p := ⟨_, rfl⟩
    have hp32 : p ≤ 32 := by omega
    have hpn : p = n.toNat := hp.symm
    rw [hp] at HG
    have HP := Lib.hid hpn
    have hstart : (if n < 0 then (0 : Int) else n) = p := by split <;> omega
    have HST := Lib.hid hstart
    clear hp hpn hstart
    go_enter Try.func38, Try.ntmps38
    go_wp2
    go_loopw [3, 4] (fun s i wr => ∃ j : Nat, p + j ≤ 32 ∧ i = .int .i64 ((p + j : Nat) : Int) ∧ s = .int .i64 ((2 ^ j : Nat) : Int) ∧ wr = w) (fun _ i _ => 32 - (intOf i).toNat)
    case atStart => exact ⟨0, by omega, by first | (rw [show ((p + 0 : Nat) : Int) = 0 by have := HP.out; omega]) | (rw [show ((p + 0 : Nat) : Int) = n by have := HP.out; omega]), rfl, rfl⟩
    case round =>
      obtain ⟨j, hj, rfl, rfl, rfl⟩ := hrel
      by_cases hlt : p + j < 32
      · have hb := pow_bd j (by omega)
        have hst := Lib.hid (show ((2 ^ (j + 1) : Nat) : Int) = ((2 ^ j : Nat) : Int) * 2 by rw [Nat.pow_succ]; simp)
        obtain ⟨S, hS⟩ : ∃ S : Nat, 2 ^ j = S := ⟨_, rfl⟩
        rw [hS] at hb hst
        have HSS := Lib.hid hS
        clear hS
        obtain ⟨q, hq⟩ : ∃ q : Nat, p + j = q := ⟨_, rfl⟩
        rw [hq] at hlt hj
        have HQ := Lib.hid hq
        rw [HSS.out, HQ.out]
        clear hq
        have hlt' : (q : Int) < 32 := by omega
        go_wp2
        go_roundw
        case rel => exact ⟨j + 1, by have := HQ.out; omega, by rw [show ((p + (j + 1) : Nat) : Int) = (q : Int) + 1 by have := HQ.out; omega], by rw [hst.out], by first | trivial | rfl⟩
        case measure => simp [intOf]; omega
      · have hj32 : j = 32 - p := by omega
        subst hj32
        rw [show p + (32 - p) = 32 by omega]
        go_wp2
        go_ret
        exact ⟨by rw [HG.out]; rfl, by first | trivial | rfl⟩
  · have HG := Lib.hid (show gapN n = 0 by unfold gapN; omega)
    have h3 : ¬ n < 32 := by omega
    go_enter Try.func38, Try.ntmps38
    go_wp2
    go_loopw [3, 4] (fun s i wr => i = .int .i64 n ∧ s = .int .i64 1 ∧ wr = w) (fun _ _ _ => 0)
    case atStart => exact ⟨rfl, rfl, rfl⟩
    case round =>
      obtain ⟨rfl, rfl, rfl⟩ := hrel
      go_wp2
      go_ret
      exact ⟨by rw [HG.out]; rfl, by first | trivial | rfl⟩
theorem mask_sub (x S : Nat) (h : 1 ≤ S) : (x : Int) - (x : Int) % S = (x : Int) / S * S := by
  have := Int.emod_add_mul_ediv (x : Int) S
  rw [Int.mul_comm] at this
  omega
theorem rmask_any (a n : Int) (w : World) : Calls Try.prog 35 #[.int .i64 a, .int .i64 n] w fun e w' => e = .returned (.int .i64 (maskZ a n)) ∧ w = w' := by
  have hand := and_mask a 32 (by omega)
  rw [show (2 : Int) ^ 32 - 1 = 4294967295 by decide, show (2 : Int) ^ 32 = 4294967296 by decide] at hand
  obtain ⟨x, hx⟩ : ∃ x : Nat, a % 4294967296 = x := ⟨(a % 4294967296).toNat, by omega⟩
  have hxl : x ≤ 4294967295 := by omega
  rw [hx] at hand
  obtain ⟨S, hS⟩ : ∃ S : Nat, 2 ^ gapN n = S := ⟨_, rfl⟩
  have hS1 : 1 ≤ S := by rw [← hS]; exact Nat.one_le_two_pow
  have hS2 : S ≤ 4294967296 := by
    rw [← hS]
    have : 2 ^ gapN n ≤ 2 ^ 32 := Nat.pow_le_pow_right (by decide) (by unfold gapN; omega)
    omega
  have HF := Lib.hid (show maskZ a n = (x : Int) - (x : Int) % S by
    rw [mask_sub x S hS1]
    unfold maskZ
    rw [hx, ← hS]
    simp [gapN])
  have HS := Lib.hid hS
  have hmod : (x : Int) % S ≤ x ∧ 0 ≤ (x : Int) % S := by
    have h1 : ((x : Int) % S) = ((x % S : Nat) : Int) := by simp
    have h2 := Nat.mod_le x S
    omega
  have HMOD := Lib.hid hmod
  have hx0 : (x : Int) ≤ 4294967295 := by omega
  have hs0 : (0 : Int) < S := by omega
  clear hS hx hmod
  go_enter Try.func35, Try.ntmps35
  go_wp2_with fail
  with_reducible refine (rsize_any n w).mono ?_
  rw [HS.out]
  rintro e w1 ⟨rfl, rfl⟩
  have hm1 := HMOD.out.1
  have hm2 := HMOD.out.2
  go_wp2
  go_ret
  exact ⟨by rw [HF.out]; rfl, rfl⟩
end Go.Proofs.Ytmlhbmlppgoklab
