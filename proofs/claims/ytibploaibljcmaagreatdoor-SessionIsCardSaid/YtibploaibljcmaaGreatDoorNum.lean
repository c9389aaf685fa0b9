import Derived.Laws.BitsAllLaws
import Derived.Laws.BitsLemmas
import Derived.IntWalk
import Derived.WalkKit
namespace Go.Proofs.YtibploaibljcmaaGreatDoor
theorem toNat_of_i64 (a : Nat) (h : a < 2 ^ 63) : (BitVec.ofInt 64 (a : Int)).toNat = a := by
 rw [BitVec.ofInt_natCast, BitVec.toNat_ofNat]
 exact Nat.mod_eq_of_lt (by omega)
theorem or_i64 (a b : Nat) (ha : a < 2 ^ 63) (hb : b < 2 ^ 63) : bits .or .i64 (a : Int) (b : Int) = ((a ||| b : Nat) : Int) := by
 have h : a ||| b < 2 ^ 63 := Nat.or_lt_two_pow ha hb
 show IntKind.i64.wrap ((BitVec.ofInt 64 (a : Int) ||| BitVec.ofInt 64 (b : Int)).toNat : Int) = _
 rw [BitVec.toNat_or, toNat_of_i64 a ha, toNat_of_i64 b hb, IntKind.wrap_i64]
 omega
theorem or_byte (m : Nat) (x : Nat) (hx : x < 256) (hm : m < 16777216) : bits .or .i64 ((m : Int) * 256) (x : Int) = ((m * 256 + x : Nat) : Int) := by
 have := or_i64 (m * 256) x (by omega) (by omega)
 rw [show ((m : Int) * 256) = ((m * 256 : Nat) : Int) by omega, this]
 have h := Nat.shiftLeft_add_eq_or_of_lt (i := 8) (b := x) (by omega) m
 rw [Nat.shiftLeft_eq] at h
 rw [← h]
theorem and_mask (v : Int) (j : Nat) (hj : j ≤ 62) : bits .and .i64 v ((2 : Int) ^ j - 1) = v % (2 : Int) ^ j := by
 have hp : (2 : Nat) ^ j ≤ 2 ^ 62 := Nat.pow_le_pow_right (by omega) hj
 have hp0 : 0 < (2 : Nat) ^ j := Nat.two_pow_pos j
 have hpc : ((2 : Int) ^ j) = ((2 ^ j : Nat) : Int) := by simp
 have hm : ((2 : Int) ^ j - 1) = ((2 ^ j - 1 : Nat) : Int) := by rw [hpc]; omega
 have e1 : (BitVec.ofInt 64 ((2 : Int) ^ j - 1)).toNat = 2 ^ j - 1 := by rw [hm]; exact toNat_of_i64 _ (by omega)
 show IntKind.i64.wrap ((BitVec.ofInt 64 v &&& BitVec.ofInt 64 ((2 : Int) ^ j - 1)).toNat : Int) = _
 rw [BitVec.toNat_and, e1, Nat.and_two_pow_sub_one_eq_mod, BitVec.toNat_ofInt, IntKind.wrap_i64, hpc]
 have hd : ((2 ^ j : Nat) : Int) ∣ ((2 ^ 64 : Nat) : Int) := by
   rw [Int.natCast_dvd_natCast]
   exact Nat.pow_dvd_pow 2 (by omega)
 have h0 : 0 ≤ v % ((2 ^ 64 : Nat) : Int) := Int.emod_nonneg _ (by decide)
 have e2 : (((v % ((2 ^ 64 : Nat) : Int)).toNat % 2 ^ j : Nat) : Int) = v % ((2 ^ j : Nat) : Int) := by
   rw [Int.natCast_emod, Int.toNat_of_nonneg h0, Int.emod_emod_of_dvd _ hd]
 rw [e2]
 have h1 := Int.emod_nonneg v (show ((2 ^ j : Nat) : Int) ≠ 0 by omega)
 have h2 := Int.emod_lt_of_pos v (show 0 < ((2 ^ j : Nat) : Int) by omega)
 omega
end Go.Proofs.YtibploaibljcmaaGreatDoor
