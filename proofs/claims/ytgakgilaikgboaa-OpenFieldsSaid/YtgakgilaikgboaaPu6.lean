/- Opening: what the models come to. -/
import Derived.Test.YtgakgilaikgboaaPu1
namespace Go.Proofs.Ytgakgilaikgboaa
open Go.RowKit
set_option linter.unusedVariables false
set_option linter.unusedSimpArgs false
set_option maxRecDepth 100000
set_option maxHeartbeats 1000000

theorem loopC_more {σ ε R : Type} {step : σ → (σ → Option R) → (ε → Option R) → Option R} {bk : ε → Option R} {s : σ} (k : Nat) (h : k < 1000000) : loopC step bk (BIG - k) s = step s (fun s' => loopC step bk (BIG - (k + 1)) s') bk := by
  rw [show BIG - k = (BIG - (k + 1)) + 1 by unfold BIG; omega, loopC_succ]
theorem loopC_first {σ ε R : Type} {step : σ → (σ → Option R) → (ε → Option R) → Option R} {bk : ε → Option R} {s : σ} : loopC step bk BIG s = step s (fun s' => loopC step bk (BIG - 1) s') bk := by
  have := @loopC_more σ ε R step bk s 0 (by omega)
  rwa [Nat.sub_zero] at this
theorem octGet1c (x : UInt8) (t : List UInt8) : m_octet_Get (x :: t) 1 = some ((x.toNat : Int), t, true) := by
  rw [octGet_eq _ _ (by decide) (by decide), if_pos (by simp; omega)]
  simp [num]
theorem octGet2c (x y : UInt8) (t : List UInt8) : m_octet_Get (x :: y :: t) 2 = some (((x.toNat * 256 + y.toNat : Nat) : Int), t, true) := by
  rw [octGet_eq _ _ (by decide) (by decide), if_pos (by simp; omega)]
  simp [num]
theorem octGet4c (x y z u : UInt8) (t : List UInt8) : m_octet_Get (x :: y :: z :: u :: t) 4 = some (((num [x, y, z, u] : Nat) : Int), t, true) := by
  rw [octGet_eq _ _ (by decide) (by decide), if_pos (by simp; omega)]
  simp
theorem num4 (v : Int) (h : 0 ≤ v ∧ v < 4294967296) : ((num (putL v 4) : Nat) : Int) = v := by
  rw [num_putL]
  omega
theorem putL4 (v : Int) : putL v 4 = [octAt v 3, octAt v 2, octAt v 1, octAt v 0] := rfl
theorem putL2 (v : Int) : putL v 2 = [octAt v 1, octAt v 0] := rfl
theorem putL1 (v : Int) : putL v 1 = [octAt v 0] := rfl
theorem octTake_all (l t : List UInt8) (n : Int) (h : n = l.length) : m_octet_Take (l ++ t) n = some (l, t, true) := by
  rw [octTake_eq, if_pos (by rw [List.length_append]; omega), h, Int.toNat_natCast, List.take_left, List.drop_left]
theorem octAt0 (v : Int) (h : 0 ≤ v ∧ v < 256) : ((octAt v 0).toNat : Int) = v := by
  have := num_putL v 1
  rw [putL1] at this
  simp only [num, List.foldl_cons, List.foldl_nil, Nat.zero_mul, Nat.zero_add] at this
  rw [this]
  omega

/-- What is said of an AS. -/
def capA (v : Int) : List UInt8 := [2, 6, 65, 4] ++ putL v 4
def capR (v : Int) : List UInt8 := [2, 3, 9, 1] ++ putL v 1
/-- One parameter with the AS. -/
theorem read_A (k101 : Int × Int × Int × Int → Option (OpenSaid × Note)) (v r : Int) (hv : 0 ≤ v ∧ v < 4294967296) (t : List UInt8) (nx : List UInt8 × Int × Int → Option (OpenSaid × Note)) (bk : Int × Int → Option (OpenSaid × Note)) :
    s_open_read1 k101 (capA v ++ t, -1, r) nx bk = nx (t, v, r) := by
  rw [s_open_read1, capA]
  rw [putL4]
  simp only [List.cons_append, List.nil_append, List.length_cons, octGet1c, bd_some]
  rw [decide_eq_true (by omega), cond_true, show (65 :: 4 :: octAt v 3 :: octAt v 2 :: octAt v 1 :: octAt v 0 :: t : List UInt8) = [65, 4, octAt v 3, octAt v 2, octAt v 1, octAt v 0] ++ t from rfl, octTake_all _ _ _ (by simp), bd_some]
  simp -implicitDefEqProofs only [Bool.not_true, cond_false, jn_eq]
  rw [decide_eq_false (by decide), cond_false, loopC_first]
  rw [s_open_read2]
  simp only [List.length_cons, List.length_nil, octGet1c, bd_some]
  rw [decide_eq_true (by decide), cond_true, show ([octAt v 3, octAt v 2, octAt v 1, octAt v 0] : List UInt8) = [octAt v 3, octAt v 2, octAt v 1, octAt v 0] ++ [] from rfl, octTake_all _ _ _ (by simp), bd_some]
  simp -implicitDefEqProofs only [Bool.not_true, cond_false, jn_eq, List.length_cons, List.length_nil]
  rw [decide_eq_true (by decide), cond_true, decide_eq_false (by decide), cond_false, decide_eq_false (by decide), cond_false, cond_false, cond_true, decide_eq_true (by decide), cond_true, octGet4c, bd_some]
  rw [← putL4, num4 v hv]
  rw [decide_eq_false (by decide), cond_false, loopC_more 1 (by decide), s_open_read2]
  simp only [List.length_nil]
  rw [decide_eq_false (by decide), cond_false]
  rfl
theorem read_R (k101 : Int × Int × Int × Int → Option (OpenSaid × Note)) (v a : Int) (hv : 0 ≤ v ∧ v < 256) (t : List UInt8) (nx : List UInt8 × Int × Int → Option (OpenSaid × Note)) (bk : Int × Int → Option (OpenSaid × Note)) :
    s_open_read1 k101 (capR v ++ t, a, -1) nx bk = nx (t, a, v) := by
  rw [s_open_read1, capR]
  rw [putL1]
  simp only [List.cons_append, List.nil_append, List.length_cons, octGet1c, bd_some]
  rw [decide_eq_true (by omega), cond_true, show (9 :: 1 :: octAt v 0 :: t : List UInt8) = [9, 1, octAt v 0] ++ t from rfl, octTake_all _ _ _ (by simp), bd_some]
  simp -implicitDefEqProofs only [Bool.not_true, cond_false, jn_eq]
  rw [decide_eq_false (by decide), cond_false, loopC_first]
  rw [s_open_read2]
  simp only [List.length_cons, List.length_nil, octGet1c, bd_some]
  rw [decide_eq_true (by decide), cond_true, show ([octAt v 0] : List UInt8) = [octAt v 0] ++ [] from rfl, octTake_all _ _ _ (by simp), bd_some]
  simp -implicitDefEqProofs only [Bool.not_true, cond_false, jn_eq, List.length_cons, List.length_nil]
  rw [decide_eq_false (by decide), cond_false, decide_eq_true (by decide), cond_true, decide_eq_false (by decide), cond_false, cond_false, cond_true, decide_eq_true (by decide), cond_true, show ix [octAt v 0] 0 = some (octAt v 0) by rw [ix_eq]; rfl, bd_some]
  rw [w64 (by omega) (by have := (octAt v 0).toNat_lt; omega), octAt0 v hv, decide_eq_false (by decide), cond_false, loopC_more 1 (by decide), s_open_read2]
  simp only [List.length_nil]
  rw [decide_eq_false (by decide), cond_false]
  rfl
theorem read_eq (v r : Int) (hv : 0 ≤ v ∧ v < 4294967296) (hr : -1 ≤ r ∧ r < 256) : m_open_read (capA v ++ if r = -1 then [] else capR r) = some (⟨v, r⟩, ⟨0, 0, []⟩) := by
  unfold m_open_read
  rw [jn_eq, loopC_first, read_A _ v _ hv, loopC_more 1 (by decide)]
  by_cases h : r = -1
  · rw [if_pos h]
    rw [s_open_read1]
    simp only [List.length_nil]
    rw [decide_eq_false (by decide), cond_false, h]
  · rw [if_neg h, show capR r = capR r ++ [] by simp, read_R _ r _ (by omega), loopC_more 2 (by decide)]
    rw [s_open_read1]
    simp only [List.length_nil]
    rw [decide_eq_false (by decide), cond_false]
end Go.Proofs.Ytgakgilaikgboaa
