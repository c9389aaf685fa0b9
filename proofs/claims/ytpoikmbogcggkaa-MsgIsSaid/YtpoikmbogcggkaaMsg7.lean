/- What is put is got: plain lemmas on lists. -/
import Derived.Test.YtpoikmbogcggkaaMsg6
namespace Go.Proofs.Ytpoikmbogcggkaa
open Go.RowKit
set_option maxHeartbeats 400000
set_option linter.unusedVariables false
set_option linter.unusedSimpArgs false

theorem octAt_toNat (v : Int) (j : Nat) : ((octAt v j).toNat : Int) = v / (2 : Int) ^ (8 * j) % 256 := by
  have := bv_octAt v j
  unfold bv at this
  injection this
theorem octAt_small (v : Int) (h0 : 0 ≤ v) (h1 : v < 256) : ((octAt v 0).toNat : Int) = v := by
  rw [octAt_toNat]
  simp
  omega
theorem octAt_two (v : Int) (h0 : 0 ≤ v) (h1 : v < 65536) : ((octAt v 1).toNat : Int) * 256 + ((octAt v 0).toNat : Int) = v := by
  rw [octAt_toNat, octAt_toNat]
  simp
  omega
theorem leastZ_kind {t : Int} (h : 0 < leastZ t) : 1 ≤ t ∧ t ≤ 4 ∧ 19 ≤ leastZ t := by
  unfold leastZ at h ⊢
  split at h
  · rename_i e; have := eq_of_beq e; subst this; simp
  · split at h
    · rename_i e; have := eq_of_beq e; subst this; simp
    · split at h
      · rename_i e; have := eq_of_beq e; subst this; simp
      · split at h
        · rename_i e; have := eq_of_beq e; subst this; simp
        · omega
/-- A size that a kind may have. -/
def OkS (t : Int) (s : Nat) : Prop := 0 < leastZ t ∧ wrongB t s = false ∧ s ≤ 4096
theorem OkS.ge {t : Int} {s : Nat} (h : OkS t s) : 19 ≤ s := by
  have h1 := (leastZ_kind h.1).2.2
  have h2 := h.2.1
  unfold wrongB at h2
  rw [Bool.or_eq_false_iff] at h2
  have := of_decide_eq_false h2.1
  omega
theorem okS_of_sane {t : Int} {n : Nat} (h : saneB t n = true) : OkS t (19 + n) := by
  unfold saneB at h
  rw [Bool.and_eq_true, Bool.and_eq_true] at h
  obtain ⟨h1, h2, h3⟩ := h
  refine ⟨of_decide_eq_true h1, ?_, ?_⟩
  · rw [Bool.not_eq_true'] at h2
    rw [← h2]
    congr 1
  · have := of_decide_eq_true h3
    omega
theorem sane_of_okS {t : Int} {s : Nat} (h : OkS t s) : saneB t (s - 19) = true := by
  have hg := h.ge
  unfold saneB
  have e : (19 : Int) + ((s - 19 : Nat) : Int) = (s : Int) := by omega
  rw [e, h.2.1, decide_eq_true h.1, decide_eq_true (show (s : Int) ≤ 4096 by have := h.2.2; omega)]
  rfl
theorem faultN_ok {t : Int} {s : Nat} (h : OkS t s) : faultN true s t = (0, 0, []) := by
  have h1 := h.ge
  have h2 := h.2.2
  unfold faultN
  rw [if_neg (by decide), if_pos (by omega), if_neg (by simp; have := h.1; omega), if_neg (by rw [h.2.1]; decide)]

theorem head_szN (a b c : UInt8) (R : List UInt8) : szN (List.replicate 16 255 ++ (a :: b :: c :: R)) = a.toNat * 256 + b.toNat := rfl
theorem head_kdN (a b c : UInt8) (R : List UInt8) : kdN (List.replicate 16 255 ++ (a :: b :: c :: R)) = c.toNat := rfl
theorem head_take (R : List UInt8) : (List.replicate 16 255 ++ R).take 16 = List.replicate 16 255 := rfl
theorem head_drop (a b c : UInt8) (R : List UInt8) (k : Nat) : (List.replicate 16 255 ++ (a :: b :: c :: R)).drop (19 + k) = R.drop k := by
  rw [← List.drop_drop]
  rfl

theorem getM_form {t : Int} {s : Nat} (h : OkS t s) (R : List UInt8) :
    getM (List.replicate 16 255 ++ (octAt s 1 :: octAt s 0 :: octAt t 0 :: R)) = if R.length + 19 < s then ⟨0, [], 0, 0, 0, []⟩ else ⟨t, R.take (s - 19), s, 0, 0, []⟩ := by
  have h1 := h.ge
  have h2 := h.2.2
  obtain ⟨k1, k2, _⟩ := leastZ_kind h.1
  have e1 := octAt_two s (by omega) (by omega)
  have e2 := octAt_small t (by omega) (by omega)
  have e3 : (octAt s 1).toNat * 256 + (octAt s 0).toNat = s := by omega
  unfold getM
  rw [head_szN, head_kdN, head_take, e3, e2, decide_eq_true rfl, faultN_ok h]
  have hl : (List.replicate 16 255 ++ (octAt s 1 :: octAt s 0 :: octAt t 0 :: R)).length = R.length + 19 := by simp
  rw [hl, if_neg (by omega)]
  by_cases hc : R.length + 19 < s
  · rw [if_pos (.inr hc), if_pos hc]
  · rw [if_neg (by simp; omega), if_neg hc]
    congr 1
    rw [List.drop_take, show (19 : Nat) = 19 + 0 from rfl, head_drop]
    simp

theorem msgL_form (t : Int) (body : List UInt8) : msgL t body = List.replicate 16 255 ++ (octAt ((19 + body.length : Nat) : Int) 1 :: octAt ((19 + body.length : Nat) : Int) 0 :: octAt t 0 :: body) := by
  unfold msgL headL
  have e : (19 + (body.length : Int)) = ((19 + body.length : Nat) : Int) := by omega
  rw [e]
  simp [putL, List.range_succ]
theorem msgL_length (t : Int) (body : List UInt8) : (msgL t body).length = 19 + body.length := by
  rw [msgL_form]; simp; omega
theorem getM_msg {t : Int} {body : List UInt8} (h : saneB t body.length = true) (more : List UInt8) : getM (msgL t body ++ more) = ⟨t, body, (19 + body.length : Nat), 0, 0, []⟩ := by
  have hk := okS_of_sane h
  rw [msgL_form, List.append_assoc]
  simp only [List.cons_append]
  rw [getM_form hk, if_neg (by simp; omega)]
  congr 1
  rw [show 19 + body.length - 19 = body.length by omega]
  exact List.take_left
theorem getM_cut {t : Int} {body : List UInt8} (h : saneB t body.length = true) (k : Nat) (hk : k < 19 + body.length) : getM ((msgL t body).take k) = ⟨0, [], 0, 0, 0, []⟩ := by
  by_cases h1 : k < 19
  · unfold getM
    rw [if_pos (by rw [List.length_take]; omega)]
  · obtain ⟨j, rfl⟩ : ∃ j, k = 19 + j := ⟨k - 19, by omega⟩
    have e : (msgL t body).take (19 + j) = List.replicate 16 255 ++ (octAt ((19 + body.length : Nat) : Int) 1 :: octAt ((19 + body.length : Nat) : Int) 0 :: octAt t 0 :: body.take j) := by
      rw [msgL_form, List.take_append]
      simp only [List.length_replicate]
      rw [List.take_of_length_le (by simp; omega), show 19 + j - 16 = j + 1 + 1 + 1 by omega]
      rfl
    rw [e, getM_form (okS_of_sane h), if_pos (by rw [List.length_take]; omega)]
end Go.Proofs.Ytpoikmbogcggkaa
