/- The walks of the document's answer for layer 3: sizes, what may be, what is put. -/
import Derived.Test.YtpoikmbogcggkaaMsgC
namespace Go.Proofs.Ytpoikmbogcggkaa
open Go.RowKit
set_option maxHeartbeats 400000
set_option maxRecDepth 100000
set_option linter.unusedVariables false
set_option linter.unusedSimpArgs false

theorem rleast_any (k : Int) (w : World) : Calls Try.prog 21 #[.int .i64 k] w fun e w' => e = .returned (.int .i64 (leastZ k)) ∧ w = w' := by
  cases h1 : (k == 1)
  · cases h2 : (k == 2)
    · cases h3 : (k == 3)
      · cases h4 : (k == 4)
        all_goals
          have HF := Lib.hid (show leastZ k = _ by simp only [leastZ, h1, h2, h3, h4, if_true, Bool.false_eq_true, if_false]; rfl)
          go_enter Try.func21, Try.ntmps21
          go_wp2
          go_ret
          exact ⟨by rw [HF.out]; rfl, rfl⟩
      · have HF := Lib.hid (show leastZ k = _ by simp only [leastZ, h1, h2, h3, if_true, Bool.false_eq_true, if_false]; rfl)
        go_enter Try.func21, Try.ntmps21
        go_wp2
        go_ret
        exact ⟨by rw [HF.out]; rfl, rfl⟩
    · have HF := Lib.hid (show leastZ k = _ by simp only [leastZ, h1, h2, if_true, Bool.false_eq_true, if_false]; rfl)
      go_enter Try.func21, Try.ntmps21
      go_wp2
      go_ret
      exact ⟨by rw [HF.out]; rfl, rfl⟩
  · have HF := Lib.hid (show leastZ k = _ by simp only [leastZ, h1, if_true]; rfl)
    go_enter Try.func21, Try.ntmps21
    go_wp2
    go_ret
    exact ⟨by rw [HF.out]; rfl, rfl⟩

def fitsB (k s : Int) : Bool := decide (0 < leastZ k) && (decide (leastZ k ≤ s) && (decide (s ≤ 4096) && (k != 4 || s == 19)))
theorem rfits_any (k s : Int) (w : World) : Calls Try.prog 27 #[.int .i64 k, .int .i64 s] w fun e w' => e = .returned (.bool (fitsB k s)) ∧ w = w' := by
  obtain ⟨L, hL⟩ : ∃ L, leastZ k = L := ⟨_, rfl⟩
  have HL := Lib.hid hL
  have hF : fitsB k s = (decide (0 < L) && (decide (L ≤ s) && (decide (s ≤ 4096) && (k != 4 || s == 19)))) := by unfold fitsB; rw [hL]
  have HF := Lib.hid hF
  clear hL hF
  have hcase : decide (0 < L) = false ∨ (decide (0 < L) = true ∧ decide (L ≤ s) = false) ∨ (decide (0 < L) = true ∧ decide (L ≤ s) = true ∧ decide (s ≤ 4096) = false) ∨ (decide (0 < L) = true ∧ decide (L ≤ s) = true ∧ decide (s ≤ 4096) = true ∧ (k != 4) = true)
      ∨ (decide (0 < L) = true ∧ decide (L ≤ s) = true ∧ decide (s ≤ 4096) = true ∧ (k != 4) = false ∧ (s == 19) = false) ∨ (decide (0 < L) = true ∧ decide (L ≤ s) = true ∧ decide (s ≤ 4096) = true ∧ (k != 4) = false ∧ (s == 19) = true) := by
    cases decide (0 < L) <;> cases decide (L ≤ s) <;> cases decide (s ≤ 4096) <;> cases (k != 4) <;> cases (s == 19) <;> simp
  rcases hcase with d1 | ⟨d1, d2⟩ | ⟨d1, d2, d3⟩ | ⟨d1, d2, d3, d4⟩ | ⟨d1, d2, d3, d4, d5⟩ | ⟨d1, d2, d3, d4, d5⟩
  · have HG := Lib.hid (show fitsB k s = false by rw [HF.out, d1]; rfl)
    clear HF
    go_enter Try.func27, Try.ntmps27
    go_wp2_with fail
    with_reducible refine (rleast_any _ _).mono ?_
    rw [HL.out]
    rintro e w1 ⟨rfl, rfl⟩
    try
      (go_wp2_with fail
       with_reducible refine (rleast_any _ _).mono ?_
       rw [HL.out]
       rintro e w1 ⟨rfl, rfl⟩)
    go_wp2
    go_ret
    exact ⟨by rw [HG.out]; rfl, rfl⟩
  · have HG := Lib.hid (show fitsB k s = false by rw [HF.out, d1, d2]; rfl)
    clear HF
    go_enter Try.func27, Try.ntmps27
    go_wp2_with fail
    with_reducible refine (rleast_any _ _).mono ?_
    rw [HL.out]
    rintro e w1 ⟨rfl, rfl⟩
    try
      (go_wp2_with fail
       with_reducible refine (rleast_any _ _).mono ?_
       rw [HL.out]
       rintro e w1 ⟨rfl, rfl⟩)
    go_wp2
    go_ret
    exact ⟨by rw [HG.out]; rfl, rfl⟩
  · have HG := Lib.hid (show fitsB k s = false by rw [HF.out, d1, d2, d3]; rfl)
    clear HF
    go_enter Try.func27, Try.ntmps27
    go_wp2_with fail
    with_reducible refine (rleast_any _ _).mono ?_
    rw [HL.out]
    rintro e w1 ⟨rfl, rfl⟩
    try
      (go_wp2_with fail
       with_reducible refine (rleast_any _ _).mono ?_
       rw [HL.out]
       rintro e w1 ⟨rfl, rfl⟩)
    go_wp2
    go_ret
    exact ⟨by rw [HG.out]; rfl, rfl⟩
  · have HG := Lib.hid (show fitsB k s = true by rw [HF.out, d1, d2, d3, d4]; rfl)
    clear HF
    go_enter Try.func27, Try.ntmps27
    go_wp2_with fail
    with_reducible refine (rleast_any _ _).mono ?_
    rw [HL.out]
    rintro e w1 ⟨rfl, rfl⟩
    try
      (go_wp2_with fail
       with_reducible refine (rleast_any _ _).mono ?_
       rw [HL.out]
       rintro e w1 ⟨rfl, rfl⟩)
    go_wp2
    go_ret
    exact ⟨by rw [HG.out]; rfl, rfl⟩
  · have HG := Lib.hid (show fitsB k s = false by rw [HF.out, d1, d2, d3, d4, d5]; rfl)
    clear HF
    go_enter Try.func27, Try.ntmps27
    go_wp2_with fail
    with_reducible refine (rleast_any _ _).mono ?_
    rw [HL.out]
    rintro e w1 ⟨rfl, rfl⟩
    try
      (go_wp2_with fail
       with_reducible refine (rleast_any _ _).mono ?_
       rw [HL.out]
       rintro e w1 ⟨rfl, rfl⟩)
    go_wp2
    go_ret
    exact ⟨by rw [HG.out]; rfl, rfl⟩
  · have HG := Lib.hid (show fitsB k s = true by rw [HF.out, d1, d2, d3, d4, d5]; rfl)
    clear HF
    go_enter Try.func27, Try.ntmps27
    go_wp2_with fail
    with_reducible refine (rleast_any _ _).mono ?_
    rw [HL.out]
    rintro e w1 ⟨rfl, rfl⟩
    try
      (go_wp2_with fail
       with_reducible refine (rleast_any _ _).mono ?_
       rw [HL.out]
       rintro e w1 ⟨rfl, rfl⟩)
    go_wp2
    go_ret
    exact ⟨by rw [HG.out]; rfl, rfl⟩

theorem fitsB_sane (t : Int) (n : Nat) : fitsB t (n + 19) = saneB t n := by
  rw [Bool.eq_iff_iff]
  unfold fitsB saneB wrongB
  simp only [Bool.and_eq_true, decide_eq_true_eq, Bool.or_eq_true, bne_iff_ne, beq_iff_eq, Bool.not_eq_true', Bool.or_eq_false_iff, decide_eq_false_iff_not, Bool.and_eq_false_iff, bne_eq_false_iff_eq, beq_eq_false_iff_ne, ne_eq]
  omega
theorem fitsB_wrong (t s : Int) (h0 : (leastZ t == 0) = false) (h2 : s ≤ 4096) : fitsB t s = !wrongB t s := by
  have hb := leastZ_bd t
  have h1 : leastZ t ≠ 0 := by simpa using h0
  rw [Bool.eq_iff_iff]
  unfold fitsB wrongB
  simp only [Bool.and_eq_true, decide_eq_true_eq, Bool.or_eq_true, bne_iff_ne, beq_iff_eq, Bool.not_eq_true', Bool.or_eq_false_iff, decide_eq_false_iff_not, Bool.and_eq_false_iff, bne_eq_false_iff_eq, beq_eq_false_iff_ne, ne_eq]
  omega

theorem rsane_any (t : Int) (A : Option Addr) (n c : Nat) (w : World) (hn : n ≤ 140737488355328) :
    Calls Try.prog 23 #[.agg #[.int .i64 t, .slice A n c]] w fun e w' => e = .returned (.bool (saneB t n)) ∧ Below w.heap.size w w' := by
  have HF := Lib.hid (fitsB_sane t n)
  go_enter Try.func23, Try.ntmps23
  go_wp2_with fail
  with_reducible refine (rfits_any _ _ _).mono ?_
  rw [HF.out]
  rintro e w1 ⟨rfl, rfl⟩
  go_wp2
  go_ret
  exact ⟨rfl, bnew _ _⟩

theorem getM_head (a b c : UInt8) (R : List UInt8) : getM (List.replicate 16 255 ++ (a :: b :: c :: R)) =
    if 19 ≤ ((a.toNat * 256 + b.toNat : Nat) : Int) ∧ ((a.toNat * 256 + b.toNat : Nat) : Int) ≤ 4096 then
      if (leastZ c.toNat == 0) = true then ⟨0, [], 0, 1, 3, [c]⟩
      else if wrongB c.toNat ((a.toNat * 256 + b.toNat : Nat) : Int) = true then ⟨0, [], 0, 1, 2, [a, b]⟩
      else if R.length + 19 < a.toNat * 256 + b.toNat then ⟨0, [], 0, 0, 0, []⟩
      else ⟨c.toNat, R.take (a.toNat * 256 + b.toNat - 19), (a.toNat * 256 + b.toNat : Nat), 0, 0, []⟩
    else ⟨0, [], 0, 1, 2, [a, b]⟩ := by
  have hl : (List.replicate 16 255 ++ (a :: b :: c :: R)).length = R.length + 19 := by simp
  have ec : octAt (c.toNat : Int) 0 = c := octAt_one c
  have p2 : putL ((a.toNat * 256 + b.toNat : Nat) : Int) 2 = [a, b] := by
    have : putL ((a.toNat * 256 + b.toNat : Nat) : Int) 2 = [octAt ((a.toNat * 256 + b.toNat : Nat) : Int) 1, octAt ((a.toNat * 256 + b.toNat : Nat) : Int) 0] := by simp [putL, List.range_succ]
    rw [this, octAt_hi, octAt_lo]
  have p1 : putL (c.toNat : Int) 1 = [c] := by
    have : putL (c.toNat : Int) 1 = [octAt (c.toNat : Int) 0] := by simp [putL, List.range_succ]
    rw [this, ec]
  by_cases h2 : 19 ≤ ((a.toNat * 256 + b.toNat : Nat) : Int) ∧ ((a.toNat * 256 + b.toNat : Nat) : Int) ≤ 4096
  · rw [if_pos h2]
    cases h3 : (leastZ c.toNat == 0)
    · rw [if_neg (by decide)]
      cases h4 : wrongB c.toNat ((a.toNat * 256 + b.toNat : Nat) : Int)
      · rw [if_neg (by decide)]
        have hne : leastZ (c.toNat : Int) ≠ 0 := by
          intro e
          rw [e] at h3
          simp at h3
        have hbd := leastZ_bd (c.toNat : Int)
        have hk : OkS (c.toNat : Int) (a.toNat * 256 + b.toNat) := ⟨by omega, h4, by omega⟩
        have hf := getM_form hk R
        rw [octAt_hi, octAt_lo, ec] at hf
        exact hf
      · rw [if_pos rfl]
        unfold getM
        rw [head_szN, head_kdN, head_take, decide_eq_true rfl, hl, if_neg (by omega)]
        have hf : faultN true ((a.toNat * 256 + b.toNat : Nat) : Int) c.toNat = (1, 2, [a, b]) := by
          unfold faultN
          rw [if_neg (by decide), if_pos h2, if_neg (by rw [h3]; decide), if_pos h4, p2]
        rw [hf, if_pos (.inl (show (0 : Int) < 1 by decide))]
    · rw [if_pos rfl]
      unfold getM
      rw [head_szN, head_kdN, head_take, decide_eq_true rfl, hl, if_neg (by omega)]
      have hf : faultN true ((a.toNat * 256 + b.toNat : Nat) : Int) c.toNat = (1, 3, [c]) := by
        unfold faultN
        rw [if_neg (by decide), if_pos h2, if_pos h3, p1]
      rw [hf, if_pos (.inl (show (0 : Int) < 1 by decide))]
  · rw [if_neg h2]
    unfold getM
    rw [head_szN, head_kdN, head_take, decide_eq_true rfl, hl, if_neg (by omega)]
    have hf : faultN true ((a.toNat * 256 + b.toNat : Nat) : Int) c.toNat = (1, 2, [a, b]) := by
      unfold faultN
      rw [if_neg (by decide), if_neg h2, p2]
    rw [hf, if_pos (.inl (show (0 : Int) < 1 by decide))]
theorem getM_unmarked {l : List UInt8} (h : 19 ≤ l.length) (hP : ¬ l.take 16 = List.replicate 16 255) : getM l = ⟨0, [], 0, 1, 1, []⟩ := by
  unfold getM
  rw [if_neg (by omega), decide_eq_false hP]
  have hf : faultN false (szN l) (kdN l) = (1, 1, []) := by unfold faultN; rw [if_pos rfl]
  rw [hf, if_pos (.inl (show (0 : Int) < 1 by decide))]
end Go.Proofs.Ytpoikmbogcggkaa
