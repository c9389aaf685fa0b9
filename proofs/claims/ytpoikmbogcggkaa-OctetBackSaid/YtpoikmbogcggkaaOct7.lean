/- The law OctetBack. -/
import Derived.Test.YtpoikmbogcggkaaOct3
namespace Go.Proofs.Ytpoikmbogcggkaa
open Go.RowKit
set_option maxHeartbeats 200000
set_option linter.unusedVariables false
set_option linter.unusedSimpArgs false

theorem num_putL (v : Int) : ∀ k : Nat, ((num (putL v k) : Nat) : Int) = v % (256 : Int) ^ k := by
  intro k
  induction k generalizing v with
  | zero => simp [putL, num]
  | succ k ih =>
    have e : putL v (k + 1) = putL (v / 256) k ++ [octAt v 0] := by
      unfold putL
      rw [List.range_succ, List.map_append, List.map_singleton]
      congr 1
      · apply List.map_congr_left
        intro i hi
        rw [List.mem_range] at hi
        rw [show k + 1 - 1 - i = 1 + (k - 1 - i) by omega, ← octAt_div _ 1, show (2 : Int) ^ (8 * 1) = 256 by decide]
      · rw [show k + 1 - 1 - k = 0 by omega]
    have e0 : ((octAt v 0).toNat : Int) = v % 256 := by
      have := bv_octAt v 0
      unfold bv at this
      injection this with _ h
      simpa using h
    rw [e, num_snoc, Int.natCast_add, Int.natCast_mul, ih, e0, Int.pow_succ, Int.mul_comm ((256 : Int) ^ k) 256]
    have hp : (0 : Int) < 256 ^ k := Int.pow_pos (by decide)
    generalize (256 : Int) ^ k = p at *
    have h1 := Int.emod_add_mul_ediv v (256 * p)
    have h2 := Int.emod_add_mul_ediv (v / 256) p
    have h3 : v / (256 * p) = v / 256 / p := by rw [Int.ediv_ediv, if_neg (by omega), Int.sub_zero]
    rw [h3, Int.mul_assoc] at h1
    generalize v / 256 / p = q at *
    generalize p * q = r at *
    omega

theorem back_1 (w0 : World) (v n : Int) (A : Option Addr) (m c : Nat) (l : List UInt8) (h : RdB w0 A m c l) (h400 : m ≤ 400) (hm3 : bits .and .i64 n 3 = 0) :
    Calls Try.prog 4 #[.int .i64 v, .int .i64 n, .slice A m c] w0 fun e w' => e = .returned (.bool true) ∧ Below w0.heap.size w0 w' := by
  have h4 : ¬ (400 : Int) < m := by omega
  have hx : bits .and .i64 v 255 = ((num (putL v 1) : Nat) : Int) := by
    have := and_mask v (8 * 1) (by omega)
    rw [num_putL, show (256 : Int) ^ 1 = 2 ^ (8 * 1) by decide, ← this]
    rfl
  obtain ⟨i0, hi, hz0, hz1, hz2⟩ := info_row infoB
  have HI := Lib.hid hi
  have H0 := Lib.hid hz0
  have H1 := Lib.hid hz1
  have H2 := Lib.hid hz2
  have HL := Lib.hid h.len
  clear hi hz0 hz1 hz2
  go_enter Try.func4, Try.ntmps4
  go_wp2_with fail
  refine (awake_any _).mono ?_
  rintro e w1 ⟨rfl, hb1⟩
  go_wp2_with fail
  refine (put_yes _ _ _ _ _ 1 _ (RdB.nil _) (by omega) (by omega) (by omega)).mono ?_
  rintro e w2 ⟨A2, c2, rfl, ho2, hb2⟩
  have hr2 := rdB_of_own ho2
  have hc2 : (1 : Int) - 1 ≤ c2 := by have := hr2.le; omega
  have hc2' : (1 : Int) ≤ c2 := by have := hr2.le; omega
  have hg := own_empty w2 5 1 (Nat.le_refl _)
  have hb3 := bnew w2 (.cells #[] 5)
  have hl2 := hr2.lies.below hb3
  have d2 : 0 + 1 ≤ maxLen := by unfold maxLen; omega
  have d3 : (0 + 1) * 1 ≤ 140737488355328 := by omega
  rw [List.nil_append] at hl2
  have d4 : 0 + 1 + m ≤ maxLen := by unfold maxLen; omega
  have d5 : (0 + 1 + m) * 1 ≤ 140737488355328 := by omega
  go_wp2_with (first
    | (at_builtin; refine wpList_append_gr _ rfl _ _ 22 rfl w2.heap.size 5 i0 (.int .u8 0) 1 1 Try.underlying22 HI.out H0.out H1.out H2.out rfl (by decide) _ 0 [] rfl (.inl hg) _ 1 _ _ rfl (by rw [List.length_map, putL_length]) hl2 ?_ (oneCell_bv _) d2 d3 hb3.size; intro A3 c3 w3 hG3; have ho3 := hG3.own (.inr hg); have hb4 := hb3.trans hG3.below; have hl3 := (h.below (bstep hb1 (bstep hb2 hb4))).lies; clear hg hb3 hl2 hG3)
    | (at_builtin; refine wpList_append_gr _ rfl _ _ 22 rfl w2.heap.size 5 i0 (.int .u8 0) 1 1 Try.underlying22 HI.out H0.out H1.out H2.out rfl (by decide) _ (0 + 1) _ rfl (.inl ho3) A m _ _ rfl (by rw [List.length_map, HL.out, Nat.mul_one]) hl3 ?_ (oneCell_bv _) d4 d5 hb4.size; intro A4 c4 w4 hG4; have ho4 := hG4.own (.inr ho3); have hb5 := hb4.trans hG4.below; clear ho3 hl3 hb4 hG4)
    | fail)
  rw [List.nil_append, ← List.map_append] at ho4
  simp only [Nat.zero_add] at ho4
  have hr4 := rdB_of_own ho4
  have HB5 := Lib.hid (bstep hb1 (bstep hb2 hb5))
  have hr2' := (hr2.below hb5)
  clear ho4
  have hget : Calls Try.prog 9 #[.slice A4 (1 + m) c4, .int .i64 1] w4 (Got w4 (1 + m) 1 (putL v 1 ++ l)) := get_yes _ _ _ _ 1 _ hr4 (by omega) (by omega) (by omega)
  unfold Got at hget
  rw [List.take_left' (putL_length v 1), List.drop_left' (putL_length v 1)] at hget
  with_reducible refine hget.mono ?_
  clear hget
  rintro e w5 ⟨A5, c5, rfl, hr5, hb6⟩
  go_wp2_with fail
  with_reducible refine (get_no _ _ _ _ _ (by omega)).mono ?_
  rintro e w6 ⟨rfl, rfl⟩
  have s5 := hr5.str
  simp only [Nat.add_sub_cancel_left] at s5
  have s6 := (h.below (bstep HB5.out hb6)).str
  go_wp2
  go_ret
  exact ⟨rfl, bstep HB5.out hb6⟩
theorem back_2 (w0 : World) (v n : Int) (A : Option Addr) (m c : Nat) (l : List UInt8) (h : RdB w0 A m c l) (h400 : m ≤ 400) (hm3 : bits .and .i64 n 3 = 1) :
    Calls Try.prog 4 #[.int .i64 v, .int .i64 n, .slice A m c] w0 fun e w' => e = .returned (.bool true) ∧ Below w0.heap.size w0 w' := by
  have h4 : ¬ (400 : Int) < m := by omega
  have hx : bits .and .i64 v 65535 = ((num (putL v 2) : Nat) : Int) := by
    have := and_mask v (8 * 2) (by omega)
    rw [num_putL, show (256 : Int) ^ 2 = 2 ^ (8 * 2) by decide, ← this]
    rfl
  obtain ⟨i0, hi, hz0, hz1, hz2⟩ := info_row infoB
  have HI := Lib.hid hi
  have H0 := Lib.hid hz0
  have H1 := Lib.hid hz1
  have H2 := Lib.hid hz2
  have HL := Lib.hid h.len
  clear hi hz0 hz1 hz2
  go_enter Try.func4, Try.ntmps4
  go_wp2_with fail
  refine (awake_any _).mono ?_
  rintro e w1 ⟨rfl, hb1⟩
  go_wp2_with fail
  refine (put_yes _ _ _ _ _ 2 _ (RdB.nil _) (by omega) (by omega) (by omega)).mono ?_
  rintro e w2 ⟨A2, c2, rfl, ho2, hb2⟩
  have hr2 := rdB_of_own ho2
  have hc2 : (2 : Int) - 1 ≤ c2 := by have := hr2.le; omega
  have hc2' : (2 : Int) ≤ c2 := by have := hr2.le; omega
  have hg := own_empty w2 5 1 (Nat.le_refl _)
  have hb3 := bnew w2 (.cells #[] 5)
  have hl2 := hr2.lies.below hb3
  have d2 : 0 + 2 ≤ maxLen := by unfold maxLen; omega
  have d3 : (0 + 2) * 1 ≤ 140737488355328 := by omega
  rw [List.nil_append] at hl2
  have d4 : 0 + 2 + m ≤ maxLen := by unfold maxLen; omega
  have d5 : (0 + 2 + m) * 1 ≤ 140737488355328 := by omega
  go_wp2_with (first
    | (at_builtin; refine wpList_append_gr _ rfl _ _ 22 rfl w2.heap.size 5 i0 (.int .u8 0) 1 1 Try.underlying22 HI.out H0.out H1.out H2.out rfl (by decide) _ 0 [] rfl (.inl hg) _ 2 _ _ rfl (by rw [List.length_map, putL_length]) hl2 ?_ (oneCell_bv _) d2 d3 hb3.size; intro A3 c3 w3 hG3; have ho3 := hG3.own (.inr hg); have hb4 := hb3.trans hG3.below; have hl3 := (h.below (bstep hb1 (bstep hb2 hb4))).lies; clear hg hb3 hl2 hG3)
    | (at_builtin; refine wpList_append_gr _ rfl _ _ 22 rfl w2.heap.size 5 i0 (.int .u8 0) 1 1 Try.underlying22 HI.out H0.out H1.out H2.out rfl (by decide) _ (0 + 2) _ rfl (.inl ho3) A m _ _ rfl (by rw [List.length_map, HL.out, Nat.mul_one]) hl3 ?_ (oneCell_bv _) d4 d5 hb4.size; intro A4 c4 w4 hG4; have ho4 := hG4.own (.inr ho3); have hb5 := hb4.trans hG4.below; clear ho3 hl3 hb4 hG4)
    | fail)
  rw [List.nil_append, ← List.map_append] at ho4
  simp only [Nat.zero_add] at ho4
  have hr4 := rdB_of_own ho4
  have HB5 := Lib.hid (bstep hb1 (bstep hb2 hb5))
  have hr2' := (hr2.below hb5)
  clear ho4
  have hget : Calls Try.prog 9 #[.slice A4 (2 + m) c4, .int .i64 2] w4 (Got w4 (2 + m) 2 (putL v 2 ++ l)) := get_yes _ _ _ _ 2 _ hr4 (by omega) (by omega) (by omega)
  unfold Got at hget
  rw [List.take_left' (putL_length v 2), List.drop_left' (putL_length v 2)] at hget
  with_reducible refine hget.mono ?_
  clear hget
  rintro e w5 ⟨A5, c5, rfl, hr5, hb6⟩
  go_wp2_with fail
  with_reducible refine (get_no _ _ _ _ _ (by omega)).mono ?_
  rintro e w6 ⟨rfl, rfl⟩
  have s5 := hr5.str
  simp only [Nat.add_sub_cancel_left] at s5
  have s6 := (h.below (bstep HB5.out hb6)).str
  go_wp2
  go_ret
  exact ⟨rfl, bstep HB5.out hb6⟩
theorem back_3 (w0 : World) (v n : Int) (A : Option Addr) (m c : Nat) (l : List UInt8) (h : RdB w0 A m c l) (h400 : m ≤ 400) (hm3 : bits .and .i64 n 3 = 2) :
    Calls Try.prog 4 #[.int .i64 v, .int .i64 n, .slice A m c] w0 fun e w' => e = .returned (.bool true) ∧ Below w0.heap.size w0 w' := by
  have h4 : ¬ (400 : Int) < m := by omega
  have hx : bits .and .i64 v 16777215 = ((num (putL v 3) : Nat) : Int) := by
    have := and_mask v (8 * 3) (by omega)
    rw [num_putL, show (256 : Int) ^ 3 = 2 ^ (8 * 3) by decide, ← this]
    rfl
  obtain ⟨i0, hi, hz0, hz1, hz2⟩ := info_row infoB
  have HI := Lib.hid hi
  have H0 := Lib.hid hz0
  have H1 := Lib.hid hz1
  have H2 := Lib.hid hz2
  have HL := Lib.hid h.len
  clear hi hz0 hz1 hz2
  go_enter Try.func4, Try.ntmps4
  go_wp2_with fail
  refine (awake_any _).mono ?_
  rintro e w1 ⟨rfl, hb1⟩
  go_wp2_with fail
  refine (put_yes _ _ _ _ _ 3 _ (RdB.nil _) (by omega) (by omega) (by omega)).mono ?_
  rintro e w2 ⟨A2, c2, rfl, ho2, hb2⟩
  have hr2 := rdB_of_own ho2
  have hc2 : (3 : Int) - 1 ≤ c2 := by have := hr2.le; omega
  have hc2' : (3 : Int) ≤ c2 := by have := hr2.le; omega
  have hg := own_empty w2 5 1 (Nat.le_refl _)
  have hb3 := bnew w2 (.cells #[] 5)
  have hl2 := hr2.lies.below hb3
  have d2 : 0 + 3 ≤ maxLen := by unfold maxLen; omega
  have d3 : (0 + 3) * 1 ≤ 140737488355328 := by omega
  rw [List.nil_append] at hl2
  have d4 : 0 + 3 + m ≤ maxLen := by unfold maxLen; omega
  have d5 : (0 + 3 + m) * 1 ≤ 140737488355328 := by omega
  go_wp2_with (first
    | (at_builtin; refine wpList_append_gr _ rfl _ _ 22 rfl w2.heap.size 5 i0 (.int .u8 0) 1 1 Try.underlying22 HI.out H0.out H1.out H2.out rfl (by decide) _ 0 [] rfl (.inl hg) _ 3 _ _ rfl (by rw [List.length_map, putL_length]) hl2 ?_ (oneCell_bv _) d2 d3 hb3.size; intro A3 c3 w3 hG3; have ho3 := hG3.own (.inr hg); have hb4 := hb3.trans hG3.below; have hl3 := (h.below (bstep hb1 (bstep hb2 hb4))).lies; clear hg hb3 hl2 hG3)
    | (at_builtin; refine wpList_append_gr _ rfl _ _ 22 rfl w2.heap.size 5 i0 (.int .u8 0) 1 1 Try.underlying22 HI.out H0.out H1.out H2.out rfl (by decide) _ (0 + 3) _ rfl (.inl ho3) A m _ _ rfl (by rw [List.length_map, HL.out, Nat.mul_one]) hl3 ?_ (oneCell_bv _) d4 d5 hb4.size; intro A4 c4 w4 hG4; have ho4 := hG4.own (.inr ho3); have hb5 := hb4.trans hG4.below; clear ho3 hl3 hb4 hG4)
    | fail)
  rw [List.nil_append, ← List.map_append] at ho4
  simp only [Nat.zero_add] at ho4
  have hr4 := rdB_of_own ho4
  have HB5 := Lib.hid (bstep hb1 (bstep hb2 hb5))
  have hr2' := (hr2.below hb5)
  clear ho4
  have hget : Calls Try.prog 9 #[.slice A4 (3 + m) c4, .int .i64 3] w4 (Got w4 (3 + m) 3 (putL v 3 ++ l)) := get_yes _ _ _ _ 3 _ hr4 (by omega) (by omega) (by omega)
  unfold Got at hget
  rw [List.take_left' (putL_length v 3), List.drop_left' (putL_length v 3)] at hget
  with_reducible refine hget.mono ?_
  clear hget
  rintro e w5 ⟨A5, c5, rfl, hr5, hb6⟩
  go_wp2_with fail
  with_reducible refine (get_no _ _ _ _ _ (by omega)).mono ?_
  rintro e w6 ⟨rfl, rfl⟩
  have s5 := hr5.str
  simp only [Nat.add_sub_cancel_left] at s5
  have s6 := (h.below (bstep HB5.out hb6)).str
  go_wp2
  go_ret
  exact ⟨rfl, bstep HB5.out hb6⟩
theorem back_4 (w0 : World) (v n : Int) (A : Option Addr) (m c : Nat) (l : List UInt8) (h : RdB w0 A m c l) (h400 : m ≤ 400) (hm3 : bits .and .i64 n 3 = 3) :
    Calls Try.prog 4 #[.int .i64 v, .int .i64 n, .slice A m c] w0 fun e w' => e = .returned (.bool true) ∧ Below w0.heap.size w0 w' := by
  have h4 : ¬ (400 : Int) < m := by omega
  have hx : bits .and .i64 v 4294967295 = ((num (putL v 4) : Nat) : Int) := by
    have := and_mask v (8 * 4) (by omega)
    rw [num_putL, show (256 : Int) ^ 4 = 2 ^ (8 * 4) by decide, ← this]
    rfl
  obtain ⟨i0, hi, hz0, hz1, hz2⟩ := info_row infoB
  have HI := Lib.hid hi
  have H0 := Lib.hid hz0
  have H1 := Lib.hid hz1
  have H2 := Lib.hid hz2
  have HL := Lib.hid h.len
  clear hi hz0 hz1 hz2
  go_enter Try.func4, Try.ntmps4
  go_wp2_with fail
  refine (awake_any _).mono ?_
  rintro e w1 ⟨rfl, hb1⟩
  go_wp2_with fail
  refine (put_yes _ _ _ _ _ 4 _ (RdB.nil _) (by omega) (by omega) (by omega)).mono ?_
  rintro e w2 ⟨A2, c2, rfl, ho2, hb2⟩
  have hr2 := rdB_of_own ho2
  have hc2 : (4 : Int) - 1 ≤ c2 := by have := hr2.le; omega
  have hc2' : (4 : Int) ≤ c2 := by have := hr2.le; omega
  have hg := own_empty w2 5 1 (Nat.le_refl _)
  have hb3 := bnew w2 (.cells #[] 5)
  have hl2 := hr2.lies.below hb3
  have d2 : 0 + 4 ≤ maxLen := by unfold maxLen; omega
  have d3 : (0 + 4) * 1 ≤ 140737488355328 := by omega
  rw [List.nil_append] at hl2
  have d4 : 0 + 4 + m ≤ maxLen := by unfold maxLen; omega
  have d5 : (0 + 4 + m) * 1 ≤ 140737488355328 := by omega
  go_wp2_with (first
    | (at_builtin; refine wpList_append_gr _ rfl _ _ 22 rfl w2.heap.size 5 i0 (.int .u8 0) 1 1 Try.underlying22 HI.out H0.out H1.out H2.out rfl (by decide) _ 0 [] rfl (.inl hg) _ 4 _ _ rfl (by rw [List.length_map, putL_length]) hl2 ?_ (oneCell_bv _) d2 d3 hb3.size; intro A3 c3 w3 hG3; have ho3 := hG3.own (.inr hg); have hb4 := hb3.trans hG3.below; have hl3 := (h.below (bstep hb1 (bstep hb2 hb4))).lies; clear hg hb3 hl2 hG3)
    | (at_builtin; refine wpList_append_gr _ rfl _ _ 22 rfl w2.heap.size 5 i0 (.int .u8 0) 1 1 Try.underlying22 HI.out H0.out H1.out H2.out rfl (by decide) _ (0 + 4) _ rfl (.inl ho3) A m _ _ rfl (by rw [List.length_map, HL.out, Nat.mul_one]) hl3 ?_ (oneCell_bv _) d4 d5 hb4.size; intro A4 c4 w4 hG4; have ho4 := hG4.own (.inr ho3); have hb5 := hb4.trans hG4.below; clear ho3 hl3 hb4 hG4)
    | fail)
  rw [List.nil_append, ← List.map_append] at ho4
  simp only [Nat.zero_add] at ho4
  have hr4 := rdB_of_own ho4
  have HB5 := Lib.hid (bstep hb1 (bstep hb2 hb5))
  have hr2' := (hr2.below hb5)
  clear ho4
  have hget : Calls Try.prog 9 #[.slice A4 (4 + m) c4, .int .i64 4] w4 (Got w4 (4 + m) 4 (putL v 4 ++ l)) := get_yes _ _ _ _ 4 _ hr4 (by omega) (by omega) (by omega)
  unfold Got at hget
  rw [List.take_left' (putL_length v 4), List.drop_left' (putL_length v 4)] at hget
  with_reducible refine hget.mono ?_
  clear hget
  rintro e w5 ⟨A5, c5, rfl, hr5, hb6⟩
  go_wp2_with fail
  with_reducible refine (get_no _ _ _ _ _ (by omega)).mono ?_
  rintro e w6 ⟨rfl, rfl⟩
  have s5 := hr5.str
  simp only [Nat.add_sub_cancel_left] at s5
  have s6 := (h.below (bstep HB5.out hb6)).str
  go_wp2
  go_ret
  exact ⟨rfl, bstep HB5.out hb6⟩

theorem back_law (w0 : World) (v : Int) (hv : -9223372036854775808 ≤ v ∧ v ≤ 9223372036854775807) (n : Int) (hn : -9223372036854775808 ≤ n ∧ n ≤ 9223372036854775807) (A : Option Addr) (m c : Nat) (l : List UInt8) (h : RdB w0 A m c l) :
    Calls Try.prog 4 #[.int .i64 v, .int .i64 n, .slice A m c] w0 fun e w' => e = .returned (.bool true) ∧ Below w0.heap.size w0 w' := by
  by_cases h400 : m ≤ 400
  · have hm3 := and_mask n 2 (by omega)
    have b0 := Int.emod_nonneg n (show (4 : Int) ≠ 0 by omega)
    have b1 := Int.emod_lt_of_pos n (show (0 : Int) < 4 by omega)
    rw [show (2 : Int) ^ 2 = 4 by decide, show (4 : Int) - 1 = 3 by decide] at hm3
    rcases (show n % 4 = 0 ∨ n % 4 = 1 ∨ n % 4 = 2 ∨ n % 4 = 3 by omega) with e0 | e0 | e0 | e0
    all_goals rw [e0] at hm3
    · exact back_1 w0 v n A m c l h h400 hm3
    · exact back_2 w0 v n A m c l h h400 hm3
    · exact back_3 w0 v n A m c l h h400 hm3
    · exact back_4 w0 v n A m c l h h400 hm3
  · have h4 : (400 : Int) < m := by omega
    clear hv hn
    go_enter Try.func4, Try.ntmps4
    go_wp2_with fail
    refine (awake_any _).mono ?_
    rintro e w1 ⟨rfl, hb1⟩
    go_wp2
    go_ret
    exact ⟨rfl, hb1⟩
end Go.Proofs.Ytpoikmbogcggkaa
