/- The walks of the reference's Get and Put of layer 1. -/
import Derived.Test.YtpoikmbogcggkaaBytes
import Derived.Test.YtpoikmbogcggkaaOct2
namespace Go.Proofs.Ytpoikmbogcggkaa
open Go.RowKit
set_option maxHeartbeats 1000000
set_option linter.unusedVariables false
set_option linter.unusedSimpArgs false

theorem rget_no (A : Option Addr) (n c : Nat) (k : Int) (w : World) (hk : k < 1 ∨ 4 < k ∨ n < k) :
    Calls Try.prog 10 #[.slice A n c, .int .i64 k] w fun e w' => e = .returned (.tuple #[.int .i64 0, .slice none 0 0, .bool false]) ∧ w = w' := by
  rcases (show k < 1 ∨ (1 ≤ k ∧ 4 < k) ∨ (1 ≤ k ∧ k ≤ 4 ∧ n < k) by omega) with h0 | ⟨h0, h1⟩ | ⟨h0, h1, h2⟩
  all_goals
    go_enter Try.func10, Try.ntmps10
    go_wp2
    go_ret3
    exact ⟨rfl, rfl⟩

theorem rget_yes (A : Option Addr) (n c : Nat) (l : List UInt8) (k : Nat) (w : World) (h : RdB w A n c l) (h1 : 1 ≤ k) (h4 : k ≤ 4) (hk : k ≤ n) :
    Calls Try.prog 10 #[.slice A n c, .int .i64 k] w (Got w n k l) := by
  have g1 : ¬ (k : Int) < 1 := by omega
  have g2 : ¬ (4 : Int) < k := by omega
  have g3 : ¬ (n : Int) < k := by omega
  have hle := h.le
  have hmx := h.max
  unfold maxLen at hmx
  have g4 : (k : Int) ≤ c := by omega
  have g5 : (n : Int) ≤ c := by omega
  have HL := Lib.hid h.len
  have HC := Lib.hid (h.cut hk)
  go_enter Try.func10, Try.ntmps10
  go_wp2
  go_loop [7, 8] (fun v i => ∃ j : Nat, j ≤ k ∧ i = .int .i64 j ∧ v = .int .i64 (num ((l.take k).take j) : Nat)) (fun _ i => k - (intOf i).toNat)
  case atStart => exact ⟨0, Nat.zero_le _, rfl, rfl⟩
  case round =>
    obtain ⟨j, hj, rfl, rfl⟩ := hrel
    by_cases hlt : j < k
    · obtain ⟨b, o, rfl, hc⟩ := h.at_ (k := j) (by omega)
      have hll0 : j < l.length := by rw [HL.out]; omega
      have hll : j < (l.take k).length := by rw [List.length_take]; omega
      have hc1 := hc j hll0
      have hn := num_lt ((l.take k).take j)
      have hjl : ((l.take k).take j).length ≤ 3 := by rw [List.length_take]; omega
      have hn2 : num ((l.take k).take j) < 16777216 := Nat.lt_of_lt_of_le hn (Nat.pow_le_pow_right (by omega) hjl)
      have hlt' : (j : Int) < k := by omega
      have hjn : (j : Int) < n := by omega
      have hi := l[j].toNat_lt
      have hx : (l.take k)[j] = l[j] := List.getElem_take
      have hst := num_step (l.take k) j hll
      rw [hx] at hst
      have HST := Lib.hid hst
      generalize l[j] = x at *
      generalize num ((l.take k).take j) = m at *
      clear hst hx hc hn hjl
      go_wp2
      go_round
      case rel => exact ⟨j + 1, by omega, by go_num, by rw [HST.out]; go_num⟩
      case measure => simp [intOf]; omega
    · obtain rfl : j = k := by omega
      clear hlt hj
      go_wp2
      go_quiet (fail)
      go_wp2
      all_goals
        go_ret3
        refine ⟨_, _, by rw [List.take_take, Nat.min_self]; rfl, ?_, below_drewN _⟩
        have := (HC.out).below (below_drewN (w := w) nq)
        simpa [*] using this

theorem rput_no (A : Option Addr) (n c : Nat) (l : List UInt8) (v k : Int) (w : World) (h : RdB w A n c l) (hn : n ≤ 140737488355000) (hk : k < 1 ∨ 4 < k) :
    Calls Try.prog 14 #[.slice A n c, .int .i64 v, .int .i64 k] w (Ret (IsB l) w) := by
  obtain ⟨i0, hi, hz0, hz1, hz2⟩ := info_row infoB
  have HI := Lib.hid hi
  have H0 := Lib.hid hz0
  have H1 := Lib.hid hz1
  have H2 := Lib.hid hz2
  have HL := Lib.hid h.len
  have hg := own_empty w 5 1 (Nat.le_refl _)
  have hb0 := bnew w (.cells #[] 5)
  have hl := h.lies.below hb0
  have hc2 : 0 + n ≤ maxLen := by unfold maxLen; omega
  have hc3 : (0 + n) * 1 ≤ 140737488355328 := by omega
  clear hi hz0 hz1 hz2
  rcases (show k < 1 ∨ (1 ≤ k ∧ 4 < k) by omega) with h0 | ⟨h0, h1⟩
  all_goals
    clear hk
    go_enter Try.func14, Try.ntmps14
    go_wp2_with (at_builtin; refine wpList_append_gr _ rfl _ _ 22 rfl w.heap.size 5 i0 (.int .u8 0) 1 1 Try.underlying22 HI.out H0.out H1.out H2.out rfl (by decide) _ 0 [] rfl (.inl hg) _ n c _ rfl (by rw [List.length_map, HL.out, Nat.mul_one]) hl ?_ (oneCell_bv _) hc2 hc3 hb0.size; intro A' c' w' hG)
    have hG2 := Lib.hid (hG.own (.inr hg))
    have HB := Lib.hid (hb0.trans hG.below)
    clear hG hg hb0 hl
    go_wp2
    go_ret
    refine ⟨_, rfl, ⟨_, _, _, rfl, ?_⟩, HB.out⟩
    have := hG2.out
    rw [List.nil_append, Nat.zero_add] at this
    exact rdB_of_own this

theorem rput_yes (A : Option Addr) (n c : Nat) (l : List UInt8) (v : Int) (k : Nat) (w : World) (h : RdB w A n c l) (hn : n ≤ 140737488355000) (h1 : 1 ≤ k) (h4 : k ≤ 4) :
    Calls Try.prog 14 #[.slice A n c, .int .i64 v, .int .i64 k] w (Ret (IsB (l ++ putL v k)) w) := by
  have g1 : ¬ (k : Int) < 1 := by omega
  have g2 : ¬ (4 : Int) < k := by omega
  obtain ⟨i0, hi, hz0, hz1, hz2⟩ := info_row infoB
  have HI := Lib.hid hi
  have H0 := Lib.hid hz0
  have H1 := Lib.hid hz1
  have H2 := Lib.hid hz2
  have HL := Lib.hid h.len
  have hg := own_empty w 5 1 (Nat.le_refl _)
  have hb0 := bnew w (.cells #[] 5)
  have hl := h.lies.below hb0
  have hc2 : 0 + n ≤ maxLen := by unfold maxLen; omega
  have hc3 : (0 + n) * 1 ≤ 140737488355328 := by omega
  clear hi hz0 hz1 hz2
  go_enter Try.func14, Try.ntmps14
  go_wp2_with (at_builtin; refine wpList_append_gr _ rfl _ _ 22 rfl w.heap.size 5 i0 (.int .u8 0) 1 1 Try.underlying22 HI.out H0.out H1.out H2.out rfl (by decide) _ 0 [] rfl (.inl hg) _ n c _ rfl (by rw [List.length_map, HL.out, Nat.mul_one]) hl ?_ (oneCell_bv _) hc2 hc3 hb0.size; intro A' c' w1 hG)
  have hG2 := hG.own (.inr hg)
  have hb1 := hb0.trans hG.below
  rw [List.nil_append] at hG2
  have HG := Lib.hid hG2
  have HB := Lib.hid hb1
  clear hG hg hb0 hl hG2 hb1
  go_wp2
  go_loopw [7, 8] (fun s i wr => ∃ j : Nat, j ≤ k ∧ i = .int .i64 ((k : Int) - 1 - (j : Int)) ∧ (∃ A1 c1, s = .slice A1 (n + j) c1) ∧ wr.ownsRow w.heap.size 5 1 s (n + j) ((l ++ (putL v k).take j).map bv) ∧ Below w.heap.size w wr) (fun _ i _ => (intOf i + 1).toNat)
  case atStart =>
    refine ⟨0, Nat.zero_le _, by simp, ⟨A', c', by simp⟩, by have := HG.out; simpa using this, HB.out⟩
  case round =>
    obtain ⟨j, hj, rfl, ⟨A1, c1, rfl⟩, hown, hb⟩ := hrel
    by_cases hlt : j < k
    · have hlt' : (j : Int) < k := by omega
      have hge : 0 ≤ (k : Int) - 1 - j := by omega
      have hsz := hb.size
      have hg1 := hown.alloc (.cells #[.int .u8 (v / (2 : Int) ^ (8 * (k - 1 - j)) % 256)] 5)
      have hn1 := lies_new wr (.int .u8 (v / (2 : Int) ^ (8 * (k - 1 - j)) % 256)) 5
      have hb2 := hb.alloc hsz (.cells #[.int .u8 (v / (2 : Int) ^ (8 * (k - 1 - j)) % 256)] 5)
      have d2 : n + j + 1 ≤ maxLen := by unfold maxLen; omega
      have d3 : (n + j + 1) * 1 ≤ 140737488355328 := by omega
      have d4 : ∀ u ∈ [Value.int .u8 (v / (2 : Int) ^ (8 * (k - 1 - j)) % 256)], u.oneCell' = true := by intro u hu; rw [List.mem_singleton.1 hu]; rfl
      go_wp2_with (at_builtin; refine wpList_append_gr _ rfl _ _ 22 rfl w.heap.size 5 i0 (.int .u8 0) 1 1 Try.underlying22 HI.out H0.out H1.out H2.out rfl (by decide) _ (n + j) _ rfl (.inl hg1) _ 1 1 [.int .u8 (v / (2 : Int) ^ (8 * (k - 1 - j)) % 256)] rfl rfl hn1 ?_ d4 d2 d3 hb2.size; intro A' c' w' hG)
      have hb3 := hb2.trans hG.below
      have e1 : ((l ++ (putL v k).take j).map bv ++ [.int .u8 (v / (2 : Int) ^ (8 * (k - 1 - j)) % 256)]) = (l ++ (putL v k).take (j + 1)).map bv := by
        rw [putL_step v k j hlt, ← List.append_assoc, List.map_append, List.map_append, List.map_append, List.map_singleton, bv_octAt]
      have hG2 := hG.own (.inl (by omega))
      rw [e1] at hG2
      have E2 := Lib.hid hG2
      have HB := Lib.hid hb3
      clear hG2 e1 hG hg1 hn1 hown hb2 hb3
      go_wp2
      go_roundw
      case rel => exact ⟨j + 1, by omega, by go_num, ⟨_, _, rfl⟩, E2.out, HB.out⟩
      case measure => simp [intOf]; omega
    · obtain rfl : j = k := by omega
      have E2 := Lib.hid hown
      clear hown
      go_wp2
      go_ret
      refine ⟨_, rfl, ⟨_, _, _, rfl, ?_⟩, hb⟩
      have := E2.out
      rw [List.take_of_length_le (by rw [putL_length]; exact Nat.le_refl _)] at this
      exact rdB_of_own this
end Go.Proofs.Ytpoikmbogcggkaa
