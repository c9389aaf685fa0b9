/- The walk of octet.Put. -/
import Derived.Test.YtpoikmbogcggkaaRows
import Derived.Test.YtpoikmbogcggkaaOctL
import Derived.Test.YtpoikmbogcggkaaBytes
import Derived.WalkLawsBesides
import Derived.WalkSpells
import Derived.IntWalk
import Derived.Outline
import Derived.Deep.QuietTactic
import Derived.BigQuiet
import Derived.Deep.DeepFit
import Derived.Deep.DeepMust
import Derived.Test.YtpoikmbogcggkaaGrow
namespace Go.Proofs.Ytpoikmbogcggkaa
open Go.RowKit
set_option maxHeartbeats 400000
set_option linter.unusedVariables false

theorem infoB : (Try.prog.info? 5).map (fun i => (i.zero, i.size, i.bytes)) = some (some (.int .u8 0), 1, 1) := by kernel_rfl

theorem put_no (A : Option Addr) (n c : Nat) (v k : Int) (w : World) (hk : k < 1 ∨ 4 < k) :
    Calls Try.prog 13 #[.slice A n c, .int .i64 v, .int .i64 k] w fun e w' => e = .returned (.slice A n c) ∧ w = w' := by
  by_cases h0 : k < 1
  · go_enter Try.func13, Try.ntmps13
    go_wp2
    go_ret
    exact ⟨rfl, rfl⟩
  · have h1 : 4 < k := by omega
    go_enter Try.func13, Try.ntmps13
    go_wp2
    go_ret
    exact ⟨rfl, rfl⟩

def PutDone (w : World) (n k : Nat) (l : List UInt8) (v : Int) (e : Ending) (w' : World) : Prop :=
  ∃ A' c', e = .returned (.slice A' (n + k) c') ∧ w'.ownsRow w.heap.size 5 1 (.slice A' (n + k) c') (n + k) ((l ++ putL v k).map bv) ∧ Below w.heap.size w w'

theorem put_yes (A : Option Addr) (n c : Nat) (l : List UInt8) (v : Int) (k : Nat) (w : World) (h : RdB w A n c l) (h1 : 1 ≤ k) (h4 : k ≤ 4) (hn : n ≤ 140737488355000) :
    Calls Try.prog 13 #[.slice A n c, .int .i64 v, .int .i64 k] w (PutDone w n k l v) := by
  have g1 : ¬ (k : Int) < 1 := by omega
  have g2 : ¬ (4 : Int) < k := by omega
  have hl := h.len
  have hle := h.le
  have hmx := h.max
  have hlies := h.lies
  unfold maxLen at hmx
  have g3 : (n : Int) ≤ c := by omega
  have HL := Lib.hid hl
  clear hl
  obtain ⟨i0, hi, hz0, hz1, hz2⟩ := info_row infoB
  have HI := Lib.hid hi
  have H0 := Lib.hid hz0
  have H1 := Lib.hid hz1
  have H2 := Lib.hid hz2
  clear hi hz0 hz1 hz2
  go_enter Try.func13, Try.ntmps13
  go_wp2
  go_loopw [7, 23] (fun s i wr => ∃ j : Nat, j ≤ k ∧ i = .int .i64 j ∧ (∃ A1 c1, s = .slice A1 (n + j) c1) ∧ Gr w.heap.size 5 1 wr s (n + j) ((l ++ (putL v k).take j).map bv) ∧ (0 < j → wr.ownsRow w.heap.size 5 1 s (n + j) ((l ++ (putL v k).take j).map bv)) ∧ Below w.heap.size w wr) (fun _ i _ => k - (intOf i).toNat)
  case atStart =>
    refine ⟨0, Nat.zero_le _, rfl, ⟨_, _, rfl⟩, .inr ⟨by simp [HL.out], by unfold maxLen; omega, A, rfl, by simpa using hlies⟩, fun h => absurd h (by omega), Below.refl _ _⟩
  case round =>
    obtain ⟨j, hj, rfl, ⟨A1, c1, rfl⟩, hgr, hown, hb⟩ := hrel
    by_cases hlt : j < k
    · have hlt' : (j : Int) < k := by omega
      have hsz := hb.size
      have hg1 := hgr.alloc (.cells #[.int .u8 (v / (2 : Int) ^ (8 * (k - 1 - j)) % 256)] 5)
      have hn1 := lies_new wr (.int .u8 (v / (2 : Int) ^ (8 * (k - 1 - j)) % 256)) 5
      go_wp2_with (at_builtin; (refine wpList_append_gr _ rfl _ _ 22 rfl w.heap.size 5 i0 (.int .u8 0) 1 1 Try.underlying22 HI.out H0.out H1.out H2.out rfl (by decide) _ (n + j) _ rfl hg1 _ 1 1 [.int .u8 (v / (2 : Int) ^ (8 * (k - 1 - j)) % 256)] rfl rfl hn1 ?_ ?c1 ?c2 ?c3 ?c4; intro A' c' w' hG))
      case c1 => intro u hu; rw [List.mem_singleton.1 hu]; rfl
      case c2 => unfold maxLen; omega
      case c3 => omega
      case c4 => simp; omega
      have hb2 := (hb.alloc hsz (.cells #[.int .u8 (v / (2 : Int) ^ (8 * (k - 1 - j)) % 256)] 5)).trans hG.below
      have e1 : ((l ++ (putL v k).take j).map bv ++ [.int .u8 (v / (2 : Int) ^ (8 * (k - 1 - j)) % 256)]) = (l ++ (putL v k).take (j + 1)).map bv := by
        rw [putL_step v k j hlt, ← List.append_assoc, List.map_append, List.map_append, List.map_append, List.map_singleton, bv_octAt]
      have hG1 := hG.gr
      have hG2 := hG.own (.inl (by omega))
      rw [e1] at hG1 hG2
      have E := Lib.hid hG1
      have E2 := Lib.hid hG2
      have HB := Lib.hid hb2
      clear hG1 hG2 e1 hG hg1 hn1 hgr hown hb2
      go_wp2
      go_roundw
      case rel => exact ⟨j + 1, by omega, by go_num, ⟨_, _, rfl⟩, E.out, fun _ => E2.out, HB.out⟩
      case measure => simp [intOf]; omega
    · obtain rfl : j = k := by omega
      have E2 := Lib.hid (hown (by omega))
      clear hown hgr
      go_wp2
      go_ret
      refine ⟨A1, c1, rfl, ?_, hb⟩
      have := E2.out
      rwa [List.take_of_length_le (by rw [putL_length]; exact Nat.le_refl _)] at this
theorem put_isB (A : Option Addr) (n c : Nat) (l : List UInt8) (v : Int) (k : Nat) (w : World) (h : RdB w A n c l) (h1 : 1 ≤ k) (h4 : k ≤ 4) (hn : n ≤ 140737488355000) :
    Calls Try.prog 13 #[.slice A n c, .int .i64 v, .int .i64 k] w (Ret (IsB (l ++ putL v k)) w) :=
  (put_yes A n c l v k w h h1 h4 hn).mono fun e w' ⟨A', c', he, ho, hb⟩ => ⟨_, he, ⟨_, _, _, rfl, rdB_of_own ho⟩, hb⟩


theorem below_drewN {B : Nat} {w : World} (n : Nat) : Below B w (w.drewN n) := ⟨rfl, rfl, rfl, Nat.le_refl _, fun _ _ => rfl⟩
end Go.Proofs.Ytpoikmbogcggkaa
