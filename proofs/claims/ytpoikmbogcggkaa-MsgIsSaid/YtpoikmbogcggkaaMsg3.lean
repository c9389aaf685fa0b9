/- The walk of msg.fault: the rest, and all ways together. -/
import Derived.Test.YtpoikmbogcggkaaMsg2
namespace Go.Proofs.Ytpoikmbogcggkaa
open Go.RowKit
set_option maxHeartbeats 400000
set_option linter.unusedVariables false
set_option linter.unusedSimpArgs false

theorem fault_type (A : Option Addr) (n c : Nat) (l : List UInt8) (s k : Int) (w : World) (h : RdB w A n c l) (hn : 16 ≤ n) (hP : decide (l.take 16 = List.replicate 16 255) = true)
    (d1 : 19 ≤ s) (d2 : s ≤ 4096) (d3 : (leastZ k == 0) = true) :
    Calls Try.prog 26 #[.slice A n c, .int .i64 s, .int .i64 k] w (Ret (NoteF w.heap.size 1 3 (putL k 1)) w) := by
  have HP := Lib.hid hP
  clear hP
  obtain ⟨L, hL⟩ : ∃ L, leastZ k = L := ⟨_, rfl⟩
  have HL := Lib.hid hL
  rw [hL] at d3
  clear hL
  go_enter Try.func26, Try.ntmps26
  go_wp2_with fail
  with_reducible refine (marked_any _).mono ?_
  rintro e w1 ⟨_, rfl, ⟨A1, n1, c1, rfl, hr1⟩, hb1⟩
  have hl1 := hr1.len
  simp at hl1
  subst hl1
  have hr := h.below (bstep (bnew w _) hb1)
  go_wp2_with fail
  refine (hasPrefix_any _ _ _ _ _ _ _ _ _ hr hr1 hn).mono ?_
  rw [HP.out]
  rintro e w2 ⟨rfl, rfl⟩
  go_wp2_with fail
  with_reducible refine (least_any _ _).mono ?_
  rw [HL.out]
  rintro e w2 ⟨rfl, rfl⟩
  go_wp2_with fail
  have hput : Calls Try.prog 13 #[.slice none 0 0, .int .i64 k, .int .i64 1] w1 (PutDone w1 0 1 [] k) := put_yes none 0 0 [] k 1 w1 (RdB.nil _) (by omega) (by omega) (by omega)
  with_reducible refine hput.mono ?_
  clear hput
  rintro e w3 ⟨A3, c3, rfl, ho3, hb3⟩
  have hz1 : w.heap.size < w1.heap.size := by
    have := hb1.size
    simp at this
    omega
  have hb13 := hb1.trans (hb3.mono hb1.size)
  have hg := own3 hb13
  obtain ⟨⟨c0, c1', c2⟩, f0, f1, f2⟩ := own3_cells hg
  have HG := Lib.hid hg
  have hz : w.heap.size < w3.heap.size := (Array.getElem?_eq_some_iff.1 hg).1
  clear hg
  go_wp2
  exact bodyPost_ret (v := .agg #[.int .i64 1, .int .i64 3, .slice A3 (0 + 1) c3]) (results_cell_row rfl _ _ w.heap.size _ _ _ _ rfl (set3 HG.out _ _ _) Try.underlying37 rfl noteSize) rfl
    ⟨_, rfl, ⟨_, _, _, rfl, own_keep3 ho3 hz1 _ _ _, fresh_own ho3 (Nat.le_of_lt hz1)⟩, below_set3 (bstep (bnew w _) hb13) (Nat.le_refl _) _ _ _⟩

theorem fault_none (A : Option Addr) (n c : Nat) (l : List UInt8) (s k : Int) (w : World) (h : RdB w A n c l) (hn : 16 ≤ n) (hP : decide (l.take 16 = List.replicate 16 255) = true)
    (d1 : 19 ≤ s) (d2 : s ≤ 4096) (d3 : (leastZ k == 0) = false) (d4 : wrongB k s = false) :
    Calls Try.prog 26 #[.slice A n c, .int .i64 s, .int .i64 k] w (Ret (NoteF w.heap.size 0 0 []) w) := by
  have HP := Lib.hid hP
  clear hP
  obtain ⟨L, hL⟩ : ∃ L, leastZ k = L := ⟨_, rfl⟩
  obtain ⟨W, hW⟩ : ∃ W, wrongB k s = W := ⟨_, rfl⟩
  have HL := Lib.hid hL
  have HW := Lib.hid hW
  rw [hL] at d3
  rw [hW] at d4
  clear hL hW
  go_enter Try.func26, Try.ntmps26
  go_wp2_with fail
  with_reducible refine (marked_any _).mono ?_
  rintro e w1 ⟨_, rfl, ⟨A1, n1, c1, rfl, hr1⟩, hb1⟩
  have hl1 := hr1.len
  simp at hl1
  subst hl1
  have hr := h.below (bstep (bnew w _) hb1)
  go_wp2_with fail
  refine (hasPrefix_any _ _ _ _ _ _ _ _ _ hr hr1 hn).mono ?_
  rw [HP.out]
  rintro e w2 ⟨rfl, rfl⟩
  go_wp2_with fail
  with_reducible refine (least_any _ _).mono ?_
  rw [HL.out]
  rintro e w2 ⟨rfl, rfl⟩
  go_wp2_with fail
  with_reducible refine (wrong_any _ _ _).mono ?_
  rw [HW.out]
  rintro e w2 ⟨rfl, rfl⟩
  subst d4
  have hg := own3 hb1
  obtain ⟨⟨c0, c1', c2⟩, f0, f1, f2⟩ := own3_cells hg
  have HG := Lib.hid hg
  have hz : w.heap.size < w1.heap.size := (Array.getElem?_eq_some_iff.1 hg).1
  clear hg
  go_wp2
  exact bodyPost_ret (v := .agg #[.int .i64 0, .int .i64 0, .slice none 0 0]) (results_cell_row rfl _ _ w.heap.size _ _ _ _ rfl (set3 HG.out _ _ _) Try.underlying37 rfl noteSize) rfl
    ⟨_, rfl, ⟨_, _, _, rfl, RdB.nil _, fresh_none _⟩, below_set3 (bstep (bnew w _) hb1) (Nat.le_refl _) _ _ _⟩

/-- What is wrong with a head: its code, its sub-code, its octets. -/
def faultN (P : Bool) (s k : Int) : Int × Int × List UInt8 :=
  if P = false then (1, 1, []) else if 19 ≤ s ∧ s ≤ 4096 then (if (leastZ k == 0) = true then (1, 3, putL k 1) else if wrongB k s = true then (1, 2, putL s 2) else (0, 0, [])) else (1, 2, putL s 2)
theorem fault_any (A : Option Addr) (n c : Nat) (l : List UInt8) (s k : Int) (w : World) (h : RdB w A n c l) (hn : 16 ≤ n) :
    Calls Try.prog 26 #[.slice A n c, .int .i64 s, .int .i64 k] w
      (Ret (NoteF w.heap.size (faultN (decide (l.take 16 = List.replicate 16 255)) s k).1 (faultN (decide (l.take 16 = List.replicate 16 255)) s k).2.1 (faultN (decide (l.take 16 = List.replicate 16 255)) s k).2.2) w) := by
  cases hP : decide (l.take 16 = List.replicate 16 255)
  · simpa [faultN] using fault_bad A n c l s k w h hn hP
  · by_cases h1 : 19 ≤ s ∧ s ≤ 4096
    · cases h2 : (leastZ k == 0)
      · cases h3 : wrongB k s
        · simpa [faultN, h1, h2, h3] using fault_none A n c l s k w h hn hP h1.1 h1.2 h2 h3
        · simpa [faultN, h1, h2, h3] using fault_size A n c l s k w h hn hP (.inr (.inr ⟨h1.1, h1.2, h2, h3⟩))
      · simpa [faultN, h1, h2] using fault_type A n c l s k w h hn hP h1.1 h1.2 h2
    · have h4 : s < 19 ∨ (19 ≤ s ∧ 4096 < s) ∨ (19 ≤ s ∧ s ≤ 4096 ∧ (leastZ k == 0) = false ∧ wrongB k s = true) := by omega
      simpa [faultN, h1] using fault_size A n c l s k w h hn hP h4
end Go.Proofs.Ytpoikmbogcggkaa
