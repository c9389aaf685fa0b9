/- The walk of NoteKnown: what is known may be, and there are thirty-five. -/
import Derived.Test.YtmkpkbigceinfaaDoorNote5
namespace Go.Proofs.YtmkpkbigceinfaaDoor
open Go.RowKit
set_option maxHeartbeats 400000
set_option linter.unusedVariables false
set_option linter.unusedSimpArgs false

def rowCnt (c : Int) : Nat → Nat
  | 0 => 0
  | i + 1 => rowCnt c i + (if knownB c ((i : Int) - 1) = true then 1 else 0)
def totCnt : Nat → Nat
  | 0 => 0
  | j + 1 => totCnt j + rowCnt ((j : Int) - 1) 14
theorem rowCnt_le (c : Int) : ∀ i, rowCnt c i ≤ i
  | 0 => Nat.le_refl _
  | i + 1 => by
    have := rowCnt_le c i
    unfold rowCnt
    split <;> omega
theorem totCnt_le : ∀ j, totCnt j ≤ 14 * j
  | 0 => Nat.le_refl _
  | j + 1 => by
    have := totCnt_le j
    have := rowCnt_le ((j : Int) - 1) 14
    unfold totCnt
    omega
theorem tot35 : totCnt 10 = 35 := by decide +kernel
theorem hitAt_bd {a b : Int} : ∀ k, hitAt a b k = true → 1 ≤ a ∧ a ≤ 6 ∧ 0 ≤ b ∧ b ≤ 11
  | 0, h | 1, h | 2, h | 3, h | 4, h | 5, h | 6, h | 7, h | 8, h => by simp [hitAt] at h; omega
  | k + 9, h => by simp [hitAt] at h
theorem knownB_bd {a b : Int} (h : knownB a b = true) : 1 ≤ a ∧ a ≤ 6 ∧ 0 ≤ b ∧ b ≤ 11 := by
  obtain ⟨k, _, hk⟩ := List.any_eq_true.1 h
  exact hitAt_bd k hk

theorem noteKnown_any (w : World) (ht : Tab w) (a : Int) (ba : -9223372036854775808 ≤ a ∧ a ≤ 9223372036854775807) (b : Int) (bb : -9223372036854775808 ≤ b ∧ b ≤ 9223372036854775807) :
    Calls Tryd.prog 6 #[.int .i64 a, .int .i64 b] w fun e w' => e = .returned (.bool true) ∧ Below w.heap.size w w' := by
  have HT := Lib.hid ht
  clear ba bb ht
  obtain ⟨K, hK⟩ : ∃ K, knownB a b = K := ⟨_, rfl⟩
  have HK := Lib.hid hK
  have hbd : K = false ∨ (1 ≤ a ∧ a ≤ 6 ∧ 0 ≤ b ∧ b ≤ 11) := by
    cases K
    · exact .inl rfl
    · exact .inr (knownB_bd hK)
  have hsane : K = false ∨ nsaneB a b 0 = true := by
    rcases hbd with h | h
    · exact .inl h
    · exact .inr (by unfold nsaneB; simp; omega)
  clear hK
  have HS := Lib.hid hsane
  clear hsane
  cases K
  all_goals
    go_enter Tryd.func6, Tryd.ntmps6
    go_wp2_with fail
    with_reducible refine (awake_any _ HT.out).mono ?_
    rintro e w1 ⟨rfl, hb1⟩
    have HB1 := Lib.hid hb1
    clear hb1
    go_wp2_with fail
    with_reducible refine (known_any _ _ _ (HT.out.below HB1.out)).mono ?_
    rw [HK.out]
    rintro e w2 ⟨rfl, hb2⟩
    have HB2 := Lib.hid (bstep HB1.out hb2)
    clear hb2
    try
      (go_wp2_with fail
       with_reducible refine (nsane_any _ _ _ _ _ _ (by omega)).mono ?_
       rw [HS.out.resolve_left (by decide)]
       rintro e w3 ⟨rfl, hb3⟩
       have HB3 := Lib.hid (bstep HB2.out hb3)
       clear hb3
       clear HB2)
    go_wp2_with fail
    go_loopw [6, 7] (fun nn c wr => ∃ j : Nat, j ≤ 10 ∧ c = .int .i64 ((j : Int) - 1) ∧ nn = .int .i64 (totCnt j) ∧ Below w.heap.size w wr) (fun _ c _ => 10 - (intOf c + 1).toNat)
    case atStart => exact ⟨0, by omega, by go_num, rfl, by first | exact HB3.out | exact HB2.out⟩
    case round =>
      obtain ⟨j, hj, rfl, rfl, hb⟩ := hrel
      have HB := Lib.hid hb
      clear hb
      by_cases hlt : j < 10
      · have hlt' : (j : Int) - 1 ≤ 8 := by omega
        go_wp2_with fail
        go_loopw [6, 8] (fun nn s wr2 => ∃ i : Nat, i ≤ 14 ∧ s = .int .i64 ((i : Int) - 1) ∧ nn = .int .i64 ((totCnt j : Int) + (rowCnt ((j : Int) - 1) i : Nat)) ∧ Below w.heap.size w wr2) (fun _ s _ => 14 - (intOf s + 1).toNat)
        case atStart => exact ⟨0, by omega, by go_num, by simp [rowCnt], HB.out⟩
        case round =>
          obtain ⟨i, hi, rfl, rfl, hb2⟩ := hrel
          have HBI := Lib.hid hb2
          clear hb2
          have t1 := totCnt_le j
          have t2 := rowCnt_le ((j : Int) - 1) i
          by_cases hlt2 : i < 14
          · have hlt2' : (i : Int) - 1 ≤ 12 := by omega
            obtain ⟨V, hV⟩ : ∃ V, knownB ((j : Int) - 1) ((i : Int) - 1) = V := ⟨_, rfl⟩
            have HV := Lib.hid hV
            have hstep : (rowCnt ((j : Int) - 1) (i + 1) : Int) = (rowCnt ((j : Int) - 1) i : Nat) + (if V = true then 1 else 0) := by
              show ((rowCnt _ i + (if knownB _ _ = true then 1 else 0) : Nat) : Int) = _
              rw [hV]
              cases V <;> simp
            have HST := Lib.hid hstep
            clear hV hstep
            cases V
            all_goals
              go_wp2_with fail
              with_reducible refine (known_any _ _ _ (HT.out.below HBI.out)).mono ?_
              rw [HV.out]
              rintro e w4 ⟨rfl, hb4⟩
              have HB4 := Lib.hid (bstep HBI.out hb4)
              clear hb4
              go_wp2
              go_roundw
              case rel => exact ⟨i + 1, by omega, by go_num, by rw [HST.out]; go_num, HB4.out⟩
              case measure => simp [intOf]; omega
          · obtain rfl : i = 14 := by omega
            go_wp2
            go_roundw
            case rel => exact ⟨j + 1, by omega, by go_num, by show _ = Value.int .i64 ((totCnt j + rowCnt ((j : Int) - 1) 14 : Nat) : Int); go_num, HBI.out⟩
            case measure => simp [intOf]; omega
      · obtain rfl : j = 10 := by omega
        rw [show ((totCnt 10 : Nat) : Int) = 35 by rw [tot35]; rfl]
        rcases hbd with hbd | ⟨b1, b2, b3, b4⟩
        all_goals try cases hbd
        all_goals
          go_wp2_with fail
          with_reducible refine (known_any _ _ _ (HT.out.below HB.out)).mono ?_
          rw [HK.out]
          rintro e w5 ⟨rfl, hb5⟩
          have HB5 := Lib.hid (bstep HB.out hb5)
          clear hb5
          go_wp2
          go_ret
          exact ⟨rfl, HB5.out⟩
end Go.Proofs.YtmkpkbigceinfaaDoor
