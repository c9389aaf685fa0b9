/- The law RolePairs. -/
import Derived.Test.YtmlhbmlppgoklaaDoorRole4
namespace Go.Proofs.YtmlhbmlppgoklaaDoor
open Go.RowKit
set_option maxHeartbeats 400000
set_option linter.unusedVariables false
set_option linter.unusedSimpArgs false

/-- How many of the first j numbers from -2 on go together with a. -/
def cntP (a : Int) : Nat → Nat
  | 0 => 0
  | j + 1 => cntP a j + if pairsB a ((j : Int) - 2) = true then 1 else 0
theorem cntP_le (a : Int) (j : Nat) : cntP a j ≤ j := by
  induction j with
  | zero => exact Nat.le_refl _
  | succ j ih => unfold cntP; split <;> omega
theorem cntP_out (a : Int) (h : a < 0 ∨ 4 < a) (j : Nat) : cntP a j = 0 := by
  induction j with
  | zero => rfl
  | succ j ih =>
    have h0 : (a == 0) = false := by simp; omega
    have h1 : (a == 1) = false := by simp; omega
    have h2 : (a == 2) = false := by simp; omega
    have h3 : (a == 3) = false := by simp; omega
    have h4 : (a == 4) = false := by simp; omega
    simp [cntP, ih, pairsB, h0, h1, h2, h3, h4]
theorem cntP_in (a : Int) (h : 0 ≤ a ∧ a ≤ 4) : cntP a 10 = 1 := by
  rcases (show a = 0 ∨ a = 1 ∨ a = 2 ∨ a = 3 ∨ a = 4 by omega) with rfl | rfl | rfl | rfl | rfl <;> decide
theorem pairsB_comm (a b : Int) : pairsB a b = pairsB b a := by
  unfold pairsB
  cases (a == 0) <;> cases (a == 1) <;> cases (a == 2) <;> cases (a == 3) <;> cases (a == 4) <;> cases (b == 0) <;> cases (b == 1) <;> cases (b == 2) <;> cases (b == 3) <;> cases (b == 4) <;> rfl
theorem pairsB_range (a b : Int) (h : pairsB a b = true) : 0 ≤ b ∧ b ≤ 4 := by
  simp [pairsB] at h
  omega

def wantB (a : Int) : Bool := decide (0 ≤ a) && decide (a ≤ 4)

theorem pairs_end (w : World) (ht : Tab w) (rel to : Int) : ∃ v : Bool, pairsB (mineZ rel) (mineZ to) = v ∧ (if 1 ≤ rel ∧ rel ≤ 3 ∧ 1 ≤ to ∧ to ≤ 3 then v = (rel + to == 4) else v = false) := by
  refine ⟨_, rfl, ?_⟩
  split
  · rename_i h
    rcases (show rel = 1 ∨ rel = 2 ∨ rel = 3 by omega) with rfl | rfl | rfl <;> rcases (show to = 1 ∨ to = 2 ∨ to = 3 by omega) with rfl | rfl | rfl <;> rfl
  · rename_i h
    by_cases hr : 1 ≤ rel ∧ rel ≤ 3
    · have hto : mineZ to = -1 := by
        have h1 : (to == 1) = false := by simp; omega
        have h2 : (to == 2) = false := by simp; omega
        have h3 : (to == 3) = false := by simp; omega
        simp [mineZ, h1, h2, h3]
      rw [hto]
      simp [pairsB]
    · have hto : mineZ rel = -1 := by
        have h1 : (rel == 1) = false := by simp; omega
        have h2 : (rel == 2) = false := by simp; omega
        have h3 : (rel == 3) = false := by simp; omega
        simp [mineZ, h1, h2, h3]
      rw [hto]
      simp [pairsB]

set_option maxHeartbeats 6000000 in
theorem rolePairs_law (w : World) (ht : Tab w) (a b rel to : Int) : Calls Tryd.prog 6 #[.int .i64 a, .int .i64 b, .int .i64 rel, .int .i64 to] w fun e w' => e = .returned (.bool true) ∧ Below w.heap.size w w' := by
  go_enter Tryd.func6, Tryd.ntmps6
  go_wp2_with fail
  with_reducible refine (rawake_any _ ht).mono ?_
  rintro e w1 ⟨rfl, hb1⟩
  have ht1 := ht.below hb1
  go_wp2_with fail
  go_loopw [10, 11] (fun n c wr => ∃ j : Nat, j ≤ 10 ∧ c = .int .i64 ((j : Int) - 2) ∧ n = .int .i64 (cntP a j : Nat) ∧ Below w1.heap.size w1 wr) (fun _ c _ => (8 - intOf c).toNat)
  case atStart => exact ⟨0, by omega, rfl, rfl, Below.refl _ _⟩
  case round =>
    obtain ⟨j, hj, rfl, rfl, hb⟩ := hrel
    have HB := Lib.hid hb
    have htr := Lib.hid (ht1.below hb)
    have hle := cntP_le a j
    clear ht1 ht hb
    by_cases hlt : j < 10
    · have h7 : (j : Int) - 2 ≤ 7 := by omega
      cases hp : pairsB a ((j : Int) - 2)
      · have HP := Lib.hid hp
        have HC := Lib.hid (show cntP a (j + 1) = cntP a j by simp [cntP, hp])
        clear hp
        generalize cntP a j = m at *
        go_wp2_with fail
        with_reducible refine (pairs_any _ _ _ htr.out).mono ?_
        rw [HP.out]
        rintro e w2 ⟨rfl, hb2⟩
        go_wp2
        go_roundw
        case rel => exact ⟨j + 1, by omega, by go_num, by rw [HC.out], bstep HB.out hb2⟩
        case measure => simp [intOf]; omega
      · have HP := Lib.hid hp
        have HC := Lib.hid (show cntP a (j + 1) = cntP a j + 1 by simp [cntP, hp])
        clear hp
        generalize cntP a j = m at *
        go_wp2_with fail
        with_reducible refine (pairs_any _ _ _ htr.out).mono ?_
        rw [HP.out]
        rintro e w2 ⟨rfl, hb2⟩
        go_wp2
        go_roundw
        case rel => exact ⟨j + 1, by omega, by go_num, by rw [HC.out]; go_num, bstep HB.out hb2⟩
        case measure => simp [intOf]; omega
    · have h7 : (7 : Int) < (j : Int) - 2 := by omega
      obtain rfl : j = 10 := by omega
      clear hlt hle hj
      have HEND := Lib.hid (pairs_end wr htr.out rel to)
      have HR : (1 ≤ rel ∧ rel ≤ 3 ∧ 1 ≤ to ∧ to ≤ 3) ∨ rel < 1 ∨ (1 ≤ rel ∧ 3 < rel) ∨ (1 ≤ rel ∧ rel ≤ 3 ∧ to < 1) ∨ (1 ≤ rel ∧ rel ≤ 3 ∧ 1 ≤ to ∧ 3 < to) := by omega
      have HA : (a < 0 ∧ cntP a 10 = 0) ∨ (0 ≤ a ∧ a ≤ 4 ∧ cntP a 10 = 1) ∨ (0 ≤ a ∧ 4 < a ∧ cntP a 10 = 0) := by
        by_cases h : a < 0
        · exact .inl ⟨h, cntP_out a (.inl h) 10⟩
        · by_cases h4 : a ≤ 4
          · exact .inr (.inl ⟨by omega, h4, cntP_in a ⟨by omega, h4⟩⟩)
          · exact .inr (.inr ⟨by omega, by omega, cntP_out a (.inr (by omega)) 10⟩)
      have HRNG := Lib.hid (pairsB_range a b)
      obtain ⟨P, hP⟩ : ∃ P, pairsB a b = P := ⟨_, rfl⟩
      have HP := Lib.hid hP
      clear hP
      rcases HA with ⟨a1, hc⟩ | ⟨a1, a2, hc⟩ | ⟨a1, a2, hc⟩
      all_goals
        generalize cntP a 10 = cnt at *
        subst hc
        cases P
        all_goals
          have HB2 : Hid (pairsB a b = true → 0 ≤ b ∧ b ≤ 4) := HRNG
          first
            | (have hbr := HB2.out (HP.out); obtain ⟨b1, b2⟩ := hbr)
            | skip
          go_wp2_with fail
          with_reducible refine (pairs_any _ _ _ htr.out).mono ?_
          rw [HP.out]
          rintro e w2 ⟨rfl, hb2⟩
          have ht2 := Lib.hid (htr.out.below hb2)
          go_wp2_with fail
          with_reducible refine (pairs_any _ _ _ ht2.out).mono ?_
          rw [pairsB_comm, HP.out]
          rintro e w3 ⟨rfl, hb3⟩
          have ht3 := Lib.hid (ht2.out.below hb3)
          go_wp2_with fail
          with_reducible refine (pairs_any _ _ _ ht3.out).mono ?_
          rw [HP.out]
          rintro e w4 ⟨rfl, hb4⟩
          have ht4 := Lib.hid (ht3.out.below hb4)
          obtain ⟨V, hV, hV2⟩ := HEND.out
          have HV := Lib.hid hV
          clear hV
          have HV2 := Lib.hid hV2
          clear hV2
          have HB3 := Lib.hid (bstep hb1 (bstep HB.out (bstep hb2 (bstep hb3 hb4))))
          clear hb1 hb2 hb3 hb4
          rcases HR with ⟨r1, r2, r3, r4⟩ | r1 | ⟨r1, r2⟩ | ⟨r1, r2, r3⟩ | ⟨r1, r2, r3, r4⟩
          all_goals
            have hv := HV2.out
            first
              | (rw [if_pos ⟨by omega, by omega, by omega, by omega⟩] at hv)
              | (rw [if_neg (by omega)] at hv)
            have HVV := Lib.hid hv
            clear hv
            go_wp2_with fail
            with_reducible refine (mine_any _ _).mono ?_
            rintro e w5 ⟨rfl, rfl⟩
            go_wp2_with fail
            with_reducible refine (mine_any _ _).mono ?_
            rintro e w5 ⟨rfl, rfl⟩
            go_wp2_with fail
            with_reducible refine (pairs_any _ _ _ ht4.out).mono ?_
            rw [HV.out, HVV.out]
            rintro e w5 ⟨rfl, hb5⟩
            go_wp2
            go_ret
            exact ⟨rfl, bstep HB3.out hb5⟩
end Go.Proofs.YtmlhbmlppgoklaaDoor
