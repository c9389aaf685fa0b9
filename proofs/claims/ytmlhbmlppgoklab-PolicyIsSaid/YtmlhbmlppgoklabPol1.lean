/- The walks of package prefix: the first bits, what is a prefix, has another. -/
import Derived.Test.YtmlhbmlppgoklabPolP
import Derived.Test.YtmlhbmlppgoklabCom
namespace Go.Proofs.Ytmlhbmlppgoklab
open Go.RowKit
set_option maxHeartbeats 400000
set_option linter.unusedVariables false
set_option linter.unusedSimpArgs false

theorem wrap_in (n : Int) (h : -9223372036854775808 ≤ n ∧ n ≤ 9223372036854775807) : wrap64 n = n := by unfold wrap64; omega
theorem cut_le (x g : Nat) : (0 : Int) ≤ (x : Int) / 2 ^ g * 2 ^ g ∧ (x : Int) / 2 ^ g * 2 ^ g ≤ x := by
  have e : (2 : Int) ^ g = ((2 ^ g : Nat) : Int) := by simp
  rw [e]
  have h1 : (x : Int) / ((2 ^ g : Nat) : Int) * ((2 ^ g : Nat) : Int) = ((x / 2 ^ g * 2 ^ g : Nat) : Int) := by simp
  rw [h1]
  have := Nat.div_mul_le_self x (2 ^ g)
  omega
theorem wrap_cut (x g : Nat) (hx : x < 4294967296) : wrap64 ((x : Int) / 2 ^ g * 2 ^ g) = (x : Int) / 2 ^ g * 2 ^ g := by
  have := cut_le x g
  exact wrap_in _ (by omega)

theorem mask_any (a n : Int) (w : World) : Calls Try.prog 36 #[.int .i64 a, .int .i64 n] w fun e w' => e = .returned (.int .i64 (maskZ a n)) ∧ w = w' := by
  have hand := and_mask a 32 (by omega)
  rw [show (2 : Int) ^ 32 - 1 = 4294967295 by decide, show (2 : Int) ^ 32 = 4294967296 by decide] at hand
  obtain ⟨x, hx⟩ : ∃ x : Nat, a % 4294967296 = x := ⟨(a % 4294967296).toNat, by omega⟩
  have hxl : x < 4294967296 := by omega
  rw [hx] at hand
  have HX := Lib.hid hx
  have HXL := Lib.hid hxl
  clear hx hxl
  rcases (show n < 0 ∨ (0 ≤ n ∧ n ≤ 32) ∨ (0 ≤ n ∧ 33 ≤ n) by omega) with h | ⟨h, h2⟩ | ⟨h, h2⟩
  · have HF := Lib.hid (show wrap64 ((x : Int) / 4294967296 * 4294967296) = maskZ a n by
      unfold maskZ
      rw [HX.out, show (32 - min (max n 0) 32).toNat = 32 by omega]
      exact wrap_cut x 32 HXL.out)
    go_enter Try.func36, Try.ntmps36
    go_wp2
    go_ret
    exact ⟨by rw [← HF.out]; rfl, rfl⟩
  · have HF := Lib.hid (show wrap64 ((x : Int) / 2 ^ (32 - n).toNat * 2 ^ (32 - n).toNat) = maskZ a n by
      unfold maskZ
      rw [HX.out, show (32 - min (max n 0) 32).toNat = (32 - n).toNat by omega]
      exact wrap_cut x _ HXL.out)
    go_enter Try.func36, Try.ntmps36
    go_wp2
    go_ret
    exact ⟨by rw [← HF.out]; rfl, rfl⟩
  · have HF := Lib.hid (show (x : Int) = maskZ a n by
      unfold maskZ
      rw [HX.out, show (32 - min (max n 0) 32).toNat = 0 by omega]
      simp)
    go_enter Try.func36, Try.ntmps36
    go_wp2
    go_ret
    exact ⟨by rw [← HF.out]; exact congrArg (fun z => Ending.returned (Value.int .i64 z)) (wrap_in (x : Int) (by have := HXL.out; omega)), rfl⟩

theorem psane_any (a n : Int) (w : World) : Calls Try.prog 26 #[.agg #[.int .i64 a, .int .i64 n]] w (Ret (Just (.bool (pfxB a n))) w) := by
  obtain ⟨M, hM⟩ : ∃ M, maskZ a n = M := ⟨_, rfl⟩
  have HF := Lib.hid (show pfxB a n = (decide (0 ≤ n) && (decide (n ≤ 32) && (M == a))) by unfold pfxB; rw [hM])
  have HM := Lib.hid hM
  clear hM
  obtain ⟨d1, hd1⟩ : ∃ d, decide (0 ≤ n) = d := ⟨_, rfl⟩
  obtain ⟨d2, hd2⟩ : ∃ d, decide (n ≤ 32) = d := ⟨_, rfl⟩
  rw [hd1, hd2] at HF
  cases d1 <;> cases d2
  all_goals
    go_enter Try.func26, Try.ntmps26
    go_wp2_with fail
    have R := Lib.hid (heap_alloc_new w (.cells #[.int .i64 a, .int .i64 n] 24))
    have HB := Lib.hid (bnew w (.cells #[.int .i64 a, .int .i64 n] 24))
    generalize w.alloc (.cells #[.int .i64 a, .int .i64 n] 24) = W0 at *
    have f0 := fun W (hC : Below W0.heap.size W0 W) => (row2 (row_to hC R.out)).1
    have f1 := fun W (hC : Below W0.heap.size W0 W) => (row2 (row_to hC R.out)).2
    refine wp_region_rel (by kernel_rfl) (by decide +kernel) (by rfl) ?_
    repeat (first
      | (refine rel_skip ⟨_, _, _, _, rfl, rfl, rfl, ?_⟩ ?_
         focus (intro h; cases h; done))
      | refine rel_move _ (Just _) (.inl rfl) (by first | exact .inl rfl | exact .inr ⟨_, _, _, rfl, rfl, rfl⟩) rfl (lasts_just _) ?_
      | refine rel_move _ (Just _) (.inr rfl) (by first | exact .inl rfl | exact .inr ⟨_, _, _, rfl, rfl, rfl⟩) rfl (lasts_just _) ?_
      | refine rel_moveC _ (.inl rfl) (by first | exact .inl rfl | exact .inr ⟨_, _, _, rfl, rfl, rfl⟩) ?_
      | refine rel_moveC _ (.inr rfl) (by first | exact .inl rfl | exact .inr ⟨_, _, _, rfl, rfl, rfl⟩) ?_
      | refine rel_str _ _ rfl (by first | exact .inl rfl | exact .inr ⟨_, _, _, rfl, rfl, rfl⟩) rfl ?_
      | refine rel_lenB _ _ rfl (by first | exact .inl rfl | exact .inr ⟨_, _, _, rfl, rfl, rfl⟩) rfl ?_
      | refine rel_move _ (IsB _) (.inl rfl) (by first | exact .inl rfl | exact .inr ⟨_, _, _, rfl, rfl, rfl⟩) rfl (lasts_isB _) ?_
      | refine rel_move _ (IsB _) (.inr rfl) (by first | exact .inl rfl | exact .inr ⟨_, _, _, rfl, rfl, rfl⟩) rfl (lasts_isB _) ?_
      | (refine rel_exact ?_ (by first | exact .inl rfl | exact .inr ⟨_, _, _, rfl, rfl, rfl⟩) ?_ ?_
         rotate_left
         (intro ρ W hρ hC hk
          simp [known, looks, Op.operands, Call.operands, slotFact, Just, List.lookup] at hk
          obtain ⟨hρ1, hρ2, hρ3⟩ := hρ
          go_simp
          rfl)))
    try
      (refine rel_op (Just (.int .i64 M)) (lasts_just _) (by first | exact .inl rfl | exact .inr ⟨_, _, _, rfl, rfl, rfl⟩) ?_ ?_
       rotate_left
       repeat (first
         | (refine rel_skip ⟨_, _, _, _, rfl, rfl, rfl, ?_⟩ ?_
            focus (intro h; cases h; done))
         | refine rel_move _ (Just _) (.inl rfl) (by first | exact .inl rfl | exact .inr ⟨_, _, _, rfl, rfl, rfl⟩) rfl (lasts_just _) ?_
         | refine rel_move _ (Just _) (.inr rfl) (by first | exact .inl rfl | exact .inr ⟨_, _, _, rfl, rfl, rfl⟩) rfl (lasts_just _) ?_
         | refine rel_moveC _ (.inl rfl) (by first | exact .inl rfl | exact .inr ⟨_, _, _, rfl, rfl, rfl⟩) ?_
         | refine rel_moveC _ (.inr rfl) (by first | exact .inl rfl | exact .inr ⟨_, _, _, rfl, rfl, rfl⟩) ?_
         | refine rel_str _ _ rfl (by first | exact .inl rfl | exact .inr ⟨_, _, _, rfl, rfl, rfl⟩) rfl ?_
         | refine rel_lenB _ _ rfl (by first | exact .inl rfl | exact .inr ⟨_, _, _, rfl, rfl, rfl⟩) rfl ?_
         | refine rel_move _ (IsB _) (.inl rfl) (by first | exact .inl rfl | exact .inr ⟨_, _, _, rfl, rfl, rfl⟩) rfl (lasts_isB _) ?_
         | refine rel_move _ (IsB _) (.inr rfl) (by first | exact .inl rfl | exact .inr ⟨_, _, _, rfl, rfl, rfl⟩) rfl (lasts_isB _) ?_
         | (refine rel_exact ?_ (by first | exact .inl rfl | exact .inr ⟨_, _, _, rfl, rfl, rfl⟩) ?_ ?_
            rotate_left
            (intro ρ W hρ hC hk
             simp [known, looks, Op.operands, Call.operands, slotFact, Just, List.lookup] at hk
             obtain ⟨hρ1, hρ2, hρ3⟩ := hρ
             go_simp
             rfl)))
       rotate_left
       focus
         intro ρ W hρ hC hk
         simp [known, looks, Op.operands, Call.operands, slotFact, Just, List.lookup] at hk
         obtain ⟨hρ1, hρ2, hρ3⟩ := hρ
         go_simp
         refine ⟨Below.refl _ _, (mask_any a n _).mono ?_⟩
         rw [HM.out]
         rintro e w3 ⟨rfl, rfl⟩
         exact ⟨_, rfl, rfl, Below.refl _ _⟩)
    refine rel_nil ?_
    intro a W hC hd hsz ht
    refine fin_exit hsz hd ht (of_decide_eq_true (by kernel_rfl)) ?_
    repeat (first
      | refine fin_just ?_
      | (intro _ _))
    refine fin_nil ?_
    simp only [Act.put, Option.getD_some, List.setIfInBounds_toArray, List.set_cons_zero, List.set_cons_succ]
    clear hd hsz ht
    go_wp2
    go_ret
    exact ⟨_, rfl, by rw [HF.out]; rfl, bstep HB.out hC⟩
end Go.Proofs.Ytmlhbmlppgoklab
