/- The walk of prefix.Has. -/
import Derived.Test.YtmlhbmlppgoklabPol1
namespace Go.Proofs.Ytmlhbmlppgoklab
open Go.RowKit
set_option maxHeartbeats 4000000
set_option linter.unusedVariables false
set_option linter.unusedSimpArgs false

theorem pfxSize : (Try.prog.info? 24).map (·.size) = some 2 := by kernel_rfl
theorem phas_any (a n b m : Int) (w : World) : Calls Try.prog 30 #[.agg #[.int .i64 a, .int .i64 n], .agg #[.int .i64 b, .int .i64 m]] w (Ret (Just (.bool (hasB a n b m))) w) := by
  obtain ⟨M, hM⟩ : ∃ M, maskZ b n = M := ⟨_, rfl⟩
  obtain ⟨s1, hs1⟩ : ∃ d, pfxB a n = d := ⟨_, rfl⟩
  obtain ⟨s2, hs2⟩ : ∃ d, pfxB b m = d := ⟨_, rfl⟩
  obtain ⟨d1, hd1⟩ : ∃ d, decide (n ≤ m) = d := ⟨_, rfl⟩
  have HF := Lib.hid (show hasB a n b m = (s1 && (s2 && (d1 && (M == a)))) by unfold hasB; rw [hM, hs1, hs2, hd1])
  have HM := Lib.hid hM
  have H1 := Lib.hid hs1
  have H2 := Lib.hid hs2
  clear hM hs1 hs2
  cases s1 <;> cases s2 <;> cases d1
  all_goals
    go_enter Try.func30, Try.ntmps30
    go_wp2_with fail
    have R := Lib.hid (heap_alloc2_old w (.cells #[.int .i64 a, .int .i64 n] 24) (.cells #[.int .i64 b, .int .i64 m] 24))
    have R2 := Lib.hid (heap_alloc2_new w (.cells #[.int .i64 a, .int .i64 n] 24) (.cells #[.int .i64 b, .int .i64 m] 24))
    have HB := Lib.hid (balloc (bnew w (.cells #[.int .i64 a, .int .i64 n] 24)) (.cells #[.int .i64 b, .int .i64 m] 24))
    generalize (w.alloc (.cells #[.int .i64 a, .int .i64 n] 24)).alloc (.cells #[.int .i64 b, .int .i64 m] 24) = W0 at *
    have f0 := fun W (hC : Below W0.heap.size W0 W) => (row2 (row_to hC R.out)).1
    have f1 := fun W (hC : Below W0.heap.size W0 W) => (row2 (row_to hC R.out)).2
    have f2 := fun W (hC : Below W0.heap.size W0 W) => (row2 (row_to hC R2.out)).1
    have f3 := fun W (hC : Below W0.heap.size W0 W) => (row2 (row_to hC R2.out)).2
    refine wp_region_rel (by kernel_rfl) (by decide +kernel) (by rfl) ?_
    repeat (first
      | (refine rel_skip ⟨_, _, _, _, rfl, rfl, rfl, ?_⟩ ?_
         focus (intro h; cases h; done))
      | refine rel_move _ (Just _) (.inl rfl) (by first | exact .inl rfl | exact .inr ⟨_, _, _, rfl, rfl, rfl⟩) rfl (lasts_just _) ?_
      | refine rel_move _ (Just _) (.inr rfl) (by first | exact .inl rfl | exact .inr ⟨_, _, _, rfl, rfl, rfl⟩) rfl (lasts_just _) ?_
      | refine rel_moveC _ (.inl rfl) (by first | exact .inl rfl | exact .inr ⟨_, _, _, rfl, rfl, rfl⟩) ?_
      | refine rel_moveC _ (.inr rfl) (by first | exact .inl rfl | exact .inr ⟨_, _, _, rfl, rfl, rfl⟩) ?_
      | refine rel_str _ _ rfl (by first | exact .inl rfl | exact .inr ⟨_, _, _, rfl, rfl, rfl⟩) rfl ?_
      | refine rel_lenB _ _ rfl (by first | exact .inl rfl | exact .inr ⟨_, _, _, rfl, rfl, rfl⟩) rfl ?_
      | refine rel_move _ (IsB _) (.inl rfl) (by first | exact .inl rfl | exact .inr ⟨_, _, _, rfl, rfl, rfl⟩) rfl (lasts_isB _) ?_
      | refine rel_move _ (IsB _) (.inr rfl) (by first | exact .inl rfl | exact .inr ⟨_, _, _, rfl, rfl, rfl⟩) rfl (lasts_isB _) ?_
      | (refine rel_exact ?_ (by first | exact .inl rfl | exact .inr ⟨_, _, _, rfl, rfl, rfl⟩) ?_ ?_
         rotate_left
         (intro ρ W hρ hC hk
          simp [known, looks, Op.operands, Call.operands, slotFact, Just, List.lookup] at hk
          obtain ⟨hρ1, hρ2, hρ3⟩ := hρ
          go_simp
          rfl)))
    try refine rel_loadRow 2 w.heap.size 24 24 #[.int .i64 a, .int .i64 n] (0, 0) _ rfl (by first | exact .inl rfl | exact .inr ⟨_, _, _, rfl, rfl, rfl⟩) rfl Try.underlying24 rfl pfxSize (fun W hC => row_to hC R.out) ?_
    refine rel_op (Just (.bool (pfxB a n))) (lasts_just _) (by first | exact .inl rfl | exact .inr ⟨_, _, _, rfl, rfl, rfl⟩) ?_ ?_
    · intro ρ W hρ hC hk
      simp [known, looks, Op.operands, Call.operands, slotFact, Just, List.lookup] at hk
      obtain ⟨hρ1, hρ2, hρ3⟩ := hρ
      go_simp
      exact ⟨Below.refl _ _, psane_any a n _⟩
    rw [H1.out]
    repeat (first
      | (refine rel_skip ⟨_, _, _, _, rfl, rfl, rfl, ?_⟩ ?_
         focus (intro h; cases h; done))
      | refine rel_move _ (Just _) (.inl rfl) (by first | exact .inl rfl | exact .inr ⟨_, _, _, rfl, rfl, rfl⟩) rfl (lasts_just _) ?_
      | refine rel_move _ (Just _) (.inr rfl) (by first | exact .inl rfl | exact .inr ⟨_, _, _, rfl, rfl, rfl⟩) rfl (lasts_just _) ?_
      | refine rel_moveC _ (.inl rfl) (by first | exact .inl rfl | exact .inr ⟨_, _, _, rfl, rfl, rfl⟩) ?_
      | refine rel_moveC _ (.inr rfl) (by first | exact .inl rfl | exact .inr ⟨_, _, _, rfl, rfl, rfl⟩) ?_
      | refine rel_str _ _ rfl (by first | exact .inl rfl | exact .inr ⟨_, _, _, rfl, rfl, rfl⟩) rfl ?_
      | refine rel_lenB _ _ rfl (by first | exact .inl rfl | exact .inr ⟨_, _, _, rfl, rfl, rfl⟩) rfl ?_
      | refine rel_move _ (IsB _) (.inl rfl) (by first | exact .inl rfl | exact .inr ⟨_, _, _, rfl, rfl, rfl⟩) rfl (lasts_isB _) ?_
      | refine rel_move _ (IsB _) (.inr rfl) (by first | exact .inl rfl | exact .inr ⟨_, _, _, rfl, rfl, rfl⟩) rfl (lasts_isB _) ?_
      | (refine rel_exact ?_ (by first | exact .inl rfl | exact .inr ⟨_, _, _, rfl, rfl, rfl⟩) ?_ ?_
         rotate_left
         (intro ρ W hρ hC hk
          simp [known, looks, Op.operands, Call.operands, slotFact, Just, List.lookup] at hk
          obtain ⟨hρ1, hρ2, hρ3⟩ := hρ
          go_simp
          rfl)))
    try
      (try refine rel_loadRow 3 (w.heap.size + 1) 24 24 #[.int .i64 b, .int .i64 m] (0, 0) _ rfl (by first | exact .inl rfl | exact .inr ⟨_, _, _, rfl, rfl, rfl⟩) rfl Try.underlying24 rfl pfxSize (fun W hC => row_to hC R2.out) ?_
       refine rel_op (Just (.bool (pfxB b m))) (lasts_just _) (by first | exact .inl rfl | exact .inr ⟨_, _, _, rfl, rfl, rfl⟩) ?_ ?_
       · intro ρ W hρ hC hk
         simp [known, looks, Op.operands, Call.operands, slotFact, Just, List.lookup] at hk
         obtain ⟨hρ1, hρ2, hρ3⟩ := hρ
         go_simp
         exact ⟨Below.refl _ _, psane_any b m _⟩
       rw [H2.out]
       repeat (first
         | (refine rel_skip ⟨_, _, _, _, rfl, rfl, rfl, ?_⟩ ?_
            focus (intro h; cases h; done))
         | refine rel_move _ (Just _) (.inl rfl) (by first | exact .inl rfl | exact .inr ⟨_, _, _, rfl, rfl, rfl⟩) rfl (lasts_just _) ?_
         | refine rel_move _ (Just _) (.inr rfl) (by first | exact .inl rfl | exact .inr ⟨_, _, _, rfl, rfl, rfl⟩) rfl (lasts_just _) ?_
         | refine rel_moveC _ (.inl rfl) (by first | exact .inl rfl | exact .inr ⟨_, _, _, rfl, rfl, rfl⟩) ?_
         | refine rel_moveC _ (.inr rfl) (by first | exact .inl rfl | exact .inr ⟨_, _, _, rfl, rfl, rfl⟩) ?_
         | refine rel_str _ _ rfl (by first | exact .inl rfl | exact .inr ⟨_, _, _, rfl, rfl, rfl⟩) rfl ?_
         | refine rel_lenB _ _ rfl (by first | exact .inl rfl | exact .inr ⟨_, _, _, rfl, rfl, rfl⟩) rfl ?_
         | refine rel_move _ (IsB _) (.inl rfl) (by first | exact .inl rfl | exact .inr ⟨_, _, _, rfl, rfl, rfl⟩) rfl (lasts_isB _) ?_
         | refine rel_move _ (IsB _) (.inr rfl) (by first | exact .inl rfl | exact .inr ⟨_, _, _, rfl, rfl, rfl⟩) rfl (lasts_isB _) ?_
         | (refine rel_exact ?_ (by first | exact .inl rfl | exact .inr ⟨_, _, _, rfl, rfl, rfl⟩) ?_ ?_
            rotate_left
            (intro ρ W hρ hC hk
             simp [known, looks, Op.operands, Call.operands, slotFact, Just, List.lookup] at hk
             obtain ⟨hρ1, hρ2, hρ3⟩ := hρ
             go_simp
             rfl)))
       skip)
    try
      (refine rel_op (Just (.int .i64 M)) (lasts_just _) (by first | exact .inl rfl | exact .inr ⟨_, _, _, rfl, rfl, rfl⟩) ?_ ?_
       · intro ρ W hρ hC hk
         simp [known, looks, Op.operands, Call.operands, slotFact, Just, List.lookup] at hk
         obtain ⟨hρ1, hρ2, hρ3⟩ := hρ
         go_simp
         refine ⟨Below.refl _ _, (mask_any b n _).mono ?_⟩
         rw [HM.out]
         rintro e w3 ⟨rfl, rfl⟩
         exact ⟨_, rfl, rfl, Below.refl _ _⟩
       repeat (first
         | (refine rel_skip ⟨_, _, _, _, rfl, rfl, rfl, ?_⟩ ?_
            focus (intro h; cases h; done))
         | refine rel_move _ (Just _) (.inl rfl) (by first | exact .inl rfl | exact .inr ⟨_, _, _, rfl, rfl, rfl⟩) rfl (lasts_just _) ?_
         | refine rel_move _ (Just _) (.inr rfl) (by first | exact .inl rfl | exact .inr ⟨_, _, _, rfl, rfl, rfl⟩) rfl (lasts_just _) ?_
         | refine rel_moveC _ (.inl rfl) (by first | exact .inl rfl | exact .inr ⟨_, _, _, rfl, rfl, rfl⟩) ?_
         | refine rel_moveC _ (.inr rfl) (by first | exact .inl rfl | exact .inr ⟨_, _, _, rfl, rfl, rfl⟩) ?_
         | refine rel_str _ _ rfl (by first | exact .inl rfl | exact .inr ⟨_, _, _, rfl, rfl, rfl⟩) rfl ?_
         | refine rel_lenB _ _ rfl (by first | exact .inl rfl | exact .inr ⟨_, _, _, rfl, rfl, rfl⟩) rfl ?_
         | refine rel_move _ (IsB _) (.inl rfl) (by first | exact .inl rfl | exact .inr ⟨_, _, _, rfl, rfl, rfl⟩) rfl (lasts_isB _) ?_
         | refine rel_move _ (IsB _) (.inr rfl) (by first | exact .inl rfl | exact .inr ⟨_, _, _, rfl, rfl, rfl⟩) rfl (lasts_isB _) ?_
         | (refine rel_exact ?_ (by first | exact .inl rfl | exact .inr ⟨_, _, _, rfl, rfl, rfl⟩) ?_ ?_
            rotate_left
            (intro ρ W hρ hC hk
             simp [known, looks, Op.operands, Call.operands, slotFact, Just, List.lookup] at hk
             obtain ⟨hρ1, hρ2, hρ3⟩ := hρ
             go_simp
             rfl)))
       skip)
    refine rel_nil ?_
    intro a W hC hd hsz ht
    refine fin_exit hsz hd ht (of_decide_eq_true (by kernel_rfl)) ?_
    repeat (first
      | refine fin_just ?_
      | (intro _ _))
    refine fin_nil ?_
    simp only [Act.put, Option.getD_some, List.setIfInBounds_toArray, List.set_cons_zero, List.set_cons_succ]
    clear hd hsz ht
    go_wp2
    go_ret
    exact ⟨_, rfl, by rw [HF.out]; rfl, bstep HB.out hC⟩
end Go.Proofs.Ytmlhbmlppgoklab
