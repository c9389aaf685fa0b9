/- The walk of the reference's names. -/
import Derived.Test.YtmkpkbigceinfaaDoorNote9
namespace Go.Proofs.YtmkpkbigceinfaaDoor
open Go.RowKit
set_option maxHeartbeats 4000000
set_option linter.unusedVariables false
set_option linter.unusedSimpArgs false

theorem rname_else (c s : Int) (A : Option Addr) (n k : Nat) (w : World) (c0 : -9223372036854775808 ≤ c) (c1 : c ≤ 9223372036854775807) (s0 : -9223372036854775808 ≤ s) (s1 : s ≤ 9223372036854775807) (h : c ≤ 0 ∨ 7 ≤ c) :
    Calls Tryd.prog 19 #[.agg #[.int .i64 c, .int .i64 s, .slice A n k]] w (Ret (Just (.string (str (nameL c s)))) w) := by
  have I1 := fun W => rdigits_any c c0 c1 W
  have I2 := fun W => rdigits_any s s0 s1 W
  have l1 := str_len _ _ (Lib.itoa_length_le c c0 c1)
  have l2 := str_len _ _ (Lib.itoa_length_le s s0 s1)
  clear c0 c1 s0 s1
  obtain ⟨X, hX⟩ : ∃ X, str (Lib.itoa c) = X := ⟨_, rfl⟩
  obtain ⟨Y, hY⟩ : ∃ Y, str (Lib.itoa s) = Y := ⟨_, rfl⟩
  rw [hX] at I1 l1
  rw [hY] at I2 l2
  have HX := Lib.hid hX
  have HY := Lib.hid hY
  have HI1 := Lib.hid I1
  have HI2 := Lib.hid I2
  clear hX hY I1 I2
  have HF := Lib.hid (name_out c s X Y ((congrArg str (nmL_else c h)).trans HX.out) HY.out)
  have sz1 : ¬ 9223372036854775807 < X.size + (ByteArray.mk #[47]).size := by
    have : (ByteArray.mk #[47]).size = 1 := rfl
    omega
  have sz1' : ¬ 9223372036854775807 < X.size + 1 := by omega
  have sz2' : ¬ 9223372036854775807 < X.size + 1 + Y.size := by omega
  have sz2 : ¬ 9223372036854775807 < (X ++ ByteArray.mk #[47]).size + Y.size := by
    have : (X ++ ByteArray.mk #[47]).size = X.size + 1 := by simp [ByteArray.size_append]; rfl
    omega
  rcases h with h | h
  all_goals
    go_enter Tryd.func19, Tryd.ntmps19
    go_wp2_with fail
    have hb := balloc (bnew w (.cells #[.int .i64 c, .int .i64 s, .slice A n k] 24)) (.cells #[.string (ByteArray.mk #[104, 101, 97, 100, 101, 114]), .string (ByteArray.mk #[111, 112, 101, 110]), .string (ByteArray.mk #[117, 112, 100, 97, 116, 101]), .string (ByteArray.mk #[104, 111, 108, 100]), .string (ByteArray.mk #[102, 115, 109]), .string (ByteArray.mk #[99, 101, 97, 115, 101])] 9)
    have R := Lib.hid (heap_alloc2_old w (.cells #[.int .i64 c, .int .i64 s, .slice A n k] 24) (.cells #[.string (ByteArray.mk #[104, 101, 97, 100, 101, 114]), .string (ByteArray.mk #[111, 112, 101, 110]), .string (ByteArray.mk #[117, 112, 100, 97, 116, 101]), .string (ByteArray.mk #[104, 111, 108, 100]), .string (ByteArray.mk #[102, 115, 109]), .string (ByteArray.mk #[99, 101, 97, 115, 101])] 9))
    generalize ((w.alloc (.cells #[.int .i64 c, .int .i64 s, .slice A n k] 24)).alloc (.cells #[.string (ByteArray.mk #[104, 101, 97, 100, 101, 114]), .string (ByteArray.mk #[111, 112, 101, 110]), .string (ByteArray.mk #[117, 112, 100, 97, 116, 101]), .string (ByteArray.mk #[104, 111, 108, 100]), .string (ByteArray.mk #[102, 115, 109]), .string (ByteArray.mk #[99, 101, 97, 115, 101])] 9)) = W0 at *
    have HB := Lib.hid hb
    clear hb
    have f1 := fun W (hC : Below W0.heap.size W0 W) => (row3 (row_to hC R.out)).1
    have f2 := fun W (hC : Below W0.heap.size W0 W) => (row3 (row_to hC R.out)).2.1
    refine wp_region_rel (by kernel_rfl) (by decide +kernel) (by rfl) ?_
    repeat (first
      | (refine rel_skip ⟨_, _, _, _, rfl, rfl, rfl, ?_⟩ ?_
         focus (intro h; cases h; done))
      | refine rel_move _ (Just _) (.inl rfl) (by first | exact .inl rfl | exact .inr ⟨_, _, _, rfl, rfl, rfl⟩) rfl (lasts_just _) ?_
      | refine rel_move _ (Just _) (.inr rfl) (by first | exact .inl rfl | exact .inr ⟨_, _, _, rfl, rfl, rfl⟩) rfl (lasts_just _) ?_
      | refine rel_moveC _ (.inl rfl) (by first | exact .inl rfl | exact .inr ⟨_, _, _, rfl, rfl, rfl⟩) ?_
      | refine rel_moveC _ (.inr rfl) (by first | exact .inl rfl | exact .inr ⟨_, _, _, rfl, rfl, rfl⟩) ?_
      | refine rel_str _ _ rfl (by first | exact .inl rfl | exact .inr ⟨_, _, _, rfl, rfl, rfl⟩) rfl ?_
      | refine rel_lenB _ _ rfl (by first | exact .inl rfl | exact .inr ⟨_, _, _, rfl, rfl, rfl⟩) rfl ?_
      | refine rel_move _ (IsB _) (.inl rfl) (by first | exact .inl rfl | exact .inr ⟨_, _, _, rfl, rfl, rfl⟩) rfl (lasts_isB _) ?_
      | refine rel_move _ (IsB _) (.inr rfl) (by first | exact .inl rfl | exact .inr ⟨_, _, _, rfl, rfl, rfl⟩) rfl (lasts_isB _) ?_
      | (refine rel_exact ?_ (by first | exact .inl rfl | exact .inr ⟨_, _, _, rfl, rfl, rfl⟩) ?_ ?_
         rotate_left
         (intro ρ W hρ hC hk
          simp [known, looks, Op.operands, Call.operands, slotFact, Just, List.lookup] at hk
          obtain ⟨hρ1, hρ2, hρ3⟩ := hρ
          go_simp
          rfl)))
    refine rel_op (Just (.string X)) (lasts_just _) (by first | exact .inl rfl | exact .inr ⟨_, _, _, rfl, rfl, rfl⟩) ?_ ?_
    · intro ρ W hρ hC hk
      simp [known, looks, Op.operands, Call.operands, slotFact, Just, List.lookup] at hk
      obtain ⟨hρ1, hρ2, hρ3⟩ := hρ
      go_simp
      refine ⟨Below.refl _ _, (HI1.out _).mono ?_⟩
      rintro e w3 ⟨rfl, rfl⟩
      exact ⟨_, rfl, rfl, Below.refl _ _⟩
    repeat (first
      | (refine rel_skip ⟨_, _, _, _, rfl, rfl, rfl, ?_⟩ ?_
         focus (intro h; cases h; done))
      | refine rel_move _ (Just _) (.inl rfl) (by first | exact .inl rfl | exact .inr ⟨_, _, _, rfl, rfl, rfl⟩) rfl (lasts_just _) ?_
      | refine rel_move _ (Just _) (.inr rfl) (by first | exact .inl rfl | exact .inr ⟨_, _, _, rfl, rfl, rfl⟩) rfl (lasts_just _) ?_
      | refine rel_moveC _ (.inl rfl) (by first | exact .inl rfl | exact .inr ⟨_, _, _, rfl, rfl, rfl⟩) ?_
      | refine rel_moveC _ (.inr rfl) (by first | exact .inl rfl | exact .inr ⟨_, _, _, rfl, rfl, rfl⟩) ?_
      | refine rel_str _ _ rfl (by first | exact .inl rfl | exact .inr ⟨_, _, _, rfl, rfl, rfl⟩) rfl ?_
      | refine rel_lenB _ _ rfl (by first | exact .inl rfl | exact .inr ⟨_, _, _, rfl, rfl, rfl⟩) rfl ?_
      | refine rel_move _ (IsB _) (.inl rfl) (by first | exact .inl rfl | exact .inr ⟨_, _, _, rfl, rfl, rfl⟩) rfl (lasts_isB _) ?_
      | refine rel_move _ (IsB _) (.inr rfl) (by first | exact .inl rfl | exact .inr ⟨_, _, _, rfl, rfl, rfl⟩) rfl (lasts_isB _) ?_
      | (refine rel_exact ?_ (by first | exact .inl rfl | exact .inr ⟨_, _, _, rfl, rfl, rfl⟩) ?_ ?_
         rotate_left
         (intro ρ W hρ hC hk
          simp [known, looks, Op.operands, Call.operands, slotFact, Just, List.lookup] at hk
          obtain ⟨hρ1, hρ2, hρ3⟩ := hρ
          go_simp
          rfl)))
    refine rel_op (Just (.string Y)) (lasts_just _) (by first | exact .inl rfl | exact .inr ⟨_, _, _, rfl, rfl, rfl⟩) ?_ ?_
    · intro ρ W hρ hC hk
      simp [known, looks, Op.operands, Call.operands, slotFact, Just, List.lookup] at hk
      obtain ⟨hρ1, hρ2, hρ3⟩ := hρ
      go_simp
      refine ⟨Below.refl _ _, (HI2.out _).mono ?_⟩
      rintro e w3 ⟨rfl, rfl⟩
      exact ⟨_, rfl, rfl, Below.refl _ _⟩
    repeat (first
      | (refine rel_skip ⟨_, _, _, _, rfl, rfl, rfl, ?_⟩ ?_
         focus (intro h; cases h; done))
      | refine rel_move _ (Just _) (.inl rfl) (by first | exact .inl rfl | exact .inr ⟨_, _, _, rfl, rfl, rfl⟩) rfl (lasts_just _) ?_
      | refine rel_move _ (Just _) (.inr rfl) (by first | exact .inl rfl | exact .inr ⟨_, _, _, rfl, rfl, rfl⟩) rfl (lasts_just _) ?_
      | refine rel_moveC _ (.inl rfl) (by first | exact .inl rfl | exact .inr ⟨_, _, _, rfl, rfl, rfl⟩) ?_
      | refine rel_moveC _ (.inr rfl) (by first | exact .inl rfl | exact .inr ⟨_, _, _, rfl, rfl, rfl⟩) ?_
      | refine rel_str _ _ rfl (by first | exact .inl rfl | exact .inr ⟨_, _, _, rfl, rfl, rfl⟩) rfl ?_
      | refine rel_lenB _ _ rfl (by first | exact .inl rfl | exact .inr ⟨_, _, _, rfl, rfl, rfl⟩) rfl ?_
      | refine rel_move _ (IsB _) (.inl rfl) (by first | exact .inl rfl | exact .inr ⟨_, _, _, rfl, rfl, rfl⟩) rfl (lasts_isB _) ?_
      | refine rel_move _ (IsB _) (.inr rfl) (by first | exact .inl rfl | exact .inr ⟨_, _, _, rfl, rfl, rfl⟩) rfl (lasts_isB _) ?_
      | (refine rel_exact ?_ (by first | exact .inl rfl | exact .inr ⟨_, _, _, rfl, rfl, rfl⟩) ?_ ?_
         rotate_left
         (intro ρ W hρ hC hk
          simp [known, looks, Op.operands, Call.operands, slotFact, Just, List.lookup] at hk
          obtain ⟨hρ1, hρ2, hρ3⟩ := hρ
          go_simp
          rfl)))
    refine rel_nil ?_
    intro a W hC hd hsz ht
    refine fin_exit hsz hd ht (of_decide_eq_true (by kernel_rfl)) ?_
    repeat (first
      | refine fin_just ?_
      | (intro _ _))
    refine fin_nil ?_
    simp only [Act.put, Option.getD_some, List.setIfInBounds_toArray, List.set_cons_zero, List.set_cons_succ]
    clear hd hsz ht
    go_wp2
    go_ret
    exact ⟨_, rfl, by rw [← HF.out]; rfl, bstep HB.out hC⟩
end Go.Proofs.YtmkpkbigceinfaaDoor
