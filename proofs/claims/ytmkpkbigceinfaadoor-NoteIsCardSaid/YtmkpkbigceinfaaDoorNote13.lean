/- The walks of the reference's names, of the codes that have one. -/
import Derived.Test.YtmkpkbigceinfaaDoorNote12
namespace Go.Proofs.YtmkpkbigceinfaaDoor
open Go.RowKit
set_option maxHeartbeats 4000000
set_option linter.unusedVariables false
set_option linter.unusedSimpArgs false

theorem rname_1 (s : Int) (A : Option Addr) (n k : Nat) (w : World) (s0 : -9223372036854775808 ≤ s) (s1 : s ≤ 9223372036854775807) :
    Calls Tryd.prog 19 #[.agg #[.int .i64 1, .int .i64 s, .slice A n k]] w (Ret (Just (.string (str (nameL 1 s)))) w) := by
  have I2 := fun W => rdigits_any s s0 s1 W
  have l2 := str_len _ _ (Lib.itoa_length_le s s0 s1)
  clear s0 s1
  obtain ⟨Y, hY⟩ : ∃ Y, str (Lib.itoa s) = Y := ⟨_, rfl⟩
  rw [hY] at I2 l2
  have HY := Lib.hid hY
  have HI2 := Lib.hid I2
  clear hY I2
  have HF := Lib.hid (name_out 1 s _ Y rfl HY.out)
  have sz2 : ¬ 9223372036854775807 < (ByteArray.mk #[104, 101, 97, 100, 101, 114] ++ ByteArray.mk #[47]).size + Y.size := by
    have : (ByteArray.mk #[104, 101, 97, 100, 101, 114] ++ ByteArray.mk #[47]).size ≤ 10 := by decide +kernel
    omega
  have sz3 : ¬ 9223372036854775807 < 6 + 1 + Y.size := by omega
  have sz4 : ¬ 9223372036854775807 < 6 + (1 + Y.size) := by omega
  have sz5 : ¬ 9223372036854775807 < (6 + 1 : Nat) + Y.size := by omega
  have sz6 : ¬ 9223372036854775807 < 7 + Y.size := by omega
  go_enter Tryd.func19, Tryd.ntmps19
  go_wp2_with fail
  have hb := balloc (bnew w (.cells #[.int .i64 1, .int .i64 s, .slice A n k] 24)) (.cells #[.string (ByteArray.mk #[104, 101, 97, 100, 101, 114]), .string (ByteArray.mk #[111, 112, 101, 110]), .string (ByteArray.mk #[117, 112, 100, 97, 116, 101]), .string (ByteArray.mk #[104, 111, 108, 100]), .string (ByteArray.mk #[102, 115, 109]), .string (ByteArray.mk #[99, 101, 97, 115, 101])] 9)
  have R := Lib.hid (heap_alloc2_old w (.cells #[.int .i64 1, .int .i64 s, .slice A n k] 24) (.cells #[.string (ByteArray.mk #[104, 101, 97, 100, 101, 114]), .string (ByteArray.mk #[111, 112, 101, 110]), .string (ByteArray.mk #[117, 112, 100, 97, 116, 101]), .string (ByteArray.mk #[104, 111, 108, 100]), .string (ByteArray.mk #[102, 115, 109]), .string (ByteArray.mk #[99, 101, 97, 115, 101])] 9))
  have R2 := heap_alloc2_new w (.cells #[.int .i64 1, .int .i64 s, .slice A n k] 24) (.cells #[.string (ByteArray.mk #[104, 101, 97, 100, 101, 114]), .string (ByteArray.mk #[111, 112, 101, 110]), .string (ByteArray.mk #[117, 112, 100, 97, 116, 101]), .string (ByteArray.mk #[104, 111, 108, 100]), .string (ByteArray.mk #[102, 115, 109]), .string (ByteArray.mk #[99, 101, 97, 115, 101])] 9)
  have HR2 := Lib.hid R2
  clear R2
  generalize ((w.alloc (.cells #[.int .i64 1, .int .i64 s, .slice A n k] 24)).alloc (.cells #[.string (ByteArray.mk #[104, 101, 97, 100, 101, 114]), .string (ByteArray.mk #[111, 112, 101, 110]), .string (ByteArray.mk #[117, 112, 100, 97, 116, 101]), .string (ByteArray.mk #[104, 111, 108, 100]), .string (ByteArray.mk #[102, 115, 109]), .string (ByteArray.mk #[99, 101, 97, 115, 101])] 9)) = W0 at *
  have HB := Lib.hid hb
  clear hb
  have f1 := fun W (hC : Below W0.heap.size W0 W) => (row3 (row_to hC R.out)).1
  have f2 := fun W (hC : Below W0.heap.size W0 W) => (row3 (row_to hC R.out)).2.1
  have f3 : ∀ W, Below W0.heap.size W0 W → W.cell? ⟨w.heap.size + 1, 0, none⟩ = some (.string (ByteArray.mk #[104, 101, 97, 100, 101, 114])) := fun W hC => by rw [cell_of_row _ _ _ _ _ _ (row_to hC HR2.out)]; rfl
  have f4 : ∀ W, Below W0.heap.size W0 W → W.cell? ⟨w.heap.size + 1, (IntKind.i64.wrap 0).toNat, none⟩ = some (.string (ByteArray.mk #[104, 101, 97, 100, 101, 114])) := fun W hC => by
    have e : (IntKind.i64.wrap 0).toNat = 0 := by decide
    rw [e]
    exact f3 W hC
  refine wp_region_rel (by kernel_rfl) (by decide +kernel) (by rfl) ?_
  repeat (first
    | (refine rel_skip ⟨_, _, _, _, rfl, rfl, rfl, ?_⟩ ?_
       focus (intro h; cases h; done))
    | refine rel_move _ (Just _) (.inl rfl) (by first | exact .inl rfl | exact .inr ⟨_, _, _, rfl, rfl, rfl⟩) rfl (lasts_just _) ?_
    | refine rel_move _ (Just _) (.inr rfl) (by first | exact .inl rfl | exact .inr ⟨_, _, _, rfl, rfl, rfl⟩) rfl (lasts_just _) ?_
    | refine rel_moveC _ (.inl rfl) (by first | exact .inl rfl | exact .inr ⟨_, _, _, rfl, rfl, rfl⟩) ?_
    | refine rel_moveC _ (.inr rfl) (by first | exact .inl rfl | exact .inr ⟨_, _, _, rfl, rfl, rfl⟩) ?_
    | refine rel_str _ _ rfl (by first | exact .inl rfl | exact .inr ⟨_, _, _, rfl, rfl, rfl⟩) rfl ?_
    | refine rel_lenB _ _ rfl (by first | exact .inl rfl | exact .inr ⟨_, _, _, rfl, rfl, rfl⟩) rfl ?_
    | refine rel_move _ (IsB _) (.inl rfl) (by first | exact .inl rfl | exact .inr ⟨_, _, _, rfl, rfl, rfl⟩) rfl (lasts_isB _) ?_
    | refine rel_move _ (IsB _) (.inr rfl) (by first | exact .inl rfl | exact .inr ⟨_, _, _, rfl, rfl, rfl⟩) rfl (lasts_isB _) ?_
    | (refine rel_exact ?_ (by first | exact .inl rfl | exact .inr ⟨_, _, _, rfl, rfl, rfl⟩) ?_ ?_
       rotate_left
       (intro ρ W hρ hC hk
        simp [known, looks, Op.operands, Call.operands, slotFact, Just, List.lookup] at hk
        obtain ⟨hρ1, hρ2, hρ3⟩ := hρ
        go_simp
        rfl)))
  refine rel_op (Just (.string Y)) (lasts_just _) (by first | exact .inl rfl | exact .inr ⟨_, _, _, rfl, rfl, rfl⟩) ?_ ?_
  · intro ρ W hρ hC hk
    simp [known, looks, Op.operands, Call.operands, slotFact, Just, List.lookup] at hk
    obtain ⟨hρ1, hρ2, hρ3⟩ := hρ
    go_simp
    refine ⟨Below.refl _ _, (HI2.out _).mono ?_⟩
    rintro e w3 ⟨rfl, rfl⟩
    exact ⟨_, rfl, rfl, Below.refl _ _⟩
  repeat (first
    | (refine rel_skip ⟨_, _, _, _, rfl, rfl, rfl, ?_⟩ ?_
       focus (intro h; cases h; done))
    | refine rel_move _ (Just _) (.inl rfl) (by first | exact .inl rfl | exact .inr ⟨_, _, _, rfl, rfl, rfl⟩) rfl (lasts_just _) ?_
    | refine rel_move _ (Just _) (.inr rfl) (by first | exact .inl rfl | exact .inr ⟨_, _, _, rfl, rfl, rfl⟩) rfl (lasts_just _) ?_
    | refine rel_moveC _ (.inl rfl) (by first | exact .inl rfl | exact .inr ⟨_, _, _, rfl, rfl, rfl⟩) ?_
    | refine rel_moveC _ (.inr rfl) (by first | exact .inl rfl | exact .inr ⟨_, _, _, rfl, rfl, rfl⟩) ?_
    | refine rel_str _ _ rfl (by first | exact .inl rfl | exact .inr ⟨_, _, _, rfl, rfl, rfl⟩) rfl ?_
    | refine rel_lenB _ _ rfl (by first | exact .inl rfl | exact .inr ⟨_, _, _, rfl, rfl, rfl⟩) rfl ?_
    | refine rel_move _ (IsB _) (.inl rfl) (by first | exact .inl rfl | exact .inr ⟨_, _, _, rfl, rfl, rfl⟩) rfl (lasts_isB _) ?_
    | refine rel_move _ (IsB _) (.inr rfl) (by first | exact .inl rfl | exact .inr ⟨_, _, _, rfl, rfl, rfl⟩) rfl (lasts_isB _) ?_
    | (refine rel_exact ?_ (by first | exact .inl rfl | exact .inr ⟨_, _, _, rfl, rfl, rfl⟩) ?_ ?_
       rotate_left
       (intro ρ W hρ hC hk
        simp [known, looks, Op.operands, Call.operands, slotFact, Just, List.lookup] at hk
        obtain ⟨hρ1, hρ2, hρ3⟩ := hρ
        go_simp
        rfl)))
  refine rel_nil ?_
  intro a W hC hd hsz ht
  refine fin_exit hsz hd ht (of_decide_eq_true (by kernel_rfl)) ?_
  repeat (first
    | refine fin_just ?_
    | (intro _ _))
  refine fin_nil ?_
  simp only [Act.put, Option.getD_some, List.setIfInBounds_toArray, List.set_cons_zero, List.set_cons_succ]
  clear hd hsz ht
  go_wp2
  go_ret
  exact ⟨_, rfl, by rw [← HF.out]; rfl, bstep HB.out hC⟩
theorem rname_2 (s : Int) (A : Option Addr) (n k : Nat) (w : World) (s0 : -9223372036854775808 ≤ s) (s1 : s ≤ 9223372036854775807) :
    Calls Tryd.prog 19 #[.agg #[.int .i64 2, .int .i64 s, .slice A n k]] w (Ret (Just (.string (str (nameL 2 s)))) w) := by
  have I2 := fun W => rdigits_any s s0 s1 W
  have l2 := str_len _ _ (Lib.itoa_length_le s s0 s1)
  clear s0 s1
  obtain ⟨Y, hY⟩ : ∃ Y, str (Lib.itoa s) = Y := ⟨_, rfl⟩
  rw [hY] at I2 l2
  have HY := Lib.hid hY
  have HI2 := Lib.hid I2
  clear hY I2
  have HF := Lib.hid (name_out 2 s _ Y rfl HY.out)
  have sz2 : ¬ 9223372036854775807 < (ByteArray.mk #[111, 112, 101, 110] ++ ByteArray.mk #[47]).size + Y.size := by
    have : (ByteArray.mk #[111, 112, 101, 110] ++ ByteArray.mk #[47]).size ≤ 10 := by decide +kernel
    omega
  have sz3 : ¬ 9223372036854775807 < 4 + 1 + Y.size := by omega
  have sz4 : ¬ 9223372036854775807 < 4 + (1 + Y.size) := by omega
  have sz5 : ¬ 9223372036854775807 < (4 + 1 : Nat) + Y.size := by omega
  have sz6 : ¬ 9223372036854775807 < 5 + Y.size := by omega
  go_enter Tryd.func19, Tryd.ntmps19
  go_wp2_with fail
  have hb := balloc (bnew w (.cells #[.int .i64 2, .int .i64 s, .slice A n k] 24)) (.cells #[.string (ByteArray.mk #[104, 101, 97, 100, 101, 114]), .string (ByteArray.mk #[111, 112, 101, 110]), .string (ByteArray.mk #[117, 112, 100, 97, 116, 101]), .string (ByteArray.mk #[104, 111, 108, 100]), .string (ByteArray.mk #[102, 115, 109]), .string (ByteArray.mk #[99, 101, 97, 115, 101])] 9)
  have R := Lib.hid (heap_alloc2_old w (.cells #[.int .i64 2, .int .i64 s, .slice A n k] 24) (.cells #[.string (ByteArray.mk #[104, 101, 97, 100, 101, 114]), .string (ByteArray.mk #[111, 112, 101, 110]), .string (ByteArray.mk #[117, 112, 100, 97, 116, 101]), .string (ByteArray.mk #[104, 111, 108, 100]), .string (ByteArray.mk #[102, 115, 109]), .string (ByteArray.mk #[99, 101, 97, 115, 101])] 9))
  have R2 := heap_alloc2_new w (.cells #[.int .i64 2, .int .i64 s, .slice A n k] 24) (.cells #[.string (ByteArray.mk #[104, 101, 97, 100, 101, 114]), .string (ByteArray.mk #[111, 112, 101, 110]), .string (ByteArray.mk #[117, 112, 100, 97, 116, 101]), .string (ByteArray.mk #[104, 111, 108, 100]), .string (ByteArray.mk #[102, 115, 109]), .string (ByteArray.mk #[99, 101, 97, 115, 101])] 9)
  have HR2 := Lib.hid R2
  clear R2
  generalize ((w.alloc (.cells #[.int .i64 2, .int .i64 s, .slice A n k] 24)).alloc (.cells #[.string (ByteArray.mk #[104, 101, 97, 100, 101, 114]), .string (ByteArray.mk #[111, 112, 101, 110]), .string (ByteArray.mk #[117, 112, 100, 97, 116, 101]), .string (ByteArray.mk #[104, 111, 108, 100]), .string (ByteArray.mk #[102, 115, 109]), .string (ByteArray.mk #[99, 101, 97, 115, 101])] 9)) = W0 at *
  have HB := Lib.hid hb
  clear hb
  have f1 := fun W (hC : Below W0.heap.size W0 W) => (row3 (row_to hC R.out)).1
  have f2 := fun W (hC : Below W0.heap.size W0 W) => (row3 (row_to hC R.out)).2.1
  have f3 : ∀ W, Below W0.heap.size W0 W → W.cell? ⟨w.heap.size + 1, 1, none⟩ = some (.string (ByteArray.mk #[111, 112, 101, 110])) := fun W hC => by rw [cell_of_row _ _ _ _ _ _ (row_to hC HR2.out)]; rfl
  have f4 : ∀ W, Below W0.heap.size W0 W → W.cell? ⟨w.heap.size + 1, (IntKind.i64.wrap 1).toNat, none⟩ = some (.string (ByteArray.mk #[111, 112, 101, 110])) := fun W hC => by
    have e : (IntKind.i64.wrap 1).toNat = 1 := by decide
    rw [e]
    exact f3 W hC
  refine wp_region_rel (by kernel_rfl) (by decide +kernel) (by rfl) ?_
  repeat (first
    | (refine rel_skip ⟨_, _, _, _, rfl, rfl, rfl, ?_⟩ ?_
       focus (intro h; cases h; done))
    | refine rel_move _ (Just _) (.inl rfl) (by first | exact .inl rfl | exact .inr ⟨_, _, _, rfl, rfl, rfl⟩) rfl (lasts_just _) ?_
    | refine rel_move _ (Just _) (.inr rfl) (by first | exact .inl rfl | exact .inr ⟨_, _, _, rfl, rfl, rfl⟩) rfl (lasts_just _) ?_
    | refine rel_moveC _ (.inl rfl) (by first | exact .inl rfl | exact .inr ⟨_, _, _, rfl, rfl, rfl⟩) ?_
    | refine rel_moveC _ (.inr rfl) (by first | exact .inl rfl | exact .inr ⟨_, _, _, rfl, rfl, rfl⟩) ?_
    | refine rel_str _ _ rfl (by first | exact .inl rfl | exact .inr ⟨_, _, _, rfl, rfl, rfl⟩) rfl ?_
    | refine rel_lenB _ _ rfl (by first | exact .inl rfl | exact .inr ⟨_, _, _, rfl, rfl, rfl⟩) rfl ?_
    | refine rel_move _ (IsB _) (.inl rfl) (by first | exact .inl rfl | exact .inr ⟨_, _, _, rfl, rfl, rfl⟩) rfl (lasts_isB _) ?_
    | refine rel_move _ (IsB _) (.inr rfl) (by first | exact .inl rfl | exact .inr ⟨_, _, _, rfl, rfl, rfl⟩) rfl (lasts_isB _) ?_
    | (refine rel_exact ?_ (by first | exact .inl rfl | exact .inr ⟨_, _, _, rfl, rfl, rfl⟩) ?_ ?_
       rotate_left
       (intro ρ W hρ hC hk
        simp [known, looks, Op.operands, Call.operands, slotFact, Just, List.lookup] at hk
        obtain ⟨hρ1, hρ2, hρ3⟩ := hρ
        go_simp
        rfl)))
  refine rel_op (Just (.string Y)) (lasts_just _) (by first | exact .inl rfl | exact .inr ⟨_, _, _, rfl, rfl, rfl⟩) ?_ ?_
  · intro ρ W hρ hC hk
    simp [known, looks, Op.operands, Call.operands, slotFact, Just, List.lookup] at hk
    obtain ⟨hρ1, hρ2, hρ3⟩ := hρ
    go_simp
    refine ⟨Below.refl _ _, (HI2.out _).mono ?_⟩
    rintro e w3 ⟨rfl, rfl⟩
    exact ⟨_, rfl, rfl, Below.refl _ _⟩
  repeat (first
    | (refine rel_skip ⟨_, _, _, _, rfl, rfl, rfl, ?_⟩ ?_
       focus (intro h; cases h; done))
    | refine rel_move _ (Just _) (.inl rfl) (by first | exact .inl rfl | exact .inr ⟨_, _, _, rfl, rfl, rfl⟩) rfl (lasts_just _) ?_
    | refine rel_move _ (Just _) (.inr rfl) (by first | exact .inl rfl | exact .inr ⟨_, _, _, rfl, rfl, rfl⟩) rfl (lasts_just _) ?_
    | refine rel_moveC _ (.inl rfl) (by first | exact .inl rfl | exact .inr ⟨_, _, _, rfl, rfl, rfl⟩) ?_
    | refine rel_moveC _ (.inr rfl) (by first | exact .inl rfl | exact .inr ⟨_, _, _, rfl, rfl, rfl⟩) ?_
    | refine rel_str _ _ rfl (by first | exact .inl rfl | exact .inr ⟨_, _, _, rfl, rfl, rfl⟩) rfl ?_
    | refine rel_lenB _ _ rfl (by first | exact .inl rfl | exact .inr ⟨_, _, _, rfl, rfl, rfl⟩) rfl ?_
    | refine rel_move _ (IsB _) (.inl rfl) (by first | exact .inl rfl | exact .inr ⟨_, _, _, rfl, rfl, rfl⟩) rfl (lasts_isB _) ?_
    | refine rel_move _ (IsB _) (.inr rfl) (by first | exact .inl rfl | exact .inr ⟨_, _, _, rfl, rfl, rfl⟩) rfl (lasts_isB _) ?_
    | (refine rel_exact ?_ (by first | exact .inl rfl | exact .inr ⟨_, _, _, rfl, rfl, rfl⟩) ?_ ?_
       rotate_left
       (intro ρ W hρ hC hk
        simp [known, looks, Op.operands, Call.operands, slotFact, Just, List.lookup] at hk
        obtain ⟨hρ1, hρ2, hρ3⟩ := hρ
        go_simp
        rfl)))
  refine rel_nil ?_
  intro a W hC hd hsz ht
  refine fin_exit hsz hd ht (of_decide_eq_true (by kernel_rfl)) ?_
  repeat (first
    | refine fin_just ?_
    | (intro _ _))
  refine fin_nil ?_
  simp only [Act.put, Option.getD_some, List.setIfInBounds_toArray, List.set_cons_zero, List.set_cons_succ]
  clear hd hsz ht
  go_wp2
  go_ret
  exact ⟨_, rfl, by rw [← HF.out]; rfl, bstep HB.out hC⟩
theorem rname_3 (s : Int) (A : Option Addr) (n k : Nat) (w : World) (s0 : -9223372036854775808 ≤ s) (s1 : s ≤ 9223372036854775807) :
    Calls Tryd.prog 19 #[.agg #[.int .i64 3, .int .i64 s, .slice A n k]] w (Ret (Just (.string (str (nameL 3 s)))) w) := by
  have I2 := fun W => rdigits_any s s0 s1 W
  have l2 := str_len _ _ (Lib.itoa_length_le s s0 s1)
  clear s0 s1
  obtain ⟨Y, hY⟩ : ∃ Y, str (Lib.itoa s) = Y := ⟨_, rfl⟩
  rw [hY] at I2 l2
  have HY := Lib.hid hY
  have HI2 := Lib.hid I2
  clear hY I2
  have HF := Lib.hid (name_out 3 s _ Y rfl HY.out)
  have sz2 : ¬ 9223372036854775807 < (ByteArray.mk #[117, 112, 100, 97, 116, 101] ++ ByteArray.mk #[47]).size + Y.size := by
    have : (ByteArray.mk #[117, 112, 100, 97, 116, 101] ++ ByteArray.mk #[47]).size ≤ 10 := by decide +kernel
    omega
  have sz3 : ¬ 9223372036854775807 < 6 + 1 + Y.size := by omega
  have sz4 : ¬ 9223372036854775807 < 6 + (1 + Y.size) := by omega
  have sz5 : ¬ 9223372036854775807 < (6 + 1 : Nat) + Y.size := by omega
  have sz6 : ¬ 9223372036854775807 < 7 + Y.size := by omega
  go_enter Tryd.func19, Tryd.ntmps19
  go_wp2_with fail
  have hb := balloc (bnew w (.cells #[.int .i64 3, .int .i64 s, .slice A n k] 24)) (.cells #[.string (ByteArray.mk #[104, 101, 97, 100, 101, 114]), .string (ByteArray.mk #[111, 112, 101, 110]), .string (ByteArray.mk #[117, 112, 100, 97, 116, 101]), .string (ByteArray.mk #[104, 111, 108, 100]), .string (ByteArray.mk #[102, 115, 109]), .string (ByteArray.mk #[99, 101, 97, 115, 101])] 9)
  have R := Lib.hid (heap_alloc2_old w (.cells #[.int .i64 3, .int .i64 s, .slice A n k] 24) (.cells #[.string (ByteArray.mk #[104, 101, 97, 100, 101, 114]), .string (ByteArray.mk #[111, 112, 101, 110]), .string (ByteArray.mk #[117, 112, 100, 97, 116, 101]), .string (ByteArray.mk #[104, 111, 108, 100]), .string (ByteArray.mk #[102, 115, 109]), .string (ByteArray.mk #[99, 101, 97, 115, 101])] 9))
  have R2 := heap_alloc2_new w (.cells #[.int .i64 3, .int .i64 s, .slice A n k] 24) (.cells #[.string (ByteArray.mk #[104, 101, 97, 100, 101, 114]), .string (ByteArray.mk #[111, 112, 101, 110]), .string (ByteArray.mk #[117, 112, 100, 97, 116, 101]), .string (ByteArray.mk #[104, 111, 108, 100]), .string (ByteArray.mk #[102, 115, 109]), .string (ByteArray.mk #[99, 101, 97, 115, 101])] 9)
  have HR2 := Lib.hid R2
  clear R2
  generalize ((w.alloc (.cells #[.int .i64 3, .int .i64 s, .slice A n k] 24)).alloc (.cells #[.string (ByteArray.mk #[104, 101, 97, 100, 101, 114]), .string (ByteArray.mk #[111, 112, 101, 110]), .string (ByteArray.mk #[117, 112, 100, 97, 116, 101]), .string (ByteArray.mk #[104, 111, 108, 100]), .string (ByteArray.mk #[102, 115, 109]), .string (ByteArray.mk #[99, 101, 97, 115, 101])] 9)) = W0 at *
  have HB := Lib.hid hb
  clear hb
  have f1 := fun W (hC : Below W0.heap.size W0 W) => (row3 (row_to hC R.out)).1
  have f2 := fun W (hC : Below W0.heap.size W0 W) => (row3 (row_to hC R.out)).2.1
  have f3 : ∀ W, Below W0.heap.size W0 W → W.cell? ⟨w.heap.size + 1, 2, none⟩ = some (.string (ByteArray.mk #[117, 112, 100, 97, 116, 101])) := fun W hC => by rw [cell_of_row _ _ _ _ _ _ (row_to hC HR2.out)]; rfl
  have f4 : ∀ W, Below W0.heap.size W0 W → W.cell? ⟨w.heap.size + 1, (IntKind.i64.wrap 2).toNat, none⟩ = some (.string (ByteArray.mk #[117, 112, 100, 97, 116, 101])) := fun W hC => by
    have e : (IntKind.i64.wrap 2).toNat = 2 := by decide
    rw [e]
    exact f3 W hC
  refine wp_region_rel (by kernel_rfl) (by decide +kernel) (by rfl) ?_
  repeat (first
    | (refine rel_skip ⟨_, _, _, _, rfl, rfl, rfl, ?_⟩ ?_
       focus (intro h; cases h; done))
    | refine rel_move _ (Just _) (.inl rfl) (by first | exact .inl rfl | exact .inr ⟨_, _, _, rfl, rfl, rfl⟩) rfl (lasts_just _) ?_
    | refine rel_move _ (Just _) (.inr rfl) (by first | exact .inl rfl | exact .inr ⟨_, _, _, rfl, rfl, rfl⟩) rfl (lasts_just _) ?_
    | refine rel_moveC _ (.inl rfl) (by first | exact .inl rfl | exact .inr ⟨_, _, _, rfl, rfl, rfl⟩) ?_
    | refine rel_moveC _ (.inr rfl) (by first | exact .inl rfl | exact .inr ⟨_, _, _, rfl, rfl, rfl⟩) ?_
    | refine rel_str _ _ rfl (by first | exact .inl rfl | exact .inr ⟨_, _, _, rfl, rfl, rfl⟩) rfl ?_
    | refine rel_lenB _ _ rfl (by first | exact .inl rfl | exact .inr ⟨_, _, _, rfl, rfl, rfl⟩) rfl ?_
    | refine rel_move _ (IsB _) (.inl rfl) (by first | exact .inl rfl | exact .inr ⟨_, _, _, rfl, rfl, rfl⟩) rfl (lasts_isB _) ?_
    | refine rel_move _ (IsB _) (.inr rfl) (by first | exact .inl rfl | exact .inr ⟨_, _, _, rfl, rfl, rfl⟩) rfl (lasts_isB _) ?_
    | (refine rel_exact ?_ (by first | exact .inl rfl | exact .inr ⟨_, _, _, rfl, rfl, rfl⟩) ?_ ?_
       rotate_left
       (intro ρ W hρ hC hk
        simp [known, looks, Op.operands, Call.operands, slotFact, Just, List.lookup] at hk
        obtain ⟨hρ1, hρ2, hρ3⟩ := hρ
        go_simp
        rfl)))
  refine rel_op (Just (.string Y)) (lasts_just _) (by first | exact .inl rfl | exact .inr ⟨_, _, _, rfl, rfl, rfl⟩) ?_ ?_
  · intro ρ W hρ hC hk
    simp [known, looks, Op.operands, Call.operands, slotFact, Just, List.lookup] at hk
    obtain ⟨hρ1, hρ2, hρ3⟩ := hρ
    go_simp
    refine ⟨Below.refl _ _, (HI2.out _).mono ?_⟩
    rintro e w3 ⟨rfl, rfl⟩
    exact ⟨_, rfl, rfl, Below.refl _ _⟩
  repeat (first
    | (refine rel_skip ⟨_, _, _, _, rfl, rfl, rfl, ?_⟩ ?_
       focus (intro h; cases h; done))
    | refine rel_move _ (Just _) (.inl rfl) (by first | exact .inl rfl | exact .inr ⟨_, _, _, rfl, rfl, rfl⟩) rfl (lasts_just _) ?_
    | refine rel_move _ (Just _) (.inr rfl) (by first | exact .inl rfl | exact .inr ⟨_, _, _, rfl, rfl, rfl⟩) rfl (lasts_just _) ?_
    | refine rel_moveC _ (.inl rfl) (by first | exact .inl rfl | exact .inr ⟨_, _, _, rfl, rfl, rfl⟩) ?_
    | refine rel_moveC _ (.inr rfl) (by first | exact .inl rfl | exact .inr ⟨_, _, _, rfl, rfl, rfl⟩) ?_
    | refine rel_str _ _ rfl (by first | exact .inl rfl | exact .inr ⟨_, _, _, rfl, rfl, rfl⟩) rfl ?_
    | refine rel_lenB _ _ rfl (by first | exact .inl rfl | exact .inr ⟨_, _, _, rfl, rfl, rfl⟩) rfl ?_
    | refine rel_move _ (IsB _) (.inl rfl) (by first | exact .inl rfl | exact .inr ⟨_, _, _, rfl, rfl, rfl⟩) rfl (lasts_isB _) ?_
    | refine rel_move _ (IsB _) (.inr rfl) (by first | exact .inl rfl | exact .inr ⟨_, _, _, rfl, rfl, rfl⟩) rfl (lasts_isB _) ?_
    | (refine rel_exact ?_ (by first | exact .inl rfl | exact .inr ⟨_, _, _, rfl, rfl, rfl⟩) ?_ ?_
       rotate_left
       (intro ρ W hρ hC hk
        simp [known, looks, Op.operands, Call.operands, slotFact, Just, List.lookup] at hk
        obtain ⟨hρ1, hρ2, hρ3⟩ := hρ
        go_simp
        rfl)))
  refine rel_nil ?_
  intro a W hC hd hsz ht
  refine fin_exit hsz hd ht (of_decide_eq_true (by kernel_rfl)) ?_
  repeat (first
    | refine fin_just ?_
    | (intro _ _))
  refine fin_nil ?_
  simp only [Act.put, Option.getD_some, List.setIfInBounds_toArray, List.set_cons_zero, List.set_cons_succ]
  clear hd hsz ht
  go_wp2
  go_ret
  exact ⟨_, rfl, by rw [← HF.out]; rfl, bstep HB.out hC⟩
theorem rname_4 (s : Int) (A : Option Addr) (n k : Nat) (w : World) (s0 : -9223372036854775808 ≤ s) (s1 : s ≤ 9223372036854775807) :
    Calls Tryd.prog 19 #[.agg #[.int .i64 4, .int .i64 s, .slice A n k]] w (Ret (Just (.string (str (nameL 4 s)))) w) := by
  have I2 := fun W => rdigits_any s s0 s1 W
  have l2 := str_len _ _ (Lib.itoa_length_le s s0 s1)
  clear s0 s1
  obtain ⟨Y, hY⟩ : ∃ Y, str (Lib.itoa s) = Y := ⟨_, rfl⟩
  rw [hY] at I2 l2
  have HY := Lib.hid hY
  have HI2 := Lib.hid I2
  clear hY I2
  have HF := Lib.hid (name_out 4 s _ Y rfl HY.out)
  have sz2 : ¬ 9223372036854775807 < (ByteArray.mk #[104, 111, 108, 100] ++ ByteArray.mk #[47]).size + Y.size := by
    have : (ByteArray.mk #[104, 111, 108, 100] ++ ByteArray.mk #[47]).size ≤ 10 := by decide +kernel
    omega
  have sz3 : ¬ 9223372036854775807 < 4 + 1 + Y.size := by omega
  have sz4 : ¬ 9223372036854775807 < 4 + (1 + Y.size) := by omega
  have sz5 : ¬ 9223372036854775807 < (4 + 1 : Nat) + Y.size := by omega
  have sz6 : ¬ 9223372036854775807 < 5 + Y.size := by omega
  go_enter Tryd.func19, Tryd.ntmps19
  go_wp2_with fail
  have hb := balloc (bnew w (.cells #[.int .i64 4, .int .i64 s, .slice A n k] 24)) (.cells #[.string (ByteArray.mk #[104, 101, 97, 100, 101, 114]), .string (ByteArray.mk #[111, 112, 101, 110]), .string (ByteArray.mk #[117, 112, 100, 97, 116, 101]), .string (ByteArray.mk #[104, 111, 108, 100]), .string (ByteArray.mk #[102, 115, 109]), .string (ByteArray.mk #[99, 101, 97, 115, 101])] 9)
  have R := Lib.hid (heap_alloc2_old w (.cells #[.int .i64 4, .int .i64 s, .slice A n k] 24) (.cells #[.string (ByteArray.mk #[104, 101, 97, 100, 101, 114]), .string (ByteArray.mk #[111, 112, 101, 110]), .string (ByteArray.mk #[117, 112, 100, 97, 116, 101]), .string (ByteArray.mk #[104, 111, 108, 100]), .string (ByteArray.mk #[102, 115, 109]), .string (ByteArray.mk #[99, 101, 97, 115, 101])] 9))
  have R2 := heap_alloc2_new w (.cells #[.int .i64 4, .int .i64 s, .slice A n k] 24) (.cells #[.string (ByteArray.mk #[104, 101, 97, 100, 101, 114]), .string (ByteArray.mk #[111, 112, 101, 110]), .string (ByteArray.mk #[117, 112, 100, 97, 116, 101]), .string (ByteArray.mk #[104, 111, 108, 100]), .string (ByteArray.mk #[102, 115, 109]), .string (ByteArray.mk #[99, 101, 97, 115, 101])] 9)
  have HR2 := Lib.hid R2
  clear R2
  generalize ((w.alloc (.cells #[.int .i64 4, .int .i64 s, .slice A n k] 24)).alloc (.cells #[.string (ByteArray.mk #[104, 101, 97, 100, 101, 114]), .string (ByteArray.mk #[111, 112, 101, 110]), .string (ByteArray.mk #[117, 112, 100, 97, 116, 101]), .string (ByteArray.mk #[104, 111, 108, 100]), .string (ByteArray.mk #[102, 115, 109]), .string (ByteArray.mk #[99, 101, 97, 115, 101])] 9)) = W0 at *
  have HB := Lib.hid hb
  clear hb
  have f1 := fun W (hC : Below W0.heap.size W0 W) => (row3 (row_to hC R.out)).1
  have f2 := fun W (hC : Below W0.heap.size W0 W) => (row3 (row_to hC R.out)).2.1
  have f3 : ∀ W, Below W0.heap.size W0 W → W.cell? ⟨w.heap.size + 1, 3, none⟩ = some (.string (ByteArray.mk #[104, 111, 108, 100])) := fun W hC => by rw [cell_of_row _ _ _ _ _ _ (row_to hC HR2.out)]; rfl
  have f4 : ∀ W, Below W0.heap.size W0 W → W.cell? ⟨w.heap.size + 1, (IntKind.i64.wrap 3).toNat, none⟩ = some (.string (ByteArray.mk #[104, 111, 108, 100])) := fun W hC => by
    have e : (IntKind.i64.wrap 3).toNat = 3 := by decide
    rw [e]
    exact f3 W hC
  refine wp_region_rel (by kernel_rfl) (by decide +kernel) (by rfl) ?_
  repeat (first
    | (refine rel_skip ⟨_, _, _, _, rfl, rfl, rfl, ?_⟩ ?_
       focus (intro h; cases h; done))
    | refine rel_move _ (Just _) (.inl rfl) (by first | exact .inl rfl | exact .inr ⟨_, _, _, rfl, rfl, rfl⟩) rfl (lasts_just _) ?_
    | refine rel_move _ (Just _) (.inr rfl) (by first | exact .inl rfl | exact .inr ⟨_, _, _, rfl, rfl, rfl⟩) rfl (lasts_just _) ?_
    | refine rel_moveC _ (.inl rfl) (by first | exact .inl rfl | exact .inr ⟨_, _, _, rfl, rfl, rfl⟩) ?_
    | refine rel_moveC _ (.inr rfl) (by first | exact .inl rfl | exact .inr ⟨_, _, _, rfl, rfl, rfl⟩) ?_
    | refine rel_str _ _ rfl (by first | exact .inl rfl | exact .inr ⟨_, _, _, rfl, rfl, rfl⟩) rfl ?_
    | refine rel_lenB _ _ rfl (by first | exact .inl rfl | exact .inr ⟨_, _, _, rfl, rfl, rfl⟩) rfl ?_
    | refine rel_move _ (IsB _) (.inl rfl) (by first | exact .inl rfl | exact .inr ⟨_, _, _, rfl, rfl, rfl⟩) rfl (lasts_isB _) ?_
    | refine rel_move _ (IsB _) (.inr rfl) (by first | exact .inl rfl | exact .inr ⟨_, _, _, rfl, rfl, rfl⟩) rfl (lasts_isB _) ?_
    | (refine rel_exact ?_ (by first | exact .inl rfl | exact .inr ⟨_, _, _, rfl, rfl, rfl⟩) ?_ ?_
       rotate_left
       (intro ρ W hρ hC hk
        simp [known, looks, Op.operands, Call.operands, slotFact, Just, List.lookup] at hk
        obtain ⟨hρ1, hρ2, hρ3⟩ := hρ
        go_simp
        rfl)))
  refine rel_op (Just (.string Y)) (lasts_just _) (by first | exact .inl rfl | exact .inr ⟨_, _, _, rfl, rfl, rfl⟩) ?_ ?_
  · intro ρ W hρ hC hk
    simp [known, looks, Op.operands, Call.operands, slotFact, Just, List.lookup] at hk
    obtain ⟨hρ1, hρ2, hρ3⟩ := hρ
    go_simp
    refine ⟨Below.refl _ _, (HI2.out _).mono ?_⟩
    rintro e w3 ⟨rfl, rfl⟩
    exact ⟨_, rfl, rfl, Below.refl _ _⟩
  repeat (first
    | (refine rel_skip ⟨_, _, _, _, rfl, rfl, rfl, ?_⟩ ?_
       focus (intro h; cases h; done))
    | refine rel_move _ (Just _) (.inl rfl) (by first | exact .inl rfl | exact .inr ⟨_, _, _, rfl, rfl, rfl⟩) rfl (lasts_just _) ?_
    | refine rel_move _ (Just _) (.inr rfl) (by first | exact .inl rfl | exact .inr ⟨_, _, _, rfl, rfl, rfl⟩) rfl (lasts_just _) ?_
    | refine rel_moveC _ (.inl rfl) (by first | exact .inl rfl | exact .inr ⟨_, _, _, rfl, rfl, rfl⟩) ?_
    | refine rel_moveC _ (.inr rfl) (by first | exact .inl rfl | exact .inr ⟨_, _, _, rfl, rfl, rfl⟩) ?_
    | refine rel_str _ _ rfl (by first | exact .inl rfl | exact .inr ⟨_, _, _, rfl, rfl, rfl⟩) rfl ?_
    | refine rel_lenB _ _ rfl (by first | exact .inl rfl | exact .inr ⟨_, _, _, rfl, rfl, rfl⟩) rfl ?_
    | refine rel_move _ (IsB _) (.inl rfl) (by first | exact .inl rfl | exact .inr ⟨_, _, _, rfl, rfl, rfl⟩) rfl (lasts_isB _) ?_
    | refine rel_move _ (IsB _) (.inr rfl) (by first | exact .inl rfl | exact .inr ⟨_, _, _, rfl, rfl, rfl⟩) rfl (lasts_isB _) ?_
    | (refine rel_exact ?_ (by first | exact .inl rfl | exact .inr ⟨_, _, _, rfl, rfl, rfl⟩) ?_ ?_
       rotate_left
       (intro ρ W hρ hC hk
        simp [known, looks, Op.operands, Call.operands, slotFact, Just, List.lookup] at hk
        obtain ⟨hρ1, hρ2, hρ3⟩ := hρ
        go_simp
        rfl)))
  refine rel_nil ?_
  intro a W hC hd hsz ht
  refine fin_exit hsz hd ht (of_decide_eq_true (by kernel_rfl)) ?_
  repeat (first
    | refine fin_just ?_
    | (intro _ _))
  refine fin_nil ?_
  simp only [Act.put, Option.getD_some, List.setIfInBounds_toArray, List.set_cons_zero, List.set_cons_succ]
  clear hd hsz ht
  go_wp2
  go_ret
  exact ⟨_, rfl, by rw [← HF.out]; rfl, bstep HB.out hC⟩
theorem rname_5 (s : Int) (A : Option Addr) (n k : Nat) (w : World) (s0 : -9223372036854775808 ≤ s) (s1 : s ≤ 9223372036854775807) :
    Calls Tryd.prog 19 #[.agg #[.int .i64 5, .int .i64 s, .slice A n k]] w (Ret (Just (.string (str (nameL 5 s)))) w) := by
  have I2 := fun W => rdigits_any s s0 s1 W
  have l2 := str_len _ _ (Lib.itoa_length_le s s0 s1)
  clear s0 s1
  obtain ⟨Y, hY⟩ : ∃ Y, str (Lib.itoa s) = Y := ⟨_, rfl⟩
  rw [hY] at I2 l2
  have HY := Lib.hid hY
  have HI2 := Lib.hid I2
  clear hY I2
  have HF := Lib.hid (name_out 5 s _ Y rfl HY.out)
  have sz2 : ¬ 9223372036854775807 < (ByteArray.mk #[102, 115, 109] ++ ByteArray.mk #[47]).size + Y.size := by
    have : (ByteArray.mk #[102, 115, 109] ++ ByteArray.mk #[47]).size ≤ 10 := by decide +kernel
    omega
  have sz3 : ¬ 9223372036854775807 < 3 + 1 + Y.size := by omega
  have sz4 : ¬ 9223372036854775807 < 3 + (1 + Y.size) := by omega
  have sz5 : ¬ 9223372036854775807 < (3 + 1 : Nat) + Y.size := by omega
  have sz6 : ¬ 9223372036854775807 < 4 + Y.size := by omega
  go_enter Tryd.func19, Tryd.ntmps19
  go_wp2_with fail
  have hb := balloc (bnew w (.cells #[.int .i64 5, .int .i64 s, .slice A n k] 24)) (.cells #[.string (ByteArray.mk #[104, 101, 97, 100, 101, 114]), .string (ByteArray.mk #[111, 112, 101, 110]), .string (ByteArray.mk #[117, 112, 100, 97, 116, 101]), .string (ByteArray.mk #[104, 111, 108, 100]), .string (ByteArray.mk #[102, 115, 109]), .string (ByteArray.mk #[99, 101, 97, 115, 101])] 9)
  have R := Lib.hid (heap_alloc2_old w (.cells #[.int .i64 5, .int .i64 s, .slice A n k] 24) (.cells #[.string (ByteArray.mk #[104, 101, 97, 100, 101, 114]), .string (ByteArray.mk #[111, 112, 101, 110]), .string (ByteArray.mk #[117, 112, 100, 97, 116, 101]), .string (ByteArray.mk #[104, 111, 108, 100]), .string (ByteArray.mk #[102, 115, 109]), .string (ByteArray.mk #[99, 101, 97, 115, 101])] 9))
  have R2 := heap_alloc2_new w (.cells #[.int .i64 5, .int .i64 s, .slice A n k] 24) (.cells #[.string (ByteArray.mk #[104, 101, 97, 100, 101, 114]), .string (ByteArray.mk #[111, 112, 101, 110]), .string (ByteArray.mk #[117, 112, 100, 97, 116, 101]), .string (ByteArray.mk #[104, 111, 108, 100]), .string (ByteArray.mk #[102, 115, 109]), .string (ByteArray.mk #[99, 101, 97, 115, 101])] 9)
  have HR2 := Lib.hid R2
  clear R2
  generalize ((w.alloc (.cells #[.int .i64 5, .int .i64 s, .slice A n k] 24)).alloc (.cells #[.string (ByteArray.mk #[104, 101, 97, 100, 101, 114]), .string (ByteArray.mk #[111, 112, 101, 110]), .string (ByteArray.mk #[117, 112, 100, 97, 116, 101]), .string (ByteArray.mk #[104, 111, 108, 100]), .string (ByteArray.mk #[102, 115, 109]), .string (ByteArray.mk #[99, 101, 97, 115, 101])] 9)) = W0 at *
  have HB := Lib.hid hb
  clear hb
  have f1 := fun W (hC : Below W0.heap.size W0 W) => (row3 (row_to hC R.out)).1
  have f2 := fun W (hC : Below W0.heap.size W0 W) => (row3 (row_to hC R.out)).2.1
  have f3 : ∀ W, Below W0.heap.size W0 W → W.cell? ⟨w.heap.size + 1, 4, none⟩ = some (.string (ByteArray.mk #[102, 115, 109])) := fun W hC => by rw [cell_of_row _ _ _ _ _ _ (row_to hC HR2.out)]; rfl
  have f4 : ∀ W, Below W0.heap.size W0 W → W.cell? ⟨w.heap.size + 1, (IntKind.i64.wrap 4).toNat, none⟩ = some (.string (ByteArray.mk #[102, 115, 109])) := fun W hC => by
    have e : (IntKind.i64.wrap 4).toNat = 4 := by decide
    rw [e]
    exact f3 W hC
  refine wp_region_rel (by kernel_rfl) (by decide +kernel) (by rfl) ?_
  repeat (first
    | (refine rel_skip ⟨_, _, _, _, rfl, rfl, rfl, ?_⟩ ?_
       focus (intro h; cases h; done))
    | refine rel_move _ (Just _) (.inl rfl) (by first | exact .inl rfl | exact .inr ⟨_, _, _, rfl, rfl, rfl⟩) rfl (lasts_just _) ?_
    | refine rel_move _ (Just _) (.inr rfl) (by first | exact .inl rfl | exact .inr ⟨_, _, _, rfl, rfl, rfl⟩) rfl (lasts_just _) ?_
    | refine rel_moveC _ (.inl rfl) (by first | exact .inl rfl | exact .inr ⟨_, _, _, rfl, rfl, rfl⟩) ?_
    | refine rel_moveC _ (.inr rfl) (by first | exact .inl rfl | exact .inr ⟨_, _, _, rfl, rfl, rfl⟩) ?_
    | refine rel_str _ _ rfl (by first | exact .inl rfl | exact .inr ⟨_, _, _, rfl, rfl, rfl⟩) rfl ?_
    | refine rel_lenB _ _ rfl (by first | exact .inl rfl | exact .inr ⟨_, _, _, rfl, rfl, rfl⟩) rfl ?_
    | refine rel_move _ (IsB _) (.inl rfl) (by first | exact .inl rfl | exact .inr ⟨_, _, _, rfl, rfl, rfl⟩) rfl (lasts_isB _) ?_
    | refine rel_move _ (IsB _) (.inr rfl) (by first | exact .inl rfl | exact .inr ⟨_, _, _, rfl, rfl, rfl⟩) rfl (lasts_isB _) ?_
    | (refine rel_exact ?_ (by first | exact .inl rfl | exact .inr ⟨_, _, _, rfl, rfl, rfl⟩) ?_ ?_
       rotate_left
       (intro ρ W hρ hC hk
        simp [known, looks, Op.operands, Call.operands, slotFact, Just, List.lookup] at hk
        obtain ⟨hρ1, hρ2, hρ3⟩ := hρ
        go_simp
        rfl)))
  refine rel_op (Just (.string Y)) (lasts_just _) (by first | exact .inl rfl | exact .inr ⟨_, _, _, rfl, rfl, rfl⟩) ?_ ?_
  · intro ρ W hρ hC hk
    simp [known, looks, Op.operands, Call.operands, slotFact, Just, List.lookup] at hk
    obtain ⟨hρ1, hρ2, hρ3⟩ := hρ
    go_simp
    refine ⟨Below.refl _ _, (HI2.out _).mono ?_⟩
    rintro e w3 ⟨rfl, rfl⟩
    exact ⟨_, rfl, rfl, Below.refl _ _⟩
  repeat (first
    | (refine rel_skip ⟨_, _, _, _, rfl, rfl, rfl, ?_⟩ ?_
       focus (intro h; cases h; done))
    | refine rel_move _ (Just _) (.inl rfl) (by first | exact .inl rfl | exact .inr ⟨_, _, _, rfl, rfl, rfl⟩) rfl (lasts_just _) ?_
    | refine rel_move _ (Just _) (.inr rfl) (by first | exact .inl rfl | exact .inr ⟨_, _, _, rfl, rfl, rfl⟩) rfl (lasts_just _) ?_
    | refine rel_moveC _ (.inl rfl) (by first | exact .inl rfl | exact .inr ⟨_, _, _, rfl, rfl, rfl⟩) ?_
    | refine rel_moveC _ (.inr rfl) (by first | exact .inl rfl | exact .inr ⟨_, _, _, rfl, rfl, rfl⟩) ?_
    | refine rel_str _ _ rfl (by first | exact .inl rfl | exact .inr ⟨_, _, _, rfl, rfl, rfl⟩) rfl ?_
    | refine rel_lenB _ _ rfl (by first | exact .inl rfl | exact .inr ⟨_, _, _, rfl, rfl, rfl⟩) rfl ?_
    | refine rel_move _ (IsB _) (.inl rfl) (by first | exact .inl rfl | exact .inr ⟨_, _, _, rfl, rfl, rfl⟩) rfl (lasts_isB _) ?_
    | refine rel_move _ (IsB _) (.inr rfl) (by first | exact .inl rfl | exact .inr ⟨_, _, _, rfl, rfl, rfl⟩) rfl (lasts_isB _) ?_
    | (refine rel_exact ?_ (by first | exact .inl rfl | exact .inr ⟨_, _, _, rfl, rfl, rfl⟩) ?_ ?_
       rotate_left
       (intro ρ W hρ hC hk
        simp [known, looks, Op.operands, Call.operands, slotFact, Just, List.lookup] at hk
        obtain ⟨hρ1, hρ2, hρ3⟩ := hρ
        go_simp
        rfl)))
  refine rel_nil ?_
  intro a W hC hd hsz ht
  refine fin_exit hsz hd ht (of_decide_eq_true (by kernel_rfl)) ?_
  repeat (first
    | refine fin_just ?_
    | (intro _ _))
  refine fin_nil ?_
  simp only [Act.put, Option.getD_some, List.setIfInBounds_toArray, List.set_cons_zero, List.set_cons_succ]
  clear hd hsz ht
  go_wp2
  go_ret
  exact ⟨_, rfl, by rw [← HF.out]; rfl, bstep HB.out hC⟩
theorem rname_6 (s : Int) (A : Option Addr) (n k : Nat) (w : World) (s0 : -9223372036854775808 ≤ s) (s1 : s ≤ 9223372036854775807) :
    Calls Tryd.prog 19 #[.agg #[.int .i64 6, .int .i64 s, .slice A n k]] w (Ret (Just (.string (str (nameL 6 s)))) w) := by
  have I2 := fun W => rdigits_any s s0 s1 W
  have l2 := str_len _ _ (Lib.itoa_length_le s s0 s1)
  clear s0 s1
  obtain ⟨Y, hY⟩ : ∃ Y, str (Lib.itoa s) = Y := ⟨_, rfl⟩
  rw [hY] at I2 l2
  have HY := Lib.hid hY
  have HI2 := Lib.hid I2
  clear hY I2
  have HF := Lib.hid (name_out 6 s _ Y rfl HY.out)
  have sz2 : ¬ 9223372036854775807 < (ByteArray.mk #[99, 101, 97, 115, 101] ++ ByteArray.mk #[47]).size + Y.size := by
    have : (ByteArray.mk #[99, 101, 97, 115, 101] ++ ByteArray.mk #[47]).size ≤ 10 := by decide +kernel
    omega
  have sz3 : ¬ 9223372036854775807 < 5 + 1 + Y.size := by omega
  have sz4 : ¬ 9223372036854775807 < 5 + (1 + Y.size) := by omega
  have sz5 : ¬ 9223372036854775807 < (5 + 1 : Nat) + Y.size := by omega
  have sz6 : ¬ 9223372036854775807 < 6 + Y.size := by omega
  go_enter Tryd.func19, Tryd.ntmps19
  go_wp2_with fail
  have hb := balloc (bnew w (.cells #[.int .i64 6, .int .i64 s, .slice A n k] 24)) (.cells #[.string (ByteArray.mk #[104, 101, 97, 100, 101, 114]), .string (ByteArray.mk #[111, 112, 101, 110]), .string (ByteArray.mk #[117, 112, 100, 97, 116, 101]), .string (ByteArray.mk #[104, 111, 108, 100]), .string (ByteArray.mk #[102, 115, 109]), .string (ByteArray.mk #[99, 101, 97, 115, 101])] 9)
  have R := Lib.hid (heap_alloc2_old w (.cells #[.int .i64 6, .int .i64 s, .slice A n k] 24) (.cells #[.string (ByteArray.mk #[104, 101, 97, 100, 101, 114]), .string (ByteArray.mk #[111, 112, 101, 110]), .string (ByteArray.mk #[117, 112, 100, 97, 116, 101]), .string (ByteArray.mk #[104, 111, 108, 100]), .string (ByteArray.mk #[102, 115, 109]), .string (ByteArray.mk #[99, 101, 97, 115, 101])] 9))
  have R2 := heap_alloc2_new w (.cells #[.int .i64 6, .int .i64 s, .slice A n k] 24) (.cells #[.string (ByteArray.mk #[104, 101, 97, 100, 101, 114]), .string (ByteArray.mk #[111, 112, 101, 110]), .string (ByteArray.mk #[117, 112, 100, 97, 116, 101]), .string (ByteArray.mk #[104, 111, 108, 100]), .string (ByteArray.mk #[102, 115, 109]), .string (ByteArray.mk #[99, 101, 97, 115, 101])] 9)
  have HR2 := Lib.hid R2
  clear R2
  generalize ((w.alloc (.cells #[.int .i64 6, .int .i64 s, .slice A n k] 24)).alloc (.cells #[.string (ByteArray.mk #[104, 101, 97, 100, 101, 114]), .string (ByteArray.mk #[111, 112, 101, 110]), .string (ByteArray.mk #[117, 112, 100, 97, 116, 101]), .string (ByteArray.mk #[104, 111, 108, 100]), .string (ByteArray.mk #[102, 115, 109]), .string (ByteArray.mk #[99, 101, 97, 115, 101])] 9)) = W0 at *
  have HB := Lib.hid hb
  clear hb
  have f1 := fun W (hC : Below W0.heap.size W0 W) => (row3 (row_to hC R.out)).1
  have f2 := fun W (hC : Below W0.heap.size W0 W) => (row3 (row_to hC R.out)).2.1
  have f3 : ∀ W, Below W0.heap.size W0 W → W.cell? ⟨w.heap.size + 1, 5, none⟩ = some (.string (ByteArray.mk #[99, 101, 97, 115, 101])) := fun W hC => by rw [cell_of_row _ _ _ _ _ _ (row_to hC HR2.out)]; rfl
  have f4 : ∀ W, Below W0.heap.size W0 W → W.cell? ⟨w.heap.size + 1, (IntKind.i64.wrap 5).toNat, none⟩ = some (.string (ByteArray.mk #[99, 101, 97, 115, 101])) := fun W hC => by
    have e : (IntKind.i64.wrap 5).toNat = 5 := by decide
    rw [e]
    exact f3 W hC
  refine wp_region_rel (by kernel_rfl) (by decide +kernel) (by rfl) ?_
  repeat (first
    | (refine rel_skip ⟨_, _, _, _, rfl, rfl, rfl, ?_⟩ ?_
       focus (intro h; cases h; done))
    | refine rel_move _ (Just _) (.inl rfl) (by first | exact .inl rfl | exact .inr ⟨_, _, _, rfl, rfl, rfl⟩) rfl (lasts_just _) ?_
    | refine rel_move _ (Just _) (.inr rfl) (by first | exact .inl rfl | exact .inr ⟨_, _, _, rfl, rfl, rfl⟩) rfl (lasts_just _) ?_
    | refine rel_moveC _ (.inl rfl) (by first | exact .inl rfl | exact .inr ⟨_, _, _, rfl, rfl, rfl⟩) ?_
    | refine rel_moveC _ (.inr rfl) (by first | exact .inl rfl | exact .inr ⟨_, _, _, rfl, rfl, rfl⟩) ?_
    | refine rel_str _ _ rfl (by first | exact .inl rfl | exact .inr ⟨_, _, _, rfl, rfl, rfl⟩) rfl ?_
    | refine rel_lenB _ _ rfl (by first | exact .inl rfl | exact .inr ⟨_, _, _, rfl, rfl, rfl⟩) rfl ?_
    | refine rel_move _ (IsB _) (.inl rfl) (by first | exact .inl rfl | exact .inr ⟨_, _, _, rfl, rfl, rfl⟩) rfl (lasts_isB _) ?_
    | refine rel_move _ (IsB _) (.inr rfl) (by first | exact .inl rfl | exact .inr ⟨_, _, _, rfl, rfl, rfl⟩) rfl (lasts_isB _) ?_
    | (refine rel_exact ?_ (by first | exact .inl rfl | exact .inr ⟨_, _, _, rfl, rfl, rfl⟩) ?_ ?_
       rotate_left
       (intro ρ W hρ hC hk
        simp [known, looks, Op.operands, Call.operands, slotFact, Just, List.lookup] at hk
        obtain ⟨hρ1, hρ2, hρ3⟩ := hρ
        go_simp
        rfl)))
  refine rel_op (Just (.string Y)) (lasts_just _) (by first | exact .inl rfl | exact .inr ⟨_, _, _, rfl, rfl, rfl⟩) ?_ ?_
  · intro ρ W hρ hC hk
    simp [known, looks, Op.operands, Call.operands, slotFact, Just, List.lookup] at hk
    obtain ⟨hρ1, hρ2, hρ3⟩ := hρ
    go_simp
    refine ⟨Below.refl _ _, (HI2.out _).mono ?_⟩
    rintro e w3 ⟨rfl, rfl⟩
    exact ⟨_, rfl, rfl, Below.refl _ _⟩
  repeat (first
    | (refine rel_skip ⟨_, _, _, _, rfl, rfl, rfl, ?_⟩ ?_
       focus (intro h; cases h; done))
    | refine rel_move _ (Just _) (.inl rfl) (by first | exact .inl rfl | exact .inr ⟨_, _, _, rfl, rfl, rfl⟩) rfl (lasts_just _) ?_
    | refine rel_move _ (Just _) (.inr rfl) (by first | exact .inl rfl | exact .inr ⟨_, _, _, rfl, rfl, rfl⟩) rfl (lasts_just _) ?_
    | refine rel_moveC _ (.inl rfl) (by first | exact .inl rfl | exact .inr ⟨_, _, _, rfl, rfl, rfl⟩) ?_
    | refine rel_moveC _ (.inr rfl) (by first | exact .inl rfl | exact .inr ⟨_, _, _, rfl, rfl, rfl⟩) ?_
    | refine rel_str _ _ rfl (by first | exact .inl rfl | exact .inr ⟨_, _, _, rfl, rfl, rfl⟩) rfl ?_
    | refine rel_lenB _ _ rfl (by first | exact .inl rfl | exact .inr ⟨_, _, _, rfl, rfl, rfl⟩) rfl ?_
    | refine rel_move _ (IsB _) (.inl rfl) (by first | exact .inl rfl | exact .inr ⟨_, _, _, rfl, rfl, rfl⟩) rfl (lasts_isB _) ?_
    | refine rel_move _ (IsB _) (.inr rfl) (by first | exact .inl rfl | exact .inr ⟨_, _, _, rfl, rfl, rfl⟩) rfl (lasts_isB _) ?_
    | (refine rel_exact ?_ (by first | exact .inl rfl | exact .inr ⟨_, _, _, rfl, rfl, rfl⟩) ?_ ?_
       rotate_left
       (intro ρ W hρ hC hk
        simp [known, looks, Op.operands, Call.operands, slotFact, Just, List.lookup] at hk
        obtain ⟨hρ1, hρ2, hρ3⟩ := hρ
        go_simp
        rfl)))
  refine rel_nil ?_
  intro a W hC hd hsz ht
  refine fin_exit hsz hd ht (of_decide_eq_true (by kernel_rfl)) ?_
  repeat (first
    | refine fin_just ?_
    | (intro _ _))
  refine fin_nil ?_
  simp only [Act.put, Option.getD_some, List.setIfInBounds_toArray, List.set_cons_zero, List.set_cons_succ]
  clear hd hsz ht
  go_wp2
  go_ret
  exact ⟨_, rfl, by rw [← HF.out]; rfl, bstep HB.out hC⟩
theorem rname_any (c s : Int) (A : Option Addr) (n k : Nat) (w : World) (c0 : -9223372036854775808 ≤ c) (c1 : c ≤ 9223372036854775807) (s0 : -9223372036854775808 ≤ s) (s1 : s ≤ 9223372036854775807) :
    Calls Tryd.prog 19 #[.agg #[.int .i64 c, .int .i64 s, .slice A n k]] w (Ret (Just (.string (str (nameL c s)))) w) := by
  rcases (show (c ≤ 0 ∨ 7 ≤ c) ∨ c = 1 ∨ c = 2 ∨ c = 3 ∨ c = 4 ∨ c = 5 ∨ c = 6 by omega) with h | rfl | rfl | rfl | rfl | rfl | rfl
  · exact rname_else c s A n k w c0 c1 s0 s1 h
  · exact rname_1 s A n k w s0 s1
  · exact rname_2 s A n k w s0 s1
  · exact rname_3 s A n k w s0 s1
  · exact rname_4 s A n k w s0 s1
  · exact rname_5 s A n k w s0 s1
  · exact rname_6 s A n k w s0 s1
end Go.Proofs.YtmkpkbigceinfaaDoor
