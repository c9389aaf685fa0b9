/- The walk of NoteNames: unlike notes have unlike names. -/
import Derived.Test.YtmkpkbigceinfaaDoorNote5
namespace Go.Proofs.YtmkpkbigceinfaaDoor
open Go.RowKit
set_option maxHeartbeats 400000
set_option linter.unusedVariables false
set_option linter.unusedSimpArgs false

theorem str_ne {l m : List UInt8} (h : l ≠ m) : ((str l).toList == (str m).toList) = false := by
  rw [← beq_toListBytes]
  cases hb : (str l == str m) with
  | false => rfl
  | true =>
    exfalso
    apply h
    have e : str l = str m := by
      apply ByteArray.ext
      have h1 : ((str l).data == (str m).data) = true := hb
      exact eq_of_beq h1
    have := congrArg (fun b : ByteArray => b.data.toList) e
    simpa [str] using this

theorem noteNames_any (w : World) (ht : Tab w) (c s : Int) (A : Option Addr) (n k : Nat) (l : List UInt8) (h : RdB w A n k l) (bc : -9223372036854775808 ≤ c ∧ c ≤ 9223372036854775807) (bs : -9223372036854775808 ≤ s ∧ s ≤ 9223372036854775807)
    (d t : Int) (B : Option Addr) (m j : Nat) (r : List UInt8) (h2 : RdB w B m j r) (bd : -9223372036854775808 ≤ d ∧ d ≤ 9223372036854775807) (bt : -9223372036854775808 ≤ t ∧ t ≤ 9223372036854775807) :
    Calls Tryd.prog 5 #[.agg #[.int .i64 c, .int .i64 s, .slice A n k], .agg #[.int .i64 d, .int .i64 t, .slice B m j]] w fun e w' => e = .returned (.bool true) ∧ Below w.heap.size w w' := by
  have N1 := Lib.hid fun (W : World) (hW : Tab W) => name_any c s A n k W hW bc.1 bc.2 bs.1 bs.2
  have N2 := Lib.hid fun (W : World) (hW : Tab W) => name_any d t B m j W hW bd.1 bd.2 bt.1 bt.2
  have HT := Lib.hid ht
  clear bc bs bd bt h h2 ht
  have hcase : (c ≠ d ∨ (c = d ∧ s ≠ t) ∨ (c = d ∧ s = t)) := by omega
  have key : (∃ (x y z : Bool), (c == d) = x ∧ (s == t) = y ∧ ((str (nameL c s)).toList == (str (nameL d t)).toList) = z ∧ z = (x && y)) := by
    refine ⟨_, _, _, rfl, rfl, rfl, ?_⟩
    rcases hcase with h1 | ⟨h1, h2⟩ | ⟨h1, h2⟩
    · rw [str_ne (fun e => h1 (nameL_inj e).1), beq_eq_false_iff_ne.2 h1]; rfl
    · rw [str_ne (fun e => h2 (nameL_inj e).2), beq_eq_false_iff_ne.2 h2, Bool.and_false]
    · subst h1 h2
      simp
  obtain ⟨x, y, z, hx, hy, hz, hxyz⟩ := key
  clear hcase
  have HX := Lib.hid hxyz
  clear hxyz
  obtain ⟨X, hX⟩ : ∃ X, str (nameL c s) = X := ⟨_, rfl⟩
  obtain ⟨Y, hY⟩ : ∃ Y, str (nameL d t) = Y := ⟨_, rfl⟩
  rw [hX, hY] at hz
  rw [hX] at N1
  rw [hY] at N2
  clear hX hY
  cases x <;> cases y <;> cases z <;> first | (exfalso; revert HX; unfold Hid; decide) | skip
  all_goals
    clear HX
    go_enter Tryd.func5, Tryd.ntmps5
    go_wp2_with fail
    with_reducible refine (awake_any _ (HT.out.below (balloc (bnew w _) _))).mono ?_
    rintro e w1 ⟨rfl, hb1⟩
    have hg1 := (hb1.block w.heap.size (by simp; omega)).trans (heap_alloc2_old w _ _)
    have hg2 := (hb1.block (w.heap.size + 1) (by simp)).trans (heap_alloc2_new w _ _)
    have HG1 := Lib.hid hg1
    have HG2 := Lib.hid hg2
    have HB := Lib.hid (bstep (balloc (bnew w _) _) hb1)
    clear hb1 hg1 hg2
    have f1 := fun W (hC : Below w1.heap.size w1 W) => (row3 (row_to hC HG1.out)).1
    have f2 := fun W (hC : Below w1.heap.size w1 W) => (row3 (row_to hC HG1.out)).2.1
    have f3 := fun W (hC : Below w1.heap.size w1 W) => (row3 (row_to hC HG2.out)).1
    have f4 := fun W (hC : Below w1.heap.size w1 W) => (row3 (row_to hC HG2.out)).2.1
    go_wp2_with fail
    refine wp_region_rel (by kernel_rfl) (by decide +kernel) (by rfl) ?_
    repeat (first
      | (refine rel_skip ⟨_, _, _, _, rfl, rfl, rfl, ?_⟩ ?_
         focus (intro h; cases h; done))
      | refine rel_move _ (Just _) (.inl rfl) (by first | exact .inl rfl | exact .inr ⟨_, _, _, rfl, rfl, rfl⟩) rfl (lasts_just _) ?_
      | refine rel_move _ (Just _) (.inr rfl) (by first | exact .inl rfl | exact .inr ⟨_, _, _, rfl, rfl, rfl⟩) rfl (lasts_just _) ?_
      | refine rel_moveC _ (.inl rfl) (by first | exact .inl rfl | exact .inr ⟨_, _, _, rfl, rfl, rfl⟩) ?_
      | refine rel_moveC _ (.inr rfl) (by first | exact .inl rfl | exact .inr ⟨_, _, _, rfl, rfl, rfl⟩) ?_
      | refine rel_str _ _ rfl (by first | exact .inl rfl | exact .inr ⟨_, _, _, rfl, rfl, rfl⟩) rfl ?_
      | refine rel_lenB _ _ rfl (by first | exact .inl rfl | exact .inr ⟨_, _, _, rfl, rfl, rfl⟩) rfl ?_
      | refine rel_move _ (IsB _) (.inl rfl) (by first | exact .inl rfl | exact .inr ⟨_, _, _, rfl, rfl, rfl⟩) rfl (lasts_isB _) ?_
      | refine rel_move _ (IsB _) (.inr rfl) (by first | exact .inl rfl | exact .inr ⟨_, _, _, rfl, rfl, rfl⟩) rfl (lasts_isB _) ?_
      | (refine rel_exact ?_ (by first | exact .inl rfl | exact .inr ⟨_, _, _, rfl, rfl, rfl⟩) ?_ ?_
         rotate_left
         (intro ρ W hρ hC hk
          simp [known, looks, Op.operands, Call.operands, slotFact, Just, List.lookup] at hk
          obtain ⟨hρ1, hρ2, hρ3⟩ := hρ
          go_simp
          rfl)))
    refine rel_loadRow 2 w.heap.size 24 24 #[.int .i64 c, .int .i64 s, .slice A n k] (0, 0) _ rfl (by first | exact .inl rfl | exact .inr ⟨_, _, _, rfl, rfl, rfl⟩) rfl Tryd.underlying24 rfl noteSize (fun W hC => row_to hC HG1.out) ?_
    refine rel_op (Just (.string X)) (lasts_just _) (by first | exact .inl rfl | exact .inr ⟨_, _, _, rfl, rfl, rfl⟩) ?_ ?_
    · intro ρ W hρ hC hk
      simp [known, looks, Op.operands, Call.operands, slotFact, Just, List.lookup] at hk
      obtain ⟨hρ1, hρ2, hρ3⟩ := hρ
      go_simp
      refine ⟨Below.refl _ _, (N1.out _ (HT.out.below (bstep HB.out hC))).mono ?_⟩
      rintro e w3 ⟨rfl, hb3⟩
      exact ⟨_, rfl, rfl, hb3⟩
    repeat (first
      | (refine rel_skip ⟨_, _, _, _, rfl, rfl, rfl, ?_⟩ ?_
         focus (intro h; cases h; done))
      | refine rel_move _ (Just _) (.inl rfl) (by first | exact .inl rfl | exact .inr ⟨_, _, _, rfl, rfl, rfl⟩) rfl (lasts_just _) ?_
      | refine rel_move _ (Just _) (.inr rfl) (by first | exact .inl rfl | exact .inr ⟨_, _, _, rfl, rfl, rfl⟩) rfl (lasts_just _) ?_
      | refine rel_moveC _ (.inl rfl) (by first | exact .inl rfl | exact .inr ⟨_, _, _, rfl, rfl, rfl⟩) ?_
      | refine rel_moveC _ (.inr rfl) (by first | exact .inl rfl | exact .inr ⟨_, _, _, rfl, rfl, rfl⟩) ?_
      | refine rel_str _ _ rfl (by first | exact .inl rfl | exact .inr ⟨_, _, _, rfl, rfl, rfl⟩) rfl ?_
      | refine rel_lenB _ _ rfl (by first | exact .inl rfl | exact .inr ⟨_, _, _, rfl, rfl, rfl⟩) rfl ?_
      | refine rel_move _ (IsB _) (.inl rfl) (by first | exact .inl rfl | exact .inr ⟨_, _, _, rfl, rfl, rfl⟩) rfl (lasts_isB _) ?_
      | refine rel_move _ (IsB _) (.inr rfl) (by first | exact .inl rfl | exact .inr ⟨_, _, _, rfl, rfl, rfl⟩) rfl (lasts_isB _) ?_
      | (refine rel_exact ?_ (by first | exact .inl rfl | exact .inr ⟨_, _, _, rfl, rfl, rfl⟩) ?_ ?_
         rotate_left
         (intro ρ W hρ hC hk
          simp [known, looks, Op.operands, Call.operands, slotFact, Just, List.lookup] at hk
          obtain ⟨hρ1, hρ2, hρ3⟩ := hρ
          go_simp
          rfl)))
    refine rel_loadRow 3 (w.heap.size + 1) 24 24 #[.int .i64 d, .int .i64 t, .slice B m j] (0, 0) _ rfl (by first | exact .inl rfl | exact .inr ⟨_, _, _, rfl, rfl, rfl⟩) rfl Tryd.underlying24 rfl noteSize (fun W hC => row_to hC HG2.out) ?_
    refine rel_op (Just (.string Y)) (lasts_just _) (by first | exact .inl rfl | exact .inr ⟨_, _, _, rfl, rfl, rfl⟩) ?_ ?_
    · intro ρ W hρ hC hk
      simp [known, looks, Op.operands, Call.operands, slotFact, Just, List.lookup] at hk
      obtain ⟨hρ1, hρ2, hρ3⟩ := hρ
      go_simp
      refine ⟨Below.refl _ _, (N2.out _ (HT.out.below (bstep HB.out hC))).mono ?_⟩
      rintro e w3 ⟨rfl, hb3⟩
      exact ⟨_, rfl, rfl, hb3⟩
    repeat (first
      | (refine rel_skip ⟨_, _, _, _, rfl, rfl, rfl, ?_⟩ ?_
         focus (intro h; cases h; done))
      | refine rel_move _ (Just _) (.inl rfl) (by first | exact .inl rfl | exact .inr ⟨_, _, _, rfl, rfl, rfl⟩) rfl (lasts_just _) ?_
      | refine rel_move _ (Just _) (.inr rfl) (by first | exact .inl rfl | exact .inr ⟨_, _, _, rfl, rfl, rfl⟩) rfl (lasts_just _) ?_
      | refine rel_moveC _ (.inl rfl) (by first | exact .inl rfl | exact .inr ⟨_, _, _, rfl, rfl, rfl⟩) ?_
      | refine rel_moveC _ (.inr rfl) (by first | exact .inl rfl | exact .inr ⟨_, _, _, rfl, rfl, rfl⟩) ?_
      | refine rel_str _ _ rfl (by first | exact .inl rfl | exact .inr ⟨_, _, _, rfl, rfl, rfl⟩) rfl ?_
      | refine rel_lenB _ _ rfl (by first | exact .inl rfl | exact .inr ⟨_, _, _, rfl, rfl, rfl⟩) rfl ?_
      | refine rel_move _ (IsB _) (.inl rfl) (by first | exact .inl rfl | exact .inr ⟨_, _, _, rfl, rfl, rfl⟩) rfl (lasts_isB _) ?_
      | refine rel_move _ (IsB _) (.inr rfl) (by first | exact .inl rfl | exact .inr ⟨_, _, _, rfl, rfl, rfl⟩) rfl (lasts_isB _) ?_
      | (refine rel_exact ?_ (by first | exact .inl rfl | exact .inr ⟨_, _, _, rfl, rfl, rfl⟩) ?_ ?_
         rotate_left
         (intro ρ W hρ hC hk
          simp [known, looks, Op.operands, Call.operands, slotFact, Just, List.lookup] at hk
          obtain ⟨hρ1, hρ2, hρ3⟩ := hρ
          go_simp
          rfl)))
    refine rel_nil ?_
    intro a W hC hd hsz ht
    refine fin_exit hsz hd ht (of_decide_eq_true (by kernel_rfl)) ?_
    repeat (first
      | refine fin_just ?_
      | (intro _ _))
    refine fin_nil ?_
    simp only [Act.put, Option.getD_some, List.setIfInBounds_toArray, List.set_cons_zero, List.set_cons_succ]
    clear hd hsz ht
    go_wp2
    go_ret
    exact ⟨rfl, bstep HB.out hC⟩
end Go.Proofs.YtmkpkbigceinfaaDoor
