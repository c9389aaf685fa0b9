/- The walk of policy.Fits, and of policy.Total. -/
import Derived.Test.YtmlhbmlppgoklabPol3
namespace Go.Proofs.Ytmlhbmlppgoklab
open Go.RowKit
set_option maxHeartbeats 1000000
set_option linter.unusedVariables false
set_option linter.unusedSimpArgs false

theorem fit_no (r1 r2 r3 r4 r5 r6 va vn vc : Int) (A : Option Addr) (n c : Nat) (w : World) (h : r1 ≤ -1 ∨ 5 ≤ r1) : Calls Try.prog 11 #[.agg #[.int .i64 r1, .int .i64 r2, .int .i64 r3, .int .i64 r4, .int .i64 r5, .int .i64 r6], .agg #[.int .i64 va, .int .i64 vn, .slice A n c, .int .i64 vc]] w (Ret (Just (.bool false)) w) := by
  rcases h with h | h
  all_goals
    go_enter Try.func11, Try.ntmps11
    go_wp2
    go_ret
    exact ⟨_, rfl, rfl, balloc (bnew w _) _⟩
theorem fit_at0 (r2 r3 r4 r5 r6 va vn vc : Int) (A : Option Addr) (n c : Nat) (us : List Int) (w : World) (h : RdI w A n c us) : Calls Try.prog 11 #[.agg #[.int .i64 0, .int .i64 r2, .int .i64 r3, .int .i64 r4, .int .i64 r5, .int .i64 r6], .agg #[.int .i64 va, .int .i64 vn, .slice A n c, .int .i64 vc]] w (Ret (Just (.bool (true))) w) := by
  have HR := Lib.hid h
  clear h
  obtain ⟨C, hC0⟩ : ∃ C, (true) = C := ⟨_, rfl⟩
  have HC := Lib.hid hC0
  clear hC0
  have hix : ∀ W : World, (Instr.index 43 fitsV (.int .i64 0)).run Try.prog W = .ok (.func (.func 28) #[] #[]) W := fun _ => by kernel_rfl
  go_enter Try.func11, Try.ntmps11
  go_wp2_with fail
  have hb := balloc (bnew w (.cells #[.int .i64 0, .int .i64 r2, .int .i64 r3, .int .i64 r4, .int .i64 r5, .int .i64 r6] 31)) (.cells #[.int .i64 va, .int .i64 vn, .slice A n c, .int .i64 vc] 27)
  have R1 := Lib.hid (heap_alloc2_old w (.cells #[.int .i64 0, .int .i64 r2, .int .i64 r3, .int .i64 r4, .int .i64 r5, .int .i64 r6] 31) (.cells #[.int .i64 va, .int .i64 vn, .slice A n c, .int .i64 vc] 27))
  have R2 := Lib.hid (heap_alloc2_new w (.cells #[.int .i64 0, .int .i64 r2, .int .i64 r3, .int .i64 r4, .int .i64 r5, .int .i64 r6] 31) (.cells #[.int .i64 va, .int .i64 vn, .slice A n c, .int .i64 vc] 27))
  generalize ((w.alloc (.cells #[.int .i64 0, .int .i64 r2, .int .i64 r3, .int .i64 r4, .int .i64 r5, .int .i64 r6] 31)).alloc (.cells #[.int .i64 va, .int .i64 vn, .slice A n c, .int .i64 vc] 27)) = W0 at *
  have HB := Lib.hid hb
  clear hb
  have f1 := fun W (hC : Below W0.heap.size W0 W) => (row6 (row_to hC R1.out)).1
  refine wp_region_rel (by kernel_rfl) (by decide +kernel) (by rfl) ?_
  refine rel_op (Just fitsV) (lasts_just _) (by first | exact .inl rfl | exact .inr ⟨_, _, _, rfl, rfl, rfl⟩) ?_ ?_
  · intro ρ W hρ hC hk
    simp [known, looks, Op.operands, Call.operands, slotFact, Just, List.lookup] at hk
    obtain ⟨hρ1, hρ2, hρ3⟩ := hρ
    go_simp
    exact ⟨Below.refl _ _, fits_any _⟩
  repeat (first
    | (refine rel_skip ⟨_, _, _, _, rfl, rfl, rfl, ?_⟩ ?_
       focus (intro h; cases h; done))
    | refine rel_move _ (Just _) (.inl rfl) (by first | exact .inl rfl | exact .inr ⟨_, _, _, rfl, rfl, rfl⟩) rfl (lasts_just _) ?_
    | refine rel_move _ (Just _) (.inr rfl) (by first | exact .inl rfl | exact .inr ⟨_, _, _, rfl, rfl, rfl⟩) rfl (lasts_just _) ?_
    | refine rel_moveC _ (.inl rfl) (by first | exact .inl rfl | exact .inr ⟨_, _, _, rfl, rfl, rfl⟩) ?_
    | refine rel_moveC _ (.inr rfl) (by first | exact .inl rfl | exact .inr ⟨_, _, _, rfl, rfl, rfl⟩) ?_
    | refine rel_str _ _ rfl (by first | exact .inl rfl | exact .inr ⟨_, _, _, rfl, rfl, rfl⟩) rfl ?_
    | refine rel_lenB _ _ rfl (by first | exact .inl rfl | exact .inr ⟨_, _, _, rfl, rfl, rfl⟩) rfl ?_
    | refine rel_move _ (IsB _) (.inl rfl) (by first | exact .inl rfl | exact .inr ⟨_, _, _, rfl, rfl, rfl⟩) rfl (lasts_isB _) ?_
    | refine rel_move _ (IsB _) (.inr rfl) (by first | exact .inl rfl | exact .inr ⟨_, _, _, rfl, rfl, rfl⟩) rfl (lasts_isB _) ?_
    | (refine rel_exact ?_ (by first | exact .inl rfl | exact .inr ⟨_, _, _, rfl, rfl, rfl⟩) ?_ ?_
       rotate_left
       (intro ρ W hρ hC hk
        simp [known, looks, Op.operands, Call.operands, slotFact, Just, List.lookup] at hk
        obtain ⟨hρ1, hρ2, hρ3⟩ := hρ
        go_simp
        rfl)))
  refine rel_loadRow 2 w.heap.size 31 31 #[.int .i64 0, .int .i64 r2, .int .i64 r3, .int .i64 r4, .int .i64 r5, .int .i64 r6] (0, 0) _ rfl (by first | exact .inl rfl | exact .inr ⟨_, _, _, rfl, rfl, rfl⟩) rfl Try.underlying31 rfl ruleSize (fun W hC => row_to hC R1.out) ?_
  refine rel_loadRow 3 (w.heap.size + 1) 27 27 #[.int .i64 va, .int .i64 vn, .slice A n c, .int .i64 vc] (0, 0) _ rfl (by first | exact .inl rfl | exact .inr ⟨_, _, _, rfl, rfl, rfl⟩) rfl Try.underlying27 rfl viewSize (fun W hC => row_to hC R2.out) ?_
  refine rel_op (Just (.bool C)) (lasts_just _) (by first | exact .inl rfl | exact .inr ⟨_, _, _, rfl, rfl, rfl⟩) ?_ ?_
  · intro ρ W hρ hC hk
    simp [known, looks, Op.operands, Call.operands, slotFact, Just, List.lookup] at hk
    obtain ⟨hρ1, hρ2, hρ3⟩ := hρ
    go_simp
    have hx := fit0 0 r2 r3 r4 r5 r6 va vn vc A n c W
    rw [HC.out] at hx
    exact ⟨Below.refl _ _, hx⟩
  repeat (first
    | (refine rel_skip ⟨_, _, _, _, rfl, rfl, rfl, ?_⟩ ?_
       focus (intro h; cases h; done))
    | refine rel_move _ (Just _) (.inl rfl) (by first | exact .inl rfl | exact .inr ⟨_, _, _, rfl, rfl, rfl⟩) rfl (lasts_just _) ?_
    | refine rel_move _ (Just _) (.inr rfl) (by first | exact .inl rfl | exact .inr ⟨_, _, _, rfl, rfl, rfl⟩) rfl (lasts_just _) ?_
    | refine rel_moveC _ (.inl rfl) (by first | exact .inl rfl | exact .inr ⟨_, _, _, rfl, rfl, rfl⟩) ?_
    | refine rel_moveC _ (.inr rfl) (by first | exact .inl rfl | exact .inr ⟨_, _, _, rfl, rfl, rfl⟩) ?_
    | refine rel_str _ _ rfl (by first | exact .inl rfl | exact .inr ⟨_, _, _, rfl, rfl, rfl⟩) rfl ?_
    | refine rel_lenB _ _ rfl (by first | exact .inl rfl | exact .inr ⟨_, _, _, rfl, rfl, rfl⟩) rfl ?_
    | refine rel_move _ (IsB _) (.inl rfl) (by first | exact .inl rfl | exact .inr ⟨_, _, _, rfl, rfl, rfl⟩) rfl (lasts_isB _) ?_
    | refine rel_move _ (IsB _) (.inr rfl) (by first | exact .inl rfl | exact .inr ⟨_, _, _, rfl, rfl, rfl⟩) rfl (lasts_isB _) ?_
    | (refine rel_exact ?_ (by first | exact .inl rfl | exact .inr ⟨_, _, _, rfl, rfl, rfl⟩) ?_ ?_
       rotate_left
       (intro ρ W hρ hC hk
        simp [known, looks, Op.operands, Call.operands, slotFact, Just, List.lookup] at hk
        obtain ⟨hρ1, hρ2, hρ3⟩ := hρ
        go_simp
        rfl)))
  refine rel_nil ?_
  intro a W hC hd hsz ht
  refine fin_exit hsz hd ht (of_decide_eq_true (by kernel_rfl)) ?_
  repeat (first
    | refine fin_just ?_
    | (intro _ _))
  refine fin_nil ?_
  simp only [Act.put, Option.getD_some, List.setIfInBounds_toArray, List.set_cons_zero, List.set_cons_succ]
  clear hd hsz ht
  go_wp2
  go_ret
  exact ⟨_, rfl, by rw [HC.out]; rfl, bstep HB.out hC⟩
theorem fit_at1 (r2 r3 r4 r5 r6 va vn vc : Int) (A : Option Addr) (n c : Nat) (us : List Int) (w : World) (h : RdI w A n c us) : Calls Try.prog 11 #[.agg #[.int .i64 1, .int .i64 r2, .int .i64 r3, .int .i64 r4, .int .i64 r5, .int .i64 r6], .agg #[.int .i64 va, .int .i64 vn, .slice A n c, .int .i64 vc]] w (Ret (Just (.bool (hasB r2 r3 va vn))) w) := by
  have HR := Lib.hid h
  clear h
  obtain ⟨C, hC0⟩ : ∃ C, (hasB r2 r3 va vn) = C := ⟨_, rfl⟩
  have HC := Lib.hid hC0
  clear hC0
  have hix : ∀ W : World, (Instr.index 43 fitsV (.int .i64 1)).run Try.prog W = .ok (.func (.func 29) #[] #[]) W := fun _ => by kernel_rfl
  go_enter Try.func11, Try.ntmps11
  go_wp2_with fail
  have hb := balloc (bnew w (.cells #[.int .i64 1, .int .i64 r2, .int .i64 r3, .int .i64 r4, .int .i64 r5, .int .i64 r6] 31)) (.cells #[.int .i64 va, .int .i64 vn, .slice A n c, .int .i64 vc] 27)
  have R1 := Lib.hid (heap_alloc2_old w (.cells #[.int .i64 1, .int .i64 r2, .int .i64 r3, .int .i64 r4, .int .i64 r5, .int .i64 r6] 31) (.cells #[.int .i64 va, .int .i64 vn, .slice A n c, .int .i64 vc] 27))
  have R2 := Lib.hid (heap_alloc2_new w (.cells #[.int .i64 1, .int .i64 r2, .int .i64 r3, .int .i64 r4, .int .i64 r5, .int .i64 r6] 31) (.cells #[.int .i64 va, .int .i64 vn, .slice A n c, .int .i64 vc] 27))
  generalize ((w.alloc (.cells #[.int .i64 1, .int .i64 r2, .int .i64 r3, .int .i64 r4, .int .i64 r5, .int .i64 r6] 31)).alloc (.cells #[.int .i64 va, .int .i64 vn, .slice A n c, .int .i64 vc] 27)) = W0 at *
  have HB := Lib.hid hb
  clear hb
  have f1 := fun W (hC : Below W0.heap.size W0 W) => (row6 (row_to hC R1.out)).1
  refine wp_region_rel (by kernel_rfl) (by decide +kernel) (by rfl) ?_
  refine rel_op (Just fitsV) (lasts_just _) (by first | exact .inl rfl | exact .inr ⟨_, _, _, rfl, rfl, rfl⟩) ?_ ?_
  · intro ρ W hρ hC hk
    simp [known, looks, Op.operands, Call.operands, slotFact, Just, List.lookup] at hk
    obtain ⟨hρ1, hρ2, hρ3⟩ := hρ
    go_simp
    exact ⟨Below.refl _ _, fits_any _⟩
  repeat (first
    | (refine rel_skip ⟨_, _, _, _, rfl, rfl, rfl, ?_⟩ ?_
       focus (intro h; cases h; done))
    | refine rel_move _ (Just _) (.inl rfl) (by first | exact .inl rfl | exact .inr ⟨_, _, _, rfl, rfl, rfl⟩) rfl (lasts_just _) ?_
    | refine rel_move _ (Just _) (.inr rfl) (by first | exact .inl rfl | exact .inr ⟨_, _, _, rfl, rfl, rfl⟩) rfl (lasts_just _) ?_
    | refine rel_moveC _ (.inl rfl) (by first | exact .inl rfl | exact .inr ⟨_, _, _, rfl, rfl, rfl⟩) ?_
    | refine rel_moveC _ (.inr rfl) (by first | exact .inl rfl | exact .inr ⟨_, _, _, rfl, rfl, rfl⟩) ?_
    | refine rel_str _ _ rfl (by first | exact .inl rfl | exact .inr ⟨_, _, _, rfl, rfl, rfl⟩) rfl ?_
    | refine rel_lenB _ _ rfl (by first | exact .inl rfl | exact .inr ⟨_, _, _, rfl, rfl, rfl⟩) rfl ?_
    | refine rel_move _ (IsB _) (.inl rfl) (by first | exact .inl rfl | exact .inr ⟨_, _, _, rfl, rfl, rfl⟩) rfl (lasts_isB _) ?_
    | refine rel_move _ (IsB _) (.inr rfl) (by first | exact .inl rfl | exact .inr ⟨_, _, _, rfl, rfl, rfl⟩) rfl (lasts_isB _) ?_
    | (refine rel_exact ?_ (by first | exact .inl rfl | exact .inr ⟨_, _, _, rfl, rfl, rfl⟩) ?_ ?_
       rotate_left
       (intro ρ W hρ hC hk
        simp [known, looks, Op.operands, Call.operands, slotFact, Just, List.lookup] at hk
        obtain ⟨hρ1, hρ2, hρ3⟩ := hρ
        go_simp
        rfl)))
  refine rel_loadRow 2 w.heap.size 31 31 #[.int .i64 1, .int .i64 r2, .int .i64 r3, .int .i64 r4, .int .i64 r5, .int .i64 r6] (0, 0) _ rfl (by first | exact .inl rfl | exact .inr ⟨_, _, _, rfl, rfl, rfl⟩) rfl Try.underlying31 rfl ruleSize (fun W hC => row_to hC R1.out) ?_
  refine rel_loadRow 3 (w.heap.size + 1) 27 27 #[.int .i64 va, .int .i64 vn, .slice A n c, .int .i64 vc] (0, 0) _ rfl (by first | exact .inl rfl | exact .inr ⟨_, _, _, rfl, rfl, rfl⟩) rfl Try.underlying27 rfl viewSize (fun W hC => row_to hC R2.out) ?_
  refine rel_op (Just (.bool C)) (lasts_just _) (by first | exact .inl rfl | exact .inr ⟨_, _, _, rfl, rfl, rfl⟩) ?_ ?_
  · intro ρ W hρ hC hk
    simp [known, looks, Op.operands, Call.operands, slotFact, Just, List.lookup] at hk
    obtain ⟨hρ1, hρ2, hρ3⟩ := hρ
    go_simp
    have hx := fit1 1 r2 r3 r4 r5 r6 va vn vc A n c W
    rw [HC.out] at hx
    exact ⟨Below.refl _ _, hx⟩
  repeat (first
    | (refine rel_skip ⟨_, _, _, _, rfl, rfl, rfl, ?_⟩ ?_
       focus (intro h; cases h; done))
    | refine rel_move _ (Just _) (.inl rfl) (by first | exact .inl rfl | exact .inr ⟨_, _, _, rfl, rfl, rfl⟩) rfl (lasts_just _) ?_
    | refine rel_move _ (Just _) (.inr rfl) (by first | exact .inl rfl | exact .inr ⟨_, _, _, rfl, rfl, rfl⟩) rfl (lasts_just _) ?_
    | refine rel_moveC _ (.inl rfl) (by first | exact .inl rfl | exact .inr ⟨_, _, _, rfl, rfl, rfl⟩) ?_
    | refine rel_moveC _ (.inr rfl) (by first | exact .inl rfl | exact .inr ⟨_, _, _, rfl, rfl, rfl⟩) ?_
    | refine rel_str _ _ rfl (by first | exact .inl rfl | exact .inr ⟨_, _, _, rfl, rfl, rfl⟩) rfl ?_
    | refine rel_lenB _ _ rfl (by first | exact .inl rfl | exact .inr ⟨_, _, _, rfl, rfl, rfl⟩) rfl ?_
    | refine rel_move _ (IsB _) (.inl rfl) (by first | exact .inl rfl | exact .inr ⟨_, _, _, rfl, rfl, rfl⟩) rfl (lasts_isB _) ?_
    | refine rel_move _ (IsB _) (.inr rfl) (by first | exact .inl rfl | exact .inr ⟨_, _, _, rfl, rfl, rfl⟩) rfl (lasts_isB _) ?_
    | (refine rel_exact ?_ (by first | exact .inl rfl | exact .inr ⟨_, _, _, rfl, rfl, rfl⟩) ?_ ?_
       rotate_left
       (intro ρ W hρ hC hk
        simp [known, looks, Op.operands, Call.operands, slotFact, Just, List.lookup] at hk
        obtain ⟨hρ1, hρ2, hρ3⟩ := hρ
        go_simp
        rfl)))
  refine rel_nil ?_
  intro a W hC hd hsz ht
  refine fin_exit hsz hd ht (of_decide_eq_true (by kernel_rfl)) ?_
  repeat (first
    | refine fin_just ?_
    | (intro _ _))
  refine fin_nil ?_
  simp only [Act.put, Option.getD_some, List.setIfInBounds_toArray, List.set_cons_zero, List.set_cons_succ]
  clear hd hsz ht
  go_wp2
  go_ret
  exact ⟨_, rfl, by rw [HC.out]; rfl, bstep HB.out hC⟩
theorem fit_at2 (r2 r3 r4 r5 r6 va vn vc : Int) (A : Option Addr) (n c : Nat) (us : List Int) (w : World) (h : RdI w A n c us) : Calls Try.prog 11 #[.agg #[.int .i64 2, .int .i64 r2, .int .i64 r3, .int .i64 r4, .int .i64 r5, .int .i64 r6], .agg #[.int .i64 va, .int .i64 vn, .slice A n c, .int .i64 vc]] w (Ret (Just (.bool (us.contains r4))) w) := by
  have HR := Lib.hid h
  clear h
  obtain ⟨C, hC0⟩ : ∃ C, (us.contains r4) = C := ⟨_, rfl⟩
  have HC := Lib.hid hC0
  clear hC0
  have hix : ∀ W : World, (Instr.index 43 fitsV (.int .i64 2)).run Try.prog W = .ok (.func (.func 31) #[] #[]) W := fun _ => by kernel_rfl
  go_enter Try.func11, Try.ntmps11
  go_wp2_with fail
  have hb := balloc (bnew w (.cells #[.int .i64 2, .int .i64 r2, .int .i64 r3, .int .i64 r4, .int .i64 r5, .int .i64 r6] 31)) (.cells #[.int .i64 va, .int .i64 vn, .slice A n c, .int .i64 vc] 27)
  have R1 := Lib.hid (heap_alloc2_old w (.cells #[.int .i64 2, .int .i64 r2, .int .i64 r3, .int .i64 r4, .int .i64 r5, .int .i64 r6] 31) (.cells #[.int .i64 va, .int .i64 vn, .slice A n c, .int .i64 vc] 27))
  have R2 := Lib.hid (heap_alloc2_new w (.cells #[.int .i64 2, .int .i64 r2, .int .i64 r3, .int .i64 r4, .int .i64 r5, .int .i64 r6] 31) (.cells #[.int .i64 va, .int .i64 vn, .slice A n c, .int .i64 vc] 27))
  generalize ((w.alloc (.cells #[.int .i64 2, .int .i64 r2, .int .i64 r3, .int .i64 r4, .int .i64 r5, .int .i64 r6] 31)).alloc (.cells #[.int .i64 va, .int .i64 vn, .slice A n c, .int .i64 vc] 27)) = W0 at *
  have HB := Lib.hid hb
  clear hb
  have f1 := fun W (hC : Below W0.heap.size W0 W) => (row6 (row_to hC R1.out)).1
  refine wp_region_rel (by kernel_rfl) (by decide +kernel) (by rfl) ?_
  refine rel_op (Just fitsV) (lasts_just _) (by first | exact .inl rfl | exact .inr ⟨_, _, _, rfl, rfl, rfl⟩) ?_ ?_
  · intro ρ W hρ hC hk
    simp [known, looks, Op.operands, Call.operands, slotFact, Just, List.lookup] at hk
    obtain ⟨hρ1, hρ2, hρ3⟩ := hρ
    go_simp
    exact ⟨Below.refl _ _, fits_any _⟩
  repeat (first
    | (refine rel_skip ⟨_, _, _, _, rfl, rfl, rfl, ?_⟩ ?_
       focus (intro h; cases h; done))
    | refine rel_move _ (Just _) (.inl rfl) (by first | exact .inl rfl | exact .inr ⟨_, _, _, rfl, rfl, rfl⟩) rfl (lasts_just _) ?_
    | refine rel_move _ (Just _) (.inr rfl) (by first | exact .inl rfl | exact .inr ⟨_, _, _, rfl, rfl, rfl⟩) rfl (lasts_just _) ?_
    | refine rel_moveC _ (.inl rfl) (by first | exact .inl rfl | exact .inr ⟨_, _, _, rfl, rfl, rfl⟩) ?_
    | refine rel_moveC _ (.inr rfl) (by first | exact .inl rfl | exact .inr ⟨_, _, _, rfl, rfl, rfl⟩) ?_
    | refine rel_str _ _ rfl (by first | exact .inl rfl | exact .inr ⟨_, _, _, rfl, rfl, rfl⟩) rfl ?_
    | refine rel_lenB _ _ rfl (by first | exact .inl rfl | exact .inr ⟨_, _, _, rfl, rfl, rfl⟩) rfl ?_
    | refine rel_move _ (IsB _) (.inl rfl) (by first | exact .inl rfl | exact .inr ⟨_, _, _, rfl, rfl, rfl⟩) rfl (lasts_isB _) ?_
    | refine rel_move _ (IsB _) (.inr rfl) (by first | exact .inl rfl | exact .inr ⟨_, _, _, rfl, rfl, rfl⟩) rfl (lasts_isB _) ?_
    | (refine rel_exact ?_ (by first | exact .inl rfl | exact .inr ⟨_, _, _, rfl, rfl, rfl⟩) ?_ ?_
       rotate_left
       (intro ρ W hρ hC hk
        simp [known, looks, Op.operands, Call.operands, slotFact, Just, List.lookup] at hk
        obtain ⟨hρ1, hρ2, hρ3⟩ := hρ
        go_simp
        rfl)))
  refine rel_loadRow 2 w.heap.size 31 31 #[.int .i64 2, .int .i64 r2, .int .i64 r3, .int .i64 r4, .int .i64 r5, .int .i64 r6] (0, 0) _ rfl (by first | exact .inl rfl | exact .inr ⟨_, _, _, rfl, rfl, rfl⟩) rfl Try.underlying31 rfl ruleSize (fun W hC => row_to hC R1.out) ?_
  refine rel_loadRow 3 (w.heap.size + 1) 27 27 #[.int .i64 va, .int .i64 vn, .slice A n c, .int .i64 vc] (0, 0) _ rfl (by first | exact .inl rfl | exact .inr ⟨_, _, _, rfl, rfl, rfl⟩) rfl Try.underlying27 rfl viewSize (fun W hC => row_to hC R2.out) ?_
  refine rel_op (Just (.bool C)) (lasts_just _) (by first | exact .inl rfl | exact .inr ⟨_, _, _, rfl, rfl, rfl⟩) ?_ ?_
  · intro ρ W hρ hC hk
    simp [known, looks, Op.operands, Call.operands, slotFact, Just, List.lookup] at hk
    obtain ⟨hρ1, hρ2, hρ3⟩ := hρ
    go_simp
    have hx := fit2 2 r2 r3 r4 r5 r6 va vn vc A n c us W (HR.out.below (bstep HB.out hC))
    rw [HC.out] at hx
    exact ⟨Below.refl _ _, hx⟩
  repeat (first
    | (refine rel_skip ⟨_, _, _, _, rfl, rfl, rfl, ?_⟩ ?_
       focus (intro h; cases h; done))
    | refine rel_move _ (Just _) (.inl rfl) (by first | exact .inl rfl | exact .inr ⟨_, _, _, rfl, rfl, rfl⟩) rfl (lasts_just _) ?_
    | refine rel_move _ (Just _) (.inr rfl) (by first | exact .inl rfl | exact .inr ⟨_, _, _, rfl, rfl, rfl⟩) rfl (lasts_just _) ?_
    | refine rel_moveC _ (.inl rfl) (by first | exact .inl rfl | exact .inr ⟨_, _, _, rfl, rfl, rfl⟩) ?_
    | refine rel_moveC _ (.inr rfl) (by first | exact .inl rfl | exact .inr ⟨_, _, _, rfl, rfl, rfl⟩) ?_
    | refine rel_str _ _ rfl (by first | exact .inl rfl | exact .inr ⟨_, _, _, rfl, rfl, rfl⟩) rfl ?_
    | refine rel_lenB _ _ rfl (by first | exact .inl rfl | exact .inr ⟨_, _, _, rfl, rfl, rfl⟩) rfl ?_
    | refine rel_move _ (IsB _) (.inl rfl) (by first | exact .inl rfl | exact .inr ⟨_, _, _, rfl, rfl, rfl⟩) rfl (lasts_isB _) ?_
    | refine rel_move _ (IsB _) (.inr rfl) (by first | exact .inl rfl | exact .inr ⟨_, _, _, rfl, rfl, rfl⟩) rfl (lasts_isB _) ?_
    | (refine rel_exact ?_ (by first | exact .inl rfl | exact .inr ⟨_, _, _, rfl, rfl, rfl⟩) ?_ ?_
       rotate_left
       (intro ρ W hρ hC hk
        simp [known, looks, Op.operands, Call.operands, slotFact, Just, List.lookup] at hk
        obtain ⟨hρ1, hρ2, hρ3⟩ := hρ
        go_simp
        rfl)))
  refine rel_nil ?_
  intro a W hC hd hsz ht
  refine fin_exit hsz hd ht (of_decide_eq_true (by kernel_rfl)) ?_
  repeat (first
    | refine fin_just ?_
    | (intro _ _))
  refine fin_nil ?_
  simp only [Act.put, Option.getD_some, List.setIfInBounds_toArray, List.set_cons_zero, List.set_cons_succ]
  clear hd hsz ht
  go_wp2
  go_ret
  exact ⟨_, rfl, by rw [HC.out]; rfl, bstep HB.out hC⟩
theorem fit_at3 (r2 r3 r4 r5 r6 va vn vc : Int) (A : Option Addr) (n c : Nat) (us : List Int) (w : World) (h : RdI w A n c us) : Calls Try.prog 11 #[.agg #[.int .i64 3, .int .i64 r2, .int .i64 r3, .int .i64 r4, .int .i64 r5, .int .i64 r6], .agg #[.int .i64 va, .int .i64 vn, .slice A n c, .int .i64 vc]] w (Ret (Just (.bool (decide (r4 < us.length)))) w) := by
  have HR := Lib.hid h
  clear h
  obtain ⟨C, hC0⟩ : ∃ C, (decide (r4 < us.length)) = C := ⟨_, rfl⟩
  have HC := Lib.hid hC0
  clear hC0
  have hix : ∀ W : World, (Instr.index 43 fitsV (.int .i64 3)).run Try.prog W = .ok (.func (.func 33) #[] #[]) W := fun _ => by kernel_rfl
  go_enter Try.func11, Try.ntmps11
  go_wp2_with fail
  have hb := balloc (bnew w (.cells #[.int .i64 3, .int .i64 r2, .int .i64 r3, .int .i64 r4, .int .i64 r5, .int .i64 r6] 31)) (.cells #[.int .i64 va, .int .i64 vn, .slice A n c, .int .i64 vc] 27)
  have R1 := Lib.hid (heap_alloc2_old w (.cells #[.int .i64 3, .int .i64 r2, .int .i64 r3, .int .i64 r4, .int .i64 r5, .int .i64 r6] 31) (.cells #[.int .i64 va, .int .i64 vn, .slice A n c, .int .i64 vc] 27))
  have R2 := Lib.hid (heap_alloc2_new w (.cells #[.int .i64 3, .int .i64 r2, .int .i64 r3, .int .i64 r4, .int .i64 r5, .int .i64 r6] 31) (.cells #[.int .i64 va, .int .i64 vn, .slice A n c, .int .i64 vc] 27))
  generalize ((w.alloc (.cells #[.int .i64 3, .int .i64 r2, .int .i64 r3, .int .i64 r4, .int .i64 r5, .int .i64 r6] 31)).alloc (.cells #[.int .i64 va, .int .i64 vn, .slice A n c, .int .i64 vc] 27)) = W0 at *
  have HB := Lib.hid hb
  clear hb
  have f1 := fun W (hC : Below W0.heap.size W0 W) => (row6 (row_to hC R1.out)).1
  refine wp_region_rel (by kernel_rfl) (by decide +kernel) (by rfl) ?_
  refine rel_op (Just fitsV) (lasts_just _) (by first | exact .inl rfl | exact .inr ⟨_, _, _, rfl, rfl, rfl⟩) ?_ ?_
  · intro ρ W hρ hC hk
    simp [known, looks, Op.operands, Call.operands, slotFact, Just, List.lookup] at hk
    obtain ⟨hρ1, hρ2, hρ3⟩ := hρ
    go_simp
    exact ⟨Below.refl _ _, fits_any _⟩
  repeat (first
    | (refine rel_skip ⟨_, _, _, _, rfl, rfl, rfl, ?_⟩ ?_
       focus (intro h; cases h; done))
    | refine rel_move _ (Just _) (.inl rfl) (by first | exact .inl rfl | exact .inr ⟨_, _, _, rfl, rfl, rfl⟩) rfl (lasts_just _) ?_
    | refine rel_move _ (Just _) (.inr rfl) (by first | exact .inl rfl | exact .inr ⟨_, _, _, rfl, rfl, rfl⟩) rfl (lasts_just _) ?_
    | refine rel_moveC _ (.inl rfl) (by first | exact .inl rfl | exact .inr ⟨_, _, _, rfl, rfl, rfl⟩) ?_
    | refine rel_moveC _ (.inr rfl) (by first | exact .inl rfl | exact .inr ⟨_, _, _, rfl, rfl, rfl⟩) ?_
    | refine rel_str _ _ rfl (by first | exact .inl rfl | exact .inr ⟨_, _, _, rfl, rfl, rfl⟩) rfl ?_
    | refine rel_lenB _ _ rfl (by first | exact .inl rfl | exact .inr ⟨_, _, _, rfl, rfl, rfl⟩) rfl ?_
    | refine rel_move _ (IsB _) (.inl rfl) (by first | exact .inl rfl | exact .inr ⟨_, _, _, rfl, rfl, rfl⟩) rfl (lasts_isB _) ?_
    | refine rel_move _ (IsB _) (.inr rfl) (by first | exact .inl rfl | exact .inr ⟨_, _, _, rfl, rfl, rfl⟩) rfl (lasts_isB _) ?_
    | (refine rel_exact ?_ (by first | exact .inl rfl | exact .inr ⟨_, _, _, rfl, rfl, rfl⟩) ?_ ?_
       rotate_left
       (intro ρ W hρ hC hk
        simp [known, looks, Op.operands, Call.operands, slotFact, Just, List.lookup] at hk
        obtain ⟨hρ1, hρ2, hρ3⟩ := hρ
        go_simp
        rfl)))
  refine rel_loadRow 2 w.heap.size 31 31 #[.int .i64 3, .int .i64 r2, .int .i64 r3, .int .i64 r4, .int .i64 r5, .int .i64 r6] (0, 0) _ rfl (by first | exact .inl rfl | exact .inr ⟨_, _, _, rfl, rfl, rfl⟩) rfl Try.underlying31 rfl ruleSize (fun W hC => row_to hC R1.out) ?_
  refine rel_loadRow 3 (w.heap.size + 1) 27 27 #[.int .i64 va, .int .i64 vn, .slice A n c, .int .i64 vc] (0, 0) _ rfl (by first | exact .inl rfl | exact .inr ⟨_, _, _, rfl, rfl, rfl⟩) rfl Try.underlying27 rfl viewSize (fun W hC => row_to hC R2.out) ?_
  refine rel_op (Just (.bool C)) (lasts_just _) (by first | exact .inl rfl | exact .inr ⟨_, _, _, rfl, rfl, rfl⟩) ?_ ?_
  · intro ρ W hρ hC hk
    simp [known, looks, Op.operands, Call.operands, slotFact, Just, List.lookup] at hk
    obtain ⟨hρ1, hρ2, hρ3⟩ := hρ
    go_simp
    have hx := fit3 3 r2 r3 r4 r5 r6 va vn vc A n c us W HR.out.len
    rw [HC.out] at hx
    exact ⟨Below.refl _ _, hx⟩
  repeat (first
    | (refine rel_skip ⟨_, _, _, _, rfl, rfl, rfl, ?_⟩ ?_
       focus (intro h; cases h; done))
    | refine rel_move _ (Just _) (.inl rfl) (by first | exact .inl rfl | exact .inr ⟨_, _, _, rfl, rfl, rfl⟩) rfl (lasts_just _) ?_
    | refine rel_move _ (Just _) (.inr rfl) (by first | exact .inl rfl | exact .inr ⟨_, _, _, rfl, rfl, rfl⟩) rfl (lasts_just _) ?_
    | refine rel_moveC _ (.inl rfl) (by first | exact .inl rfl | exact .inr ⟨_, _, _, rfl, rfl, rfl⟩) ?_
    | refine rel_moveC _ (.inr rfl) (by first | exact .inl rfl | exact .inr ⟨_, _, _, rfl, rfl, rfl⟩) ?_
    | refine rel_str _ _ rfl (by first | exact .inl rfl | exact .inr ⟨_, _, _, rfl, rfl, rfl⟩) rfl ?_
    | refine rel_lenB _ _ rfl (by first | exact .inl rfl | exact .inr ⟨_, _, _, rfl, rfl, rfl⟩) rfl ?_
    | refine rel_move _ (IsB _) (.inl rfl) (by first | exact .inl rfl | exact .inr ⟨_, _, _, rfl, rfl, rfl⟩) rfl (lasts_isB _) ?_
    | refine rel_move _ (IsB _) (.inr rfl) (by first | exact .inl rfl | exact .inr ⟨_, _, _, rfl, rfl, rfl⟩) rfl (lasts_isB _) ?_
    | (refine rel_exact ?_ (by first | exact .inl rfl | exact .inr ⟨_, _, _, rfl, rfl, rfl⟩) ?_ ?_
       rotate_left
       (intro ρ W hρ hC hk
        simp [known, looks, Op.operands, Call.operands, slotFact, Just, List.lookup] at hk
        obtain ⟨hρ1, hρ2, hρ3⟩ := hρ
        go_simp
        rfl)))
  refine rel_nil ?_
  intro a W hC hd hsz ht
  refine fin_exit hsz hd ht (of_decide_eq_true (by kernel_rfl)) ?_
  repeat (first
    | refine fin_just ?_
    | (intro _ _))
  refine fin_nil ?_
  simp only [Act.put, Option.getD_some, List.setIfInBounds_toArray, List.set_cons_zero, List.set_cons_succ]
  clear hd hsz ht
  go_wp2
  go_ret
  exact ⟨_, rfl, by rw [HC.out]; rfl, bstep HB.out hC⟩
theorem fit_at4 (r2 r3 r4 r5 r6 va vn vc : Int) (A : Option Addr) (n c : Nat) (us : List Int) (w : World) (h : RdI w A n c us) : Calls Try.prog 11 #[.agg #[.int .i64 4, .int .i64 r2, .int .i64 r3, .int .i64 r4, .int .i64 r5, .int .i64 r6], .agg #[.int .i64 va, .int .i64 vn, .slice A n c, .int .i64 vc]] w (Ret (Just (.bool (vc == r4))) w) := by
  have HR := Lib.hid h
  clear h
  obtain ⟨C, hC0⟩ : ∃ C, (vc == r4) = C := ⟨_, rfl⟩
  have HC := Lib.hid hC0
  clear hC0
  have hix : ∀ W : World, (Instr.index 43 fitsV (.int .i64 4)).run Try.prog W = .ok (.func (.func 34) #[] #[]) W := fun _ => by kernel_rfl
  go_enter Try.func11, Try.ntmps11
  go_wp2_with fail
  have hb := balloc (bnew w (.cells #[.int .i64 4, .int .i64 r2, .int .i64 r3, .int .i64 r4, .int .i64 r5, .int .i64 r6] 31)) (.cells #[.int .i64 va, .int .i64 vn, .slice A n c, .int .i64 vc] 27)
  have R1 := Lib.hid (heap_alloc2_old w (.cells #[.int .i64 4, .int .i64 r2, .int .i64 r3, .int .i64 r4, .int .i64 r5, .int .i64 r6] 31) (.cells #[.int .i64 va, .int .i64 vn, .slice A n c, .int .i64 vc] 27))
  have R2 := Lib.hid (heap_alloc2_new w (.cells #[.int .i64 4, .int .i64 r2, .int .i64 r3, .int .i64 r4, .int .i64 r5, .int .i64 r6] 31) (.cells #[.int .i64 va, .int .i64 vn, .slice A n c, .int .i64 vc] 27))
  generalize ((w.alloc (.cells #[.int .i64 4, .int .i64 r2, .int .i64 r3, .int .i64 r4, .int .i64 r5, .int .i64 r6] 31)).alloc (.cells #[.int .i64 va, .int .i64 vn, .slice A n c, .int .i64 vc] 27)) = W0 at *
  have HB := Lib.hid hb
  clear hb
  have f1 := fun W (hC : Below W0.heap.size W0 W) => (row6 (row_to hC R1.out)).1
  refine wp_region_rel (by kernel_rfl) (by decide +kernel) (by rfl) ?_
  refine rel_op (Just fitsV) (lasts_just _) (by first | exact .inl rfl | exact .inr ⟨_, _, _, rfl, rfl, rfl⟩) ?_ ?_
  · intro ρ W hρ hC hk
    simp [known, looks, Op.operands, Call.operands, slotFact, Just, List.lookup] at hk
    obtain ⟨hρ1, hρ2, hρ3⟩ := hρ
    go_simp
    exact ⟨Below.refl _ _, fits_any _⟩
  repeat (first
    | (refine rel_skip ⟨_, _, _, _, rfl, rfl, rfl, ?_⟩ ?_
       focus (intro h; cases h; done))
    | refine rel_move _ (Just _) (.inl rfl) (by first | exact .inl rfl | exact .inr ⟨_, _, _, rfl, rfl, rfl⟩) rfl (lasts_just _) ?_
    | refine rel_move _ (Just _) (.inr rfl) (by first | exact .inl rfl | exact .inr ⟨_, _, _, rfl, rfl, rfl⟩) rfl (lasts_just _) ?_
    | refine rel_moveC _ (.inl rfl) (by first | exact .inl rfl | exact .inr ⟨_, _, _, rfl, rfl, rfl⟩) ?_
    | refine rel_moveC _ (.inr rfl) (by first | exact .inl rfl | exact .inr ⟨_, _, _, rfl, rfl, rfl⟩) ?_
    | refine rel_str _ _ rfl (by first | exact .inl rfl | exact .inr ⟨_, _, _, rfl, rfl, rfl⟩) rfl ?_
    | refine rel_lenB _ _ rfl (by first | exact .inl rfl | exact .inr ⟨_, _, _, rfl, rfl, rfl⟩) rfl ?_
    | refine rel_move _ (IsB _) (.inl rfl) (by first | exact .inl rfl | exact .inr ⟨_, _, _, rfl, rfl, rfl⟩) rfl (lasts_isB _) ?_
    | refine rel_move _ (IsB _) (.inr rfl) (by first | exact .inl rfl | exact .inr ⟨_, _, _, rfl, rfl, rfl⟩) rfl (lasts_isB _) ?_
    | (refine rel_exact ?_ (by first | exact .inl rfl | exact .inr ⟨_, _, _, rfl, rfl, rfl⟩) ?_ ?_
       rotate_left
       (intro ρ W hρ hC hk
        simp [known, looks, Op.operands, Call.operands, slotFact, Just, List.lookup] at hk
        obtain ⟨hρ1, hρ2, hρ3⟩ := hρ
        go_simp
        rfl)))
  refine rel_loadRow 2 w.heap.size 31 31 #[.int .i64 4, .int .i64 r2, .int .i64 r3, .int .i64 r4, .int .i64 r5, .int .i64 r6] (0, 0) _ rfl (by first | exact .inl rfl | exact .inr ⟨_, _, _, rfl, rfl, rfl⟩) rfl Try.underlying31 rfl ruleSize (fun W hC => row_to hC R1.out) ?_
  refine rel_loadRow 3 (w.heap.size + 1) 27 27 #[.int .i64 va, .int .i64 vn, .slice A n c, .int .i64 vc] (0, 0) _ rfl (by first | exact .inl rfl | exact .inr ⟨_, _, _, rfl, rfl, rfl⟩) rfl Try.underlying27 rfl viewSize (fun W hC => row_to hC R2.out) ?_
  refine rel_op (Just (.bool C)) (lasts_just _) (by first | exact .inl rfl | exact .inr ⟨_, _, _, rfl, rfl, rfl⟩) ?_ ?_
  · intro ρ W hρ hC hk
    simp [known, looks, Op.operands, Call.operands, slotFact, Just, List.lookup] at hk
    obtain ⟨hρ1, hρ2, hρ3⟩ := hρ
    go_simp
    have hx := fit4 4 r2 r3 r4 r5 r6 va vn vc A n c W
    rw [HC.out] at hx
    exact ⟨Below.refl _ _, hx⟩
  repeat (first
    | (refine rel_skip ⟨_, _, _, _, rfl, rfl, rfl, ?_⟩ ?_
       focus (intro h; cases h; done))
    | refine rel_move _ (Just _) (.inl rfl) (by first | exact .inl rfl | exact .inr ⟨_, _, _, rfl, rfl, rfl⟩) rfl (lasts_just _) ?_
    | refine rel_move _ (Just _) (.inr rfl) (by first | exact .inl rfl | exact .inr ⟨_, _, _, rfl, rfl, rfl⟩) rfl (lasts_just _) ?_
    | refine rel_moveC _ (.inl rfl) (by first | exact .inl rfl | exact .inr ⟨_, _, _, rfl, rfl, rfl⟩) ?_
    | refine rel_moveC _ (.inr rfl) (by first | exact .inl rfl | exact .inr ⟨_, _, _, rfl, rfl, rfl⟩) ?_
    | refine rel_str _ _ rfl (by first | exact .inl rfl | exact .inr ⟨_, _, _, rfl, rfl, rfl⟩) rfl ?_
    | refine rel_lenB _ _ rfl (by first | exact .inl rfl | exact .inr ⟨_, _, _, rfl, rfl, rfl⟩) rfl ?_
    | refine rel_move _ (IsB _) (.inl rfl) (by first | exact .inl rfl | exact .inr ⟨_, _, _, rfl, rfl, rfl⟩) rfl (lasts_isB _) ?_
    | refine rel_move _ (IsB _) (.inr rfl) (by first | exact .inl rfl | exact .inr ⟨_, _, _, rfl, rfl, rfl⟩) rfl (lasts_isB _) ?_
    | (refine rel_exact ?_ (by first | exact .inl rfl | exact .inr ⟨_, _, _, rfl, rfl, rfl⟩) ?_ ?_
       rotate_left
       (intro ρ W hρ hC hk
        simp [known, looks, Op.operands, Call.operands, slotFact, Just, List.lookup] at hk
        obtain ⟨hρ1, hρ2, hρ3⟩ := hρ
        go_simp
        rfl)))
  refine rel_nil ?_
  intro a W hC hd hsz ht
  refine fin_exit hsz hd ht (of_decide_eq_true (by kernel_rfl)) ?_
  repeat (first
    | refine fin_just ?_
    | (intro _ _))
  refine fin_nil ?_
  simp only [Act.put, Option.getD_some, List.setIfInBounds_toArray, List.set_cons_zero, List.set_cons_succ]
  clear hd hsz ht
  go_wp2
  go_ret
  exact ⟨_, rfl, by rw [HC.out]; rfl, bstep HB.out hC⟩
theorem fitsm_any (r : Rul) (v : Vw) (A : Option Addr) (n c : Nat) (w : World) (h : RdI w A n c v.as) : Calls Try.prog 11 #[.agg #[.int .i64 r.1, .int .i64 r.2.1, .int .i64 r.2.2.1, .int .i64 r.2.2.2.1, .int .i64 r.2.2.2.2.1, .int .i64 r.2.2.2.2.2], .agg #[.int .i64 v.a, .int .i64 v.n, .slice A n c, .int .i64 v.cl]] w (Ret (Just (.bool (fitsB r v))) w) := by
  obtain ⟨r1, r2, r3, r4, r5, r6⟩ := r
  obtain ⟨va, vn, us, vc⟩ := v
  rcases (show (r1 ≤ -1 ∨ 5 ≤ r1) ∨ r1 = 0 ∨ r1 = 1 ∨ r1 = 2 ∨ r1 = 3 ∨ r1 = 4 by omega) with h1 | rfl | rfl | rfl | rfl | rfl
  · rw [show fitsB (r1, r2, r3, r4, r5, r6) ⟨va, vn, us, vc⟩ = false by unfold fitsB; rw [if_neg (by omega), if_neg (by omega), if_neg (by omega), if_neg (by omega), if_neg (by omega)]]
    exact fit_no r1 r2 r3 r4 r5 r6 va vn vc A n c w h1
  · exact fit_at0 r2 r3 r4 r5 r6 va vn vc A n c us w h
  · exact fit_at1 r2 r3 r4 r5 r6 va vn vc A n c us w h
  · exact fit_at2 r2 r3 r4 r5 r6 va vn vc A n c us w h
  · exact fit_at3 r2 r3 r4 r5 r6 va vn vc A n c us w h
  · exact fit_at4 r2 r3 r4 r5 r6 va vn vc A n c us w h
theorem total_any (r : Rul) (cl : Int) (w : World) : Calls Try.prog 13 #[.agg #[.int .i64 r.1, .int .i64 r.2.1, .int .i64 r.2.2.1, .int .i64 r.2.2.2.1, .int .i64 r.2.2.2.2.1, .int .i64 r.2.2.2.2.2], .int .i64 cl] w (Ret (Just (.bool (totalB r cl))) w) := by
  obtain ⟨r1, r2, r3, r4, r5, r6⟩ := r
  obtain ⟨a, ha⟩ : ∃ a, (r1 == 0) = a := ⟨_, rfl⟩
  obtain ⟨b, hb⟩ : ∃ b, (r1 == 4) = b := ⟨_, rfl⟩
  obtain ⟨d, hd⟩ : ∃ d, (r4 == cl) = d := ⟨_, rfl⟩
  have HF := Lib.hid (show totalB (r1, r2, r3, r4, r5, r6) cl = (a || b && d) by unfold totalB; rw [ha, hb, hd])
  cases a <;> cases b <;> cases d
  all_goals
    go_enter Try.func13, Try.ntmps13
    go_wp2
    go_ret
    exact ⟨_, rfl, by rw [HF.out]; rfl, bnew w _⟩
end Go.Proofs.Ytmlhbmlppgoklab
