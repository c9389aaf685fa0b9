/- The document's example of layer 10 holds. -/
import Derived.Test.YtmlhbmlppgoklabPol8
namespace Go.Proofs.Ytmlhbmlppgoklab
open Go.RowKit
set_option maxHeartbeats 4000000
set_option maxRecDepth 100000
set_option linter.unusedVariables false
set_option linter.unusedSimpArgs false

def ex1 : Rul := (4, 0, 0, 0, 1, 0)
def exL : List Rul := [(4, 0, 0, 0, 1, 0), (0, 0, 0, 0, 0, 0)]
theorem lies_exL (w : World) (e : TypeId) : Lies (w.alloc (.cells #[.int .i64 4, .int .i64 0, .int .i64 0, .int .i64 0, .int .i64 1, .int .i64 0, .int .i64 0, .int .i64 0, .int .i64 0, .int .i64 0, .int .i64 0, .int .i64 0] e)) (some ⟨w.heap.size, 0, none⟩) (rulesV exL) := by
  refine .inr ⟨_, _, rfl, fun j hj => ?_⟩
  rw [cell_of_row _ _ _ _ _ _ (heap_alloc_new w _)]
  match j, hj with
  | 0, _ | 1, _ | 2, _ | 3, _ | 4, _ | 5, _ | 6, _ | 7, _ | 8, _ | 9, _ | 10, _ | 11, _ => rfl
theorem reach_fresh (w : World) (A : Option Addr) (c : Nat) (r : Rul) (h : RdR w A 1 c [r]) : ∃ b o, A = some ⟨b, o, none⟩ ∧ b < w.heap.size ∧ w.cell? ⟨b, o + 3 + 1, none⟩ = some (.int .i64 r.2.2.2.2.1) ∧ w.cell? ⟨b, o + 4, none⟩ = some (.int .i64 r.2.2.2.2.1) := by
  obtain ⟨b, o, hA, hb, _, _, _, _, h4, _⟩ := h.at_ (j := 0) (by simp)
  exact ⟨b, o, hA, hb, by simpa using h4, by simpa using h4⟩

theorem awake_any (w : World) : Calls Try.prog 8 #[] w (Ret (Just (.bool true)) w) := by
  have p1 : reachL 0 exL = [(4, 0, 0, 0, 1, 0)] := by decide +kernel
  have p2 : reachL 1 exL = [(0, 0, 0, 0, 0, 0)] := by decide +kernel
  have p3 : pickL exL ⟨0, 0, [], 1⟩ = ((0, 0, 0, 0, 0, 0), true) := by decide +kernel
  have p4 : saneR (4, 0, 0, 0, 1, 0) false = true := by decide +kernel
  have p5 : fitsB (0, 0, 0, 0, 0, 0) ⟨0, 0, [], 0⟩ = true := by decide +kernel
  have p6 : totalB (0, 0, 0, 0, 0, 0) 2 = true := by decide +kernel
  have P4 := Lib.hid p4
  have P5 := Lib.hid p5
  have P6 := Lib.hid p6
  go_enter Try.func8, Try.ntmps8
  go_wp2_with fail
  have hL : RdR (w.alloc (.cells #[.int .i64 4, .int .i64 0, .int .i64 0, .int .i64 0, .int .i64 1, .int .i64 0, .int .i64 0, .int .i64 0, .int .i64 0, .int .i64 0, .int .i64 0, .int .i64 0] 31)) (some ⟨w.heap.size, 0, none⟩) 2 2 exL := ⟨rfl, Nat.le_refl _, by unfold maxLen; omega, lies_exL w _⟩
  have HB0 := Lib.hid (bnew w (.cells #[.int .i64 4, .int .i64 0, .int .i64 0, .int .i64 0, .int .i64 1, .int .i64 0, .int .i64 0, .int .i64 0, .int .i64 0, .int .i64 0, .int .i64 0, .int .i64 0] 31))
  have R0 := Lib.hid (heap_alloc_new w (.cells #[.int .i64 4, .int .i64 0, .int .i64 0, .int .i64 0, .int .i64 1, .int .i64 0, .int .i64 0, .int .i64 0, .int .i64 0, .int .i64 0, .int .i64 0, .int .i64 0] 31))
  generalize w.alloc (.cells #[.int .i64 4, .int .i64 0, .int .i64 0, .int .i64 0, .int .i64 1, .int .i64 0, .int .i64 0, .int .i64 0, .int .i64 0, .int .i64 0, .int .i64 0, .int .i64 0] 31) = W0 at *
  have HL := Lib.hid hL
  have hr1 := reach_any (some ⟨w.heap.size, 0, none⟩) 2 2 exL 0 W0 hL (by omega)
  rw [p1] at hr1
  clear hL
  with_reducible refine hr1.mono ?_
  clear hr1
  rintro e w1 ⟨_, rfl, ⟨A1, n1, c1, rfl, hq1⟩, hb1⟩
  obtain rfl : n1 = 1 := hq1.len.symm
  go_wp2_with fail
  have hr2 := reach_any (some ⟨w.heap.size, 0, none⟩) 2 2 exL 1 w1 (HL.out.below hb1) (by omega)
  rw [p2] at hr2
  with_reducible refine hr2.mono ?_
  clear hr2
  rintro e w2 ⟨_, rfl, ⟨A2, n2, c2, rfl, hq2⟩, hb2⟩
  obtain rfl : n2 = 1 := hq2.len.symm
  go_wp2_with fail
  have hpk := pick_any (some ⟨w.heap.size, 0, none⟩) 2 2 exL ⟨0, 0, [], 1⟩ none 0 0 w2 (HL.out.below (bstep hb1 hb2)) ⟨rfl, Nat.le_refl _, Nat.zero_le _, .inl rfl⟩
  rw [p3] at hpk
  with_reducible refine (show Calls Try.prog 15 #[.slice (some ⟨w.heap.size, 0, none⟩) 2 2, .agg #[.int .i64 0, .int .i64 0, .slice none 0 0, .int .i64 1]] w2 (Ret (Just (pickV ((0, 0, 0, 0, 0, 0), true))) w2) from hpk).mono ?_
  clear hpk
  rintro e w3 ⟨_, rfl, rfl, hb3⟩
  have HB3 := Lib.hid (bstep (bstep hb1 hb2) hb3)
  have HQ1 := Lib.hid (hq1.below (bstep hb2 hb3))
  have HQ2 := Lib.hid (hq2.below hb3)
  clear hb1 hb2 hb3 hq1 hq2
  unfold pickV ruleA
  go_wp2_with fail
  have R5 := Lib.hid (heap_alloc_new w3 (.cells #[.int .i64 0, .int .i64 0, .int .i64 0, .int .i64 0, .int .i64 0, .int .i64 0] 31))
  have HB5 := Lib.hid (bnew w3 (.cells #[.int .i64 0, .int .i64 0, .int .i64 0, .int .i64 0, .int .i64 0, .int .i64 0] 31))
  generalize w3.alloc (.cells #[.int .i64 0, .int .i64 0, .int .i64 0, .int .i64 0, .int .i64 0, .int .i64 0] 31) = W1 at *
  obtain ⟨b1, o1, rfl, hb1, _, k1⟩ := reach_fresh _ _ _ _ HQ1.out
  obtain ⟨b2, o2, rfl, hb2, _, k2⟩ := reach_fresh _ _ _ _ HQ2.out
  have f1 : ∀ W, Below W1.heap.size W1 W → W.cell? ⟨b1, o1 + 4, none⟩ = some (.int .i64 1) := fun W hC => ((bstep HB5.out hC).cell (p := ⟨b1, o1 + 4, none⟩) hb1).trans k1
  have f2 : ∀ W, Below W1.heap.size W1 W → W.cell? ⟨b2, o2 + 4, none⟩ = some (.int .i64 0) := fun W hC => ((bstep HB5.out hC).cell (p := ⟨b2, o2 + 4, none⟩) hb2).trans k2
  have f3 := fun W (hC : Below W1.heap.size W1 W) => (row6 (row_to hC R5.out)).1
  have f4 := fun W (hC : Below W1.heap.size W1 W) => (row6 (row_to hC R5.out)).2.1
  have f5 := fun W (hC : Below W1.heap.size W1 W) => (row6 (row_to hC R5.out)).2.2.1
  have f6 := fun W (hC : Below W1.heap.size W1 W) => (row6 (row_to hC R5.out)).2.2.2.1
  have f7 := fun W (hC : Below W1.heap.size W1 W) => (row6 (row_to hC R5.out)).2.2.2.2.1
  have f8 := fun W (hC : Below W1.heap.size W1 W) => (row6 (row_to hC R5.out)).2.2.2.2.2
  have g0 : ∀ W, Below W1.heap.size W1 W → W.cell? ⟨w.heap.size, 0, none⟩ = some (.int .i64 4) := fun W hC => by rw [cell_of_row _ _ _ _ _ _ (row_to (bstep HB3.out (bstep HB5.out hC)) R0.out)]; rfl
  have g1 : ∀ W, Below W1.heap.size W1 W → W.cell? ⟨w.heap.size, 1, none⟩ = some (.int .i64 0) := fun W hC => by rw [cell_of_row _ _ _ _ _ _ (row_to (bstep HB3.out (bstep HB5.out hC)) R0.out)]; rfl
  have g2 : ∀ W, Below W1.heap.size W1 W → W.cell? ⟨w.heap.size, 2, none⟩ = some (.int .i64 0) := fun W hC => by rw [cell_of_row _ _ _ _ _ _ (row_to (bstep HB3.out (bstep HB5.out hC)) R0.out)]; rfl
  have g3 : ∀ W, Below W1.heap.size W1 W → W.cell? ⟨w.heap.size, 3, none⟩ = some (.int .i64 0) := fun W hC => by rw [cell_of_row _ _ _ _ _ _ (row_to (bstep HB3.out (bstep HB5.out hC)) R0.out)]; rfl
  have g4 : ∀ W, Below W1.heap.size W1 W → W.cell? ⟨w.heap.size, 4, none⟩ = some (.int .i64 1) := fun W hC => by rw [cell_of_row _ _ _ _ _ _ (row_to (bstep HB3.out (bstep HB5.out hC)) R0.out)]; rfl
  have g5 : ∀ W, Below W1.heap.size W1 W → W.cell? ⟨w.heap.size, 5, none⟩ = some (.int .i64 0) := fun W hC => by rw [cell_of_row _ _ _ _ _ _ (row_to (bstep HB3.out (bstep HB5.out hC)) R0.out)]; rfl
  have g6 : ∀ W, Below W1.heap.size W1 W → W.cell? ⟨w.heap.size, 6, none⟩ = some (.int .i64 0) := fun W hC => by rw [cell_of_row _ _ _ _ _ _ (row_to (bstep HB3.out (bstep HB5.out hC)) R0.out)]; rfl
  have g7 : ∀ W, Below W1.heap.size W1 W → W.cell? ⟨w.heap.size, 7, none⟩ = some (.int .i64 0) := fun W hC => by rw [cell_of_row _ _ _ _ _ _ (row_to (bstep HB3.out (bstep HB5.out hC)) R0.out)]; rfl
  have g8 : ∀ W, Below W1.heap.size W1 W → W.cell? ⟨w.heap.size, 8, none⟩ = some (.int .i64 0) := fun W hC => by rw [cell_of_row _ _ _ _ _ _ (row_to (bstep HB3.out (bstep HB5.out hC)) R0.out)]; rfl
  have g9 : ∀ W, Below W1.heap.size W1 W → W.cell? ⟨w.heap.size, 9, none⟩ = some (.int .i64 0) := fun W hC => by rw [cell_of_row _ _ _ _ _ _ (row_to (bstep HB3.out (bstep HB5.out hC)) R0.out)]; rfl
  have g10 : ∀ W, Below W1.heap.size W1 W → W.cell? ⟨w.heap.size, 10, none⟩ = some (.int .i64 0) := fun W hC => by rw [cell_of_row _ _ _ _ _ _ (row_to (bstep HB3.out (bstep HB5.out hC)) R0.out)]; rfl
  have g11 : ∀ W, Below W1.heap.size W1 W → W.cell? ⟨w.heap.size, 11, none⟩ = some (.int .i64 0) := fun W hC => by rw [cell_of_row _ _ _ _ _ _ (row_to (bstep HB3.out (bstep HB5.out hC)) R0.out)]; rfl
  clear k1 k2
  refine wp_region_rel (by kernel_rfl) (by decide +kernel) (by rfl) ?_
  repeat (first
    | (refine rel_skip ⟨_, _, _, _, rfl, rfl, rfl, ?_⟩ ?_
       focus (intro h; cases h; done))
    | refine rel_move _ (Just _) (.inl rfl) (by first | exact .inl rfl | exact .inr ⟨_, _, _, rfl, rfl, rfl⟩) rfl (lasts_just _) ?_
    | refine rel_move _ (Just _) (.inr rfl) (by first | exact .inl rfl | exact .inr ⟨_, _, _, rfl, rfl, rfl⟩) rfl (lasts_just _) ?_
    | refine rel_moveC _ (.inl rfl) (by first | exact .inl rfl | exact .inr ⟨_, _, _, rfl, rfl, rfl⟩) ?_
    | refine rel_moveC _ (.inr rfl) (by first | exact .inl rfl | exact .inr ⟨_, _, _, rfl, rfl, rfl⟩) ?_
    | refine rel_str _ _ rfl (by first | exact .inl rfl | exact .inr ⟨_, _, _, rfl, rfl, rfl⟩) rfl ?_
    | refine rel_lenB _ _ rfl (by first | exact .inl rfl | exact .inr ⟨_, _, _, rfl, rfl, rfl⟩) rfl ?_
    | refine rel_move _ (IsB _) (.inl rfl) (by first | exact .inl rfl | exact .inr ⟨_, _, _, rfl, rfl, rfl⟩) rfl (lasts_isB _) ?_
    | refine rel_move _ (IsB _) (.inr rfl) (by first | exact .inl rfl | exact .inr ⟨_, _, _, rfl, rfl, rfl⟩) rfl (lasts_isB _) ?_
    | (refine rel_exact ?_ (by first | exact .inl rfl | exact .inr ⟨_, _, _, rfl, rfl, rfl⟩) ?_ ?_
       rotate_left
       (intro ρ W hρ hC hk
        simp [known, looks, Op.operands, Call.operands, slotFact, Just, List.lookup] at hk
        obtain ⟨hρ1, hρ2, hρ3⟩ := hρ
        go_simp
        rfl)))
  refine rel_op (Just (.bool true)) (lasts_just _) (by first | exact .inl rfl | exact .inr ⟨_, _, _, rfl, rfl, rfl⟩) ?_ ?_
  · intro ρ W hρ hC hk
    simp [known, looks, Op.operands, Call.operands, slotFact, Just, List.lookup] at hk
    obtain ⟨hρ1, hρ2, hρ3⟩ := hρ
    go_simp
    have hx := sane_any 4 0 0 0 1 0 false W
    rw [P4.out] at hx
    exact ⟨Below.refl _ _, hx⟩
  repeat (first
    | (refine rel_skip ⟨_, _, _, _, rfl, rfl, rfl, ?_⟩ ?_
       focus (intro h; cases h; done))
    | refine rel_move _ (Just _) (.inl rfl) (by first | exact .inl rfl | exact .inr ⟨_, _, _, rfl, rfl, rfl⟩) rfl (lasts_just _) ?_
    | refine rel_move _ (Just _) (.inr rfl) (by first | exact .inl rfl | exact .inr ⟨_, _, _, rfl, rfl, rfl⟩) rfl (lasts_just _) ?_
    | refine rel_moveC _ (.inl rfl) (by first | exact .inl rfl | exact .inr ⟨_, _, _, rfl, rfl, rfl⟩) ?_
    | refine rel_moveC _ (.inr rfl) (by first | exact .inl rfl | exact .inr ⟨_, _, _, rfl, rfl, rfl⟩) ?_
    | refine rel_str _ _ rfl (by first | exact .inl rfl | exact .inr ⟨_, _, _, rfl, rfl, rfl⟩) rfl ?_
    | refine rel_lenB _ _ rfl (by first | exact .inl rfl | exact .inr ⟨_, _, _, rfl, rfl, rfl⟩) rfl ?_
    | refine rel_move _ (IsB _) (.inl rfl) (by first | exact .inl rfl | exact .inr ⟨_, _, _, rfl, rfl, rfl⟩) rfl (lasts_isB _) ?_
    | refine rel_move _ (IsB _) (.inr rfl) (by first | exact .inl rfl | exact .inr ⟨_, _, _, rfl, rfl, rfl⟩) rfl (lasts_isB _) ?_
    | (refine rel_exact ?_ (by first | exact .inl rfl | exact .inr ⟨_, _, _, rfl, rfl, rfl⟩) ?_ ?_
       rotate_left
       (intro ρ W hρ hC hk
        simp [known, looks, Op.operands, Call.operands, slotFact, Just, List.lookup] at hk
        obtain ⟨hρ1, hρ2, hρ3⟩ := hρ
        go_simp
        rfl)))
  refine rel_op (Just (.bool true)) (lasts_just _) (by first | exact .inl rfl | exact .inr ⟨_, _, _, rfl, rfl, rfl⟩) ?_ ?_
  · intro ρ W hρ hC hk
    simp [known, looks, Op.operands, Call.operands, slotFact, Just, List.lookup] at hk
    obtain ⟨hρ1, hρ2, hρ3⟩ := hρ
    go_simp
    have hx := fitsx (0, 0, 0, 0, 0, 0) 0 0 0 [] none 0 0 W ⟨rfl, Nat.le_refl _, Nat.zero_le _, .inl rfl⟩
    rw [P5.out] at hx
    exact ⟨Below.refl _ _, hx⟩
  repeat (first
    | (refine rel_skip ⟨_, _, _, _, rfl, rfl, rfl, ?_⟩ ?_
       focus (intro h; cases h; done))
    | refine rel_move _ (Just _) (.inl rfl) (by first | exact .inl rfl | exact .inr ⟨_, _, _, rfl, rfl, rfl⟩) rfl (lasts_just _) ?_
    | refine rel_move _ (Just _) (.inr rfl) (by first | exact .inl rfl | exact .inr ⟨_, _, _, rfl, rfl, rfl⟩) rfl (lasts_just _) ?_
    | refine rel_moveC _ (.inl rfl) (by first | exact .inl rfl | exact .inr ⟨_, _, _, rfl, rfl, rfl⟩) ?_
    | refine rel_moveC _ (.inr rfl) (by first | exact .inl rfl | exact .inr ⟨_, _, _, rfl, rfl, rfl⟩) ?_
    | refine rel_str _ _ rfl (by first | exact .inl rfl | exact .inr ⟨_, _, _, rfl, rfl, rfl⟩) rfl ?_
    | refine rel_lenB _ _ rfl (by first | exact .inl rfl | exact .inr ⟨_, _, _, rfl, rfl, rfl⟩) rfl ?_
    | refine rel_move _ (IsB _) (.inl rfl) (by first | exact .inl rfl | exact .inr ⟨_, _, _, rfl, rfl, rfl⟩) rfl (lasts_isB _) ?_
    | refine rel_move _ (IsB _) (.inr rfl) (by first | exact .inl rfl | exact .inr ⟨_, _, _, rfl, rfl, rfl⟩) rfl (lasts_isB _) ?_
    | (refine rel_exact ?_ (by first | exact .inl rfl | exact .inr ⟨_, _, _, rfl, rfl, rfl⟩) ?_ ?_
       rotate_left
       (intro ρ W hρ hC hk
        simp [known, looks, Op.operands, Call.operands, slotFact, Just, List.lookup] at hk
        obtain ⟨hρ1, hρ2, hρ3⟩ := hρ
        go_simp
        rfl)))
  refine rel_op (Just (.bool true)) (lasts_just _) (by first | exact .inl rfl | exact .inr ⟨_, _, _, rfl, rfl, rfl⟩) ?_ ?_
  · intro ρ W hρ hC hk
    simp [known, looks, Op.operands, Call.operands, slotFact, Just, List.lookup] at hk
    obtain ⟨hρ1, hρ2, hρ3⟩ := hρ
    go_simp
    have hx := total_any (0, 0, 0, 0, 0, 0) 2 W
    rw [P6.out] at hx
    exact ⟨Below.refl _ _, hx⟩
  repeat (first
    | (refine rel_skip ⟨_, _, _, _, rfl, rfl, rfl, ?_⟩ ?_
       focus (intro h; cases h; done))
    | refine rel_move _ (Just _) (.inl rfl) (by first | exact .inl rfl | exact .inr ⟨_, _, _, rfl, rfl, rfl⟩) rfl (lasts_just _) ?_
    | refine rel_move _ (Just _) (.inr rfl) (by first | exact .inl rfl | exact .inr ⟨_, _, _, rfl, rfl, rfl⟩) rfl (lasts_just _) ?_
    | refine rel_moveC _ (.inl rfl) (by first | exact .inl rfl | exact .inr ⟨_, _, _, rfl, rfl, rfl⟩) ?_
    | refine rel_moveC _ (.inr rfl) (by first | exact .inl rfl | exact .inr ⟨_, _, _, rfl, rfl, rfl⟩) ?_
    | refine rel_str _ _ rfl (by first | exact .inl rfl | exact .inr ⟨_, _, _, rfl, rfl, rfl⟩) rfl ?_
    | refine rel_lenB _ _ rfl (by first | exact .inl rfl | exact .inr ⟨_, _, _, rfl, rfl, rfl⟩) rfl ?_
    | refine rel_move _ (IsB _) (.inl rfl) (by first | exact .inl rfl | exact .inr ⟨_, _, _, rfl, rfl, rfl⟩) rfl (lasts_isB _) ?_
    | refine rel_move _ (IsB _) (.inr rfl) (by first | exact .inl rfl | exact .inr ⟨_, _, _, rfl, rfl, rfl⟩) rfl (lasts_isB _) ?_
    | (refine rel_exact ?_ (by first | exact .inl rfl | exact .inr ⟨_, _, _, rfl, rfl, rfl⟩) ?_ ?_
       rotate_left
       (intro ρ W hρ hC hk
        simp [known, looks, Op.operands, Call.operands, slotFact, Just, List.lookup] at hk
        obtain ⟨hρ1, hρ2, hρ3⟩ := hρ
        go_simp
        rfl)))
  refine rel_nil ?_
  intro a W hC hd hsz ht
  refine fin_exit hsz hd ht (of_decide_eq_true (by kernel_rfl)) ?_
  repeat (first
    | refine fin_just ?_
    | (intro _ _))
  refine fin_nil ?_
  simp only [Act.put, Option.getD_some, List.setIfInBounds_toArray, List.set_cons_zero, List.set_cons_succ]
  clear hd hsz ht
  go_wp2
  go_ret
  exact ⟨_, rfl, rfl, bstep HB0.out (bstep HB3.out (bstep HB5.out hC))⟩
end Go.Proofs.Ytmlhbmlppgoklab
