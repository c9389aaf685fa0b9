/- The walk of PolicyTotal: a rule that is total fits all. -/
import Derived.Test.YtmlhbmlppgoklabPol9
namespace Go.Proofs.Ytmlhbmlppgoklab
open Go.RowKit
set_option maxHeartbeats 4000000
set_option maxRecDepth 100000
set_option linter.unusedVariables false
set_option linter.unusedSimpArgs false

theorem totalB_class {r : Rul} (h : r.1 ≠ 4) (a b : Int) : totalB r a = totalB r b := by
  unfold totalB
  rw [beq_eq_false_iff_ne.2 h]
  rfl

theorem policyTotal_any (w : World) (r : Rul) (v : Vw) (A : Option Addr) (n c : Nat) (h : RdI w A n c v.as) (cl : Int) :
    Calls Try.prog 6 #[.agg (ruleA r), .agg #[.int .i64 v.a, .int .i64 v.n, .slice A n c, .int .i64 v.cl], .int .i64 cl] w fun e w' => e = .returned (.bool true) ∧ Below w.heap.size w w' := by
  obtain ⟨r1, r2, r3, r4, r5, r6⟩ := r
  obtain ⟨va, vn, us, vc⟩ := v
  unfold ruleA
  simp only at h ⊢
  have HR := Lib.hid h
  obtain ⟨T, hT⟩ : ∃ T, totalB (r1, r2, r3, r4, r5, r6) vc = T := ⟨_, rfl⟩
  obtain ⟨U, hU⟩ : ∃ U, totalB (r1, r2, r3, r4, r5, r6) cl = U := ⟨_, rfl⟩
  obtain ⟨F, hF⟩ : ∃ F, fitsB (r1, r2, r3, r4, r5, r6) ⟨va, vn, us, vc⟩ = F := ⟨_, rfl⟩
  obtain ⟨S1, hS1⟩ : ∃ S, saneR (r1, r2, r3, r4, r5, r6) true = S := ⟨_, rfl⟩
  obtain ⟨S2, hS2⟩ : ∃ S, saneR (r1, r2, r3, r4, r5, r6) false = S := ⟨_, rfl⟩
  obtain ⟨e4, he4⟩ : ∃ e, (r1 == 4) = e := ⟨_, rfl⟩
  obtain ⟨e5, he5⟩ : ∃ e, (r5 == 0) = e := ⟨_, rfl⟩
  have hTF : T = true → F = true := fun e => by rw [← hF]; exact totalB_fits (v := ⟨va, vn, us, vc⟩) (by rw [hT]; exact e)
  have hTU : e4 = false → T = U := fun e => by
    rw [← hT, ← hU]
    exact totalB_class (fun e2 => by rw [← he4] at e; simp at e2; subst e2; simp at e) _ _
  have hSS : S1 = true → S2 = true → e5 = true := fun a b => by
    have := saneR_both (r := (r1, r2, r3, r4, r5, r6)) (by rw [hS1]; exact a) (by rw [hS2]; exact b)
    rw [← he5]
    simpa using this
  have HT := Lib.hid hT
  have HU := Lib.hid hU
  have HF := Lib.hid hF
  have HS1 := Lib.hid hS1
  have HS2 := Lib.hid hS2
  clear h hT hU hF hS1 hS2
  by_cases hbig : 101 ≤ n
  · have i1 : decide ((100 : Int) < n) = true := decide_eq_true (by omega)
    clear hTF hTU hSS hbig
    go_enter Try.func6, Try.ntmps6
    go_wp2_with fail
    with_reducible refine (awake_any _).mono ?_
    rintro e w1 ⟨_, rfl, rfl, hb1⟩
    have hg2 := (hb1.block (w.heap.size + 1) (by simp)).trans (heap_alloc2_new w _ _)
    obtain ⟨q0, q1, q2, q3⟩ := row4 hg2
    clear hg2
    go_wp2
    go_ret
    exact ⟨rfl, bstep (balloc (bnew w _) _) hb1⟩
  · have i1 : decide ((100 : Int) < n) = false := decide_eq_false (by omega)
    go_enter Try.func6, Try.ntmps6
    go_wp2_with fail
    with_reducible refine (awake_any _).mono ?_
    rintro e w1 ⟨_, rfl, rfl, hb1⟩
    have hg1 := (hb1.block w.heap.size (by simp; omega)).trans (heap_alloc2_old w _ _)
    have hg2 := (hb1.block (w.heap.size + 1) (by simp)).trans (heap_alloc2_new w _ _)
    have R1 := Lib.hid hg1
    have R2 := Lib.hid hg2
    have HB1 := Lib.hid (bstep (balloc (bnew w _) _) hb1)
    obtain ⟨p0, p1, p2, p3, p4, p5⟩ := row6 hg1
    obtain ⟨q0, q1, q2, q3⟩ := row4 hg2
    clear hg1 hg2 hb1 hbig
    go_wp2_with fail
    have ht := total_any (r1, r2, r3, r4, r5, r6) vc w1
    rw [HT.out] at ht
    with_reducible refine (show Calls Try.prog 13 #[.agg #[.int .i64 r1, .int .i64 r2, .int .i64 r3, .int .i64 r4, .int .i64 r5, .int .i64 r6], .int .i64 vc] w1 (Ret (Just (.bool T)) w1) from ht).mono ?_
    clear ht
    rintro e w2 ⟨_, rfl, rfl, hb2⟩
    have R1a := Lib.hid (row_to hb2 R1.out)
    have R2a := Lib.hid (row_to hb2 R2.out)
    have HB2 := Lib.hid (bstep HB1.out hb2)
    clear hb2 p0 p1 p2 p3 p4 p5 q0 q1 q2 q3
    have hcl : (e4 = true ∨ (e4 = false ∧ T = U)) := by cases e4 <;> simp_all
    have hcs : (S1 = false ∨ (S1 = true ∧ S2 = false) ∨ (S1 = true ∧ S2 = true ∧ e5 = true)) := by cases S1 <;> cases S2 <;> simp_all
    have hct : (T = false ∨ (T = true ∧ F = true)) := by cases T <;> simp_all
    clear hTF hTU hSS
    obtain ⟨p0, p1, p2, p3, p4, p5⟩ := row6 R1a.out
    obtain ⟨q0, q1, q2, q3⟩ := row4 R2a.out
    rcases hct with rfl | ⟨rfl, rfl⟩
    · try
        (go_wp2_with fail
         have hf := fitsx (r1, r2, r3, r4, r5, r6) va vn vc us A n c w2 (HR.out.below HB2.out)
         rw [HF.out] at hf
         with_reducible refine (show Calls Try.prog 11 #[.agg #[.int .i64 r1, .int .i64 r2, .int .i64 r3, .int .i64 r4, .int .i64 r5, .int .i64 r6], .agg #[.int .i64 va, .int .i64 vn, .slice A n c, .int .i64 vc]] w2 (Ret (Just (.bool true)) w2) from hf).mono ?_
         clear hf
         rintro e w3 ⟨_, rfl, rfl, hb3⟩
         have R1b := Lib.hid (row_to hb3 R1a.out)
         have R2b := Lib.hid (row_to hb3 R2a.out)
         have HB3 := Lib.hid (bstep HB2.out hb3)
         clear hb3)
      clear p0 p1 p2 p3 p4 p5 q0 q1 q2 q3
      go_wp2_with fail
      have f0 := fun W (hC : Below w2.heap.size w2 W) => (row6 (row_to hC R1a.out)).1
      have f1 := fun W (hC : Below w2.heap.size w2 W) => (row6 (row_to hC R1a.out)).2.1
      have f2 := fun W (hC : Below w2.heap.size w2 W) => (row6 (row_to hC R1a.out)).2.2.1
      have f3 := fun W (hC : Below w2.heap.size w2 W) => (row6 (row_to hC R1a.out)).2.2.2.1
      have f4 := fun W (hC : Below w2.heap.size w2 W) => (row6 (row_to hC R1a.out)).2.2.2.2.1
      have f5 := fun W (hC : Below w2.heap.size w2 W) => (row6 (row_to hC R1a.out)).2.2.2.2.2
      have f6 := fun W (hC : Below w2.heap.size w2 W) => (row4 (row_to hC R2a.out)).2.2.2
      rcases hcl with rfl | ⟨rfl, rfl⟩ <;> rcases hcs with rfl | ⟨rfl, rfl⟩ | ⟨rfl, rfl, rfl⟩
      all_goals
        refine wp_region_rel (by kernel_rfl) (by decide +kernel) (by rfl) ?_
        repeat (first
          | (refine rel_skip ⟨_, _, _, _, rfl, rfl, rfl, ?_⟩ ?_
             focus (intro h; cases h; done))
          | refine rel_move _ (Just _) (.inl rfl) (by first | exact .inl rfl | exact .inr ⟨_, _, _, rfl, rfl, rfl⟩) rfl (lasts_just _) ?_
          | refine rel_move _ (Just _) (.inr rfl) (by first | exact .inl rfl | exact .inr ⟨_, _, _, rfl, rfl, rfl⟩) rfl (lasts_just _) ?_
          | refine rel_moveC _ (.inl rfl) (by first | exact .inl rfl | exact .inr ⟨_, _, _, rfl, rfl, rfl⟩) ?_
          | refine rel_moveC _ (.inr rfl) (by first | exact .inl rfl | exact .inr ⟨_, _, _, rfl, rfl, rfl⟩) ?_
          | refine rel_str _ _ rfl (by first | exact .inl rfl | exact .inr ⟨_, _, _, rfl, rfl, rfl⟩) rfl ?_
          | refine rel_lenB _ _ rfl (by first | exact .inl rfl | exact .inr ⟨_, _, _, rfl, rfl, rfl⟩) rfl ?_
          | refine rel_move _ (IsB _) (.inl rfl) (by first | exact .inl rfl | exact .inr ⟨_, _, _, rfl, rfl, rfl⟩) rfl (lasts_isB _) ?_
          | refine rel_move _ (IsB _) (.inr rfl) (by first | exact .inl rfl | exact .inr ⟨_, _, _, rfl, rfl, rfl⟩) rfl (lasts_isB _) ?_
          | (refine rel_exact ?_ (by first | exact .inl rfl | exact .inr ⟨_, _, _, rfl, rfl, rfl⟩) ?_ ?_
             rotate_left
             (intro ρ W hρ hC hk
              simp [known, looks, Op.operands, Call.operands, slotFact, Just, List.lookup] at hk
              obtain ⟨hρ1, hρ2, hρ3⟩ := hρ
              go_simp
              rfl)))
        try
          (refine rel_op (Just (.bool (totalB (r1, r2, r3, r4, r5, r6) vc))) (lasts_just _) (by first | exact .inl rfl | exact .inr ⟨_, _, _, rfl, rfl, rfl⟩) ?_ ?_
           · intro ρ W hρ hC hk
             simp [known, looks, Op.operands, Call.operands, slotFact, Just, List.lookup] at hk
             obtain ⟨hρ1, hρ2, hρ3⟩ := hρ
             go_simp
             exact ⟨Below.refl _ _, total_any (r1, r2, r3, r4, r5, r6) vc W⟩
           rw [HT.out]
           repeat (first
             | (refine rel_skip ⟨_, _, _, _, rfl, rfl, rfl, ?_⟩ ?_
                focus (intro h; cases h; done))
             | refine rel_move _ (Just _) (.inl rfl) (by first | exact .inl rfl | exact .inr ⟨_, _, _, rfl, rfl, rfl⟩) rfl (lasts_just _) ?_
             | refine rel_move _ (Just _) (.inr rfl) (by first | exact .inl rfl | exact .inr ⟨_, _, _, rfl, rfl, rfl⟩) rfl (lasts_just _) ?_
             | refine rel_moveC _ (.inl rfl) (by first | exact .inl rfl | exact .inr ⟨_, _, _, rfl, rfl, rfl⟩) ?_
             | refine rel_moveC _ (.inr rfl) (by first | exact .inl rfl | exact .inr ⟨_, _, _, rfl, rfl, rfl⟩) ?_
             | refine rel_str _ _ rfl (by first | exact .inl rfl | exact .inr ⟨_, _, _, rfl, rfl, rfl⟩) rfl ?_
             | refine rel_lenB _ _ rfl (by first | exact .inl rfl | exact .inr ⟨_, _, _, rfl, rfl, rfl⟩) rfl ?_
             | refine rel_move _ (IsB _) (.inl rfl) (by first | exact .inl rfl | exact .inr ⟨_, _, _, rfl, rfl, rfl⟩) rfl (lasts_isB _) ?_
             | refine rel_move _ (IsB _) (.inr rfl) (by first | exact .inl rfl | exact .inr ⟨_, _, _, rfl, rfl, rfl⟩) rfl (lasts_isB _) ?_
             | (refine rel_exact ?_ (by first | exact .inl rfl | exact .inr ⟨_, _, _, rfl, rfl, rfl⟩) ?_ ?_
                rotate_left
                (intro ρ W hρ hC hk
                 simp [known, looks, Op.operands, Call.operands, slotFact, Just, List.lookup] at hk
                 obtain ⟨hρ1, hρ2, hρ3⟩ := hρ
                 go_simp
                 rfl)))
           refine rel_op (Just (.bool (totalB (r1, r2, r3, r4, r5, r6) cl))) (lasts_just _) (by first | exact .inl rfl | exact .inr ⟨_, _, _, rfl, rfl, rfl⟩) ?_ ?_
           · intro ρ W hρ hC hk
             simp [known, looks, Op.operands, Call.operands, slotFact, Just, List.lookup] at hk
             obtain ⟨hρ1, hρ2, hρ3⟩ := hρ
             go_simp
             exact ⟨Below.refl _ _, total_any (r1, r2, r3, r4, r5, r6) cl W⟩
           rw [HU.out]
           repeat (first
             | (refine rel_skip ⟨_, _, _, _, rfl, rfl, rfl, ?_⟩ ?_
                focus (intro h; cases h; done))
             | refine rel_move _ (Just _) (.inl rfl) (by first | exact .inl rfl | exact .inr ⟨_, _, _, rfl, rfl, rfl⟩) rfl (lasts_just _) ?_
             | refine rel_move _ (Just _) (.inr rfl) (by first | exact .inl rfl | exact .inr ⟨_, _, _, rfl, rfl, rfl⟩) rfl (lasts_just _) ?_
             | refine rel_moveC _ (.inl rfl) (by first | exact .inl rfl | exact .inr ⟨_, _, _, rfl, rfl, rfl⟩) ?_
             | refine rel_moveC _ (.inr rfl) (by first | exact .inl rfl | exact .inr ⟨_, _, _, rfl, rfl, rfl⟩) ?_
             | refine rel_str _ _ rfl (by first | exact .inl rfl | exact .inr ⟨_, _, _, rfl, rfl, rfl⟩) rfl ?_
             | refine rel_lenB _ _ rfl (by first | exact .inl rfl | exact .inr ⟨_, _, _, rfl, rfl, rfl⟩) rfl ?_
             | refine rel_move _ (IsB _) (.inl rfl) (by first | exact .inl rfl | exact .inr ⟨_, _, _, rfl, rfl, rfl⟩) rfl (lasts_isB _) ?_
             | refine rel_move _ (IsB _) (.inr rfl) (by first | exact .inl rfl | exact .inr ⟨_, _, _, rfl, rfl, rfl⟩) rfl (lasts_isB _) ?_
             | (refine rel_exact ?_ (by first | exact .inl rfl | exact .inr ⟨_, _, _, rfl, rfl, rfl⟩) ?_ ?_
                rotate_left
                (intro ρ W hρ hC hk
                 simp [known, looks, Op.operands, Call.operands, slotFact, Just, List.lookup] at hk
                 obtain ⟨hρ1, hρ2, hρ3⟩ := hρ
                 go_simp
                 rfl)))
           skip)
        refine rel_op (Just (.bool (saneR (r1, r2, r3, r4, r5, r6) true))) (lasts_just _) (by first | exact .inl rfl | exact .inr ⟨_, _, _, rfl, rfl, rfl⟩) ?_ ?_
        · intro ρ W hρ hC hk
          simp [known, looks, Op.operands, Call.operands, slotFact, Just, List.lookup] at hk
          obtain ⟨hρ1, hρ2, hρ3⟩ := hρ
          go_simp
          exact ⟨Below.refl _ _, sane_any r1 r2 r3 r4 r5 r6 true W⟩
        rw [HS1.out]
        repeat (first
          | (refine rel_skip ⟨_, _, _, _, rfl, rfl, rfl, ?_⟩ ?_
             focus (intro h; cases h; done))
          | refine rel_move _ (Just _) (.inl rfl) (by first | exact .inl rfl | exact .inr ⟨_, _, _, rfl, rfl, rfl⟩) rfl (lasts_just _) ?_
          | refine rel_move _ (Just _) (.inr rfl) (by first | exact .inl rfl | exact .inr ⟨_, _, _, rfl, rfl, rfl⟩) rfl (lasts_just _) ?_
          | refine rel_moveC _ (.inl rfl) (by first | exact .inl rfl | exact .inr ⟨_, _, _, rfl, rfl, rfl⟩) ?_
          | refine rel_moveC _ (.inr rfl) (by first | exact .inl rfl | exact .inr ⟨_, _, _, rfl, rfl, rfl⟩) ?_
          | refine rel_str _ _ rfl (by first | exact .inl rfl | exact .inr ⟨_, _, _, rfl, rfl, rfl⟩) rfl ?_
          | refine rel_lenB _ _ rfl (by first | exact .inl rfl | exact .inr ⟨_, _, _, rfl, rfl, rfl⟩) rfl ?_
          | refine rel_move _ (IsB _) (.inl rfl) (by first | exact .inl rfl | exact .inr ⟨_, _, _, rfl, rfl, rfl⟩) rfl (lasts_isB _) ?_
          | refine rel_move _ (IsB _) (.inr rfl) (by first | exact .inl rfl | exact .inr ⟨_, _, _, rfl, rfl, rfl⟩) rfl (lasts_isB _) ?_
          | (refine rel_exact ?_ (by first | exact .inl rfl | exact .inr ⟨_, _, _, rfl, rfl, rfl⟩) ?_ ?_
             rotate_left
             (intro ρ W hρ hC hk
              simp [known, looks, Op.operands, Call.operands, slotFact, Just, List.lookup] at hk
              obtain ⟨hρ1, hρ2, hρ3⟩ := hρ
              go_simp
              rfl)))
        try
          (refine rel_op (Just (.bool (saneR (r1, r2, r3, r4, r5, r6) false))) (lasts_just _) (by first | exact .inl rfl | exact .inr ⟨_, _, _, rfl, rfl, rfl⟩) ?_ ?_
           · intro ρ W hρ hC hk
             simp [known, looks, Op.operands, Call.operands, slotFact, Just, List.lookup] at hk
             obtain ⟨hρ1, hρ2, hρ3⟩ := hρ
             go_simp
             exact ⟨Below.refl _ _, sane_any r1 r2 r3 r4 r5 r6 false W⟩
           rw [HS2.out]
           repeat (first
             | (refine rel_skip ⟨_, _, _, _, rfl, rfl, rfl, ?_⟩ ?_
                focus (intro h; cases h; done))
             | refine rel_move _ (Just _) (.inl rfl) (by first | exact .inl rfl | exact .inr ⟨_, _, _, rfl, rfl, rfl⟩) rfl (lasts_just _) ?_
             | refine rel_move _ (Just _) (.inr rfl) (by first | exact .inl rfl | exact .inr ⟨_, _, _, rfl, rfl, rfl⟩) rfl (lasts_just _) ?_
             | refine rel_moveC _ (.inl rfl) (by first | exact .inl rfl | exact .inr ⟨_, _, _, rfl, rfl, rfl⟩) ?_
             | refine rel_moveC _ (.inr rfl) (by first | exact .inl rfl | exact .inr ⟨_, _, _, rfl, rfl, rfl⟩) ?_
             | refine rel_str _ _ rfl (by first | exact .inl rfl | exact .inr ⟨_, _, _, rfl, rfl, rfl⟩) rfl ?_
             | refine rel_lenB _ _ rfl (by first | exact .inl rfl | exact .inr ⟨_, _, _, rfl, rfl, rfl⟩) rfl ?_
             | refine rel_move _ (IsB _) (.inl rfl) (by first | exact .inl rfl | exact .inr ⟨_, _, _, rfl, rfl, rfl⟩) rfl (lasts_isB _) ?_
             | refine rel_move _ (IsB _) (.inr rfl) (by first | exact .inl rfl | exact .inr ⟨_, _, _, rfl, rfl, rfl⟩) rfl (lasts_isB _) ?_
             | (refine rel_exact ?_ (by first | exact .inl rfl | exact .inr ⟨_, _, _, rfl, rfl, rfl⟩) ?_ ?_
                rotate_left
                (intro ρ W hρ hC hk
                 simp [known, looks, Op.operands, Call.operands, slotFact, Just, List.lookup] at hk
                 obtain ⟨hρ1, hρ2, hρ3⟩ := hρ
                 go_simp
                 rfl)))
           skip)
        refine rel_nil ?_
        intro a W hC hd hsz ht
        refine fin_exit hsz hd ht (of_decide_eq_true (by kernel_rfl)) ?_
        repeat (first
          | refine fin_just ?_
          | (intro _ _))
        refine fin_nil ?_
        simp only [Act.put, Option.getD_some, List.setIfInBounds_toArray, List.set_cons_zero, List.set_cons_succ]
        clear hd hsz ht
        go_wp2
        go_ret
        exact ⟨rfl, bstep HB2.out hC⟩
    · try
        (go_wp2_with fail
         have hf := fitsx (r1, r2, r3, r4, r5, r6) va vn vc us A n c w2 (HR.out.below HB2.out)
         rw [HF.out] at hf
         with_reducible refine (show Calls Try.prog 11 #[.agg #[.int .i64 r1, .int .i64 r2, .int .i64 r3, .int .i64 r4, .int .i64 r5, .int .i64 r6], .agg #[.int .i64 va, .int .i64 vn, .slice A n c, .int .i64 vc]] w2 (Ret (Just (.bool true)) w2) from hf).mono ?_
         clear hf
         rintro e w3 ⟨_, rfl, rfl, hb3⟩
         have R1b := Lib.hid (row_to hb3 R1a.out)
         have R2b := Lib.hid (row_to hb3 R2a.out)
         have HB3 := Lib.hid (bstep HB2.out hb3)
         clear hb3)
      clear p0 p1 p2 p3 p4 p5 q0 q1 q2 q3
      go_wp2_with fail
      have f0 := fun W (hC : Below w3.heap.size w3 W) => (row6 (row_to hC R1b.out)).1
      have f1 := fun W (hC : Below w3.heap.size w3 W) => (row6 (row_to hC R1b.out)).2.1
      have f2 := fun W (hC : Below w3.heap.size w3 W) => (row6 (row_to hC R1b.out)).2.2.1
      have f3 := fun W (hC : Below w3.heap.size w3 W) => (row6 (row_to hC R1b.out)).2.2.2.1
      have f4 := fun W (hC : Below w3.heap.size w3 W) => (row6 (row_to hC R1b.out)).2.2.2.2.1
      have f5 := fun W (hC : Below w3.heap.size w3 W) => (row6 (row_to hC R1b.out)).2.2.2.2.2
      have f6 := fun W (hC : Below w3.heap.size w3 W) => (row4 (row_to hC R2b.out)).2.2.2
      rcases hcl with rfl | ⟨rfl, rfl⟩ <;> rcases hcs with rfl | ⟨rfl, rfl⟩ | ⟨rfl, rfl, rfl⟩
      all_goals
        refine wp_region_rel (by kernel_rfl) (by decide +kernel) (by rfl) ?_
        repeat (first
          | (refine rel_skip ⟨_, _, _, _, rfl, rfl, rfl, ?_⟩ ?_
             focus (intro h; cases h; done))
          | refine rel_move _ (Just _) (.inl rfl) (by first | exact .inl rfl | exact .inr ⟨_, _, _, rfl, rfl, rfl⟩) rfl (lasts_just _) ?_
          | refine rel_move _ (Just _) (.inr rfl) (by first | exact .inl rfl | exact .inr ⟨_, _, _, rfl, rfl, rfl⟩) rfl (lasts_just _) ?_
          | refine rel_moveC _ (.inl rfl) (by first | exact .inl rfl | exact .inr ⟨_, _, _, rfl, rfl, rfl⟩) ?_
          | refine rel_moveC _ (.inr rfl) (by first | exact .inl rfl | exact .inr ⟨_, _, _, rfl, rfl, rfl⟩) ?_
          | refine rel_str _ _ rfl (by first | exact .inl rfl | exact .inr ⟨_, _, _, rfl, rfl, rfl⟩) rfl ?_
          | refine rel_lenB _ _ rfl (by first | exact .inl rfl | exact .inr ⟨_, _, _, rfl, rfl, rfl⟩) rfl ?_
          | refine rel_move _ (IsB _) (.inl rfl) (by first | exact .inl rfl | exact .inr ⟨_, _, _, rfl, rfl, rfl⟩) rfl (lasts_isB _) ?_
          | refine rel_move _ (IsB _) (.inr rfl) (by first | exact .inl rfl | exact .inr ⟨_, _, _, rfl, rfl, rfl⟩) rfl (lasts_isB _) ?_
          | (refine rel_exact ?_ (by first | exact .inl rfl | exact .inr ⟨_, _, _, rfl, rfl, rfl⟩) ?_ ?_
             rotate_left
             (intro ρ W hρ hC hk
              simp [known, looks, Op.operands, Call.operands, slotFact, Just, List.lookup] at hk
              obtain ⟨hρ1, hρ2, hρ3⟩ := hρ
              go_simp
              rfl)))
        try
          (refine rel_op (Just (.bool (totalB (r1, r2, r3, r4, r5, r6) vc))) (lasts_just _) (by first | exact .inl rfl | exact .inr ⟨_, _, _, rfl, rfl, rfl⟩) ?_ ?_
           · intro ρ W hρ hC hk
             simp [known, looks, Op.operands, Call.operands, slotFact, Just, List.lookup] at hk
             obtain ⟨hρ1, hρ2, hρ3⟩ := hρ
             go_simp
             exact ⟨Below.refl _ _, total_any (r1, r2, r3, r4, r5, r6) vc W⟩
           rw [HT.out]
           repeat (first
             | (refine rel_skip ⟨_, _, _, _, rfl, rfl, rfl, ?_⟩ ?_
                focus (intro h; cases h; done))
             | refine rel_move _ (Just _) (.inl rfl) (by first | exact .inl rfl | exact .inr ⟨_, _, _, rfl, rfl, rfl⟩) rfl (lasts_just _) ?_
             | refine rel_move _ (Just _) (.inr rfl) (by first | exact .inl rfl | exact .inr ⟨_, _, _, rfl, rfl, rfl⟩) rfl (lasts_just _) ?_
             | refine rel_moveC _ (.inl rfl) (by first | exact .inl rfl | exact .inr ⟨_, _, _, rfl, rfl, rfl⟩) ?_
             | refine rel_moveC _ (.inr rfl) (by first | exact .inl rfl | exact .inr ⟨_, _, _, rfl, rfl, rfl⟩) ?_
             | refine rel_str _ _ rfl (by first | exact .inl rfl | exact .inr ⟨_, _, _, rfl, rfl, rfl⟩) rfl ?_
             | refine rel_lenB _ _ rfl (by first | exact .inl rfl | exact .inr ⟨_, _, _, rfl, rfl, rfl⟩) rfl ?_
             | refine rel_move _ (IsB _) (.inl rfl) (by first | exact .inl rfl | exact .inr ⟨_, _, _, rfl, rfl, rfl⟩) rfl (lasts_isB _) ?_
             | refine rel_move _ (IsB _) (.inr rfl) (by first | exact .inl rfl | exact .inr ⟨_, _, _, rfl, rfl, rfl⟩) rfl (lasts_isB _) ?_
             | (refine rel_exact ?_ (by first | exact .inl rfl | exact .inr ⟨_, _, _, rfl, rfl, rfl⟩) ?_ ?_
                rotate_left
                (intro ρ W hρ hC hk
                 simp [known, looks, Op.operands, Call.operands, slotFact, Just, List.lookup] at hk
                 obtain ⟨hρ1, hρ2, hρ3⟩ := hρ
                 go_simp
                 rfl)))
           refine rel_op (Just (.bool (totalB (r1, r2, r3, r4, r5, r6) cl))) (lasts_just _) (by first | exact .inl rfl | exact .inr ⟨_, _, _, rfl, rfl, rfl⟩) ?_ ?_
           · intro ρ W hρ hC hk
             simp [known, looks, Op.operands, Call.operands, slotFact, Just, List.lookup] at hk
             obtain ⟨hρ1, hρ2, hρ3⟩ := hρ
             go_simp
             exact ⟨Below.refl _ _, total_any (r1, r2, r3, r4, r5, r6) cl W⟩
           rw [HU.out]
           repeat (first
             | (refine rel_skip ⟨_, _, _, _, rfl, rfl, rfl, ?_⟩ ?_
                focus (intro h; cases h; done))
             | refine rel_move _ (Just _) (.inl rfl) (by first | exact .inl rfl | exact .inr ⟨_, _, _, rfl, rfl, rfl⟩) rfl (lasts_just _) ?_
             | refine rel_move _ (Just _) (.inr rfl) (by first | exact .inl rfl | exact .inr ⟨_, _, _, rfl, rfl, rfl⟩) rfl (lasts_just _) ?_
             | refine rel_moveC _ (.inl rfl) (by first | exact .inl rfl | exact .inr ⟨_, _, _, rfl, rfl, rfl⟩) ?_
             | refine rel_moveC _ (.inr rfl) (by first | exact .inl rfl | exact .inr ⟨_, _, _, rfl, rfl, rfl⟩) ?_
             | refine rel_str _ _ rfl (by first | exact .inl rfl | exact .inr ⟨_, _, _, rfl, rfl, rfl⟩) rfl ?_
             | refine rel_lenB _ _ rfl (by first | exact .inl rfl | exact .inr ⟨_, _, _, rfl, rfl, rfl⟩) rfl ?_
             | refine rel_move _ (IsB _) (.inl rfl) (by first | exact .inl rfl | exact .inr ⟨_, _, _, rfl, rfl, rfl⟩) rfl (lasts_isB _) ?_
             | refine rel_move _ (IsB _) (.inr rfl) (by first | exact .inl rfl | exact .inr ⟨_, _, _, rfl, rfl, rfl⟩) rfl (lasts_isB _) ?_
             | (refine rel_exact ?_ (by first | exact .inl rfl | exact .inr ⟨_, _, _, rfl, rfl, rfl⟩) ?_ ?_
                rotate_left
                (intro ρ W hρ hC hk
                 simp [known, looks, Op.operands, Call.operands, slotFact, Just, List.lookup] at hk
                 obtain ⟨hρ1, hρ2, hρ3⟩ := hρ
                 go_simp
                 rfl)))
           skip)
        refine rel_op (Just (.bool (saneR (r1, r2, r3, r4, r5, r6) true))) (lasts_just _) (by first | exact .inl rfl | exact .inr ⟨_, _, _, rfl, rfl, rfl⟩) ?_ ?_
        · intro ρ W hρ hC hk
          simp [known, looks, Op.operands, Call.operands, slotFact, Just, List.lookup] at hk
          obtain ⟨hρ1, hρ2, hρ3⟩ := hρ
          go_simp
          exact ⟨Below.refl _ _, sane_any r1 r2 r3 r4 r5 r6 true W⟩
        rw [HS1.out]
        repeat (first
          | (refine rel_skip ⟨_, _, _, _, rfl, rfl, rfl, ?_⟩ ?_
             focus (intro h; cases h; done))
          | refine rel_move _ (Just _) (.inl rfl) (by first | exact .inl rfl | exact .inr ⟨_, _, _, rfl, rfl, rfl⟩) rfl (lasts_just _) ?_
          | refine rel_move _ (Just _) (.inr rfl) (by first | exact .inl rfl | exact .inr ⟨_, _, _, rfl, rfl, rfl⟩) rfl (lasts_just _) ?_
          | refine rel_moveC _ (.inl rfl) (by first | exact .inl rfl | exact .inr ⟨_, _, _, rfl, rfl, rfl⟩) ?_
          | refine rel_moveC _ (.inr rfl) (by first | exact .inl rfl | exact .inr ⟨_, _, _, rfl, rfl, rfl⟩) ?_
          | refine rel_str _ _ rfl (by first | exact .inl rfl | exact .inr ⟨_, _, _, rfl, rfl, rfl⟩) rfl ?_
          | refine rel_lenB _ _ rfl (by first | exact .inl rfl | exact .inr ⟨_, _, _, rfl, rfl, rfl⟩) rfl ?_
          | refine rel_move _ (IsB _) (.inl rfl) (by first | exact .inl rfl | exact .inr ⟨_, _, _, rfl, rfl, rfl⟩) rfl (lasts_isB _) ?_
          | refine rel_move _ (IsB _) (.inr rfl) (by first | exact .inl rfl | exact .inr ⟨_, _, _, rfl, rfl, rfl⟩) rfl (lasts_isB _) ?_
          | (refine rel_exact ?_ (by first | exact .inl rfl | exact .inr ⟨_, _, _, rfl, rfl, rfl⟩) ?_ ?_
             rotate_left
             (intro ρ W hρ hC hk
              simp [known, looks, Op.operands, Call.operands, slotFact, Just, List.lookup] at hk
              obtain ⟨hρ1, hρ2, hρ3⟩ := hρ
              go_simp
              rfl)))
        try
          (refine rel_op (Just (.bool (saneR (r1, r2, r3, r4, r5, r6) false))) (lasts_just _) (by first | exact .inl rfl | exact .inr ⟨_, _, _, rfl, rfl, rfl⟩) ?_ ?_
           · intro ρ W hρ hC hk
             simp [known, looks, Op.operands, Call.operands, slotFact, Just, List.lookup] at hk
             obtain ⟨hρ1, hρ2, hρ3⟩ := hρ
             go_simp
             exact ⟨Below.refl _ _, sane_any r1 r2 r3 r4 r5 r6 false W⟩
           rw [HS2.out]
           repeat (first
             | (refine rel_skip ⟨_, _, _, _, rfl, rfl, rfl, ?_⟩ ?_
                focus (intro h; cases h; done))
             | refine rel_move _ (Just _) (.inl rfl) (by first | exact .inl rfl | exact .inr ⟨_, _, _, rfl, rfl, rfl⟩) rfl (lasts_just _) ?_
             | refine rel_move _ (Just _) (.inr rfl) (by first | exact .inl rfl | exact .inr ⟨_, _, _, rfl, rfl, rfl⟩) rfl (lasts_just _) ?_
             | refine rel_moveC _ (.inl rfl) (by first | exact .inl rfl | exact .inr ⟨_, _, _, rfl, rfl, rfl⟩) ?_
             | refine rel_moveC _ (.inr rfl) (by first | exact .inl rfl | exact .inr ⟨_, _, _, rfl, rfl, rfl⟩) ?_
             | refine rel_str _ _ rfl (by first | exact .inl rfl | exact .inr ⟨_, _, _, rfl, rfl, rfl⟩) rfl ?_
             | refine rel_lenB _ _ rfl (by first | exact .inl rfl | exact .inr ⟨_, _, _, rfl, rfl, rfl⟩) rfl ?_
             | refine rel_move _ (IsB _) (.inl rfl) (by first | exact .inl rfl | exact .inr ⟨_, _, _, rfl, rfl, rfl⟩) rfl (lasts_isB _) ?_
             | refine rel_move _ (IsB _) (.inr rfl) (by first | exact .inl rfl | exact .inr ⟨_, _, _, rfl, rfl, rfl⟩) rfl (lasts_isB _) ?_
             | (refine rel_exact ?_ (by first | exact .inl rfl | exact .inr ⟨_, _, _, rfl, rfl, rfl⟩) ?_ ?_
                rotate_left
                (intro ρ W hρ hC hk
                 simp [known, looks, Op.operands, Call.operands, slotFact, Just, List.lookup] at hk
                 obtain ⟨hρ1, hρ2, hρ3⟩ := hρ
                 go_simp
                 rfl)))
           skip)
        refine rel_nil ?_
        intro a W hC hd hsz ht
        refine fin_exit hsz hd ht (of_decide_eq_true (by kernel_rfl)) ?_
        repeat (first
          | refine fin_just ?_
          | (intro _ _))
        refine fin_nil ?_
        simp only [Act.put, Option.getD_some, List.setIfInBounds_toArray, List.set_cons_zero, List.set_cons_succ]
        clear hd hsz ht
        go_wp2
        go_ret
        exact ⟨rfl, bstep HB3.out hC⟩
end Go.Proofs.Ytmlhbmlppgoklab
