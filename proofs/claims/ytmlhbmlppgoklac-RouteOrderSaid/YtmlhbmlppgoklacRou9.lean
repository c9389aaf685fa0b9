/- The walk of RouteOrder. -/
import Derived.Test.YtmlhbmlppgoklacRou8
namespace Go.Proofs.Ytmlhbmlppgoklac
open Go.RowKit
set_option maxHeartbeats 4000000
set_option maxRecDepth 100000
set_option linter.unusedVariables false
set_option linter.unusedSimpArgs false

theorem alloc3 (w : World) (a b c : Array Value) (t : TypeId) : Below w.heap.size w (((w.alloc (.cells a t)).alloc (.cells b t)).alloc (.cells c t)) ∧
    (((w.alloc (.cells a t)).alloc (.cells b t)).alloc (.cells c t)).heap[w.heap.size]? = some (.cells a t (0, 0)) ∧
    (((w.alloc (.cells a t)).alloc (.cells b t)).alloc (.cells c t)).heap[w.heap.size + 1]? = some (.cells b t (0, 0)) ∧
    (((w.alloc (.cells a t)).alloc (.cells b t)).alloc (.cells c t)).heap[w.heap.size + 1 + 1]? = some (.cells c t (0, 0)) := by
  refine ⟨balloc (balloc (bnew w _) _) _, row_to (bnew _ _) (heap_alloc2_old w _ _), row_to (bnew _ _) (heap_alloc2_new w _ _), ?_⟩
  have := heap_alloc_new ((w.alloc (.cells a t)).alloc (.cells b t)) (.cells c t)
  simpa using this
theorem order_cases (a b c : Rt) : compareR a b = 1 ∨ (compareR a b = 0 ∧ compareR b c = 1) ∨ (compareR a b = 0 ∧ compareR b c ≤ 0 ∧ compareR a c ≤ 0) ∨
    (compareR a b = -1 ∧ compareR b c = 1) ∨ (compareR a b = -1 ∧ compareR b c ≤ 0 ∧ compareR a c = -1) := by
  have r1 := compareR_ord.rng a b
  have r2 := compareR_ord.rng b c
  have r3 := compareR_ord.rng a c
  have t1 := compareR_ord.tr a b c
  have t2 := compareR_ord.trs a b c
  omega

theorem routeOrder_any (w : World) (x : Rv) (hx : RdI w x.A x.n x.c x.r.as) (y : Rv) (hy : RdI w y.A y.n y.c y.r.as) (z : Rv) (hz : RdI w z.A z.n z.c z.r.as) :
    Calls Try.prog 4 #[.agg #[.int .i64 x.r.pref, .int .i64 x.r.origin, .slice x.A x.n x.c, .int .i64 x.r.hop, .int .i64 x.r.otc, .int .i64 x.r.frm], .agg #[.int .i64 y.r.pref, .int .i64 y.r.origin, .slice y.A y.n y.c, .int .i64 y.r.hop, .int .i64 y.r.otc, .int .i64 y.r.frm], .agg #[.int .i64 z.r.pref, .int .i64 z.r.origin, .slice z.A z.n z.c, .int .i64 z.r.hop, .int .i64 z.r.otc, .int .i64 z.r.frm]] w fun e w' => e = .returned (.bool true) ∧ Below w.heap.size w w' := by
  obtain ⟨B, hB⟩ : ∃ B, fewB [x, y, z] = B := ⟨_, rfl⟩
  have HB := Lib.hid hB
  have HC := Lib.hid (order_cases x.r y.r z.r)
  have HX := Lib.hid hx
  have HY := Lib.hid hy
  have HZ := Lib.hid hz
  obtain ⟨C1, hC1⟩ : ∃ C, compareR x.r y.r = C := ⟨_, rfl⟩
  obtain ⟨C2, hC2⟩ : ∃ C, compareR y.r z.r = C := ⟨_, rfl⟩
  obtain ⟨C3, hC3⟩ : ∃ C, compareR x.r z.r = C := ⟨_, rfl⟩
  have HC1 := Lib.hid hC1
  have HC2 := Lib.hid hC2
  have HC3 := Lib.hid hC3
  have HR := Lib.hid (compareR_ord.rng x.r y.r)
  have HCB := Lib.hid (show compareR y.r x.r = -C1 by rw [← hC1]; exact compareR_ord.anti x.r y.r)
  rw [hC1] at HR
  rw [hC1, hC2, hC3] at HC
  clear hB hx hy hz hC1 hC2 hC3
  go_enter Try.func4, Try.ntmps4
  go_wp2_with fail
  with_reducible refine (awake_any _).mono ?_
  rintro e w1 ⟨_, rfl, rfl, hb1⟩
  obtain ⟨h0, h1, h2, h3⟩ := alloc3 w #[.int .i64 x.r.pref, .int .i64 x.r.origin, .slice x.A x.n x.c, .int .i64 x.r.hop, .int .i64 x.r.otc, .int .i64 x.r.frm] #[.int .i64 y.r.pref, .int .i64 y.r.origin, .slice y.A y.n y.c, .int .i64 y.r.hop, .int .i64 y.r.otc, .int .i64 y.r.frm] #[.int .i64 z.r.pref, .int .i64 z.r.origin, .slice z.A z.n z.c, .int .i64 z.r.hop, .int .i64 z.r.otc, .int .i64 z.r.frm] 27
  have HRX := Lib.hid (row_to hb1 h1)
  have HRY := Lib.hid (row_to hb1 h2)
  have HRZ := Lib.hid (row_to hb1 h3)
  have HB1 := Lib.hid (bstep h0 hb1)
  clear hb1 h0 h1 h2 h3
  obtain ⟨f0, f1, f2, f3, f4, f5⟩ := row6 HRX.out
  obtain ⟨g0, g1, g2, g3, g4, g5⟩ := row6 HRY.out
  obtain ⟨k0, k1, k2, k3, k4, k5⟩ := row6 HRZ.out
  go_wp2_with fail
  clear f0 f1 f2 f3 f4 f5 g0 g1 g2 g3 g4 g5 k0 k1 k2 k3 k4 k5
  have hf := few_any (some ⟨w1.heap.size, 0, none⟩) 3 3 [x, y, z] _ (lies_freshT w1 [x, y, z] #[.int .i64 x.r.pref, .int .i64 x.r.origin, .slice x.A x.n x.c, .int .i64 x.r.hop, .int .i64 x.r.otc, .int .i64 x.r.frm, .int .i64 y.r.pref, .int .i64 y.r.origin, .slice y.A y.n y.c, .int .i64 y.r.hop, .int .i64 y.r.otc, .int .i64 y.r.frm, .int .i64 z.r.pref, .int .i64 z.r.origin, .slice z.A z.n z.c, .int .i64 z.r.hop, .int .i64 z.r.otc, .int .i64 z.r.frm] 27 rfl (by simp [maxLen]) (by
    intro q hq
    simp only [List.mem_cons, List.not_mem_nil, or_false] at hq
    rcases hq with rfl | rfl | rfl
    · exact HX.out.below HB1.out
    · exact HY.out.below HB1.out
    · exact HZ.out.below HB1.out))
  rw [HB.out] at hf
  with_reducible refine hf.mono ?_
  clear hf
  rintro e w2 ⟨rfl, rfl⟩
  have HB2 := Lib.hid (bnew w1 (.cells #[.int .i64 x.r.pref, .int .i64 x.r.origin, .slice x.A x.n x.c, .int .i64 x.r.hop, .int .i64 x.r.otc, .int .i64 x.r.frm, .int .i64 y.r.pref, .int .i64 y.r.origin, .slice y.A y.n y.c, .int .i64 y.r.hop, .int .i64 y.r.otc, .int .i64 y.r.frm, .int .i64 z.r.pref, .int .i64 z.r.origin, .slice z.A z.n z.c, .int .i64 z.r.hop, .int .i64 z.r.otc, .int .i64 z.r.frm] 27))
  generalize w1.alloc (.cells #[.int .i64 x.r.pref, .int .i64 x.r.origin, .slice x.A x.n x.c, .int .i64 x.r.hop, .int .i64 x.r.otc, .int .i64 x.r.frm, .int .i64 y.r.pref, .int .i64 y.r.origin, .slice y.A y.n y.c, .int .i64 y.r.hop, .int .i64 y.r.otc, .int .i64 y.r.frm, .int .i64 z.r.pref, .int .i64 z.r.origin, .slice z.A z.n z.c, .int .i64 z.r.hop, .int .i64 z.r.otc, .int .i64 z.r.frm] 27) = w2 at *
  cases B
  · go_wp2
    go_ret
    exact ⟨rfl, bstep HB1.out HB2.out⟩
  · obtain ⟨f0, f1, f2, f3, f4, f5⟩ := row6 (row_to HB2.out HRX.out)
    obtain ⟨g0, g1, g2, g3, g4, g5⟩ := row6 (row_to HB2.out HRY.out)
    go_wp2_with fail
    clear f0 f1 f2 f3 f4 f5 g0 g1 g2 g3 g4 g5
    have hcmp := compare_any x.r y.r x.A x.n x.c y.A y.n y.c w2 (HX.out.below (bstep HB1.out HB2.out)) (HY.out.below (bstep HB1.out HB2.out))
    unfold routeA at hcmp
    rw [HC1.out] at hcmp
    with_reducible refine hcmp.mono ?_
    clear hcmp
    rintro e w3 ⟨_, rfl, rfl, hb3⟩
    have HB3 := Lib.hid (bstep HB2.out hb3)
    clear hb3
    obtain ⟨f0, f1, f2, f3, f4, f5⟩ := row6 (row_to HB3.out HRY.out)
    obtain ⟨g0, g1, g2, g3, g4, g5⟩ := row6 (row_to HB3.out HRZ.out)
    go_wp2_with fail
    clear f0 f1 f2 f3 f4 f5 g0 g1 g2 g3 g4 g5
    have hcmp := compare_any y.r z.r y.A y.n y.c z.A z.n z.c w3 (HY.out.below (bstep HB1.out HB3.out)) (HZ.out.below (bstep HB1.out HB3.out))
    unfold routeA at hcmp
    rw [HC2.out] at hcmp
    with_reducible refine hcmp.mono ?_
    clear hcmp
    rintro e w4 ⟨_, rfl, rfl, hb4⟩
    have HB4 := Lib.hid (bstep HB3.out hb4)
    clear hb4
    have f0 := fun W (hC : Below w4.heap.size w4 W) => (row6 (row_to (bstep HB4.out hC) HRX.out)).1
    have f1 := fun W (hC : Below w4.heap.size w4 W) => (row6 (row_to (bstep HB4.out hC) HRX.out)).2.1
    have f2 := fun W (hC : Below w4.heap.size w4 W) => (row6 (row_to (bstep HB4.out hC) HRX.out)).2.2.1
    have f3 := fun W (hC : Below w4.heap.size w4 W) => (row6 (row_to (bstep HB4.out hC) HRX.out)).2.2.2.1
    have f4 := fun W (hC : Below w4.heap.size w4 W) => (row6 (row_to (bstep HB4.out hC) HRX.out)).2.2.2.2.1
    have f5 := fun W (hC : Below w4.heap.size w4 W) => (row6 (row_to (bstep HB4.out hC) HRX.out)).2.2.2.2.2
    have g0 := fun W (hC : Below w4.heap.size w4 W) => (row6 (row_to (bstep HB4.out hC) HRY.out)).1
    have g1 := fun W (hC : Below w4.heap.size w4 W) => (row6 (row_to (bstep HB4.out hC) HRY.out)).2.1
    have g2 := fun W (hC : Below w4.heap.size w4 W) => (row6 (row_to (bstep HB4.out hC) HRY.out)).2.2.1
    have g3 := fun W (hC : Below w4.heap.size w4 W) => (row6 (row_to (bstep HB4.out hC) HRY.out)).2.2.2.1
    have g4 := fun W (hC : Below w4.heap.size w4 W) => (row6 (row_to (bstep HB4.out hC) HRY.out)).2.2.2.2.1
    have g5 := fun W (hC : Below w4.heap.size w4 W) => (row6 (row_to (bstep HB4.out hC) HRY.out)).2.2.2.2.2
    have i1 : decide (C1 < -1) = false := decide_eq_false (by have := HR.out; omega)
    have i2 : decide (1 < C1) = false := decide_eq_false (by have := HR.out; omega)
    obtain ⟨N, hN⟩ : ∃ N, -C1 = N := ⟨_, rfl⟩
    obtain ⟨E, hE⟩ : ∃ E, (C1 == 0) = E := ⟨_, rfl⟩
    have HN := Lib.hid hN
    have HE := Lib.hid hE
    have HNE := Lib.hid (show (N == 0) = E by rw [← hE, ← hN, Bool.eq_iff_iff, beq_iff_eq, beq_iff_eq]; omega)
    have hwn : IntKind.i64.wrap (-C1) = N := by rw [← hN]; rcases (show C1 = -1 ∨ C1 = 0 ∨ C1 = 1 by have := HR.out; omega) with h | h | h <;> rw [h] <;> decide
    clear hN
    go_wp2_with fail
    refine wp_region_rel (by kernel_rfl) (by decide +kernel) (by rfl) ?_
    repeat (first
      | (refine rel_skip ⟨_, _, _, _, rfl, rfl, rfl, ?_⟩ ?_
         focus (intro h; cases h; done))
      | refine rel_move _ (Just _) (.inl rfl) (by first | exact .inl rfl | exact .inr ⟨_, _, _, rfl, rfl, rfl⟩) rfl (lasts_just _) ?_
      | refine rel_move _ (Just _) (.inr rfl) (by first | exact .inl rfl | exact .inr ⟨_, _, _, rfl, rfl, rfl⟩) rfl (lasts_just _) ?_
      | refine rel_moveC _ (.inl rfl) (by first | exact .inl rfl | exact .inr ⟨_, _, _, rfl, rfl, rfl⟩) ?_
      | refine rel_moveC _ (.inr rfl) (by first | exact .inl rfl | exact .inr ⟨_, _, _, rfl, rfl, rfl⟩) ?_
      | refine rel_str _ _ rfl (by first | exact .inl rfl | exact .inr ⟨_, _, _, rfl, rfl, rfl⟩) rfl ?_
      | refine rel_lenB _ _ rfl (by first | exact .inl rfl | exact .inr ⟨_, _, _, rfl, rfl, rfl⟩) rfl ?_
      | refine rel_move _ (IsB _) (.inl rfl) (by first | exact .inl rfl | exact .inr ⟨_, _, _, rfl, rfl, rfl⟩) rfl (lasts_isB _) ?_
      | refine rel_move _ (IsB _) (.inr rfl) (by first | exact .inl rfl | exact .inr ⟨_, _, _, rfl, rfl, rfl⟩) rfl (lasts_isB _) ?_
      | (refine rel_exact ?_ (by first | exact .inl rfl | exact .inr ⟨_, _, _, rfl, rfl, rfl⟩) ?_ ?_
         rotate_left
         (intro ρ W hρ hC hk
          simp [known, looks, Op.operands, Call.operands, slotFact, Just, List.lookup] at hk
          obtain ⟨hρ1, hρ2, hρ3⟩ := hρ
          go_simp
          rfl)))
    refine rel_op (Just (.int .i64 N)) (lasts_just _) (by first | exact .inl rfl | exact .inr ⟨_, _, _, rfl, rfl, rfl⟩) ?_ ?_
    · intro ρ W hρ hC hk
      simp [known, looks, Op.operands, Call.operands, slotFact, Just, List.lookup] at hk
      obtain ⟨hρ1, hρ2, hρ3⟩ := hρ
      go_simp
      have hcmp := compare_any y.r x.r y.A y.n y.c x.A x.n x.c W (HY.out.below (bstep HB1.out (bstep HB4.out hC))) (HX.out.below (bstep HB1.out (bstep HB4.out hC)))
      rw [HCB.out, HN.out] at hcmp
      exact ⟨Below.refl _ _, hcmp⟩
    repeat (first
      | (refine rel_skip ⟨_, _, _, _, rfl, rfl, rfl, ?_⟩ ?_
         focus (intro h; cases h; done))
      | refine rel_move _ (Just _) (.inl rfl) (by first | exact .inl rfl | exact .inr ⟨_, _, _, rfl, rfl, rfl⟩) rfl (lasts_just _) ?_
      | refine rel_move _ (Just _) (.inr rfl) (by first | exact .inl rfl | exact .inr ⟨_, _, _, rfl, rfl, rfl⟩) rfl (lasts_just _) ?_
      | refine rel_moveC _ (.inl rfl) (by first | exact .inl rfl | exact .inr ⟨_, _, _, rfl, rfl, rfl⟩) ?_
      | refine rel_moveC _ (.inr rfl) (by first | exact .inl rfl | exact .inr ⟨_, _, _, rfl, rfl, rfl⟩) ?_
      | refine rel_str _ _ rfl (by first | exact .inl rfl | exact .inr ⟨_, _, _, rfl, rfl, rfl⟩) rfl ?_
      | refine rel_lenB _ _ rfl (by first | exact .inl rfl | exact .inr ⟨_, _, _, rfl, rfl, rfl⟩) rfl ?_
      | refine rel_move _ (IsB _) (.inl rfl) (by first | exact .inl rfl | exact .inr ⟨_, _, _, rfl, rfl, rfl⟩) rfl (lasts_isB _) ?_
      | refine rel_move _ (IsB _) (.inr rfl) (by first | exact .inl rfl | exact .inr ⟨_, _, _, rfl, rfl, rfl⟩) rfl (lasts_isB _) ?_
      | (refine rel_exact ?_ (by first | exact .inl rfl | exact .inr ⟨_, _, _, rfl, rfl, rfl⟩) ?_ ?_
         rotate_left
         (intro ρ W hρ hC hk
          simp [known, looks, Op.operands, Call.operands, slotFact, Just, List.lookup] at hk
          obtain ⟨hρ1, hρ2, hρ3⟩ := hρ
          go_simp
          rfl)))
    refine rel_op (Just (.bool E)) (lasts_just _) (by first | exact .inl rfl | exact .inr ⟨_, _, _, rfl, rfl, rfl⟩) ?_ ?_
    · intro ρ W hρ hC hk
      simp [known, looks, Op.operands, Call.operands, slotFact, Just, List.lookup] at hk
      obtain ⟨hρ1, hρ2, hρ3⟩ := hρ
      go_simp
      have hcmp := same_any x.r y.r x.A x.n x.c y.A y.n y.c W (HX.out.below (bstep HB1.out (bstep HB4.out hC))) (HY.out.below (bstep HB1.out (bstep HB4.out hC)))
      rw [HC1.out, HE.out] at hcmp
      exact ⟨Below.refl _ _, hcmp⟩
    repeat (first
      | (refine rel_skip ⟨_, _, _, _, rfl, rfl, rfl, ?_⟩ ?_
         focus (intro h; cases h; done))
      | refine rel_move _ (Just _) (.inl rfl) (by first | exact .inl rfl | exact .inr ⟨_, _, _, rfl, rfl, rfl⟩) rfl (lasts_just _) ?_
      | refine rel_move _ (Just _) (.inr rfl) (by first | exact .inl rfl | exact .inr ⟨_, _, _, rfl, rfl, rfl⟩) rfl (lasts_just _) ?_
      | refine rel_moveC _ (.inl rfl) (by first | exact .inl rfl | exact .inr ⟨_, _, _, rfl, rfl, rfl⟩) ?_
      | refine rel_moveC _ (.inr rfl) (by first | exact .inl rfl | exact .inr ⟨_, _, _, rfl, rfl, rfl⟩) ?_
      | refine rel_str _ _ rfl (by first | exact .inl rfl | exact .inr ⟨_, _, _, rfl, rfl, rfl⟩) rfl ?_
      | refine rel_lenB _ _ rfl (by first | exact .inl rfl | exact .inr ⟨_, _, _, rfl, rfl, rfl⟩) rfl ?_
      | refine rel_move _ (IsB _) (.inl rfl) (by first | exact .inl rfl | exact .inr ⟨_, _, _, rfl, rfl, rfl⟩) rfl (lasts_isB _) ?_
      | refine rel_move _ (IsB _) (.inr rfl) (by first | exact .inl rfl | exact .inr ⟨_, _, _, rfl, rfl, rfl⟩) rfl (lasts_isB _) ?_
      | (refine rel_exact ?_ (by first | exact .inl rfl | exact .inr ⟨_, _, _, rfl, rfl, rfl⟩) ?_ ?_
         rotate_left
         (intro ρ W hρ hC hk
          simp [known, looks, Op.operands, Call.operands, slotFact, Just, List.lookup] at hk
          obtain ⟨hρ1, hρ2, hρ3⟩ := hρ
          go_simp
          rfl)))
    refine rel_op (Just (.bool E)) (lasts_just _) (by first | exact .inl rfl | exact .inr ⟨_, _, _, rfl, rfl, rfl⟩) ?_ ?_
    · intro ρ W hρ hC hk
      simp [known, looks, Op.operands, Call.operands, slotFact, Just, List.lookup] at hk
      obtain ⟨hρ1, hρ2, hρ3⟩ := hρ
      go_simp
      have hcmp := same_any x.r y.r x.A x.n x.c y.A y.n y.c W (HX.out.below (bstep HB1.out (bstep HB4.out hC))) (HY.out.below (bstep HB1.out (bstep HB4.out hC)))
      rw [HC1.out, HE.out] at hcmp
      exact ⟨Below.refl _ _, hcmp⟩
    repeat (first
      | (refine rel_skip ⟨_, _, _, _, rfl, rfl, rfl, ?_⟩ ?_
         focus (intro h; cases h; done))
      | refine rel_move _ (Just _) (.inl rfl) (by first | exact .inl rfl | exact .inr ⟨_, _, _, rfl, rfl, rfl⟩) rfl (lasts_just _) ?_
      | refine rel_move _ (Just _) (.inr rfl) (by first | exact .inl rfl | exact .inr ⟨_, _, _, rfl, rfl, rfl⟩) rfl (lasts_just _) ?_
      | refine rel_moveC _ (.inl rfl) (by first | exact .inl rfl | exact .inr ⟨_, _, _, rfl, rfl, rfl⟩) ?_
      | refine rel_moveC _ (.inr rfl) (by first | exact .inl rfl | exact .inr ⟨_, _, _, rfl, rfl, rfl⟩) ?_
      | refine rel_str _ _ rfl (by first | exact .inl rfl | exact .inr ⟨_, _, _, rfl, rfl, rfl⟩) rfl ?_
      | refine rel_lenB _ _ rfl (by first | exact .inl rfl | exact .inr ⟨_, _, _, rfl, rfl, rfl⟩) rfl ?_
      | refine rel_move _ (IsB _) (.inl rfl) (by first | exact .inl rfl | exact .inr ⟨_, _, _, rfl, rfl, rfl⟩) rfl (lasts_isB _) ?_
      | refine rel_move _ (IsB _) (.inr rfl) (by first | exact .inl rfl | exact .inr ⟨_, _, _, rfl, rfl, rfl⟩) rfl (lasts_isB _) ?_
      | (refine rel_exact ?_ (by first | exact .inl rfl | exact .inr ⟨_, _, _, rfl, rfl, rfl⟩) ?_ ?_
         rotate_left
         (intro ρ W hρ hC hk
          simp [known, looks, Op.operands, Call.operands, slotFact, Just, List.lookup] at hk
          obtain ⟨hρ1, hρ2, hρ3⟩ := hρ
          go_simp
          rfl)))
    refine rel_op (Just (.bool E)) (lasts_just _) (by first | exact .inl rfl | exact .inr ⟨_, _, _, rfl, rfl, rfl⟩) ?_ ?_
    · intro ρ W hρ hC hk
      simp [known, looks, Op.operands, Call.operands, slotFact, Just, List.lookup] at hk
      obtain ⟨hρ1, hρ2, hρ3⟩ := hρ
      go_simp
      have hcmp := same_any y.r x.r y.A y.n y.c x.A x.n x.c W (HY.out.below (bstep HB1.out (bstep HB4.out hC))) (HX.out.below (bstep HB1.out (bstep HB4.out hC)))
      rw [HCB.out, HN.out, HNE.out] at hcmp
      exact ⟨Below.refl _ _, hcmp⟩
    repeat (first
      | (refine rel_skip ⟨_, _, _, _, rfl, rfl, rfl, ?_⟩ ?_
         focus (intro h; cases h; done))
      | refine rel_move _ (Just _) (.inl rfl) (by first | exact .inl rfl | exact .inr ⟨_, _, _, rfl, rfl, rfl⟩) rfl (lasts_just _) ?_
      | refine rel_move _ (Just _) (.inr rfl) (by first | exact .inl rfl | exact .inr ⟨_, _, _, rfl, rfl, rfl⟩) rfl (lasts_just _) ?_
      | refine rel_moveC _ (.inl rfl) (by first | exact .inl rfl | exact .inr ⟨_, _, _, rfl, rfl, rfl⟩) ?_
      | refine rel_moveC _ (.inr rfl) (by first | exact .inl rfl | exact .inr ⟨_, _, _, rfl, rfl, rfl⟩) ?_
      | refine rel_str _ _ rfl (by first | exact .inl rfl | exact .inr ⟨_, _, _, rfl, rfl, rfl⟩) rfl ?_
      | refine rel_lenB _ _ rfl (by first | exact .inl rfl | exact .inr ⟨_, _, _, rfl, rfl, rfl⟩) rfl ?_
      | refine rel_move _ (IsB _) (.inl rfl) (by first | exact .inl rfl | exact .inr ⟨_, _, _, rfl, rfl, rfl⟩) rfl (lasts_isB _) ?_
      | refine rel_move _ (IsB _) (.inr rfl) (by first | exact .inl rfl | exact .inr ⟨_, _, _, rfl, rfl, rfl⟩) rfl (lasts_isB _) ?_
      | (refine rel_exact ?_ (by first | exact .inl rfl | exact .inr ⟨_, _, _, rfl, rfl, rfl⟩) ?_ ?_
         rotate_left
         (intro ρ W hρ hC hk
          simp [known, looks, Op.operands, Call.operands, slotFact, Just, List.lookup] at hk
          obtain ⟨hρ1, hρ2, hρ3⟩ := hρ
          go_simp
          rfl)))
    refine rel_nil ?_
    intro a W hC hd hsz ht
    refine fin_exit hsz hd ht (of_decide_eq_true (by kernel_rfl)) ?_
    repeat (first
      | refine fin_just ?_
      | (intro _ _))
    refine fin_nil ?_
    simp only [Act.put, Option.getD_some, List.setIfInBounds_toArray, List.set_cons_zero, List.set_cons_succ]
    clear hd hsz ht
    clear f0 f1 f2 f3 f4 f5 g0 g1 g2 g3 g4 g5 i1 i2 hwn hE
    have HB5 := Lib.hid (bstep HB4.out hC)
    have HRZ5 := Lib.hid (row_to HB5.out HRZ.out)
    clear hC
    rcases HC.out with h | ⟨h, k⟩ | ⟨h, k, m⟩ | ⟨h, k⟩ | ⟨h, k, m⟩
    · subst h
      go_wp2
      go_ret
      exact ⟨rfl, bstep HB1.out HB5.out⟩
    · subst h k
      go_wp2
      go_ret
      exact ⟨rfl, bstep HB1.out HB5.out⟩
    · subst h
      have j1 : ¬ (0 < C2) := by omega
      have j2 : decide (0 < C2) = false := decide_eq_false j1
      have j3 : C3 ≤ 0 := m
      have j4 : decide (C3 ≤ 0) = true := decide_eq_true m
      clear k m
      obtain ⟨f0, f1, f2, f3, f4, f5⟩ := row6 (row_to HB5.out HRX.out)
      obtain ⟨g0, g1, g2, g3, g4, g5⟩ := row6 HRZ5.out
      go_wp2_with fail
      clear f0 f1 f2 f3 f4 f5 g0 g1 g2 g3 g4 g5
      have hcmp := compare_any x.r z.r x.A x.n x.c z.A z.n z.c W (HX.out.below (bstep HB1.out HB5.out)) (HZ.out.below (bstep HB1.out HB5.out))
      unfold routeA at hcmp
      rw [HC3.out] at hcmp
      with_reducible refine hcmp.mono ?_
      clear hcmp
      rintro e w6 ⟨_, rfl, rfl, hb6⟩
      go_wp2
      go_ret
      exact ⟨by first | rfl | (simp [j3]), bstep HB1.out (bstep HB5.out hb6)⟩
    · subst h k
      go_wp2
      go_ret
      exact ⟨rfl, bstep HB1.out HB5.out⟩
    · subst h m
      have j1 : ¬ (0 < C2) := by omega
      have j2 : decide (0 < C2) = false := decide_eq_false j1
      clear k
      obtain ⟨f0, f1, f2, f3, f4, f5⟩ := row6 (row_to HB5.out HRX.out)
      obtain ⟨g0, g1, g2, g3, g4, g5⟩ := row6 HRZ5.out
      go_wp2_with fail
      clear f0 f1 f2 f3 f4 f5 g0 g1 g2 g3 g4 g5
      have hcmp := compare_any x.r z.r x.A x.n x.c z.A z.n z.c W (HX.out.below (bstep HB1.out HB5.out)) (HZ.out.below (bstep HB1.out HB5.out))
      unfold routeA at hcmp
      rw [HC3.out] at hcmp
      with_reducible refine hcmp.mono ?_
      clear hcmp
      rintro e w6 ⟨_, rfl, rfl, hb6⟩
      have HB6 := Lib.hid (bstep HB5.out hb6)
      clear hb6
      obtain ⟨f0, f1, f2, f3, f4, f5⟩ := row6 (row_to HB6.out HRX.out)
      obtain ⟨g0, g1, g2, g3, g4, g5⟩ := row6 (row_to HB6.out HRZ.out)
      go_wp2_with fail
      clear f0 f1 f2 f3 f4 f5 g0 g1 g2 g3 g4 g5
      have hcmp := compare_any x.r z.r x.A x.n x.c z.A z.n z.c w6 (HX.out.below (bstep HB1.out HB6.out)) (HZ.out.below (bstep HB1.out HB6.out))
      unfold routeA at hcmp
      rw [HC3.out] at hcmp
      with_reducible refine hcmp.mono ?_
      clear hcmp
      rintro e w7 ⟨_, rfl, rfl, hb7⟩
      go_wp2
      go_ret
      exact ⟨rfl, bstep HB1.out (bstep HB6.out hb7)⟩
end Go.Proofs.Ytmlhbmlppgoklac
