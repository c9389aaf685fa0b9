/- The walk of RouteFirst. -/
import Derived.Test.YtmlhbmlppgoklacRou7
namespace Go.Proofs.Ytmlhbmlppgoklac
open Go.RowKit
set_option maxHeartbeats 4000000
set_option maxRecDepth 100000
set_option linter.unusedVariables false
set_option linter.unusedSimpArgs false

theorem cmpI_lt {a b : Int} (h : a < b) : cmpI a b = -1 := by unfold cmpI; rw [if_pos h]
theorem cmpI_gt {a b : Int} (h : b < a) : cmpI a b = 1 := by unfold cmpI; rw [if_neg (by omega), if_pos h]
theorem cmpI_eq {a b : Int} (h : a = b) : cmpI a b = 0 := by unfold cmpI; rw [if_neg (by omega), if_neg (by omega)]
theorem thenC_l {α : Type} {c d : α → α → Int} {a b : α} {k : Int} (h : c a b = k) (hk : k ≠ 0) : thenC c d a b = k := by unfold thenC; rw [h, if_pos hk]
theorem thenC_r {α : Type} {c d : α → α → Int} {a b : α} (h : c a b = 0) : thenC c d a b = d a b := by unfold thenC; rw [h, if_neg (by decide)]
theorem first_cases (a b : Rt) : (b.pref < a.pref ∧ compareR a b = -1) ∨ (a.pref < b.pref ∧ compareR a b = 1) ∨
    (a.pref = b.pref ∧ a.as.length < b.as.length ∧ compareR a b = -1) ∨ (a.pref = b.pref ∧ b.as.length < a.as.length ∧ compareR a b = 1) ∨
    (a.pref = b.pref ∧ a.as.length = b.as.length ∧ a.origin < b.origin ∧ compareR a b = -1) ∨ (a.pref = b.pref ∧ a.as.length = b.as.length ∧ b.origin < a.origin ∧ compareR a b = 1) ∨
    (a.pref = b.pref ∧ a.as.length = b.as.length ∧ a.origin = b.origin) := by
  have s1 : a.pref = b.pref → compareR a b = thenC (fun a b : Rt => cmpI a.as.length b.as.length) (thenC (fun a b => cmpI a.origin b.origin) (thenC (fun a b => cmpL a.as b.as) (thenC (fun a b => cmpI a.hop b.hop) (thenC (fun a b => cmpI a.otc b.otc) (fun a b => cmpI a.frm b.frm))))) a b := fun h => thenC_r (c := fun a b : Rt => cmpI b.pref a.pref) (cmpI_eq h.symm)
  have s2 : a.pref = b.pref → a.as.length = b.as.length → compareR a b = thenC (fun a b : Rt => cmpI a.origin b.origin) (thenC (fun a b => cmpL a.as b.as) (thenC (fun a b => cmpI a.hop b.hop) (thenC (fun a b => cmpI a.otc b.otc) (fun a b => cmpI a.frm b.frm)))) a b := fun h g => (s1 h).trans (thenC_r (c := fun a b : Rt => cmpI a.as.length b.as.length) (cmpI_eq (by omega)))
  rcases Int.lt_trichotomy a.pref b.pref with h | h | h
  · exact .inr (.inl ⟨h, thenC_l (c := fun a b : Rt => cmpI b.pref a.pref) (cmpI_gt h) (by decide)⟩)
  · rcases Nat.lt_trichotomy a.as.length b.as.length with g | g | g
    · exact .inr (.inr (.inl ⟨h, g, (s1 h).trans (thenC_l (c := fun a b : Rt => cmpI a.as.length b.as.length) (cmpI_lt (by omega)) (by decide))⟩))
    · rcases Int.lt_trichotomy a.origin b.origin with k | k | k
      · exact .inr (.inr (.inr (.inr (.inl ⟨h, g, k, (s2 h g).trans (thenC_l (c := fun a b : Rt => cmpI a.origin b.origin) (cmpI_lt k) (by decide))⟩))))
      · exact .inr (.inr (.inr (.inr (.inr (.inr ⟨h, g, k⟩)))))
      · exact .inr (.inr (.inr (.inr (.inr (.inl ⟨h, g, k, (s2 h g).trans (thenC_l (c := fun a b : Rt => cmpI a.origin b.origin) (cmpI_gt k) (by decide))⟩)))))
    · exact .inr (.inr (.inr (.inl ⟨h, g, (s1 h).trans (thenC_l (c := fun a b : Rt => cmpI a.as.length b.as.length) (cmpI_gt (by omega)) (by decide))⟩)))
  · exact .inl ⟨h, thenC_l (c := fun a b : Rt => cmpI b.pref a.pref) (cmpI_lt h) (by decide)⟩

theorem routeFirst_any (w : World) (x : Rv) (hx : RdI w x.A x.n x.c x.r.as) (y : Rv) (hy : RdI w y.A y.n y.c y.r.as) :
    Calls Try.prog 5 #[.agg #[.int .i64 x.r.pref, .int .i64 x.r.origin, .slice x.A x.n x.c, .int .i64 x.r.hop, .int .i64 x.r.otc, .int .i64 x.r.frm], .agg #[.int .i64 y.r.pref, .int .i64 y.r.origin, .slice y.A y.n y.c, .int .i64 y.r.hop, .int .i64 y.r.otc, .int .i64 y.r.frm]] w fun e w' => e = .returned (.bool true) ∧ Below w.heap.size w w' := by
  obtain ⟨B, hB⟩ : ∃ B, fewB [x, y] = B := ⟨_, rfl⟩
  have HB := Lib.hid hB
  have HC := Lib.hid (first_cases x.r y.r)
  have HLX := Lib.hid hx.len
  have HLY := Lib.hid hy.len
  have HX := Lib.hid hx
  have HY := Lib.hid hy
  clear hB hx hy
  go_enter Try.func5, Try.ntmps5
  go_wp2_with fail
  with_reducible refine (awake_any _).mono ?_
  rintro e w1 ⟨_, rfl, rfl, hb1⟩
  have HRX := Lib.hid ((hb1.block w.heap.size (by simp; omega)).trans (heap_alloc2_old w _ _))
  have HRY := Lib.hid ((hb1.block (w.heap.size + 1) (by simp)).trans (heap_alloc2_new w _ _))
  have HB1 := Lib.hid (bstep (balloc (bnew w _) _) hb1)
  clear hb1
  obtain ⟨f0, f1, f2, f3, f4, f5⟩ := row6 HRX.out
  obtain ⟨g0, g1, g2, g3, g4, g5⟩ := row6 HRY.out
  go_wp2_with fail
  clear f0 f1 f2 f3 f4 f5 g0 g1 g2 g3 g4 g5
  have hf := few_any (some ⟨w1.heap.size, 0, none⟩) 2 2 [x, y] _ (lies_freshT w1 [x, y] #[.int .i64 x.r.pref, .int .i64 x.r.origin, .slice x.A x.n x.c, .int .i64 x.r.hop, .int .i64 x.r.otc, .int .i64 x.r.frm, .int .i64 y.r.pref, .int .i64 y.r.origin, .slice y.A y.n y.c, .int .i64 y.r.hop, .int .i64 y.r.otc, .int .i64 y.r.frm] 27 rfl (by simp [maxLen]) (by
    intro z hz
    simp only [List.mem_cons, List.not_mem_nil, or_false] at hz
    rcases hz with rfl | rfl
    · exact HX.out.below HB1.out
    · exact HY.out.below HB1.out))
  rw [HB.out] at hf
  with_reducible refine hf.mono ?_
  clear hf
  rintro e w2 ⟨rfl, rfl⟩
  have HB2 := Lib.hid (bnew w1 (.cells #[.int .i64 x.r.pref, .int .i64 x.r.origin, .slice x.A x.n x.c, .int .i64 x.r.hop, .int .i64 x.r.otc, .int .i64 x.r.frm, .int .i64 y.r.pref, .int .i64 y.r.origin, .slice y.A y.n y.c, .int .i64 y.r.hop, .int .i64 y.r.otc, .int .i64 y.r.frm] 27))
  generalize w1.alloc (.cells #[.int .i64 x.r.pref, .int .i64 x.r.origin, .slice x.A x.n x.c, .int .i64 x.r.hop, .int .i64 x.r.otc, .int .i64 x.r.frm, .int .i64 y.r.pref, .int .i64 y.r.origin, .slice y.A y.n y.c, .int .i64 y.r.hop, .int .i64 y.r.otc, .int .i64 y.r.frm] 27) = w2 at *
  cases B
  · go_wp2
    go_ret
    exact ⟨rfl, bstep HB1.out HB2.out⟩
  · obtain ⟨f0, f1, f2, f3, f4, f5⟩ := row6 (row_to HB2.out HRX.out)
    obtain ⟨g0, g1, g2, g3, g4, g5⟩ := row6 (row_to HB2.out HRY.out)
    go_wp2_with fail
    clear f0 f1 f2 f3 f4 f5 g0 g1 g2 g3 g4 g5
    have hcmp := compare_any x.r y.r x.A x.n x.c y.A y.n y.c w2 (HX.out.below (bstep HB1.out HB2.out)) (HY.out.below (bstep HB1.out HB2.out))
    unfold routeA at hcmp
    with_reducible refine hcmp.mono ?_
    clear hcmp
    rintro e w3 ⟨_, rfl, rfl, hb3⟩
    have HB3 := Lib.hid hb3
    clear hb3
    obtain ⟨f0, f1, f2, f3, f4, f5⟩ := row6 (row_to (bstep HB2.out HB3.out) HRX.out)
    obtain ⟨g0, g1, g2, g3, g4, g5⟩ := row6 (row_to (bstep HB2.out HB3.out) HRY.out)
    have hlx := HLX.out
    have hly := HLY.out
    rcases HC.out with ⟨h, hc⟩ | ⟨h, hc⟩ | ⟨h, k, hc⟩ | ⟨h, k, hc⟩ | ⟨h, k, m, hc⟩ | ⟨h, k, m, hc⟩ | ⟨h, k, m⟩
    · have i1 : (x.r.pref == y.r.pref) = false := beq_eq_false_iff_ne.2 (by omega)
      have i2 : x.r.pref ≠ y.r.pref := by omega
      clear hlx hly
      go_wp2
      go_ret
      exact ⟨by first | rfl | (simp [hc, h]), bstep HB1.out (bstep HB2.out HB3.out)⟩
    · have i1 : (x.r.pref == y.r.pref) = false := beq_eq_false_iff_ne.2 (by omega)
      have i2 : x.r.pref ≠ y.r.pref := by omega
      have i3 : ¬ y.r.pref < x.r.pref := by omega
      clear hlx hly h
      go_wp2
      go_ret
      exact ⟨by first | rfl | (simp [hc, i3]), bstep HB1.out (bstep HB2.out HB3.out)⟩
    · have i1 : (x.r.pref == y.r.pref) = true := beq_iff_eq.2 h
      have i3 : (x.n : Int) < y.n := by omega
      have i2 : ((x.n : Int) == y.n) = false := beq_eq_false_iff_ne.2 (by omega)
      clear hlx hly k
      go_wp2
      go_ret
      exact ⟨by first | rfl | (simp [hc, i3]), bstep HB1.out (bstep HB2.out HB3.out)⟩
    · have i1 : (x.r.pref == y.r.pref) = true := beq_iff_eq.2 h
      have i3 : ¬ (x.n : Int) < y.n := by omega
      have i5 : y.n ≤ x.n := by omega
      have i2 : ((x.n : Int) == y.n) = false := beq_eq_false_iff_ne.2 (by omega)
      clear hlx hly k
      go_wp2
      go_ret
      exact ⟨by first | rfl | (simp [hc, i3, i5]; done) | (simp [hc, i3]), bstep HB1.out (bstep HB2.out HB3.out)⟩
    · have i1 : (x.r.pref == y.r.pref) = true := beq_iff_eq.2 h
      have i2 : ((x.n : Int) == y.n) = true := beq_iff_eq.2 (by omega)
      have i4 : (x.r.origin == y.r.origin) = false := beq_eq_false_iff_ne.2 (by omega)
      clear hlx hly k
      go_wp2
      go_ret
      exact ⟨by first | rfl | (simp [hc, m]), bstep HB1.out (bstep HB2.out HB3.out)⟩
    · have i1 : (x.r.pref == y.r.pref) = true := beq_iff_eq.2 h
      have i2 : ((x.n : Int) == y.n) = true := beq_iff_eq.2 (by omega)
      have i4 : (x.r.origin == y.r.origin) = false := beq_eq_false_iff_ne.2 (by omega)
      have i3 : ¬ x.r.origin < y.r.origin := by omega
      clear hlx hly k m
      go_wp2
      go_ret
      exact ⟨by first | rfl | (simp [hc, i3]), bstep HB1.out (bstep HB2.out HB3.out)⟩
    · have i1 : (x.r.pref == y.r.pref) = true := beq_iff_eq.2 h
      have i2 : ((x.n : Int) == y.n) = true := beq_iff_eq.2 (by omega)
      have i4 : (x.r.origin == y.r.origin) = true := beq_iff_eq.2 m
      clear hlx hly k m
      go_wp2
      go_ret
      exact ⟨by first | rfl | simp, bstep HB1.out (bstep HB2.out HB3.out)⟩
end Go.Proofs.Ytmlhbmlppgoklac
