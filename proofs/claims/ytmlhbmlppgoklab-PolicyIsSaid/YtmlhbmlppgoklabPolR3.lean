/- The walks of the reference of layer 10: what fits, what is total. -/
import Derived.Test.YtmlhbmlppgoklabPolR2
namespace Go.Proofs.Ytmlhbmlppgoklab
open Go.RowKit
set_option maxHeartbeats 4000000
set_option linter.unusedVariables false
set_option linter.unusedSimpArgs false

theorem rin_any (A : Option Addr) (n c : Nat) (l : List Int) (v : Int) (w : World) (h : RdI w A n c l) :
    Calls Try.prog 25 #[.slice A n c, .int .i64 v] w fun e w' => e = .returned (.bool (l.contains v)) ∧ w = w' := by
  have hlen := h.len
  have hmx := h.max
  have hle := h.le
  unfold maxLen at hmx
  have HR := Lib.hid h
  clear h
  go_enter Try.func25, Try.ntmps25
  go_wp2
  go_loopw [5] (fun i wr => ∃ j : Nat, j ≤ n ∧ i = .int .i64 j ∧ (∀ k, ∀ h : k < l.length, k < j → l[k] ≠ v) ∧ wr = w) (fun i _ => n - (intOf i).toNat)
  case atStart => exact ⟨0, by omega, rfl, fun k _ hk => absurd hk (by omega), rfl⟩
  case round =>
    obtain ⟨j, hj, rfl, hno, rfl⟩ := hrel
    have HN := Lib.hid hno
    clear hno
    by_cases hlt : j < n
    · obtain ⟨b, o, rfl, hcell⟩ := HR.out.at_ hlt
      have c0 := hcell j (by omega)
      obtain ⟨x, hx⟩ : ∃ x, l[j] = x := ⟨_, rfl⟩
      rw [hx] at c0
      have HX := Lib.hid hx
      have hlt' : (j : Int) < n := by omega
      clear hcell hx
      cases hv : (x == v)
      · have HV := Lib.hid hv
        go_wp2
        go_roundw
        case rel => exact ⟨j + 1, by omega, by go_num, fun k hk hkj => by
          by_cases e : k = j
          · subst e
            rw [HX.out]
            exact beq_eq_false_iff_ne.1 HV.out
          · exact HN.out k hk (by omega), by first | trivial | rfl⟩
        case measure => simp [intOf]; omega
      · have e := eq_of_beq hv
        have HE := Lib.hid (show l.contains v = true by
          rw [List.contains_iff_mem, ← e, ← HX.out]
          exact List.getElem_mem _)
        go_wp2
        go_ret
        exact ⟨by rw [HE.out]; rfl, by first | trivial | rfl⟩
    · obtain rfl : j = n := by omega
      have HE := Lib.hid (show l.contains v = false by
        rw [Bool.eq_false_iff]
        intro hc
        rw [List.contains_iff_mem] at hc
        obtain ⟨k, hk, e⟩ := List.getElem_of_mem hc
        exact HN.out k hk (by omega) e)
      go_wp2
      go_ret
      exact ⟨by rw [HE.out]; rfl, by first | trivial | rfl⟩

theorem rtotal_any (r : Rul) (cl : Int) (w : World) : Calls Try.prog 14 #[.agg #[.int .i64 r.1, .int .i64 r.2.1, .int .i64 r.2.2.1, .int .i64 r.2.2.2.1, .int .i64 r.2.2.2.2.1, .int .i64 r.2.2.2.2.2], .int .i64 cl] w (Ret (Just (.bool (totalB r cl))) w) := by
  obtain ⟨r1, r2, r3, r4, r5, r6⟩ := r
  obtain ⟨a, ha⟩ : ∃ a, (r1 == 0) = a := ⟨_, rfl⟩
  obtain ⟨b, hb⟩ : ∃ b, (r1 == 4) = b := ⟨_, rfl⟩
  obtain ⟨d, hd⟩ : ∃ d, (r4 == cl) = d := ⟨_, rfl⟩
  have HF := Lib.hid (show totalB (r1, r2, r3, r4, r5, r6) cl = (a || b && d) by unfold totalB; rw [ha, hb, hd])
  cases a <;> cases b <;> cases d
  all_goals
    go_enter Try.func14, Try.ntmps14
    go_wp2
    go_ret
    exact ⟨_, rfl, by rw [HF.out]; rfl, bnew w _⟩

theorem rfitsx (r : Rul) (va vn vc : Int) (us : List Int) (A : Option Addr) (n c : Nat) (w : World) (h : RdI w A n c us) : Calls Try.prog 12 #[.agg #[.int .i64 r.1, .int .i64 r.2.1, .int .i64 r.2.2.1, .int .i64 r.2.2.2.1, .int .i64 r.2.2.2.2.1, .int .i64 r.2.2.2.2.2], .agg #[.int .i64 va, .int .i64 vn, .slice A n c, .int .i64 vc]] w (Ret (Just (.bool (fitsB r ⟨va, vn, us, vc⟩))) w) := by
  obtain ⟨r1, r2, r3, r4, r5, r6⟩ := r
  have HR := Lib.hid h
  have HLN := Lib.hid h.len
  clear h
  obtain ⟨F, hF⟩ : ∃ F, fitsB (r1, r2, r3, r4, r5, r6) ⟨va, vn, us, vc⟩ = F := ⟨_, rfl⟩
  have HF := Lib.hid hF
  rcases (show r1 = 0 ∨ r1 = 1 ∨ r1 = 2 ∨ r1 = 3 ∨ r1 = 4 ∨ (r1 ≠ 0 ∧ r1 ≠ 1 ∧ r1 ≠ 2 ∧ r1 ≠ 3 ∧ r1 ≠ 4) by omega) with rfl | rfl | rfl | rfl | rfl | ⟨g0, g1, g2, g3, g4⟩
  · have hv : F = true := hF.symm
    subst hv
    clear hF
    go_enter Try.func12, Try.ntmps12
    go_wp2
    go_ret
    exact ⟨_, rfl, by rw [HF.out]; rfl, balloc (bnew w _) _⟩
  · have hv : hasB r2 r3 va vn = F := hF
    have HV := Lib.hid hv
    clear hF hv
    go_enter Try.func12, Try.ntmps12
    go_wp2_with fail
    have hp := rphas_any r2 r3 va vn ((w.alloc (.cells #[.int .i64 1, .int .i64 r2, .int .i64 r3, .int .i64 r4, .int .i64 r5, .int .i64 r6] 31)).alloc (.cells #[.int .i64 va, .int .i64 vn, .slice A n c, .int .i64 vc] 27))
    rw [HV.out] at hp
    with_reducible refine hp.mono ?_
    clear hp
    rintro e w1 ⟨_, rfl, rfl, hb⟩
    go_wp2
    go_ret
    exact ⟨_, rfl, by rw [HF.out]; rfl, bstep (balloc (bnew w _) _) hb⟩
  · have hv : us.contains r4 = F := hF
    have HV := Lib.hid hv
    clear hF hv
    go_enter Try.func12, Try.ntmps12
    go_wp2_with fail
    with_reducible refine (rin_any A n c us r4 _ (HR.out.below (balloc (bnew w _) _))).mono ?_
    rw [HV.out]
    rintro e w1 ⟨rfl, rfl⟩
    go_wp2
    go_ret
    exact ⟨_, rfl, by rw [HF.out]; rfl, balloc (bnew w _) _⟩
  · have hv : decide (r4 < us.length) = F := hF
    rw [HLN.out] at hv
    clear hF
    cases F
    all_goals
      go_enter Try.func12, Try.ntmps12
      go_wp2
      go_ret
      exact ⟨_, rfl, by rw [HF.out]; rfl, balloc (bnew w _) _⟩
  · have hv : (vc == r4) = F := hF
    clear hF
    cases F
    all_goals
      go_enter Try.func12, Try.ntmps12
      go_wp2
      go_ret
      exact ⟨_, rfl, by rw [HF.out]; rfl, balloc (bnew w _) _⟩
  · have hv : F = false := by rw [← hF]; unfold fitsB; rw [if_neg g0, if_neg g1, if_neg g2, if_neg g3, if_neg g4]
    subst hv
    have b0 := beq_eq_false_iff_ne.2 g0
    have b1 := beq_eq_false_iff_ne.2 g1
    have b2 := beq_eq_false_iff_ne.2 g2
    have b3 := beq_eq_false_iff_ne.2 g3
    have b4 := beq_eq_false_iff_ne.2 g4
    clear hF g0 g1 g2 g3 g4
    go_enter Try.func12, Try.ntmps12
    go_wp2
    go_ret
    exact ⟨_, rfl, by rw [HF.out]; rfl, balloc (bnew w _) _⟩
end Go.Proofs.Ytmlhbmlppgoklab
