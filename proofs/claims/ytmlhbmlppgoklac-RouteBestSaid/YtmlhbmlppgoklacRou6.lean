/- The walks of route.Best, of route.Sane where it says yes, and of the reference's Few. -/
import Derived.Test.YtmlhbmlppgoklacRou5
namespace Go.Proofs.Ytmlhbmlppgoklac
open Go.RowKit
set_option maxHeartbeats 4000000
set_option maxRecDepth 100000
set_option linter.unusedVariables false
set_option linter.unusedSimpArgs false

theorem best_none (A : Option Addr) (c : Nat) (w : World) : Calls Try.prog 16 #[.slice A 0 c] w (Ret (Just (.tuple #[.agg #[.int .i64 0, .int .i64 0, .slice none 0 0, .int .i64 0, .int .i64 0, .int .i64 0], .bool false])) w) := by
  go_enter Try.func16, Try.ntmps16
  go_wp2
  refine bodyPost_ret (results_ct rfl _ _ w.heap.size _ _ _ _ _ rfl rfl (heap_alloc_new w _) Try.underlying27 rfl routeSize) rfl ⟨_, rfl, ?_, bnew w _⟩
  rfl
theorem best_some (A : Option Addr) (n c : Nat) (x : Rv) (t : List Rv) (w : World) (h : RdT w A n c (x :: t)) (hn : n ≤ 100000) :
    Calls Try.prog 16 #[.slice A n c] w (Ret (Just (.tuple #[.agg #[.int .i64 (bestV x t).r.pref, .int .i64 (bestV x t).r.origin, .slice (bestV x t).A (bestV x t).n (bestV x t).c, .int .i64 (bestV x t).r.hop, .int .i64 (bestV x t).r.otc, .int .i64 (bestV x t).r.frm], .bool true])) w) := by
  have hlen := h.len
  simp only [List.length_cons] at hlen
  have H := Lib.hid h
  have hn0 : ((n : Int) == 0) = false := beq_eq_false_iff_ne.2 (by omega)
  have hn1 : (n : Int) ≠ 0 := by omega
  have HM := Lib.hid (fun W (hb : Below w.heap.size w W) => min_any A n c x t W (h.below hb) hn)
  obtain ⟨y, hy⟩ : ∃ y, bestV x t = y := ⟨_, rfl⟩
  rw [hy] at HM ⊢
  clear h hlen hy H
  go_enter Try.func16, Try.ntmps16
  go_wp2_with fail
  with_reducible refine (HM.out _ (bnew w _)).mono ?_
  rintro e w1 ⟨_, rfl, rfl, hb⟩
  have HQ := Lib.hid ((hb.block w.heap.size (by simp)).trans (heap_alloc_new w _))
  have HB := Lib.hid (bstep (bnew w _) hb)
  clear hb
  go_wp2_with (refine wpList_store_row rfl 27 _ _ rfl w.heap.size #[.int .i64 y.r.pref, .int .i64 y.r.origin, .slice y.A y.n y.c, .int .i64 y.r.hop, .int .i64 y.r.otc, .int .i64 y.r.frm] rfl rfl 27 #[.int .i64 0, .int .i64 0, .slice none 0 0, .int .i64 0, .int .i64 0, .int .i64 0] HQ.out routeSize rfl (by simp [Value.oneCell']) ?_)
  have hrow := setRow_heap w1 w.heap.size _ #[.int .i64 y.r.pref, .int .i64 y.r.origin, .slice y.A y.n y.c, .int .i64 y.r.hop, .int .i64 y.r.otc, .int .i64 y.r.frm] _ _ HQ.out
  refine bodyPost_ret (results_ct rfl _ _ w.heap.size _ _ _ _ _ rfl rfl hrow Try.underlying27 rfl routeSize) rfl ⟨_, rfl, ?_, below_setRow HB.out (Nat.le_refl _) _⟩
  rfl

theorem rsane_own (hop : Int) (w : World) (hh : 1 ≤ hop ∧ hop ≤ 4294967295) : Calls Try.prog 14 #[.agg #[.int .i64 400, .int .i64 0, .slice none 0 0, .int .i64 hop, .int .i64 0, .int .i64 (-1)]] w (Ret (Just (.bool true)) w) := by
  have HA := Lib.hid (fun W => attr_yes 0 none 0 0 [] hop 0 W ⟨rfl, Nat.le_refl _, Nat.zero_le _, .inl rfl⟩ (by simp) (by omega) (by omega) hh (by omega))
  clear hh
  go_enter Try.func14, Try.ntmps14
  go_wp2_with fail
  with_reducible refine (HA.out _).mono ?_
  rintro e w1 ⟨_, rfl, rfl, hb⟩
  obtain ⟨k0, k1, k2, k3, k4, k5⟩ := row6 ((hb.block w.heap.size (by simp)).trans (heap_alloc_new w _))
  go_wp2
  go_ret
  exact ⟨_, rfl, rfl, bstep (bnew w _) hb⟩
theorem rsane_far (p o : Int) (A : Option Addr) (n c : Nat) (us : List Int) (hop otc fr : Int) (w : World) (h : RdI w A n c us) (hu : ∀ x ∈ us, 1 ≤ x ∧ x ≤ 4294967295) (ho : 0 ≤ o ∧ o ≤ 2) (hn : n ≤ 32) (hh : 1 ≤ hop ∧ hop ≤ 4294967295) (ht : 0 ≤ otc ∧ otc ≤ 4294967295) (hf : 0 ≤ fr ∧ fr ≤ 7) (hp : 1 ≤ p ∧ p ≤ 399) :
    Calls Try.prog 14 #[.agg #[.int .i64 p, .int .i64 o, .slice A n c, .int .i64 hop, .int .i64 otc, .int .i64 fr]] w (Ret (Just (.bool true)) w) := by
  have HA := Lib.hid (fun W (hb : Below w.heap.size w W) => attr_yes o A n c us hop otc W (h.below hb) hu ho (by omega) hh ht)
  obtain ⟨f1, f2⟩ := hf
  obtain ⟨p1, p2⟩ := hp
  have hn32 : (n : Int) ≤ 32 := by omega
  have hf0 : (fr == -1) = false := beq_eq_false_iff_ne.2 (by omega)
  clear h hu ho hh ht
  go_enter Try.func14, Try.ntmps14
  go_wp2_with fail
  with_reducible refine (HA.out _ (bnew w _)).mono ?_
  rintro e w1 ⟨_, rfl, rfl, hb⟩
  obtain ⟨k0, k1, k2, k3, k4, k5⟩ := row6 ((hb.block w.heap.size (by simp)).trans (heap_alloc_new w _))
  go_wp2
  go_ret
  refine ⟨_, rfl, ?_, bstep (bnew w _) hb⟩
  first | rfl | (refine congrArg Value.bool (?_ : (_ : Bool) = _); simp; omega)

def fewB (l : List Rv) : Bool := l.all (fun x => decide (x.r.as.length ≤ 100)) && decide (l.length ≤ 30)
theorem few_any (A : Option Addr) (n c : Nat) (l : List Rv) (w : World) (h : RdT w A n c l) : Calls Try.prog 9 #[.slice A n c] w fun e w' => e = .returned (.bool (fewB l)) ∧ w = w' := by
  have hlen := h.len
  have hle := h.le
  have hmx := h.max
  unfold maxLen at hmx
  have H := Lib.hid h
  clear h
  go_enter Try.func9, Try.ntmps9
  go_wp2
  go_loopw [3] (fun i wr => ∃ j : Nat, j ≤ n ∧ i = .int .i64 j ∧ (∀ k, ∀ h : k < l.length, k < j → l[k].r.as.length ≤ 100) ∧ wr = w) (fun i _ => n - (intOf i).toNat)
  case atStart => exact ⟨0, by omega, rfl, fun k _ hk => absurd hk (by omega), rfl⟩
  case round =>
    obtain ⟨j, hj, rfl, hno, rfl⟩ := hrel
    have HN := Lib.hid hno
    clear hno
    by_cases hlt : j < n
    · have hjl : j < l.length := by omega
      obtain ⟨b, o, rfl, hbl, c0, c1, c2, c3, c4, c5⟩ := H.out.at_ hjl
      have hea := H.out.each l[j] (List.getElem_mem _)
      have hmem : l[j] ∈ l := List.getElem_mem _
      obtain ⟨x, hx⟩ : ∃ x, l[j] = x := ⟨_, rfl⟩
      rw [hx] at c0 c1 c2 c3 c4 c5 hea hmem
      have HX := Lib.hid hx
      have HXL := Lib.hid hea.len
      have HMEM := Lib.hid hmem
      have hlt' : (j : Int) < n := by omega
      clear hx hea c0 c1 c3 c4 c5 hmem
      by_cases hb : 101 ≤ x.n
      · have i1 : (100 : Int) < x.n := by omega
        have HF := Lib.hid (show fewB l = false by
          unfold fewB
          rw [Bool.and_eq_false_iff]
          left
          rw [List.all_eq_false]
          exact ⟨x, HMEM.out, by have := HXL.out; simp; omega⟩)
        go_wp2
        go_ret
        exact ⟨by rw [HF.out]; rfl, by first | trivial | rfl⟩
      · have i1 : ¬ (100 : Int) < x.n := by omega
        go_wp2
        go_roundw
        case rel => exact ⟨j + 1, by omega, by go_num, fun k hk hkj => by
          by_cases e : k = j
          · subst e
            rw [HX.out]
            have := HXL.out
            omega
          · exact HN.out k hk (by omega), by first | trivial | rfl⟩
        case measure => simp [intOf]; omega
    · obtain rfl : j = n := by omega
      have HF := Lib.hid (show fewB l = decide ((j : Int) ≤ 30) by
        unfold fewB
        rw [hlen]
        have : l.all (fun x => decide (x.r.as.length ≤ 100)) = true := by
          rw [List.all_eq_true]
          intro x hx
          obtain ⟨k, hk, rfl⟩ := List.getElem_of_mem hx
          exact decide_eq_true (HN.out k hk (by omega))
        rw [this, Bool.true_and, Bool.eq_iff_iff, decide_eq_true_iff, decide_eq_true_iff]
        omega)
      go_wp2
      go_ret
      exact ⟨by rw [HF.out]; rfl, by first | trivial | rfl⟩
end Go.Proofs.Ytmlhbmlppgoklac
