/- The walk of policy.Reach. -/
import Derived.Test.YtmlhbmlppgoklabPol5
namespace Go.Proofs.Ytmlhbmlppgoklab
open Go.RowKit
set_option maxHeartbeats 1000000
set_option linter.unusedVariables false
set_option linter.unusedSimpArgs false

theorem infoR : (Try.prog.info? 31).map (fun i => (i.zero, i.size, i.bytes)) = some (some (.agg #[.int .i64 0, .int .i64 0, .int .i64 0, .int .i64 0, .int .i64 0, .int .i64 0]), 6, 48) := by kernel_rfl
theorem oneCell_rule (r : Rul) : ∀ u ∈ ruleV r, u.oneCell' = true := by
  intro u hu
  simp only [ruleV, List.mem_cons, List.not_mem_nil, or_false] at hu
  rcases hu with rfl | rfl | rfl | rfl | rfl | rfl <;> rfl
theorem oneCell_rules (l : List Rul) : ∀ u ∈ rulesV l, u.oneCell' = true := by
  intro u hu
  obtain ⟨r, _, hr⟩ := List.mem_flatMap.1 hu
  exact oneCell_rule r u hr
theorem lies_newR (w : World) (r : Rul) (e : TypeId) : Lies (w.alloc (.cells #[.int .i64 r.1, .int .i64 r.2.1, .int .i64 r.2.2.1, .int .i64 r.2.2.2.1, .int .i64 r.2.2.2.2.1, .int .i64 r.2.2.2.2.2] e)) (some ⟨w.heap.size, 0, none⟩) (ruleV r) := by
  refine .inr ⟨_, _, rfl, fun j hj => ?_⟩
  rw [cell_of_row _ _ _ _ _ _ (heap_alloc_new w _)]
  match j, hj with
  | 0, _ => rfl
  | 1, _ => rfl
  | 2, _ => rfl
  | 3, _ => rfl
  | 4, _ => rfl
  | 5, _ => rfl
theorem rdR_of_gr {w : World} {base n c : Nat} {A : Option Addr} {l : List Rul} (h : Gr base 31 6 w (.slice A n c) n (rulesV l)) : RdR w A n c l := by
  have hl := rulesV_length l
  rcases h with h | ⟨h1, h2, A', hv, h3⟩
  · obtain ⟨A', c', hv, h1, h2⟩ := ownsRow_shape h
    injection hv with e1 e2 e3
    subst e1 e3
    exact ⟨by have := h.1; omega, h1, h2, Lies.of_own h⟩
  · injection hv with e1 e2 e3
    subst e1 e3
    exact ⟨by omega, Nat.le_refl _, h2, h3⟩
def IsRs (l : List Rul) : Value → World → Prop := fun v w => ∃ A n c, v = .slice A n c ∧ RdR w A n c l
theorem lasts_isRs (l : List Rul) : Lasts (IsRs l) := fun _ _ _ hb ⟨A, n, c, hv, hr⟩ => ⟨A, n, c, hv, hr.below hb⟩
theorem rulesV_snoc (l : List Rul) (r : Rul) : rulesV l ++ ruleV r = rulesV (l ++ [r]) := by simp [rulesV]
theorem drop_cons {l : List Rul} {j : Nat} (h : j < l.length) : l.drop j = l[j] :: l.drop (j + 1) := List.drop_eq_getElem_cons h

theorem reach_any (B : Option Addr) (m d : Nat) (l : List Rul) (cl : Int) (w : World) (hl : RdR w B m d l) (hm : m ≤ 1000) :
    Calls Try.prog 18 #[.slice B m d, .int .i64 cl] w (Ret (IsRs (reachL cl l)) w) := by
  have hlen := hl.len
  have hmx := hl.max
  have hle := hl.le
  unfold maxLen at hmx
  have HL := Lib.hid hl
  obtain ⟨i0, hi, hz0, hz1, hz2⟩ := info_row infoR
  have HI := Lib.hid hi
  have H0 := Lib.hid hz0
  have H1 := Lib.hid hz1
  have H2 := Lib.hid hz2
  clear hl hi hz0 hz1 hz2
  go_enter Try.func18, Try.ntmps18
  go_wp2
  go_loopw [5, 10] (fun s i wr => ∃ j : Nat, j ≤ m ∧ i = .int .i64 j ∧ (∃ (A1 : Option Addr) (k c1 : Nat) (acc : List Rul), s = .slice A1 k c1 ∧ k ≤ j ∧ wr.ownsRow w.heap.size 31 6 s k (rulesV acc) ∧ reachL cl l = acc ++ reachL cl (l.drop j)) ∧ Below w.heap.size w wr) (fun _ i _ => m - (intOf i).toNat)
  case atStart => exact ⟨0, by omega, rfl, ⟨none, 0, 0, [], rfl, Nat.le_refl _, ⟨rfl, .inl ⟨rfl, rfl⟩⟩, by simp⟩, Below.refl _ _⟩
  case round =>
    obtain ⟨j, hj, rfl, ⟨A1, k, c1, acc, rfl, hkj, hgr, heq⟩, hbr⟩ := hrel
    have HE := Lib.hid heq
    have HBR := Lib.hid hbr
    have HGR := Lib.hid hgr
    have hsz := hbr.size
    clear heq hbr hgr
    by_cases hlt : j < m
    · have hjl : j < l.length := by omega
      obtain ⟨b, o, rfl, hbl, c0, c1', c2, c3, c4, c5⟩ := (HL.out.below HBR.out).at_ hjl
      have HD := Lib.hid (drop_cons hjl)
      obtain ⟨r, hr⟩ : ∃ r, l[j] = r := ⟨_, rfl⟩
      rw [hr] at c0 c1' c2 c3 c4 c5 HD
      have hlt' : (j : Int) < m := by omega
      clear hr
      obtain ⟨e1, he1⟩ : ∃ e, (r.1 == 4) = e := ⟨_, rfl⟩
      obtain ⟨e2, he2⟩ : ∃ e, (r.2.2.2.1 != cl) = e := ⟨_, rfl⟩
      obtain ⟨T, hT⟩ : ∃ T, totalB r cl = T := ⟨_, rfl⟩
      have HT := Lib.hid hT
      have hstep : reachL cl (r :: l.drop (j + 1)) = if (e1 && e2) = true then reachL cl (l.drop (j + 1)) else if T = true then [r] else r :: reachL cl (l.drop (j + 1)) := by
        conv => lhs; unfold reachL
        rw [he1, he2, hT]
      have HS := Lib.hid hstep
      clear hT hstep
      have hln := lies_newR (wr.alloc (.cells #[.int .i64 r.1, .int .i64 r.2.1, .int .i64 r.2.2.1, .int .i64 r.2.2.2.1, .int .i64 r.2.2.2.2.1, .int .i64 r.2.2.2.2.2] 31)) r 31
      rw [show (wr.alloc (.cells #[.int .i64 r.1, .int .i64 r.2.1, .int .i64 r.2.2.1, .int .i64 r.2.2.2.1, .int .i64 r.2.2.2.2.1, .int .i64 r.2.2.2.2.2] 31)).heap.size = wr.heap.size + 1 by simp] at hln
      have HLN := Lib.hid hln
      clear hln
      have hcases : (e1 && e2) = true ∨ (e1 && e2) = false := by cases e1 <;> cases e2 <;> simp
      cases e1 <;> cases e2
      · go_wp2_with (at_builtin; (refine wpList_append_gr _ rfl _ _ 22 rfl w.heap.size 31 i0 (.agg #[.int .i64 0, .int .i64 0, .int .i64 0, .int .i64 0, .int .i64 0, .int .i64 0]) 6 48 Try.underlying22 HI.out H0.out H1.out H2.out rfl (by decide) _ k (rulesV acc) rfl (.inl ((HGR.out.alloc _).alloc _)) _ 1 1 (ruleV r) rfl rfl HLN.out ?_ (oneCell_rule r) (by unfold maxLen; omega) (by omega) (by simp; omega); intro A' c' w' hG; have hg7 := (hG.grown.block wr.heap.size (by simp; omega) (by intro e; have := (HGR.out.lt _ e.symm).2; omega)).trans ((heap_alloc_old _ _ (by simp)).trans (heap_alloc_new wr _)); obtain ⟨q0, q1, q2, q3, q4, q5⟩ := row6 hg7; have HG := Lib.hid hG; clear hg7 hG c0 c1' c2 c3 c4 c5))
        have htot := total_any r cl w'
        rw [HT.out] at htot
        with_reducible refine htot.mono ?_
        clear htot
        rintro e w2 ⟨_, rfl, rfl, hb2⟩
        have HB2 := Lib.hid (show Below w.heap.size w w2 from bstep (((balloc (balloc HBR.out _) _)).trans HG.out.below) hb2)
        have hown := HG.out.own (.inl (by omega))
        rw [rulesV_snoc] at hown
        have HO := Lib.hid (own_below hown hb2)
        clear hb2 hown q0 q1 q2 q3 q4 q5
        cases T
        · go_wp2
          go_roundw
          case rel => exact ⟨j + 1, by omega, by go_num, ⟨_, _, _, acc ++ [r], rfl, by omega, HO.out, by rw [HE.out, HD.out, HS.out]; simp⟩, HB2.out⟩
          case measure => simp [intOf]; omega
        · go_wp2
          go_ret
          refine ⟨_, rfl, ⟨_, _, _, rfl, ?_⟩, HB2.out⟩
          rw [HE.out, HD.out, HS.out]
          exact rdR_of_gr (.inl HO.out)
      · go_wp2_with (at_builtin; (refine wpList_append_gr _ rfl _ _ 22 rfl w.heap.size 31 i0 (.agg #[.int .i64 0, .int .i64 0, .int .i64 0, .int .i64 0, .int .i64 0, .int .i64 0]) 6 48 Try.underlying22 HI.out H0.out H1.out H2.out rfl (by decide) _ k (rulesV acc) rfl (.inl ((HGR.out.alloc _).alloc _)) _ 1 1 (ruleV r) rfl rfl HLN.out ?_ (oneCell_rule r) (by unfold maxLen; omega) (by omega) (by simp; omega); intro A' c' w' hG; have hg7 := (hG.grown.block wr.heap.size (by simp; omega) (by intro e; have := (HGR.out.lt _ e.symm).2; omega)).trans ((heap_alloc_old _ _ (by simp)).trans (heap_alloc_new wr _)); obtain ⟨q0, q1, q2, q3, q4, q5⟩ := row6 hg7; have HG := Lib.hid hG; clear hg7 hG c0 c1' c2 c3 c4 c5))
        have htot := total_any r cl w'
        rw [HT.out] at htot
        with_reducible refine htot.mono ?_
        clear htot
        rintro e w2 ⟨_, rfl, rfl, hb2⟩
        have HB2 := Lib.hid (show Below w.heap.size w w2 from bstep (((balloc (balloc HBR.out _) _)).trans HG.out.below) hb2)
        have hown := HG.out.own (.inl (by omega))
        rw [rulesV_snoc] at hown
        have HO := Lib.hid (own_below hown hb2)
        clear hb2 hown q0 q1 q2 q3 q4 q5
        cases T
        · go_wp2
          go_roundw
          case rel => exact ⟨j + 1, by omega, by go_num, ⟨_, _, _, acc ++ [r], rfl, by omega, HO.out, by rw [HE.out, HD.out, HS.out]; simp⟩, HB2.out⟩
          case measure => simp [intOf]; omega
        · go_wp2
          go_ret
          refine ⟨_, rfl, ⟨_, _, _, rfl, ?_⟩, HB2.out⟩
          rw [HE.out, HD.out, HS.out]
          exact rdR_of_gr (.inl HO.out)
      · go_wp2_with (at_builtin; (refine wpList_append_gr _ rfl _ _ 22 rfl w.heap.size 31 i0 (.agg #[.int .i64 0, .int .i64 0, .int .i64 0, .int .i64 0, .int .i64 0, .int .i64 0]) 6 48 Try.underlying22 HI.out H0.out H1.out H2.out rfl (by decide) _ k (rulesV acc) rfl (.inl ((HGR.out.alloc _).alloc _)) _ 1 1 (ruleV r) rfl rfl HLN.out ?_ (oneCell_rule r) (by unfold maxLen; omega) (by omega) (by simp; omega); intro A' c' w' hG; have hg7 := (hG.grown.block wr.heap.size (by simp; omega) (by intro e; have := (HGR.out.lt _ e.symm).2; omega)).trans ((heap_alloc_old _ _ (by simp)).trans (heap_alloc_new wr _)); obtain ⟨q0, q1, q2, q3, q4, q5⟩ := row6 hg7; have HG := Lib.hid hG; clear hg7 hG c0 c1' c2 c3 c4 c5))
        have htot := total_any r cl w'
        rw [HT.out] at htot
        with_reducible refine htot.mono ?_
        clear htot
        rintro e w2 ⟨_, rfl, rfl, hb2⟩
        have HB2 := Lib.hid (show Below w.heap.size w w2 from bstep (((balloc (balloc HBR.out _) _)).trans HG.out.below) hb2)
        have hown := HG.out.own (.inl (by omega))
        rw [rulesV_snoc] at hown
        have HO := Lib.hid (own_below hown hb2)
        clear hb2 hown q0 q1 q2 q3 q4 q5
        cases T
        · go_wp2
          go_roundw
          case rel => exact ⟨j + 1, by omega, by go_num, ⟨_, _, _, acc ++ [r], rfl, by omega, HO.out, by rw [HE.out, HD.out, HS.out]; simp⟩, HB2.out⟩
          case measure => simp [intOf]; omega
        · go_wp2
          go_ret
          refine ⟨_, rfl, ⟨_, _, _, rfl, ?_⟩, HB2.out⟩
          rw [HE.out, HD.out, HS.out]
          exact rdR_of_gr (.inl HO.out)
      · go_wp2
        go_roundw
        case rel => exact ⟨j + 1, by omega, by go_num, ⟨_, _, _, acc, rfl, by omega, HGR.out.alloc _, by rw [HE.out, HD.out, HS.out]; rfl⟩, balloc HBR.out _⟩
        case measure => simp [intOf]; omega
    · obtain rfl : j = m := by omega
      go_wp2
      go_ret
      refine ⟨_, rfl, ⟨_, _, _, rfl, ?_⟩, HBR.out⟩
      have e := HE.out
      rw [List.drop_of_length_le (by omega)] at e
      simp only [reachL, List.append_nil] at e
      rw [e]
      exact rdR_of_gr (.inl HGR.out)
end Go.Proofs.Ytmlhbmlppgoklab
