/- Rise: what the models come to (2). -/
import Derived.Test.YtpclfdndjillnaaPr1
namespace Go.Proofs.Ytpclfdndjillnaa
open Go.RowKit
set_option linter.unusedVariables false
set_option linter.unusedSimpArgs false
set_option maxRecDepth 100000
set_option maxHeartbeats 1000000

theorem loopC_ex {σ ε R : Type} {step : σ → (σ → Option R) → (ε → Option R) → Option R} {bk : ε → Option R} (Q : Option R → Prop) (I : σ → Prop) (μ : σ → Nat)
    (hstep : ∀ s, I s → ∀ nx : σ → Option R, (∀ s', I s' → μ s' < μ s → Q (nx s')) → Q (step s nx bk)) : ∀ (n : Nat) (s : σ), I s → μ s < n → Q (loopC step bk n s)
  | 0, s, _, h => absurd h (Nat.not_lt_zero _)
  | n + 1, s, hI, h => by
    rw [loopC_succ]
    exact hstep s hI _ fun s' h1 h2 => loopC_ex Q I μ hstep n s' h1 (by omega)
theorem min_mem (l : List Int) (h : l ≠ []) (hl : l.length ≤ 140737488355328) : ∃ v ∈ l, m_slices_Min___int_int l = some v := by
  have h0 : 0 < l.length := List.length_pos_iff.2 h
  unfold m_slices_Min___int_int
  rw [decide_eq_false (by omega), cond_false, show (0 : Int) = ((0 : Nat) : Int) from rfl, ix_nat h0, bd_some]
  refine loopC_ex (fun o => ∃ v ∈ l, o = some v) (fun st : Int × Int => st.1 ∈ l ∧ ∃ j : Nat, st.2 = (j : Int) ∧ j ≤ l.length) (fun st : Int × Int => ((l.length : Int) - st.2).toNat) ?_ _ _ ⟨List.getElem_mem h0, 1, rfl, h0⟩ (big_lt (by simp only; omega))
  rintro ⟨m, _⟩ ⟨hm, j, rfl, hj⟩ nx hnx
  rw [s_slices_Min___int_int1]
  dsimp only at hm hnx ⊢
  by_cases hlt : j < l.length
  · rw [decide_eq_true (by omega), cond_true, ix_nat hlt, bd_some, w64s (by omega)]
    refine hnx _ ⟨?_, j + 1, rfl, hlt⟩ (by simp only; omega)
    dsimp only
    split
    · exact List.getElem_mem hlt
    · exact hm
  · rw [decide_eq_false (by omega), cond_false]
    exact ⟨m, hm, rfl⟩
theorem max_mem (l : List Int) (h : l ≠ []) (hl : l.length ≤ 140737488355328) : ∃ v ∈ l, m_slices_Max___int_int l = some v := by
  have h0 : 0 < l.length := List.length_pos_iff.2 h
  unfold m_slices_Max___int_int
  rw [decide_eq_false (by omega), cond_false, show (0 : Int) = ((0 : Nat) : Int) from rfl, ix_nat h0, bd_some]
  refine loopC_ex (fun o => ∃ v ∈ l, o = some v) (fun st : Int × Int => st.1 ∈ l ∧ ∃ j : Nat, st.2 = (j : Int) ∧ j ≤ l.length) (fun st : Int × Int => ((l.length : Int) - st.2).toNat) ?_ _ _ ⟨List.getElem_mem h0, 1, rfl, h0⟩ (big_lt (by simp only; omega))
  rintro ⟨m, _⟩ ⟨hm, j, rfl, hj⟩ nx hnx
  rw [s_slices_Max___int_int1]
  dsimp only at hm hnx ⊢
  by_cases hlt : j < l.length
  · rw [decide_eq_true (by omega), cond_true, ix_nat hlt, bd_some, w64s (by omega)]
    refine hnx _ ⟨?_, j + 1, rfl, hlt⟩ (by simp only; omega)
    dsimp only
    split
    · exact List.getElem_mem hlt
    · exact hm
  · rw [decide_eq_false (by omega), cond_false]
    exact ⟨m, hm, rfl⟩
/-- Lists that are few. -/
structure FewC (c : Conf) : Prop where
  own : c.Own.length ≤ 1000
  sides : c.Sides.length ≤ 1000
  ins : ∀ s ∈ c.Sides, s.In.length ≤ 1000
  outs : ∀ s ∈ c.Sides, s.Out.length ≤ 1000
/-- What a class's preferences are, over all sides. -/
def lowL (c : Conf) (cl : Int) : List Int := c.Sides.flatMap fun s => if s.Rel = cl then prefL (reach cl s.In) else []
theorem prefL_le (l : List Rule) : (prefL l).length ≤ l.length := by
  unfold prefL
  rw [List.length_map]
  exact List.length_filter_le _ _
theorem walkA_low {R : Type} (cl : Int) (e : List Int → R) : ∀ (l : List Side) (i : Nat) (b : List Int),
    walkA (fun _ (s : Side) nx b => bif decide (s.Rel = cl) then nx (b ++ prefL (reach cl s.In)) else nx b) e i l b = e (b ++ l.flatMap fun s => if s.Rel = cl then prefL (reach cl s.In) else [])
  | [], _, b => by rw [walkA]; simp
  | x :: xs, i, b => by
    rw [walkA, List.flatMap_cons]
    by_cases h : x.Rel = cl
    · rw [decide_eq_true h, cond_true, if_pos h, walkA_low cl e xs, List.append_assoc]
    · rw [decide_eq_false h, cond_false, if_neg h, walkA_low cl e xs, List.nil_append]
theorem riseLow_loop (c : Conf) (cl : Int) (f : FewC c) (bk : List Int → Option (Int × Bool)) : loopC (s_rise_Low1 c cl) bk BIG ([], (0 : Int)) = bk (lowL c cl) := by
  have hs := f.sides
  rw [loop_acc c.Sides (fun _ (s : Side) nx b => bif decide (s.Rel = cl) then nx (b ++ prefL (reach cl s.In)) else nx b) bk [] (fun i b => b.length ≤ i * 1000) (by simp) (by omega) ?_ ?_]
  · exact walkA_low cl bk c.Sides 0 []
  · intro i h b nx nx' hb hnx go hgo
    rw [s_rise_Low1]
    dsimp only
    rw [decide_eq_true (by omega), cond_true, ix_nat h, bd_some]
    have hin := f.ins _ (List.getElem_mem h)
    have h1 := reach_le cl c.Sides[i].In
    have h2 := prefL_le (reach cl c.Sides[i].In)
    have hap : ap 8 b (prefL (reach cl c.Sides[i].In)) = some (b ++ prefL (reach cl c.Sides[i].In)) := ap_some (by omega) (by omega)
    rw [risePrefs_eq _ _ (by omega), bd_some, hap, bd_some, hgo, hgo, hnx b (by omega), hnx _ (by rw [List.length_append]; omega)]
  · intro b nx hb
    rw [s_rise_Low1]
    dsimp only
    rw [decide_eq_false (by omega), cond_false]
theorem lowL_le (cl : Int) : ∀ l : List Side, (∀ s ∈ l, s.In.length ≤ 1000) → (l.flatMap fun s => if s.Rel = cl then prefL (reach cl s.In) else []).length ≤ l.length * 1000
  | [], _ => by simp
  | x :: xs, h => by
    have h1 := reach_le cl x.In
    have h2 := prefL_le (reach cl x.In)
    have h3 := lowL_le cl xs fun s hs => h s (List.mem_cons_of_mem _ hs)
    have h4 := h x (by simp)
    rw [List.flatMap_cons, List.length_append, List.length_cons]
    split
    · omega
    · rw [List.length_nil]; omega
/-- The least preference. -/
theorem riseLow_ex (c : Conf) (cl : Int) (f : FewC c) : ∃ v ok, m_rise_Low c cl = some (v, ok) ∧ (ok = true → cl ≠ 0 → v ∈ lowL c cl) ∧ (cl = 0 → v = 400) := by
  unfold m_rise_Low
  by_cases h : cl = 0
  · rw [decide_eq_true h, cond_true]
    exact ⟨400, true, rfl, fun _ k => absurd h k, fun _ => rfl⟩
  · rw [decide_eq_false h, cond_false, riseLow_loop c cl f]
    by_cases hn : lowL c cl = []
    · rw [hn]
      exact ⟨0, false, rfl, fun k => Bool.noConfusion k, fun k => absurd k h⟩
    · have hle : (lowL c cl).length ≤ 140737488355328 := by
        have := lowL_le cl c.Sides f.ins
        have := f.sides
        unfold lowL
        omega
      obtain ⟨v, hv, e⟩ := min_mem _ hn hle
      rw [decide_eq_false (by have := List.length_pos_iff.2 hn; omega), cond_false, e, bd_some]
      exact ⟨v, true, rfl, fun _ _ => hv, fun k => absurd k h⟩
theorem tells_idx (l : List Rule) (hl : l.length ≤ 140737488355328) : m_slices_ContainsFunc___api_Rule_api_Rule_s1 l = some (l.any fun x => decide (¬ x.Act = 0)) := by
  unfold m_slices_ContainsFunc___api_Rule_api_Rule_s1 m_slices_IndexFunc___api_Rule_api_Rule_s1
  rw [loop_idx l (fun i x r => bif decide (¬ x.Act = 0) then some (i : Int) else r) (some (-1 : Int)) hl ?_ ?_, walk_find (fun x : Rule => decide (¬ x.Act = 0)) some, bd_some, findN_any]
  · intro i h nx
    rw [s_slices_IndexFunc___api_Rule_api_Rule_s11, decide_eq_true (by omega), cond_true, ix_nat h, bd_some, m_rise_Tells_1, bd_some]
  · intro nx
    rw [s_slices_IndexFunc___api_Rule_api_Rule_s11, decide_eq_false (by omega), cond_false]
theorem riseTells_eq (c : Conf) (k : Nat) (cl : Int) (h : k < c.Sides.length) (f : FewC c) : m_rise_Tells c k cl = some ((reach cl c.Sides[k].Out).any fun x => decide (¬ x.Act = 0)) := by
  unfold m_rise_Tells
  have ho := f.outs _ (List.getElem_mem h)
  have := reach_le cl c.Sides[k].Out
  rw [decide_eq_false (by omega), cond_false, decide_eq_false (by omega), cond_false, ix_nat h, bd_some, polReach_eq _ _ (by omega), bd_some, tells_idx _ (by omega), bd_some]
theorem riseHigh_ex (c : Conf) (k : Nat) (h : k < c.Sides.length) (f : FewC c) : ∃ v ok, m_rise_High c k = some (v, ok) ∧ (ok = true → v ∈ prefL (reach c.Sides[k].Rel c.Sides[k].In)) := by
  unfold m_rise_High
  have ho := f.ins _ (List.getElem_mem h)
  have h1 := reach_le c.Sides[k].Rel c.Sides[k].In
  have h2 := prefL_le (reach c.Sides[k].Rel c.Sides[k].In)
  rw [decide_eq_false (by omega), cond_false, decide_eq_false (by omega), cond_false, ix_nat h, bd_some, bd_some, risePrefs_eq _ _ (by omega), bd_some]
  by_cases hn : prefL (reach c.Sides[k].Rel c.Sides[k].In) = []
  · rw [hn]
    exact ⟨0, false, rfl, fun k => nomatch k⟩
  · obtain ⟨v, hv, e⟩ := max_mem _ hn (by omega)
    rw [decide_eq_false (by have := List.length_pos_iff.2 hn; omega), cond_false, e, bd_some]
    exact ⟨v, true, rfl, fun _ => hv⟩
end Go.Proofs.Ytpclfdndjillnaa
