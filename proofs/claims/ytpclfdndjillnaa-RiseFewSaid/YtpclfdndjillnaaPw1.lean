/- What the models come to. -/
import Derived.Test.YtpclfdndjillnaaQ0
import Derived.Test.YtpclfdndjillnaaMw1
import Derived.KernelRfl
namespace Go.Proofs.Ytpclfdndjillnaa
open Go.RowKit
set_option linter.unusedVariables false
set_option linter.unusedSimpArgs false
set_option maxRecDepth 100000
set_option maxHeartbeats 1000000

def findN {α : Type} (p : α → Bool) : Nat → List α → Int
  | _, [] => -1
  | i, x :: xs => bif p x then (i : Int) else findN p (i + 1) xs
theorem walk_find {α R : Type} (p : α → Bool) (K : Int → R) : ∀ (l : List α) (i : Nat), walk (fun i x r => bif p x then K (i : Int) else r) (K (-1)) i l = K (findN p i l)
  | [], _ => rfl
  | x :: xs, i => by
    rw [walk, findN, walk_find p K xs]
    cases p x <;> rfl
theorem findN_any {α : Type} (p : α → Bool) : ∀ (l : List α) (i : Nat), decide (findN p i l ≥ 0) = l.any p
  | [], _ => rfl
  | x :: xs, i => by
    rw [findN, List.any_cons]
    cases p x with
    | true => rw [cond_true, Bool.true_or, decide_eq_true (by omega)]
    | false => rw [cond_false, Bool.false_or, findN_any p xs]
theorem findN_lt {α : Type} (p : α → Bool) : ∀ (l : List α) (i : Nat), findN p i l < (i + l.length : Nat) ∧ -1 ≤ findN p i l
  | [], i => by simp only [findN, List.length_nil]; omega
  | x :: xs, i => by
    have := findN_lt p xs (i + 1)
    rw [findN]
    simp only [List.length_cons]
    cases p x <;> simp only [cond_true, cond_false] <;> omega
def sideOf (c : Conf) (n : Int) : Int := findN (fun s : Side => decide (s.As = n)) 0 c.Sides
theorem riseSide_eq (c : Conf) (n : Int) (hl : c.Sides.length ≤ 140737488355328) : m_rise_Side c n = some (if (0 : Int) > sideOf c n then 0 else sideOf c n, decide (sideOf c n ≥ 0)) := by
  unfold m_rise_Side
  rw [jn_eq, loop_idx c.Sides (fun i x r => bif decide (x.As = n) then (fun i1 : Int => some ((if (0 : Int) > i1 then (0 : Int) else i1), decide (i1 ≥ (0 : Int)))) (i : Int) else r) _ hl ?_ ?_]
  rotate_left
  · exact some ((if (0 : Int) > -1 then (0 : Int) else -1), decide ((-1 : Int) ≥ (0 : Int)))
  · intro i h nx
    rw [s_rise_Side1, decide_eq_true (by omega), cond_true, ix_nat h, bd_some]
  · intro nx
    rw [s_rise_Side1, decide_eq_false (by omega), cond_false]
  · exact walk_find (fun s : Side => decide (s.As = n)) (fun i1 : Int => some ((if (0 : Int) > i1 then (0 : Int) else i1), decide (i1 ≥ (0 : Int)))) c.Sides 0

/-- Does a rule end the walk for a class? -/
def totalR (x : Rule) (c : Int) : Bool := decide (x.Match = 0) || (decide (x.Match = 4) && decide (x.V = c))
def reach (c : Int) : List Rule → List Rule
  | [] => []
  | x :: xs => if x.Match = 4 ∧ ¬ x.V = c then reach c xs else if totalR x c = true then [x] else x :: reach c xs
theorem polTotal_eq (x : Rule) (c : Int) : m_policy_Total x c = some (totalR x c) := by
  unfold m_policy_Total totalR
  by_cases h : x.Match = 0
  · rw [decide_eq_true h]; rfl
  · rw [decide_eq_false h, cond_false]
    by_cases h : x.Match = 4
    · rw [decide_eq_true h]; rfl
    · rw [decide_eq_false h]; rfl
theorem walkA_reach {R : Type} (c : Int) (e : List Rule → R) : ∀ (l : List Rule) (i : Nat) (b : List Rule),
    walkA (fun _ x nx b => if x.Match = 4 ∧ ¬ x.V = c then nx b else if totalR x c = true then e (b ++ [x]) else nx (b ++ [x])) e i l b = e (b ++ reach c l)
  | [], _, b => by rw [walkA, reach, List.append_nil]
  | x :: xs, i, b => by
    rw [walkA, reach]
    split
    · exact walkA_reach c e xs _ _
    · split
      · rfl
      · rw [walkA_reach c e xs, List.append_assoc]
        rfl
theorem polReach_eq (l : List Rule) (c : Int) (hl : l.length ≤ 1000000) : m_policy_Reach l c = some (reach c l) := by
  unfold m_policy_Reach
  rw [loop_acc l (fun _ x nx b => if x.Match = 4 ∧ ¬ x.V = c then nx b else if totalR x c = true then some (b ++ [x]) else nx (b ++ [x])) (fun b => some b) [] (fun i b => b.length ≤ i) (Nat.le_refl 0) (by omega) ?_ ?_]
  · exact walkA_reach c (fun b => some b) l 0 []
  · intro i h b nx nx' hb hnx go hgo
    rw [s_policy_Reach1]
    dsimp only
    rw [decide_eq_true (by omega), cond_true, ix_nat h, bd_some]
    have hap : ap 48 b [l[i]] = some (b ++ [l[i]]) := ap_some (by simp; omega) (by simp; omega)
    have e1 := hnx b (by omega)
    have e2 := hnx (b ++ [l[i]]) (by simp; omega)
    rw [hap, bd_some, polTotal_eq, bd_some, hgo, hgo, e1, e2]
    by_cases h4 : l[i].Match = 4
    · rw [decide_eq_true h4, cond_true]
      by_cases hv : l[i].V = c
      · rw [decide_eq_false (by omega), cond_false, if_neg (by omega)]
        cases totalR l[i] c <;> rfl
      · rw [decide_eq_true hv, cond_true, if_pos ⟨h4, hv⟩]
    · rw [decide_eq_false h4, cond_false, if_neg (by omega)]
      cases totalR l[i] c <;> rfl
  · intro b nx hb
    rw [s_policy_Reach1]
    dsimp only
    rw [decide_eq_false (by omega), cond_false]
theorem reach_le (c : Int) : ∀ l : List Rule, (reach c l).length ≤ l.length
  | [] => Nat.le_refl _
  | x :: xs => by
    have := reach_le c xs
    rw [reach]
    split
    · simp; omega
    · split
      · simp
      · simp; omega
/-- The preferences that rules may give. -/
def prefL (l : List Rule) : List Int := (l.filter fun x => decide (x.Act = 2)).map (·.N)
theorem walkA_prefs {R : Type} (e : List Int → R) : ∀ (l : List Rule) (i : Nat) (b : List Int),
    walkA (fun _ (x : Rule) nx b => bif decide (x.Act = 2) then nx (b ++ [x.N]) else nx b) e i l b = e (b ++ prefL l)
  | [], _, b => by rw [walkA, prefL]; simp
  | x :: xs, i, b => by
    rw [walkA, prefL, List.filter_cons]
    by_cases h : x.Act = 2
    · rw [decide_eq_true h, cond_true, if_pos rfl, walkA_prefs e xs, List.append_assoc]
      rfl
    · rw [decide_eq_false h, cond_false, if_neg (by decide), walkA_prefs e xs]
      rfl
theorem risePrefs_eq (s : Side) (c : Int) (hl : s.In.length ≤ 1000000) : m_rise_prefs s c = some (prefL (reach c s.In)) := by
  unfold m_rise_prefs
  have hr := reach_le c s.In
  rw [polReach_eq _ _ hl, bd_some]
  rw [loop_acc (reach c s.In) (fun _ (x : Rule) nx b => bif decide (x.Act = 2) then nx (b ++ [x.N]) else nx b) (fun b => some b) [] (fun i b => b.length ≤ i) (Nat.le_refl 0) (by omega) ?_ ?_]
  · exact walkA_prefs (fun b => some b) _ 0 []
  · intro i h b nx nx' hb hnx go hgo
    rw [s_rise_prefs1]
    dsimp only
    rw [decide_eq_true (by omega), cond_true, ix_nat h, bd_some]
    have hap : ap 8 b [(reach c s.In)[i].N] = some (b ++ [(reach c s.In)[i].N]) := ap_some (by simp; omega) (by simp; omega)
    rw [hap, bd_some, hgo, hgo, hnx b (by omega), hnx (b ++ [(reach c s.In)[i].N]) (by simp; omega)]
  · intro b nx hb
    rw [s_rise_prefs1]
    dsimp only
    rw [decide_eq_false (by omega), cond_false]
end Go.Proofs.Ytpclfdndjillnaa
namespace Go.Proofs.Ytpclfdndjillnaa
open Go.RowKit
set_option linter.unusedVariables false
set_option linter.unusedSimpArgs false
set_option maxRecDepth 100000
set_option maxHeartbeats 1000000

theorem loopC_ex {σ ε R : Type} {step : σ → (σ → Option R) → (ε → Option R) → Option R} {bk : ε → Option R} (Q : Option R → Prop) (I : σ → Prop) (μ : σ → Nat)
    (hstep : ∀ s, I s → ∀ nx : σ → Option R, (∀ s', I s' → μ s' < μ s → Q (nx s')) → Q (step s nx bk)) : ∀ (n : Nat) (s : σ), I s → μ s < n → Q (loopC step bk n s)
  | 0, s, _, h => absurd h (Nat.not_lt_zero _)
  | n + 1, s, hI, h => by
    rw [loopC_succ]
    exact hstep s hI _ fun s' h1 h2 => loopC_ex Q I μ hstep n s' h1 (by omega)
theorem min_mem (l : List Int) (h : l ≠ []) (hl : l.length ≤ 140737488355328) : ∃ v ∈ l, m_slices_Min___int_int l = some v := by
  have h0 : 0 < l.length := List.length_pos_iff.2 h
  unfold m_slices_Min___int_int
  rw [decide_eq_false (by omega), cond_false, show (0 : Int) = ((0 : Nat) : Int) from rfl, ix_nat h0, bd_some]
  refine loopC_ex (fun o => ∃ v ∈ l, o = some v) (fun st : Int × Int => st.1 ∈ l ∧ ∃ j : Nat, st.2 = (j : Int) ∧ j ≤ l.length) (fun st : Int × Int => ((l.length : Int) - st.2).toNat) ?_ _ _ ⟨List.getElem_mem h0, 1, rfl, h0⟩ (big_lt (by simp only; omega))
  rintro ⟨m, _⟩ ⟨hm, j, rfl, hj⟩ nx hnx
  rw [s_slices_Min___int_int1]
  dsimp only at hm hnx ⊢
  by_cases hlt : j < l.length
  · rw [decide_eq_true (by omega), cond_true, ix_nat hlt, bd_some, w64s (by omega)]
    refine hnx _ ⟨?_, j + 1, rfl, hlt⟩ (by simp only; omega)
    dsimp only
    split
    · exact List.getElem_mem hlt
    · exact hm
  · rw [decide_eq_false (by omega), cond_false]
    exact ⟨m, hm, rfl⟩
theorem max_mem (l : List Int) (h : l ≠ []) (hl : l.length ≤ 140737488355328) : ∃ v ∈ l, m_slices_Max___int_int l = some v := by
  have h0 : 0 < l.length := List.length_pos_iff.2 h
  unfold m_slices_Max___int_int
  rw [decide_eq_false (by omega), cond_false, show (0 : Int) = ((0 : Nat) : Int) from rfl, ix_nat h0, bd_some]
  refine loopC_ex (fun o => ∃ v ∈ l, o = some v) (fun st : Int × Int => st.1 ∈ l ∧ ∃ j : Nat, st.2 = (j : Int) ∧ j ≤ l.length) (fun st : Int × Int => ((l.length : Int) - st.2).toNat) ?_ _ _ ⟨List.getElem_mem h0, 1, rfl, h0⟩ (big_lt (by simp only; omega))
  rintro ⟨m, _⟩ ⟨hm, j, rfl, hj⟩ nx hnx
  rw [s_slices_Max___int_int1]
  dsimp only at hm hnx ⊢
  by_cases hlt : j < l.length
  · rw [decide_eq_true (by omega), cond_true, ix_nat hlt, bd_some, w64s (by omega)]
    refine hnx _ ⟨?_, j + 1, rfl, hlt⟩ (by simp only; omega)
    dsimp only
    split
    · exact List.getElem_mem hlt
    · exact hm
  · rw [decide_eq_false (by omega), cond_false]
    exact ⟨m, hm, rfl⟩
/-- Lists that are few. -/
structure FewC (c : Conf) : Prop where
  own : c.Own.length ≤ 1000
  sides : c.Sides.length ≤ 1000
  ins : ∀ s ∈ c.Sides, s.In.length ≤ 1000
  outs : ∀ s ∈ c.Sides, s.Out.length ≤ 1000
/-- What a class's preferences are, over all sides. -/
def lowL (c : Conf) (cl : Int) : List Int := c.Sides.flatMap fun s => if s.Rel = cl then prefL (reach cl s.In) else []
theorem prefL_le (l : List Rule) : (prefL l).length ≤ l.length := by
  unfold prefL
  rw [List.length_map]
  exact List.length_filter_le _ _
theorem walkA_low {R : Type} (cl : Int) (e : List Int → R) : ∀ (l : List Side) (i : Nat) (b : List Int),
    walkA (fun _ (s : Side) nx b => bif decide (s.Rel = cl) then nx (b ++ prefL (reach cl s.In)) else nx b) e i l b = e (b ++ l.flatMap fun s => if s.Rel = cl then prefL (reach cl s.In) else [])
  | [], _, b => by rw [walkA]; simp
  | x :: xs, i, b => by
    rw [walkA, List.flatMap_cons]
    by_cases h : x.Rel = cl
    · rw [decide_eq_true h, cond_true, if_pos h, walkA_low cl e xs, List.append_assoc]
    · rw [decide_eq_false h, cond_false, if_neg h, walkA_low cl e xs, List.nil_append]
theorem riseLow_loop (c : Conf) (cl : Int) (f : FewC c) (bk : List Int → Option (Int × Bool)) : loopC (s_rise_Low1 c cl) bk BIG ([], (0 : Int)) = bk (lowL c cl) := by
  have hs := f.sides
  rw [loop_acc c.Sides (fun _ (s : Side) nx b => bif decide (s.Rel = cl) then nx (b ++ prefL (reach cl s.In)) else nx b) bk [] (fun i b => b.length ≤ i * 1000) (by simp) (by omega) ?_ ?_]
  · exact walkA_low cl bk c.Sides 0 []
  · intro i h b nx nx' hb hnx go hgo
    rw [s_rise_Low1]
    dsimp only
    rw [decide_eq_true (by omega), cond_true, ix_nat h, bd_some]
    have hin := f.ins _ (List.getElem_mem h)
    have h1 := reach_le cl c.Sides[i].In
    have h2 := prefL_le (reach cl c.Sides[i].In)
    have hap : ap 8 b (prefL (reach cl c.Sides[i].In)) = some (b ++ prefL (reach cl c.Sides[i].In)) := ap_some (by omega) (by omega)
    rw [risePrefs_eq _ _ (by omega), bd_some, hap, bd_some, hgo, hgo, hnx b (by omega), hnx _ (by rw [List.length_append]; omega)]
  · intro b nx hb
    rw [s_rise_Low1]
    dsimp only
    rw [decide_eq_false (by omega), cond_false]
theorem lowL_le (cl : Int) : ∀ l : List Side, (∀ s ∈ l, s.In.length ≤ 1000) → (l.flatMap fun s => if s.Rel = cl then prefL (reach cl s.In) else []).length ≤ l.length * 1000
  | [], _ => by simp
  | x :: xs, h => by
    have h1 := reach_le cl x.In
    have h2 := prefL_le (reach cl x.In)
    have h3 := lowL_le cl xs fun s hs => h s (List.mem_cons_of_mem _ hs)
    have h4 := h x (by simp)
    rw [List.flatMap_cons, List.length_append, List.length_cons]
    split
    · omega
    · rw [List.length_nil]; omega
/-- The least preference. -/
theorem riseLow_ex (c : Conf) (cl : Int) (f : FewC c) : ∃ v ok, m_rise_Low c cl = some (v, ok) ∧ (ok = true → cl ≠ 0 → v ∈ lowL c cl) ∧ (cl = 0 → v = 400) := by
  unfold m_rise_Low
  by_cases h : cl = 0
  · rw [decide_eq_true h, cond_true]
    exact ⟨400, true, rfl, fun _ k => absurd h k, fun _ => rfl⟩
  · rw [decide_eq_false h, cond_false, riseLow_loop c cl f]
    by_cases hn : lowL c cl = []
    · rw [hn]
      exact ⟨0, false, rfl, fun k => Bool.noConfusion k, fun k => absurd k h⟩
    · have hle : (lowL c cl).length ≤ 140737488355328 := by
        have := lowL_le cl c.Sides f.ins
        have := f.sides
        unfold lowL
        omega
      obtain ⟨v, hv, e⟩ := min_mem _ hn hle
      rw [decide_eq_false (by have := List.length_pos_iff.2 hn; omega), cond_false, e, bd_some]
      exact ⟨v, true, rfl, fun _ _ => hv, fun k => absurd k h⟩
theorem tells_idx (l : List Rule) (hl : l.length ≤ 140737488355328) : m_slices_ContainsFunc___api_Rule_api_Rule_s1 l = some (l.any fun x => decide (¬ x.Act = 0)) := by
  unfold m_slices_ContainsFunc___api_Rule_api_Rule_s1 m_slices_IndexFunc___api_Rule_api_Rule_s1
  rw [loop_idx l (fun i x r => bif decide (¬ x.Act = 0) then some (i : Int) else r) (some (-1 : Int)) hl ?_ ?_, walk_find (fun x : Rule => decide (¬ x.Act = 0)) some, bd_some, findN_any]
  · intro i h nx
    rw [s_slices_IndexFunc___api_Rule_api_Rule_s11, decide_eq_true (by omega), cond_true, ix_nat h, bd_some, m_rise_Tells_1, bd_some]
  · intro nx
    rw [s_slices_IndexFunc___api_Rule_api_Rule_s11, decide_eq_false (by omega), cond_false]
theorem riseTells_eq (c : Conf) (k : Nat) (cl : Int) (h : k < c.Sides.length) (f : FewC c) : m_rise_Tells c k cl = some ((reach cl c.Sides[k].Out).any fun x => decide (¬ x.Act = 0)) := by
  unfold m_rise_Tells
  have ho := f.outs _ (List.getElem_mem h)
  have := reach_le cl c.Sides[k].Out
  rw [decide_eq_false (by omega), cond_false, decide_eq_false (by omega), cond_false, ix_nat h, bd_some, polReach_eq _ _ (by omega), bd_some, tells_idx _ (by omega), bd_some]
theorem riseHigh_ex (c : Conf) (k : Nat) (h : k < c.Sides.length) (f : FewC c) : ∃ v ok, m_rise_High c k = some (v, ok) ∧ (ok = true → v ∈ prefL (reach c.Sides[k].Rel c.Sides[k].In)) := by
  unfold m_rise_High
  have ho := f.ins _ (List.getElem_mem h)
  have h1 := reach_le c.Sides[k].Rel c.Sides[k].In
  have h2 := prefL_le (reach c.Sides[k].Rel c.Sides[k].In)
  rw [decide_eq_false (by omega), cond_false, decide_eq_false (by omega), cond_false, ix_nat h, bd_some, bd_some, risePrefs_eq _ _ (by omega), bd_some]
  by_cases hn : prefL (reach c.Sides[k].Rel c.Sides[k].In) = []
  · rw [hn]
    exact ⟨0, false, rfl, fun k => nomatch k⟩
  · obtain ⟨v, hv, e⟩ := max_mem _ hn (by omega)
    rw [decide_eq_false (by have := List.length_pos_iff.2 hn; omega), cond_false, e, bd_some]
    exact ⟨v, true, rfl, fun _ => hv⟩
end Go.Proofs.Ytpclfdndjillnaa
namespace Go.Proofs.Ytpclfdndjillnaa
open Go.RowKit
set_option linter.unusedVariables false
set_option linter.unusedSimpArgs false
set_option maxRecDepth 100000
set_option maxHeartbeats 1000000

def Tot {α : Type} (o : Option α) : Prop := ∃ b, o = some b
theorem tot_some {α : Type} (b : α) : Tot (some b) := ⟨b, rfl⟩
theorem tot_bd {α β : Type} {m : Option α} {k : α → Option β} (h : Tot m) (h2 : ∀ x, Tot (k x)) : Tot (bd m k) := by
  obtain ⟨x, rfl⟩ := h
  rw [bd_some]
  exact h2 x
theorem tot_bif {α : Type} {c : Bool} {A B : Option α} (h1 : Tot A) (h2 : Tot B) : Tot (bif c then A else B) := by
  cases c
  · exact h2
  · exact h1
theorem tot_idx {ε R : Type} {step : Int → (Int → Option R) → (ε → Option R) → Option R} {bk : ε → Option R} (n : Nat) (hl : n ≤ 140737488355328)
    (hs : ∀ (i : Nat), i < n → ∀ nx : Int → Option R, Tot (nx (IntKind.i64.wrap ((i : Int) + 1))) → Tot (step (i : Int) nx bk)) (he : ∀ nx, Tot (step (n : Int) nx bk)) : Tot (loopC step bk BIG 0) := by
  refine loopC_ex (fun o => Tot o) (fun st : Int => ∃ j : Nat, st = (j : Int) ∧ j ≤ n) (fun st : Int => ((n : Int) - st).toNat) ?_ _ _ ⟨0, rfl, Nat.zero_le _⟩ (big_lt (by omega))
  rintro _ ⟨j, rfl, hj⟩ nx hnx
  by_cases hlt : j < n
  · exact hs j hlt nx (hnx _ ⟨j + 1, w64s (by omega), hlt⟩ (by rw [w64s (by omega)]; omega))
  · obtain rfl : j = n := by omega
    exact he nx
theorem tot_number (n : Int) : Tot (m_conf_saneNumber n) := tot_bif (tot_some _) (tot_some _)
theorem tot_hold (n : Int) : Tot (m_conf_saneHold n) := tot_bif (tot_some _) (tot_bif (tot_some _) (tot_some _))
theorem tot_cap (n : Int) : Tot (m_conf_saneCap n) := tot_bif (tot_some _) (tot_some _)
theorem tot_mask (a n : Int) : Tot (m_prefix_Mask a n) := by
  unfold m_prefix_Mask
  have h : 0 ≤ IntKind.i64.wrap ((32 : Int) - (if (32 : Int) < (if (0 : Int) > n then (0 : Int) else n) then (32 : Int) else (if (0 : Int) > n then (0 : Int) else n))) := by
    rw [w64] <;> (split <;> split <;> omega)
  rw [nn_some h, nn_some h]
  exact tot_some _
theorem tot_prefix (x : Prefix) : Tot (m_prefix_Sane x) :=
  tot_bif (tot_bif (tot_bd (tot_mask _ _) fun _ => tot_some _) (tot_some _)) (tot_some _)
theorem tot_match (x : Rule) (b : Bool) : Tot (m_policy_saneMatch x b) := by
  unfold m_policy_saneMatch
  repeat' first | exact tot_some _ | refine tot_bif ?_ ?_ | refine tot_bd (tot_prefix _) fun _ => ?_
theorem tot_act (x : Rule) (b : Bool) : Tot (m_policy_saneAct x b) := by
  unfold m_policy_saneAct
  repeat' first | exact tot_some _ | refine tot_bif ?_ ?_
theorem tot_rule (x : Rule) (b : Bool) : Tot (m_policy_Sane x b) :=
  tot_bd (tot_match _ _) fun _ => tot_bif (tot_bd (tot_act _ _) fun _ => tot_some _) (tot_some _)
theorem tot_rules (l : List Rule) (b : Bool) (hl : l.length ≤ 140737488355328) : Tot (m_conf_saneRules l b) := by
  unfold m_conf_saneRules
  refine tot_bif (tot_some _) (tot_idx l.length hl ?_ ?_)
  · intro i h nx hnx
    rw [s_conf_saneRules1, decide_eq_true (by omega), cond_true, ix_nat h, bd_some]
    exact tot_bd (tot_rule _ _) fun _ => tot_bif (tot_some _) hnx
  · intro nx
    rw [s_conf_saneRules1, decide_eq_false (by omega), cond_false]
    exact tot_some _
theorem tot_contains (l : List Prefix) (x : Prefix) (hl : l.length ≤ 140737488355328) : Tot (m_slices_Contains___api_Prefix_api_Prefix l x) := by
  unfold m_slices_Contains___api_Prefix_api_Prefix m_slices_Index___api_Prefix_api_Prefix
  refine tot_bd (tot_idx l.length hl ?_ ?_) fun _ => tot_some _
  · intro i h nx hnx
    rw [s_slices_Index___api_Prefix_api_Prefix1, decide_eq_true (by omega), cond_true, ix_nat h, bd_some]
    exact tot_bif (tot_some _) hnx
  · intro nx
    rw [s_slices_Index___api_Prefix_api_Prefix1, decide_eq_false (by omega), cond_false]
    exact tot_some _
theorem tot_own (l : List Prefix) (hl : l.length ≤ 140737488355328) : Tot (m_conf_saneOwn l) := by
  unfold m_conf_saneOwn
  refine tot_bif (tot_some _) (tot_idx l.length hl ?_ ?_)
  · intro i h nx hnx
    rw [s_conf_saneOwn1, decide_eq_true (by omega), cond_true, ix_nat h, bd_some, sl_pre (by omega), bd_some]
    exact tot_bd (tot_prefix _) fun _ => tot_bif (tot_some _) (tot_bd (tot_contains _ _ (by rw [List.length_take]; omega)) fun _ => tot_bif (tot_some _) hnx)
  · intro nx
    rw [s_conf_saneOwn1, decide_eq_false (by omega), cond_false]
    exact tot_some _
/-- Whether an AS is taken. -/
def takenB (a : Int) (l : List Side) (n : Int) : Bool := decide (n = a) || l.any fun s => decide (s.As = n)
theorem taken_eq (a : Int) (l : List Side) (n : Int) (hl : l.length ≤ 140737488355328) : m_conf_taken a l n = some (takenB a l n) := by
  unfold m_conf_taken takenB
  by_cases h : n = a
  · rw [decide_eq_true h]; rfl
  · rw [decide_eq_false h, cond_false, Bool.false_or, jn_eq, loop_idx l (fun i x r => bif decide (x.As = n) then (fun i1 : Int => some (decide (i1 ≥ (0 : Int)))) (i : Int) else r) (some (decide ((-1 : Int) ≥ 0))) hl ?_ ?_]
    · rw [← findN_any (fun s : Side => decide (s.As = n)) l 0]
      exact walk_find (fun s : Side => decide (s.As = n)) (fun i1 : Int => some (decide (i1 ≥ (0 : Int)))) l 0
    · intro i h nx
      rw [s_conf_taken1, decide_eq_true (by omega), cond_true, ix_nat h, bd_some]
    · intro nx
      rw [s_conf_taken1, decide_eq_false (by omega), cond_false]
/-- A side that may be. -/
def okSide (a : Int) (before : List Side) (s : Side) : Prop :=
  m_conf_saneNumber s.As = some true ∧ takenB a before s.As = false ∧ (1 ≤ s.Rel ∧ s.Rel ≤ 3) ∧ m_conf_saneRules s.In true = some true ∧ m_conf_saneRules s.Out false = some true
theorem sides_step (c : Conf) (i : Nat) (h : i < c.Sides.length) (f : FewC c) (nx : Int → Option Bool) (bk : Unit → Option Bool) :
    (okSide c.As (c.Sides.take i) c.Sides[i] ∧ s_conf_saneSides1 c i nx bk = nx (IntKind.i64.wrap ((i : Int) + 1))) ∨ (¬ okSide c.As (c.Sides.take i) c.Sides[i] ∧ s_conf_saneSides1 c i nx bk = some false) := by
  have hs := f.sides
  rw [s_conf_saneSides1, decide_eq_true (by omega), cond_true, ix_nat h, bd_some, sl_pre (by omega), bd_some, taken_eq _ _ _ (by rw [List.length_take]; omega), bd_some, Int.toNat_natCast]
  unfold okSide
  obtain ⟨b1, e1⟩ := tot_number c.Sides[i].As
  obtain ⟨b2, e2⟩ := tot_rules c.Sides[i].In true (by have := f.ins _ (List.getElem_mem h); omega)
  obtain ⟨b3, e3⟩ := tot_rules c.Sides[i].Out false (by have := f.outs _ (List.getElem_mem h); omega)
  rw [e1, e2, e3, bd_some, bd_some, bd_some]
  cases b1 with
  | false => exact .inr ⟨fun k => Bool.noConfusion (Option.some.inj k.1), rfl⟩
  | true =>
    cases ht : takenB c.As (c.Sides.take i) c.Sides[i].As with
    | true => exact .inr ⟨fun k => Bool.noConfusion k.2.1, rfl⟩
    | false =>
      by_cases h1 : c.Sides[i].Rel < 1
      · rw [decide_eq_true h1]
        exact .inr ⟨fun k => by omega, rfl⟩
      by_cases h2 : c.Sides[i].Rel > 3
      · rw [decide_eq_true h2, decide_eq_false h1]
        exact .inr ⟨fun k => by omega, rfl⟩
      rw [decide_eq_false h1, decide_eq_false h2]
      cases b2 with
      | false => exact .inr ⟨fun k => Bool.noConfusion (Option.some.inj k.2.2.2.1), rfl⟩
      | true =>
        cases b3 with
        | false => exact .inr ⟨fun k => Bool.noConfusion (Option.some.inj k.2.2.2.2), rfl⟩
        | true => exact .inl ⟨⟨rfl, rfl, by omega, rfl, rfl⟩, rfl⟩
theorem saneSides_iff (c : Conf) (f : FewC c) : ∃ b, m_conf_saneSides c = some b ∧ (b = true ↔ c.Sides.length ≤ 8 ∧ ∀ i (h : i < c.Sides.length), okSide c.As (c.Sides.take i) c.Sides[i]) := by
  have hs := f.sides
  unfold m_conf_saneSides
  by_cases h8 : (c.Sides.length : Int) > 8
  · rw [decide_eq_true h8, cond_true]
    exact ⟨false, rfl, fun k => Bool.noConfusion k, fun k => by omega⟩
  · rw [decide_eq_false h8, cond_false]
    refine loopC_ex (fun o => ∃ b, o = some b ∧ (b = true ↔ c.Sides.length ≤ 8 ∧ ∀ i (h : i < c.Sides.length), okSide c.As (c.Sides.take i) c.Sides[i])) (fun st : Int => ∃ j : Nat, st = (j : Int) ∧ j ≤ c.Sides.length ∧ ∀ i (h : i < c.Sides.length), i < j → okSide c.As (c.Sides.take i) c.Sides[i]) (fun st : Int => ((c.Sides.length : Int) - st).toNat) ?_ _ _ ⟨0, rfl, Nat.zero_le _, fun _ _ h => by omega⟩ (big_lt (by omega))
    rintro _ ⟨j, rfl, hj, hok⟩ nx hnx
    by_cases hlt : j < c.Sides.length
    · rcases sides_step c j hlt f nx _ with ⟨h1, h2⟩ | ⟨h1, h2⟩
      · rw [h2]
        refine hnx _ ⟨j + 1, w64s (by omega), hlt, fun i h hi => ?_⟩ (by rw [w64s (by omega)]; omega)
        rcases Nat.lt_succ_iff_lt_or_eq.1 hi with g | rfl
        · exact hok i h g
        · exact h1
      · rw [h2]
        exact ⟨false, rfl, fun k => Bool.noConfusion k, fun k => absurd (k.2 j hlt) h1⟩
    · rw [s_conf_saneSides1, decide_eq_false (by omega), cond_false]
      exact ⟨true, rfl, fun _ => ⟨by omega, fun i h => hok i h (by omega)⟩, fun _ => rfl⟩
end Go.Proofs.Ytpclfdndjillnaa
namespace Go.Proofs.Ytpclfdndjillnaa
open Go.RowKit
set_option linter.unusedVariables false
set_option linter.unusedSimpArgs false
set_option maxRecDepth 100000
set_option maxHeartbeats 1000000

theorem law15_awake : m_ridgewaylaw15_awake = some true := by kernel_rfl
theorem w64b {i : Nat} (h : i < 9223372036854775807) : IntKind.i64.wrap ((i : Int) + 1) = ((i + 1 : Nat) : Int) := by
  rw [w64 (by omega) (by omega)]
  rfl
theorem few_ex (c : Conf) (hl : c.Sides.length ≤ 9223372036854775807) : ∃ b, m_ridgewayref12_Few c = some b ∧ (b = true → FewC c) := by
  unfold m_ridgewayref12_Few
  refine loopC_ex (fun o => ∃ b, o = some b ∧ (b = true → FewC c)) (fun st : Int => ∃ j : Nat, st = (j : Int) ∧ j ≤ c.Sides.length ∧ ∀ i (h : i < c.Sides.length), i < j → c.Sides[i].In.length ≤ 20 ∧ c.Sides[i].Out.length ≤ 20) (fun st : Int => ((c.Sides.length : Int) - st).toNat) ?_ _ _ ⟨0, rfl, Nat.zero_le _, fun _ _ h => by omega⟩ (big_lt (by omega))
  rintro _ ⟨j, rfl, hj, hok⟩ nx hnx
  rw [s_ridgewayref12_Few1]
  by_cases hlt : j < c.Sides.length
  · rw [decide_eq_true (by omega), cond_true, ix_nat hlt, bd_some]
    by_cases h1 : (c.Sides[j].In.length : Int) > 20
    · rw [decide_eq_true h1, cond_true]
      exact ⟨false, rfl, fun k => Bool.noConfusion k⟩
    rw [decide_eq_false h1, cond_false, bd_some]
    by_cases h2 : (c.Sides[j].Out.length : Int) > 20
    · rw [decide_eq_true h2, cond_true]
      exact ⟨false, rfl, fun k => Bool.noConfusion k⟩
    rw [decide_eq_false h2, cond_false]
    refine hnx _ ⟨j + 1, w64b (by omega), hlt, fun i h hi => ?_⟩ (by rw [w64b (by omega)]; omega)
    rcases Nat.lt_succ_iff_lt_or_eq.1 hi with g | rfl
    · exact hok i h g
    · exact ⟨by omega, by omega⟩
  · rw [decide_eq_false (by omega), cond_false]
    by_cases h1 : (c.Own.length : Int) ≤ 20
    · rw [decide_eq_true h1, cond_true]
      refine ⟨_, rfl, fun k => ?_⟩
      have k := of_decide_eq_true k
      refine ⟨by omega, by omega, fun s hs => ?_, fun s hs => ?_⟩
      · obtain ⟨i, h, rfl⟩ := List.getElem_of_mem hs
        have := hok i h (by omega)
        omega
      · obtain ⟨i, h, rfl⟩ := List.getElem_of_mem hs
        have := hok i h (by omega)
        omega
    · rw [decide_eq_false h1, cond_false]
      exact ⟨false, rfl, fun k => Bool.noConfusion k⟩
/-- A configuration that may be. -/
def okConf (c : Conf) : Prop :=
  (m_conf_saneNumber c.As = some true ∧ m_conf_saneNumber c.Id = some true ∧ m_conf_saneHold c.Hold = some true ∧ m_conf_saneCap c.Cap = some true ∧ m_conf_saneOwn c.Own = some true) ∧ c.Sides.length ≤ 8 ∧ ∀ i (h : i < c.Sides.length), okSide c.As (c.Sides.take i) c.Sides[i]
theorem confSane_iff (c : Conf) (f : FewC c) : ∃ b, m_conf_Sane c = some b ∧ (b = true ↔ okConf c) := by
  unfold m_conf_Sane okConf
  obtain ⟨b1, e1⟩ := tot_number c.As
  obtain ⟨b2, e2⟩ := tot_number c.Id
  obtain ⟨b3, e3⟩ := tot_hold c.Hold
  obtain ⟨b4, e4⟩ := tot_cap c.Cap
  obtain ⟨b5, e5⟩ := tot_own c.Own (by have := f.own; omega)
  obtain ⟨b6, e6, h6⟩ := saneSides_iff c f
  rw [e1, e2, e3, e4, e5, e6, ← h6]
  refine ⟨b1 && (b2 && (b3 && (b4 && (b5 && b6)))), ?_, ?_⟩
  · cases b1 <;> cases b2 <;> cases b3 <;> cases b4 <;> cases b5 <;> cases b6 <;> simp only [bd_some, cond_true, cond_false, Bool.true_and, Bool.false_and]
  · simp only [Option.some.injEq, Bool.and_eq_true, and_assoc]
/-- What is better to the other. -/
def betterB (a b : Conf) (cl : Int) : Prop := ∃ low high, m_rise_Low a cl = some (low, true) ∧ m_rise_High b (if (0 : Int) > sideOf b a.As then 0 else sideOf b a.As) = some (high, true) ∧
  m_rise_Tells a (if (0 : Int) > sideOf a b.As then 0 else sideOf a b.As) cl = some true ∧ high > low
theorem sideOf_lt (c : Conf) (n : Int) : sideOf c n < c.Sides.length := by
  have := (findN_lt (fun s : Side => decide (s.As = n)) c.Sides 0).1
  unfold sideOf
  omega
theorem riseRises_ex (a b : Conf) (fa : FewC a) (fb : FewC b) : ∃ v, m_rise_Rises a b = some v ∧ (v = true → (0 ≤ sideOf a b.As ∧ 0 ≤ sideOf b a.As ∧ okConf a ∧ okConf b)) ∧
    ((0 ≤ sideOf a b.As ∧ 0 ≤ sideOf b a.As ∧ okConf a ∧ okConf b) → (∀ cl, ¬ betterB a b cl) → v = true) := by
  unfold m_rise_Rises
  have hsa := fa.sides
  have hsb := fb.sides
  rw [riseSide_eq _ _ (by omega), bd_some, riseSide_eq _ _ (by omega), bd_some]
  dsimp only
  by_cases h1 : sideOf a b.As ≥ 0
  rotate_left
  · rw [decide_eq_false h1]
    exact ⟨false, rfl, fun k => Bool.noConfusion k, fun k _ => absurd k.1 h1⟩
  by_cases h2 : sideOf b a.As ≥ 0
  rotate_left
  · rw [decide_eq_true h1, decide_eq_false h2]
    exact ⟨false, rfl, fun k => Bool.noConfusion k, fun k _ => absurd k.2.1 h2⟩
  rw [decide_eq_true h1, decide_eq_true h2, Bool.not_true, cond_false, cond_false]
  obtain ⟨b3, e3, i3⟩ := confSane_iff a fa
  obtain ⟨b4, e4, i4⟩ := confSane_iff b fb
  rw [e3, bd_some]
  cases b3 with
  | false => exact ⟨false, rfl, fun k => Bool.noConfusion k, fun k _ => i3.2 k.2.2.1⟩
  | true =>
  rw [Bool.not_true, cond_false, e4, bd_some]
  cases b4 with
  | false => exact ⟨false, rfl, fun k => Bool.noConfusion k, fun k _ => i4.2 k.2.2.2⟩
  | true =>
  rw [Bool.not_true, cond_false]
  have ka := sideOf_lt a b.As
  have kb := sideOf_lt b a.As
  obtain ⟨j, hj⟩ := Int.eq_ofNat_of_zero_le h1
  obtain ⟨k, hk⟩ := Int.eq_ofNat_of_zero_le h2
  have ej : (if (0 : Int) > sideOf a b.As then 0 else sideOf a b.As) = (j : Int) := by rw [if_neg (by omega)]; exact hj
  have ek : (if (0 : Int) > sideOf b a.As then 0 else sideOf b a.As) = (k : Int) := by rw [if_neg (by omega)]; exact hk
  rw [ej, ek]
  obtain ⟨high, takes, eh, _⟩ := riseHigh_ex b k (by omega) fb
  rw [eh, bd_some, jn_eq]
  refine (?_ : ∃ v, loopC _ _ BIG _ = some v ∧ ((v = true → _) ∧ (_ → _ → v = true)))
  refine loopC_ex (fun o => ∃ v, o = some v ∧ ((v = true → (0 ≤ sideOf a b.As ∧ 0 ≤ sideOf b a.As ∧ okConf a ∧ okConf b)) ∧ ((0 ≤ sideOf a b.As ∧ 0 ≤ sideOf b a.As ∧ okConf a ∧ okConf b) → (∀ cl, ¬ betterB a b cl) → v = true))) (fun st : Int × Bool => st.2 = takes ∧ ∃ i : Nat, st.1 = (i : Int) ∧ i ≤ 4) (fun st : Int × Bool => ((4 : Int) - st.1).toNat) ?_ _ _ ⟨rfl, 0, rfl, by omega⟩ (big_lt (by simp))
  rintro ⟨_, takes⟩ ⟨rfl, i, rfl, hi⟩ nx hnx
  have all : ∀ v : Bool, v = true → (0 ≤ sideOf a b.As ∧ 0 ≤ sideOf b a.As ∧ okConf a ∧ okConf b) := fun _ _ => ⟨h1, h2, i3.1 rfl, i4.1 rfl⟩
  rw [s_rise_Rises1]
  dsimp only at hnx ⊢
  by_cases hlt : i < 4
  · rw [decide_eq_true (by simp; omega), cond_true, ix_nat (by simpa using hlt), bd_some, jn_eq]
    generalize hcl : ([(0 : Int), 1, 2, 3] : List Int)[i] = cl
    obtain ⟨low, has, el, _⟩ := riseLow_ex a cl fa
    have go : ∀ b', (fun i3 : Bool × Bool => bif i3.1 then some (!decide ((i : Int) ≥ 0)) else nx (IntKind.i64.wrap ((i : Int) + 1), i3.2)) (false, b') = nx (IntKind.i64.wrap ((i : Int) + 1), b') := fun _ => rfl
    have st := hnx (IntKind.i64.wrap ((i : Int) + 1), takes) ⟨rfl, i + 1, w64s (by omega), hlt⟩ (by rw [w64s (by omega)]; omega)
    rw [el, bd_some, riseTells_eq a j cl (by omega) fa, bd_some]
    cases has with
    | false => exact st
    | true =>
    cases takes with
    | false => exact st
    | true =>
    cases ht : (reach cl a.Sides[j].Out).any fun x => decide (¬ x.Act = 0) with
    | false => exact st
    | true =>
    by_cases hg : high > low
    · rw [decide_eq_true hg]
      refine ⟨false, ?_, fun q => Bool.noConfusion q, fun _ q => ?_⟩
      · show some (!decide ((i : Int) ≥ 0)) = some false
        rw [decide_eq_true (by omega)]
        rfl
      · refine absurd ⟨low, high, el, ?_, ?_, hg⟩ (q cl)
        · rw [ek]; exact eh
        · rw [ej, riseTells_eq a j cl (by omega) fa, ht]
    · rw [decide_eq_false hg]
      exact st
  · rw [decide_eq_false (by simp; omega), cond_false]
    exact ⟨true, rfl, all true, fun _ _ => rfl⟩
end Go.Proofs.Ytpclfdndjillnaa
namespace Go.Proofs.Ytpclfdndjillnaa
open Go.RowKit
set_option linter.unusedVariables false
set_option linter.unusedSimpArgs false
set_option maxRecDepth 100000
set_option maxHeartbeats 1000000

theorem an_some {α : Type} {b : Nat} {ys : List α} (h1 : 0 < ys.length) (h : ys.length * b ≤ 140737488355328) (h2 : ys.length ≤ 140737488355328) : an b ys = some ys := by
  rw [an_eq, if_pos ⟨h1, h, by unfold maxLen; omega⟩]
theorem map_set_same {α β : Type} (p : α → β) (l : List α) (j : Nat) (h : j < l.length) (x : α) (e : p x = p l[j]) : (l.set j x).map p = l.map p := by
  rw [List.map_set, e]
  apply List.ext_getElem (by simp)
  intro i h1 h2
  rw [List.getElem_set]
  split
  · subst_vars; simp
  · rfl
theorem findN_map {α : Type} (p : α → Bool) : ∀ (l : List α) (i : Nat), findN p i l = findN (fun x => x) i (l.map p)
  | [], _ => rfl
  | x :: xs, i => by rw [findN, List.map_cons, findN, findN_map p xs]
theorem sideOf_congr {c a : Conf} (h : c.Sides.map (·.As) = a.Sides.map (·.As)) (n : Int) : sideOf c n = sideOf a n := by
  unfold sideOf
  rw [findN_map, findN_map (l := a.Sides)]
  have : ∀ l : List Side, l.map (fun s : Side => decide (s.As = n)) = (l.map (·.As)).map fun x => decide (x = n) := fun l => by rw [List.map_map]; rfl
  rw [this, this, h]
theorem takenB_congr {l l' : List Side} (h : l.map (·.As) = l'.map (·.As)) (a n : Int) : takenB a l n = takenB a l' n := by
  unfold takenB
  have : ∀ l : List Side, l.any (fun s : Side => decide (s.As = n)) = (l.map (·.As)).any fun x => decide (x = n) := fun l => by rw [List.any_map]; rfl
  rw [this, this, h]
theorem rules_all (l : List Rule) (b : Bool) (hl : l.length ≤ 1000) (h : m_conf_saneRules l b = some true) : ∀ x ∈ l, m_policy_Sane x b = some true := by
  unfold m_conf_saneRules at h
  by_cases h8 : (l.length : Int) > 8
  · rw [decide_eq_true h8, cond_true] at h
    cases h
  rw [decide_eq_false h8, cond_false] at h
  have key : ∀ bk : Unit → Option Bool, bk = (fun _ => some true) → loopC (s_conf_saneRules1 l b) bk BIG 0 = some true → ∀ i (h : i < l.length), m_policy_Sane l[i] b = some true := by
    intro bk _
    refine loopC_ex (fun o => o = some true → ∀ i (h : i < l.length), m_policy_Sane l[i] b = some true) (fun st : Int => ∃ j : Nat, st = (j : Int) ∧ j ≤ l.length ∧ ∀ i (h : i < l.length), i < j → m_policy_Sane l[i] b = some true) (fun st : Int => ((l.length : Int) - st).toNat) ?_ _ _ ⟨0, rfl, Nat.zero_le _, fun _ _ h => by omega⟩ (big_lt (by omega))
    rintro _ ⟨j, rfl, hj, hok⟩ nx hnx
    rw [s_conf_saneRules1]
    by_cases hlt : j < l.length
    · rw [decide_eq_true (by omega), cond_true, ix_nat hlt, bd_some]
      obtain ⟨v, e⟩ := tot_rule l[j] b
      rw [e, bd_some]
      cases v with
      | false => intro k; cases k
      | true =>
        refine hnx _ ⟨j + 1, w64s (by omega), hlt, fun i h hi => ?_⟩ (by rw [w64s (by omega)]; omega)
        rcases Nat.lt_succ_iff_lt_or_eq.1 hi with g | rfl
        · exact hok i h g
        · exact e
    · intro _ i h
      exact hok i h (by omega)
  intro x hx
  obtain ⟨i, hi, rfl⟩ := List.getElem_of_mem hx
  exact key _ rfl h i hi
theorem pref_pos (x : Rule) (h : m_policy_Sane x true = some true) (ha : x.Act = 2) : 1 ≤ x.N := by
  unfold m_policy_Sane at h
  obtain ⟨v, e⟩ := tot_match x true
  rw [e, bd_some] at h
  cases v with
  | false => cases h
  | true =>
    rw [cond_true] at h
    unfold m_policy_saneAct at h
    rw [decide_eq_false (by omega), cond_false, decide_eq_false (by omega), cond_false, decide_eq_true ha, cond_true, cond_true] at h
    by_cases hn : x.N ≥ 1
    · exact hn
    · rw [decide_eq_false hn, cond_false, bd_some] at h
      cases h
theorem reach_sub (c : Int) : ∀ (l : List Rule) (x : Rule), x ∈ reach c l → x ∈ l
  | [], x, h => by simp [reach] at h
  | y :: ys, x, h => by
    rw [reach] at h
    split at h
    · exact List.mem_cons_of_mem _ (reach_sub c ys x h)
    · split at h
      · rw [List.mem_singleton] at h
        rw [h]
        exact List.mem_cons_self
      · rcases List.mem_cons.1 h with rfl | h
        · exact List.mem_cons_self
        · exact List.mem_cons_of_mem _ (reach_sub c ys x h)
theorem low_pos (c : Conf) (f : FewC c) (o : okConf c) (cl low : Int) (h : m_rise_Low c cl = some (low, true)) : 1 ≤ low := by
  obtain ⟨v, ok, e, h1, h2⟩ := riseLow_ex c cl f
  rw [e] at h
  cases h
  by_cases h0 : cl = 0
  · rw [h2 h0]; decide
  · have := h1 rfl h0
    unfold lowL at this
    rw [List.mem_flatMap] at this
    obtain ⟨s, hs, hv⟩ := this
    split at hv
    rotate_left
    · simp at hv
    unfold prefL at hv
    obtain ⟨x, hx, rfl⟩ := List.mem_map.1 hv
    obtain ⟨hx, ha⟩ := List.mem_filter.1 hx
    obtain ⟨i, hi, rfl⟩ := List.getElem_of_mem hs
    exact pref_pos x (rules_all _ true (f.ins _ hs) (o.2.2 i hi).2.2.2.1 x (reach_sub cl _ x hx)) (of_decide_eq_true ha)
/-- A side is changed, but not of whom it is. -/
def withSide (c : Conf) (j : Nat) (s : Side) : Conf := ⟨c.As, c.Id, c.Hold, c.Cap, c.Own, c.Sides.set j s⟩
theorem withSide_few (c : Conf) (j : Nat) (s : Side) (f : FewC c) (h1 : s.In.length ≤ 1000) (h2 : s.Out.length ≤ 1000) : FewC (withSide c j s) := by
  refine ⟨f.own, by simpa [withSide] using f.sides, fun x hx => ?_, fun x hx => ?_⟩
  · rcases List.mem_or_eq_of_mem_set hx with h | rfl
    · exact f.ins x h
    · exact h1
  · rcases List.mem_or_eq_of_mem_set hx with h | rfl
    · exact f.outs x h
    · exact h2
theorem withSide_as (c : Conf) (j : Nat) (s : Side) (h : j < c.Sides.length) (e : s.As = c.Sides[j].As) : (withSide c j s).Sides.map (·.As) = c.Sides.map (·.As) :=
  map_set_same (fun x : Side => x.As) c.Sides j h s e
theorem withSide_ok (c : Conf) (j : Nat) (s : Side) (h : j < c.Sides.length) (e : s.As = c.Sides[j].As) (hr : s.Rel = c.Sides[j].Rel) (o : okConf c) (hi : m_conf_saneRules s.In true = some true) (ho : m_conf_saneRules s.Out false = some true) : okConf (withSide c j s) := by
  refine ⟨o.1, by simpa [withSide] using o.2.1, fun i hlt => ?_⟩
  have hlt' : i < c.Sides.length := by simpa [withSide] using hlt
  have old := o.2.2 i hlt'
  have ht : takenB c.As ((withSide c j s).Sides.take i) = takenB c.As (c.Sides.take i) := funext fun n => takenB_congr (by rw [List.map_take, List.map_take, withSide_as c j s h e]) _ _
  suffices hh : ∀ y : Side, (y = if j = i then s else c.Sides[i]) → okSide c.As ((withSide c j s).Sides.take i) y from hh _ (List.getElem_set (by simpa using hlt'))
  intro y hy
  subst hy
  unfold okSide at old ⊢
  rw [ht]
  split
  · rename_i g
    subst g
    rw [e, hr]
    exact ⟨old.1, old.2.1, old.2.2.1, hi, ho⟩
  · exact old
end Go.Proofs.Ytpclfdndjillnaa
namespace Go.Proofs.Ytpclfdndjillnaa
open Go.RowKit
set_option linter.unusedVariables false
set_option linter.unusedSimpArgs false
set_option maxRecDepth 100000
set_option maxHeartbeats 1000000

theorem nth4 (i : Nat) (h : i < ([(0 : Int), 1, 2, 3] : List Int).length) : ([(0 : Int), 1, 2, 3] : List Int)[i] = (i : Int) := by
  simp at h
  have : i = 0 ∨ i = 1 ∨ i = 2 ∨ i = 3 := by omega
  rcases this with rfl | rfl | rfl | rfl <;> rfl
theorem rises_iff (a b : Conf) (fa : FewC a) (fb : FewC b) : ∃ v, m_rise_Rises a b = some v ∧ (v = true ↔ ((0 ≤ sideOf a b.As ∧ 0 ≤ sideOf b a.As ∧ okConf a ∧ okConf b) ∧ ∀ i : Nat, i < 4 → ¬ betterB a b (i : Int))) := by
  unfold m_rise_Rises
  have hsa := fa.sides
  have hsb := fb.sides
  rw [riseSide_eq _ _ (by omega), bd_some, riseSide_eq _ _ (by omega), bd_some]
  dsimp only
  by_cases h1 : sideOf a b.As ≥ 0
  rotate_left
  · rw [decide_eq_false h1]
    exact ⟨false, rfl, fun k => Bool.noConfusion k, fun k => absurd k.1.1 h1⟩
  by_cases h2 : sideOf b a.As ≥ 0
  rotate_left
  · rw [decide_eq_true h1, decide_eq_false h2]
    exact ⟨false, rfl, fun k => Bool.noConfusion k, fun k => absurd k.1.2.1 h2⟩
  rw [decide_eq_true h1, decide_eq_true h2, Bool.not_true, cond_false, cond_false]
  obtain ⟨b3, e3, i3⟩ := confSane_iff a fa
  obtain ⟨b4, e4, i4⟩ := confSane_iff b fb
  rw [e3, bd_some]
  cases b3 with
  | false => exact ⟨false, rfl, fun k => Bool.noConfusion k, fun k => i3.2 k.1.2.2.1⟩
  | true =>
  rw [Bool.not_true, cond_false, e4, bd_some]
  cases b4 with
  | false => exact ⟨false, rfl, fun k => Bool.noConfusion k, fun k => i4.2 k.1.2.2.2⟩
  | true =>
  rw [Bool.not_true, cond_false]
  have ka := sideOf_lt a b.As
  have kb := sideOf_lt b a.As
  obtain ⟨j, hj⟩ := Int.eq_ofNat_of_zero_le h1
  obtain ⟨k, hk⟩ := Int.eq_ofNat_of_zero_le h2
  have ej : (if (0 : Int) > sideOf a b.As then 0 else sideOf a b.As) = (j : Int) := by rw [if_neg (by omega)]; exact hj
  have ek : (if (0 : Int) > sideOf b a.As then 0 else sideOf b a.As) = (k : Int) := by rw [if_neg (by omega)]; exact hk
  rw [ej, ek]
  obtain ⟨high, takes, eh, _⟩ := riseHigh_ex b k (by omega) fb
  rw [eh, bd_some, jn_eq]
  refine (?_ : ∃ v, loopC _ _ BIG _ = some v ∧ (v = true ↔ _))
  refine loopC_ex (fun o => ∃ v, o = some v ∧ (v = true ↔ ((0 ≤ sideOf a b.As ∧ 0 ≤ sideOf b a.As ∧ okConf a ∧ okConf b) ∧ ∀ i : Nat, i < 4 → ¬ betterB a b (i : Int)))) (fun st : Int × Bool => st.2 = takes ∧ ∃ i : Nat, st.1 = (i : Int) ∧ i ≤ 4 ∧ ∀ m : Nat, m < i → ¬ betterB a b (m : Int)) (fun st : Int × Bool => ((4 : Int) - st.1).toNat) ?_ _ _ ⟨rfl, 0, rfl, by omega, fun m h => absurd h (Nat.not_lt_zero _)⟩ (big_lt (by simp))
  rintro ⟨_, takes'⟩ ⟨rfl, i, rfl, hi, hI⟩ nx hnx
  have all : 0 ≤ sideOf a b.As ∧ 0 ≤ sideOf b a.As ∧ okConf a ∧ okConf b := ⟨h1, h2, i3.1 rfl, i4.1 rfl⟩
  rw [s_rise_Rises1]
  dsimp only at hnx ⊢
  by_cases hlt : i < 4
  · rw [decide_eq_true (by simp; omega), cond_true, ix_nat (by simpa using hlt), bd_some, jn_eq, nth4 i (by simpa using hlt)]
    obtain ⟨low, has, el, _⟩ := riseLow_ex a i fa
    have st := fun hn : ¬ betterB a b (i : Int) => hnx (IntKind.i64.wrap ((i : Int) + 1), takes') ⟨rfl, i + 1, w64s (by omega), hlt, fun m hm => by
      rcases Nat.lt_succ_iff_lt_or_eq.1 hm with g | rfl
      · exact hI m g
      · exact hn⟩ (by rw [w64s (by omega)]; omega)
    rw [el, bd_some, riseTells_eq a j i (by omega) fa, bd_some]
    cases has with
    | false =>
      refine st ?_
      rintro ⟨low', high', q1, _⟩
      rw [el] at q1; cases q1
    | true =>
    cases takes' with
    | false =>
      refine st ?_
      rintro ⟨low', high', _, q2, _⟩
      rw [ek, eh] at q2; cases q2
    | true =>
    cases ht : (reach (i : Int) a.Sides[j].Out).any fun x => decide (¬ x.Act = 0) with
    | false =>
      refine st ?_
      rintro ⟨low', high', _, _, q3, _⟩
      rw [ej, riseTells_eq a j i (by omega) fa, ht] at q3; cases q3
    | true =>
    by_cases hg : high > low
    · rw [decide_eq_true hg]
      refine ⟨false, ?_, fun q => Bool.noConfusion q, fun q => ?_⟩
      · show some (!decide ((i : Int) ≥ 0)) = some false
        rw [decide_eq_true (by omega)]
        rfl
      · refine absurd ⟨low, high, el, ?_, ?_, hg⟩ (q.2 i hlt)
        · rw [ek]; exact eh
        · rw [ej, riseTells_eq a j i (by omega) fa, ht]
    · rw [decide_eq_false hg]
      refine st ?_
      rintro ⟨low', high', q1, q2, _, q4⟩
      rw [el] at q1; cases q1
      rw [ek, eh] at q2; cases q2
      exact hg q4
  · rw [decide_eq_false (by simp; omega), cond_false]
    exact ⟨true, rfl, fun _ => ⟨all, fun m hm => hI m (by omega)⟩, fun _ => rfl⟩
theorem rules_of (l : List Rule) (b : Bool) (hl : l.length ≤ 8) (h : ∀ x ∈ l, m_policy_Sane x b = some true) : m_conf_saneRules l b = some true := by
  refine ok_true ?_
  unfold m_conf_saneRules
  refine ok_if (fun h => by omega) fun _ => ok_idx l.length (fun _ => True) (by omega) trivial (fun i hi _ nx hnx => ?_) (fun _ nx => ?_)
  · rw [s_conf_saneRules1]
    exact ok_if (fun _ => ok_ix (by omega) (by omega) fun hlt => ok_bde (h _ (List.getElem_mem _)) (hnx trivial)) fun h => absurd (Int.ofNat_lt.2 hi) h
  · rw [s_conf_saneRules1]
    exact ok_if (fun h => by omega) fun _ => ok_some rfl
theorem reach_take (c : Int) : ∀ (l : List Rule) (n : Nat) (x : Rule), x ∈ reach c (l.take n) → x ∈ reach c l
  | [], n, x, h => by rw [List.take_nil] at h; exact h
  | y :: ys, 0, x, h => by rw [List.take_zero, reach] at h; cases h
  | y :: ys, n + 1, x, h => by
    rw [List.take_succ_cons, reach] at h
    rw [reach]
    split at h
    · rename_i g
      rw [if_pos g]
      exact reach_take c ys n x h
    · rename_i g
      rw [if_neg g]
      split at h
      · rename_i g; rw [if_pos g]; exact h
      · rename_i g
        rw [if_neg g]
        rcases List.mem_cons.1 h with rfl | h
        · exact List.mem_cons_self
        · exact List.mem_cons_of_mem _ (reach_take c ys n x h)
theorem low_same (c d : Conf) (cl : Int) (fc : FewC c) (fd : FewC d) (h : lowL c cl = lowL d cl) : m_rise_Low c cl = m_rise_Low d cl := by
  unfold m_rise_Low
  rw [riseLow_loop c cl fc, riseLow_loop d cl fd, h]
theorem no_rule0 : m_policy_Sane ⟨4, ⟨0, 0⟩, 0, 0, 0⟩ false = some true := by kernel_rfl
theorem no_rule1 : m_policy_Sane ⟨4, ⟨0, 0⟩, 1, 0, 0⟩ false = some true := by kernel_rfl
theorem no_rule2 : m_policy_Sane ⟨4, ⟨0, 0⟩, 2, 0, 0⟩ false = some true := by kernel_rfl
theorem no_rule3 : m_policy_Sane ⟨4, ⟨0, 0⟩, 3, 0, 0⟩ false = some true := by kernel_rfl
theorem no_rule (cl : Int) (h : 0 ≤ cl ∧ cl ≤ 3) : m_policy_Sane ⟨4, ⟨0, 0⟩, cl, 0, 0⟩ false = some true := by
  have : cl = 0 ∨ cl = 1 ∨ cl = 2 ∨ cl = 3 := by omega
  rcases this with rfl | rfl | rfl | rfl
  · exact no_rule0
  · exact no_rule1
  · exact no_rule2
  · exact no_rule3
theorem riseFew_true (a b : Conf) (cl : Int) (ha : a.Sides.length ≤ 9223372036854775807) (hb : b.Sides.length ≤ 9223372036854775807) : m_ridgewaylaw15_RiseFew a b cl = some true := by
  unfold m_ridgewaylaw15_RiseFew
  rw [law15_awake, bd_some]
  obtain ⟨v, e, fa⟩ := few_ex a ha
  rw [e, bd_some]
  cases v with
  | false => rfl
  | true =>
  obtain ⟨v, e, fb⟩ := few_ex b hb
  rw [Bool.not_true, cond_false, e, bd_some]
  cases v with
  | false => rfl
  | true =>
  have fa := fa rfl
  have fb := fb rfl
  obtain ⟨v, e, p⟩ := rises_iff a b fa fb
  rw [Bool.not_true, cond_false, e, bd_some]
  cases v with
  | false => rfl
  | true =>
  obtain ⟨⟨h1, h2, oa, ob⟩, hbet⟩ := p.1 rfl
  have hsa := fa.sides
  have hsb := fb.sides
  rw [Bool.not_true, cond_false]
  by_cases c0 : cl < 0
  · rw [decide_eq_true c0]; rfl
  rw [decide_eq_false c0, cond_false]
  by_cases c3 : cl > 3
  · rw [decide_eq_true c3]; rfl
  rw [decide_eq_false c3, cond_false, riseSide_eq _ _ (by omega), bd_some]
  dsimp only
  rw [decide_eq_true h1, Bool.not_true, cond_false]
  have ka := sideOf_lt a b.As
  obtain ⟨j, hj⟩ := Int.eq_ofNat_of_zero_le h1
  have ej : (if (0 : Int) > sideOf a b.As then 0 else sideOf a b.As) = (j : Int) := by rw [if_neg (by omega)]; exact hj
  have lj : j < a.Sides.length := by omega
  have rj : okSide a.As (a.Sides.take j) a.Sides[j] := oa.2.2 j lj
  have hout := fa.outs a.Sides[j] (List.getElem_mem lj)
  have hap : ap 48 [(⟨4, ⟨0, 0⟩, cl, 0, 0⟩ : Rule)] a.Sides[j].Out = some (⟨4, ⟨0, 0⟩, cl, 0, 0⟩ :: a.Sides[j].Out) := ap_some (by simp; omega) (by simp; omega)
  rw [ej, decide_eq_false (by omega), cond_false, decide_eq_false (by omega), cond_false, an_some (by omega) (by omega) (by omega), bd_some, ix_nat lj, bd_some, hap, bd_some, jn_eq]
  generalize hL : ((⟨4, ⟨0, 0⟩, cl, 0, 0⟩ : Rule) :: a.Sides[j].Out) = L
  have hLl : L.length = a.Sides[j].Out.length + 1 := by rw [← hL]; rfl
  have hcut : ∀ K : List Rule → Option Bool, (bif decide ((L.length : Int) > 8) then bd (sl L 0 (8 : Int)) fun y12 => K y12 else K L) = K (L.take 8) := fun K => by
    by_cases h8 : (L.length : Int) > 8
    · rw [decide_eq_true h8, cond_true, sl_pre (by omega), bd_some]; rfl
    · rw [decide_eq_false h8, cond_false, List.take_of_length_le (by omega)]
  rw [hcut]
  have hixn : ixn a.Sides.length a.Sides (j : Int) = some a.Sides[j] := by rw [ixn_eq, if_pos rfl, ix_nat lj]
  rw [hixn, bd_some, up_eq, bd_some, fzn_eq, if_pos (by simp), bd_some, cond_true, Int.toNat_natCast]
  generalize hs : (⟨a.Sides[j].As, a.Sides[j].Rel, a.Sides[j].In, L.take 8⟩ : Side) = s
  have hall : ∀ x ∈ L.take 8, m_policy_Sane x false = some true := fun x hx => by
    have hx := List.mem_of_mem_take hx
    rw [← hL] at hx
    rcases List.mem_cons.1 hx with rfl | hx
    · exact no_rule cl (by omega)
    · exact rules_all _ false hout rj.2.2.2.2 x hx
  have fc : FewC (withSide a j s) := withSide_few a j s fa (by rw [← hs]; exact (fa.ins a.Sides[j] (List.getElem_mem lj) :)) (by rw [← hs]; simp [List.length_take]; omega)
  have oc : okConf (withSide a j s) := withSide_ok a j s lj (by rw [← hs]) (by rw [← hs]) oa (by rw [← hs]; exact rj.2.2.2.1) (by rw [← hs]; exact rules_of _ false (by simp [List.length_take]; omega) hall)
  have sc : ∀ n, sideOf (withSide a j s) n = sideOf a n := sideOf_congr (withSide_as a j s lj (by rw [← hs]))
  have hlow : ∀ q, lowL (withSide a j s) q = lowL a q := fun q => by
    have hm : (withSide a j s).Sides.map (fun x : Side => (x.Rel, x.In)) = a.Sides.map (fun x : Side => (x.Rel, x.In)) := map_set_same (fun x : Side => (x.Rel, x.In)) a.Sides j lj s (by rw [← hs])
    have hf : ∀ l : List Side, (l.flatMap fun s => if s.Rel = q then prefL (reach q s.In) else []) = (l.map (fun x : Side => (x.Rel, x.In))).flatMap fun p => if p.1 = q then prefL (reach q p.2) else [] := fun l => by rw [List.flatMap_map]
    unfold lowL
    rw [hf, hf, hm]
  have hj' : (withSide a j s).Sides[j]'(by simpa [withSide] using lj) = s := by simp [withSide]
  have hso : s.Out = L.take 8 := by rw [← hs]
  have htake : L.take 8 = ⟨4, ⟨0, 0⟩, cl, 0, 0⟩ :: a.Sides[j].Out.take 7 := by rw [← hL]; rfl
  have tell : ∀ q, m_rise_Tells (withSide a j s) j q = some true → ¬ q = cl ∧ m_rise_Tells a j q = some true := fun q h => by
    rw [riseTells_eq _ j q (by simpa [withSide] using lj) fc, hj', hso, htake, reach] at h
    by_cases hq : q = cl
    · rw [if_neg (fun g => g.2 hq.symm), if_pos (by simp [totalR, hq])] at h
      cases h
    · rw [if_pos ⟨rfl, fun g => hq g.symm⟩] at h
      refine ⟨hq, ?_⟩
      rw [riseTells_eq a j q lj fa]
      simp only [Option.some.injEq, List.any_eq_true] at h ⊢
      obtain ⟨x, hx, ha⟩ := h
      exact ⟨x, reach_take q _ 7 x hx, ha⟩
  have e1 : m_rise_Rises (withSide a j s) b = some true := by
    obtain ⟨v, e, q⟩ := rises_iff (withSide a j s) b fc fb
    rw [e, q.2 ⟨⟨by rw [sc]; exact h1, h2, oc, ob⟩, fun i hi => ?_⟩]
    rintro ⟨low, high, q1, q2, q3, q4⟩
    rw [sc, ej] at q3
    refine hbet i hi ⟨low, high, ?_, q2, ?_, q4⟩
    · rw [← q1]; exact low_same a (withSide a j s) i fa fc (hlow i).symm
    · rw [ej]; exact (tell i q3).2
  have e2 : m_rise_Tells (withSide a j s) j cl = some false := by
    have h := riseTells_eq (withSide a j s) j cl (by simpa [withSide] using lj) fc
    cases hb : (reach cl ((withSide a j s).Sides[j]'(by simpa [withSide] using lj)).Out).any fun x => decide (¬ x.Act = 0) with
    | false => rw [h, hb]
    | true =>
      rw [hb] at h
      exact absurd rfl (tell cl h).1
  unfold withSide at e1 e2
  rw [e1, bd_some, cond_true, e2, bd_some]
  rfl
end Go.Proofs.Ytpclfdndjillnaa
