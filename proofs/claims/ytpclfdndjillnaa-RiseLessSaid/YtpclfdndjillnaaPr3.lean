/- Rise: what the models come to (3). -/
import Derived.Test.YtpclfdndjillnaaPr2
namespace Go.Proofs.Ytpclfdndjillnaa
open Go.RowKit
set_option linter.unusedVariables false
set_option linter.unusedSimpArgs false
set_option maxRecDepth 100000
set_option maxHeartbeats 1000000

def Tot {α : Type} (o : Option α) : Prop := ∃ b, o = some b
theorem tot_some {α : Type} (b : α) : Tot (some b) := ⟨b, rfl⟩
theorem tot_bd {α β : Type} {m : Option α} {k : α → Option β} (h : Tot m) (h2 : ∀ x, Tot (k x)) : Tot (bd m k) := by
  obtain ⟨x, rfl⟩ := h
  rw [bd_some]
  exact h2 x
theorem tot_bif {α : Type} {c : Bool} {A B : Option α} (h1 : Tot A) (h2 : Tot B) : Tot (bif c then A else B) := by
  cases c
  · exact h2
  · exact h1
theorem tot_idx {ε R : Type} {step : Int → (Int → Option R) → (ε → Option R) → Option R} {bk : ε → Option R} (n : Nat) (hl : n ≤ 140737488355328)
    (hs : ∀ (i : Nat), i < n → ∀ nx : Int → Option R, Tot (nx (IntKind.i64.wrap ((i : Int) + 1))) → Tot (step (i : Int) nx bk)) (he : ∀ nx, Tot (step (n : Int) nx bk)) : Tot (loopC step bk BIG 0) := by
  refine loopC_ex (fun o => Tot o) (fun st : Int => ∃ j : Nat, st = (j : Int) ∧ j ≤ n) (fun st : Int => ((n : Int) - st).toNat) ?_ _ _ ⟨0, rfl, Nat.zero_le _⟩ (big_lt (by omega))
  rintro _ ⟨j, rfl, hj⟩ nx hnx
  by_cases hlt : j < n
  · exact hs j hlt nx (hnx _ ⟨j + 1, w64s (by omega), hlt⟩ (by rw [w64s (by omega)]; omega))
  · obtain rfl : j = n := by omega
    exact he nx
theorem tot_number (n : Int) : Tot (m_conf_saneNumber n) := tot_bif (tot_some _) (tot_some _)
theorem tot_hold (n : Int) : Tot (m_conf_saneHold n) := tot_bif (tot_some _) (tot_bif (tot_some _) (tot_some _))
theorem tot_cap (n : Int) : Tot (m_conf_saneCap n) := tot_bif (tot_some _) (tot_some _)
theorem tot_mask (a n : Int) : Tot (m_prefix_Mask a n) := by
  unfold m_prefix_Mask
  have h : 0 ≤ IntKind.i64.wrap ((32 : Int) - (if (32 : Int) < (if (0 : Int) > n then (0 : Int) else n) then (32 : Int) else (if (0 : Int) > n then (0 : Int) else n))) := by
    rw [w64] <;> (split <;> split <;> omega)
  rw [nn_some h, nn_some h]
  exact tot_some _
theorem tot_prefix (x : Prefix) : Tot (m_prefix_Sane x) :=
  tot_bif (tot_bif (tot_bd (tot_mask _ _) fun _ => tot_some _) (tot_some _)) (tot_some _)
theorem tot_match (x : Rule) (b : Bool) : Tot (m_policy_saneMatch x b) := by
  unfold m_policy_saneMatch
  repeat' first | exact tot_some _ | refine tot_bif ?_ ?_ | refine tot_bd (tot_prefix _) fun _ => ?_
theorem tot_act (x : Rule) (b : Bool) : Tot (m_policy_saneAct x b) := by
  unfold m_policy_saneAct
  repeat' first | exact tot_some _ | refine tot_bif ?_ ?_
theorem tot_rule (x : Rule) (b : Bool) : Tot (m_policy_Sane x b) :=
  tot_bd (tot_match _ _) fun _ => tot_bif (tot_bd (tot_act _ _) fun _ => tot_some _) (tot_some _)
theorem tot_rules (l : List Rule) (b : Bool) (hl : l.length ≤ 140737488355328) : Tot (m_conf_saneRules l b) := by
  unfold m_conf_saneRules
  refine tot_bif (tot_some _) (tot_idx l.length hl ?_ ?_)
  · intro i h nx hnx
    rw [s_conf_saneRules1, decide_eq_true (by omega), cond_true, ix_nat h, bd_some]
    exact tot_bd (tot_rule _ _) fun _ => tot_bif (tot_some _) hnx
  · intro nx
    rw [s_conf_saneRules1, decide_eq_false (by omega), cond_false]
    exact tot_some _
theorem tot_contains (l : List Prefix) (x : Prefix) (hl : l.length ≤ 140737488355328) : Tot (m_slices_Contains___api_Prefix_api_Prefix l x) := by
  unfold m_slices_Contains___api_Prefix_api_Prefix m_slices_Index___api_Prefix_api_Prefix
  refine tot_bd (tot_idx l.length hl ?_ ?_) fun _ => tot_some _
  · intro i h nx hnx
    rw [s_slices_Index___api_Prefix_api_Prefix1, decide_eq_true (by omega), cond_true, ix_nat h, bd_some]
    exact tot_bif (tot_some _) hnx
  · intro nx
    rw [s_slices_Index___api_Prefix_api_Prefix1, decide_eq_false (by omega), cond_false]
    exact tot_some _
theorem tot_own (l : List Prefix) (hl : l.length ≤ 140737488355328) : Tot (m_conf_saneOwn l) := by
  unfold m_conf_saneOwn
  refine tot_bif (tot_some _) (tot_idx l.length hl ?_ ?_)
  · intro i h nx hnx
    rw [s_conf_saneOwn1, decide_eq_true (by omega), cond_true, ix_nat h, bd_some, sl_pre (by omega), bd_some]
    exact tot_bd (tot_prefix _) fun _ => tot_bif (tot_some _) (tot_bd (tot_contains _ _ (by rw [List.length_take]; omega)) fun _ => tot_bif (tot_some _) hnx)
  · intro nx
    rw [s_conf_saneOwn1, decide_eq_false (by omega), cond_false]
    exact tot_some _
/-- Whether an AS is taken. -/
def takenB (a : Int) (l : List Side) (n : Int) : Bool := decide (n = a) || l.any fun s => decide (s.As = n)
theorem taken_eq (a : Int) (l : List Side) (n : Int) (hl : l.length ≤ 140737488355328) : m_conf_taken a l n = some (takenB a l n) := by
  unfold m_conf_taken takenB
  by_cases h : n = a
  · rw [decide_eq_true h]; rfl
  · rw [decide_eq_false h, cond_false, Bool.false_or, jn_eq, loop_idx l (fun i x r => bif decide (x.As = n) then (fun i1 : Int => some (decide (i1 ≥ (0 : Int)))) (i : Int) else r) (some (decide ((-1 : Int) ≥ 0))) hl ?_ ?_]
    · rw [← findN_any (fun s : Side => decide (s.As = n)) l 0]
      exact walk_find (fun s : Side => decide (s.As = n)) (fun i1 : Int => some (decide (i1 ≥ (0 : Int)))) l 0
    · intro i h nx
      rw [s_conf_taken1, decide_eq_true (by omega), cond_true, ix_nat h, bd_some]
    · intro nx
      rw [s_conf_taken1, decide_eq_false (by omega), cond_false]
/-- A side that may be. -/
def okSide (a : Int) (before : List Side) (s : Side) : Prop :=
  m_conf_saneNumber s.As = some true ∧ takenB a before s.As = false ∧ (1 ≤ s.Rel ∧ s.Rel ≤ 3) ∧ m_conf_saneRules s.In true = some true ∧ m_conf_saneRules s.Out false = some true
theorem sides_step (c : Conf) (i : Nat) (h : i < c.Sides.length) (f : FewC c) (nx : Int → Option Bool) (bk : Unit → Option Bool) :
    (okSide c.As (c.Sides.take i) c.Sides[i] ∧ s_conf_saneSides1 c i nx bk = nx (IntKind.i64.wrap ((i : Int) + 1))) ∨ (¬ okSide c.As (c.Sides.take i) c.Sides[i] ∧ s_conf_saneSides1 c i nx bk = some false) := by
  have hs := f.sides
  rw [s_conf_saneSides1, decide_eq_true (by omega), cond_true, ix_nat h, bd_some, sl_pre (by omega), bd_some, taken_eq _ _ _ (by rw [List.length_take]; omega), bd_some, Int.toNat_natCast]
  unfold okSide
  obtain ⟨b1, e1⟩ := tot_number c.Sides[i].As
  obtain ⟨b2, e2⟩ := tot_rules c.Sides[i].In true (by have := f.ins _ (List.getElem_mem h); omega)
  obtain ⟨b3, e3⟩ := tot_rules c.Sides[i].Out false (by have := f.outs _ (List.getElem_mem h); omega)
  rw [e1, e2, e3, bd_some, bd_some, bd_some]
  cases b1 with
  | false => exact .inr ⟨fun k => Bool.noConfusion (Option.some.inj k.1), rfl⟩
  | true =>
    cases ht : takenB c.As (c.Sides.take i) c.Sides[i].As with
    | true => exact .inr ⟨fun k => Bool.noConfusion k.2.1, rfl⟩
    | false =>
      by_cases h1 : c.Sides[i].Rel < 1
      · rw [decide_eq_true h1]
        exact .inr ⟨fun k => by omega, rfl⟩
      by_cases h2 : c.Sides[i].Rel > 3
      · rw [decide_eq_true h2, decide_eq_false h1]
        exact .inr ⟨fun k => by omega, rfl⟩
      rw [decide_eq_false h1, decide_eq_false h2]
      cases b2 with
      | false => exact .inr ⟨fun k => Bool.noConfusion (Option.some.inj k.2.2.2.1), rfl⟩
      | true =>
        cases b3 with
        | false => exact .inr ⟨fun k => Bool.noConfusion (Option.some.inj k.2.2.2.2), rfl⟩
        | true => exact .inl ⟨⟨rfl, rfl, by omega, rfl, rfl⟩, rfl⟩
theorem saneSides_iff (c : Conf) (f : FewC c) : ∃ b, m_conf_saneSides c = some b ∧ (b = true ↔ c.Sides.length ≤ 8 ∧ ∀ i (h : i < c.Sides.length), okSide c.As (c.Sides.take i) c.Sides[i]) := by
  have hs := f.sides
  unfold m_conf_saneSides
  by_cases h8 : (c.Sides.length : Int) > 8
  · rw [decide_eq_true h8, cond_true]
    exact ⟨false, rfl, fun k => Bool.noConfusion k, fun k => by omega⟩
  · rw [decide_eq_false h8, cond_false]
    refine loopC_ex (fun o => ∃ b, o = some b ∧ (b = true ↔ c.Sides.length ≤ 8 ∧ ∀ i (h : i < c.Sides.length), okSide c.As (c.Sides.take i) c.Sides[i])) (fun st : Int => ∃ j : Nat, st = (j : Int) ∧ j ≤ c.Sides.length ∧ ∀ i (h : i < c.Sides.length), i < j → okSide c.As (c.Sides.take i) c.Sides[i]) (fun st : Int => ((c.Sides.length : Int) - st).toNat) ?_ _ _ ⟨0, rfl, Nat.zero_le _, fun _ _ h => by omega⟩ (big_lt (by omega))
    rintro _ ⟨j, rfl, hj, hok⟩ nx hnx
    by_cases hlt : j < c.Sides.length
    · rcases sides_step c j hlt f nx _ with ⟨h1, h2⟩ | ⟨h1, h2⟩
      · rw [h2]
        refine hnx _ ⟨j + 1, w64s (by omega), hlt, fun i h hi => ?_⟩ (by rw [w64s (by omega)]; omega)
        rcases Nat.lt_succ_iff_lt_or_eq.1 hi with g | rfl
        · exact hok i h g
        · exact h1
      · rw [h2]
        exact ⟨false, rfl, fun k => Bool.noConfusion k, fun k => absurd (k.2 j hlt) h1⟩
    · rw [s_conf_saneSides1, decide_eq_false (by omega), cond_false]
      exact ⟨true, rfl, fun _ => ⟨by omega, fun i h => hok i h (by omega)⟩, fun _ => rfl⟩
end Go.Proofs.Ytpclfdndjillnaa
