/- What may be a configuration. -/
import Derived.Test.YtkdodhkiemfpeabQ0
import Derived.Test.YtkdodhkiemfpeabMe4
namespace Go.Proofs.Ytkdodhkiemfpeab
open Go.RowKit
set_option linter.unusedVariables false
set_option linter.unusedSimpArgs false
set_option maxRecDepth 100000
set_option maxHeartbeats 1000000

theorem t_mask (a n : Int) : Ok (m_prefix_Mask a n) fun _ => True := by
  unfold m_prefix_Mask
  have h : 0 ≤ IntKind.i64.wrap ((32 : Int) - (if (32 : Int) < (if (0 : Int) > n then (0 : Int) else n) then (32 : Int) else (if (0 : Int) > n then (0 : Int) else n))) := by
    rw [w64] <;> (split <;> split <;> omega)
  rw [nn_some h, nn_some h]
  exact ok_some trivial
theorem t_prefix (x : Prefix) : Ok (m_prefix_Sane x) fun _ => True := by
  unfold m_prefix_Sane
  refine ok_if (fun _ => ok_if (fun _ => ok_bd (t_mask _ _) fun _ _ _ => ok_some trivial) fun _ => ok_some trivial) fun _ => ok_some trivial
theorem t_has (x y : Prefix) : Ok (m_prefix_Has x y) fun _ => True := by
  unfold m_prefix_Has
  refine ok_bd (t_prefix _) fun _ _ _ => ok_ifb (fun _ => ok_bd (t_prefix _) fun _ _ _ => ok_ifb (fun _ => ok_if (fun _ => ok_bd (t_mask _ _) fun _ _ _ => ok_some trivial) fun _ => ok_some trivial) fun _ => ok_some trivial) fun _ => ok_some trivial
theorem t_number (n : Int) : Ok (m_conf_saneNumber n) fun b => b = true → 1 ≤ n ∧ n ≤ 4294967295 := by
  unfold m_conf_saneNumber
  exact ok_if (fun h => ok_some fun k => ⟨h, of_decide_eq_true k⟩) fun _ => ok_some fun k => Bool.noConfusion k
theorem t_hold (n : Int) : Ok (m_conf_saneHold n) fun _ => True := by
  unfold m_conf_saneHold
  exact ok_if (fun h => ok_some trivial) fun _ => ok_if (fun _ => ok_some trivial) fun _ => ok_some trivial
theorem t_cap (n : Int) : Ok (m_conf_saneCap n) fun _ => True := by
  unfold m_conf_saneCap
  exact ok_if (fun h => ok_some trivial) fun _ => ok_some trivial
/-- A rule that may be. -/
def RuleOk (b : Bool) (x : Rule) : Prop :=
  (b = true → (x.Act = 0 ∧ x.N = 0) ∨ (x.Act = 2 ∧ 1 ≤ x.N ∧ x.N < 400)) ∧ (b = false → x.Act = 0 ∨ x.Act = 1 ∨ (x.Act = 3 ∧ 1 ≤ x.N ∧ x.N ≤ 8))
theorem t_match (x : Rule) (b : Bool) : Ok (m_policy_saneMatch x b) fun _ => True := by
  unfold m_policy_saneMatch
  repeat' first | exact ok_some trivial | refine ok_if (fun _ => ?_) (fun _ => ?_) | refine ok_ifb (fun _ => ?_) (fun _ => ?_) | refine ok_bd (t_prefix _) fun _ _ _ => ?_
theorem t_act (x : Rule) (b : Bool) : Ok (m_policy_saneAct x b) fun r => r = true → RuleOk b x := by
  unfold m_policy_saneAct RuleOk
  cases b
  all_goals
    simp only [Bool.not_true, Bool.not_false, cond_true, cond_false]
    repeat' first | (refine ok_if (fun _ => ?_) (fun _ => ?_)) | refine ok_some fun k => ?_
    all_goals first | (cases k; done) | (simp only [decide_eq_true_eq] at k; refine ⟨fun h => ?_, fun h => ?_⟩ <;> first | (cases h; done) | omega)
theorem t_rule (x : Rule) (b : Bool) : Ok (m_policy_Sane x b) fun r => r = true → RuleOk b x := by
  unfold m_policy_Sane
  exact ok_bd (t_match _ _) fun _ _ _ => ok_ifb (fun _ => ok_bd (t_act _ _) fun _ _ h => ok_some h) fun _ => ok_some fun k => Bool.noConfusion k
theorem t_rules (l : List Rule) (b : Bool) (hl : l.length ≤ 9223372036854775807) : Ok (m_conf_saneRules l b) fun r => r = true → ∀ x ∈ l, RuleOk b x := by
  unfold m_conf_saneRules
  refine ok_if (fun _ => ok_some fun k => Bool.noConfusion k) fun _ => ok_idx l.length (fun j => ∀ i (h : i < l.length), i < j → RuleOk b l[i]) hl (fun _ _ h => absurd h (Nat.not_lt_zero _)) (fun i hi hI nx hnx => ?_) (fun hI nx => ?_)
  · rw [s_conf_saneRules1]
    refine ok_if (fun _ => ok_ix (by omega) (by omega) fun hlt => ok_bd (t_rule _ _) fun r _ hr => ok_ifnb (fun _ => ok_some fun k => Bool.noConfusion k) fun h => hnx fun j hj hji => ?_) fun h => absurd (Int.ofNat_lt.2 hi) h
    simp only [Int.toNat_natCast] at hr
    rcases Nat.lt_succ_iff_lt_or_eq.1 hji with g | rfl
    · exact hI j hj g
    · exact hr h
  · rw [s_conf_saneRules1]
    refine ok_if (fun h => by omega) fun _ => ok_some fun _ x hx => ?_
    obtain ⟨i, hi, rfl⟩ := List.getElem_of_mem hx
    exact hI i hi hi
theorem t_containsP (l : List Prefix) (x : Prefix) (hl : l.length ≤ 9223372036854775807) : Ok (m_slices_Contains___api_Prefix_api_Prefix l x) fun _ => True := by
  unfold m_slices_Contains___api_Prefix_api_Prefix m_slices_Index___api_Prefix_api_Prefix
  refine ok_bd (P := fun _ => True) (ok_idx l.length (fun _ => True) hl trivial (fun i hi _ nx hnx => ?_) (fun _ nx => ?_)) fun _ _ _ => ok_some trivial
  · rw [s_slices_Index___api_Prefix_api_Prefix1]
    exact ok_if (fun _ => ok_ix (by omega) (by omega) fun hlt => ok_ifb (fun _ => ok_some trivial) fun _ => hnx trivial) fun h => absurd (Int.ofNat_lt.2 hi) h
  · rw [s_slices_Index___api_Prefix_api_Prefix1]
    exact ok_if (fun h => by omega) fun _ => ok_some trivial
theorem t_own (l : List Prefix) (hl : l.length ≤ 9223372036854775807) : Ok (m_conf_saneOwn l) fun _ => True := by
  unfold m_conf_saneOwn
  refine ok_if (fun _ => ok_some trivial) fun _ => ok_idx l.length (fun _ => True) hl trivial (fun i hi _ nx hnx => ?_) (fun _ nx => ?_)
  · rw [s_conf_saneOwn1]
    refine ok_if (fun _ => ok_ix (by omega) (by omega) fun hlt => ok_bd (t_prefix _) fun _ _ _ => ok_ifnb (fun _ => ok_some trivial) fun _ => ok_bde (sl_pre (by omega)) (ok_bd (t_containsP _ _ (by rw [List.length_take]; omega)) fun _ _ _ => ok_ifb (fun _ => ok_some trivial) fun _ => hnx trivial)) fun h => absurd (Int.ofNat_lt.2 hi) h
  · rw [s_conf_saneOwn1]
    exact ok_if (fun h => by omega) fun _ => ok_some trivial
theorem t_taken (a : Int) (l : List Side) (n : Int) (hl : l.length ≤ 9223372036854775807) : Ok (m_conf_taken a l n) fun _ => True := by
  unfold m_conf_taken
  refine ok_if (fun _ => ok_some trivial) fun _ => ok_jn (fun _ => True) (fun k' hk => ok_idx l.length (fun _ => True) hl trivial (fun i hi _ nx hnx => ?_) (fun _ nx => ?_)) fun _ _ => ok_some trivial
  · rw [s_conf_taken1]
    exact ok_if (fun _ => ok_ix (by omega) (by omega) fun hlt => ok_if (fun _ => hk _ trivial) fun _ => hnx trivial) fun h => absurd (Int.ofNat_lt.2 hi) h
  · rw [s_conf_taken1]
    exact ok_if (fun h => by omega) fun _ => hk _ trivial
/-- Lists that are few. -/
structure FewC (c : Conf) : Prop where
  own : c.Own.length ≤ 1000
  sides : c.Sides.length ≤ 1000
  ins : ∀ s ∈ c.Sides, s.In.length ≤ 1000
  outs : ∀ s ∈ c.Sides, s.Out.length ≤ 1000
theorem t_few (c : Conf) (hl : c.Sides.length ≤ 9223372036854775807) : Ok (m_ridgewayref12_Few c) fun b => b = true → FewC c := by
  unfold m_ridgewayref12_Few
  refine ok_idx c.Sides.length (fun j => ∀ i (h : i < c.Sides.length), i < j → c.Sides[i].In.length ≤ 20 ∧ c.Sides[i].Out.length ≤ 20) hl (fun _ _ h => absurd h (Nat.not_lt_zero _)) (fun i hi hI nx hnx => ?_) (fun hI nx => ?_)
  · rw [s_ridgewayref12_Few1]
    refine ok_if (fun _ => ok_ix (by omega) (by omega) fun hlt => ok_if (fun _ => ok_some fun k => Bool.noConfusion k) fun h1 => ok_ix (by omega) (by omega) fun hlt => ok_if (fun _ => ok_some fun k => Bool.noConfusion k) fun h2 => hnx fun j hj hji => ?_) fun h => absurd (Int.ofNat_lt.2 hi) h
    simp only [Int.toNat_natCast] at h1 h2
    rcases Nat.lt_succ_iff_lt_or_eq.1 hji with g | rfl
    · exact hI j hj g
    · exact ⟨by omega, by omega⟩
  · rw [s_ridgewayref12_Few1]
    refine ok_if (fun h => by omega) fun _ => ok_if (fun h1 => ok_some fun k => ?_) fun _ => ok_some fun k => Bool.noConfusion k
    have k := of_decide_eq_true k
    refine ⟨by omega, by omega, fun s hs => ?_, fun s hs => ?_⟩
    · obtain ⟨i, h, rfl⟩ := List.getElem_of_mem hs
      have := hI i h h
      omega
    · obtain ⟨i, h, rfl⟩ := List.getElem_of_mem hs
      have := hI i h h
      omega
/-- A side that may be. -/
def SideOk (s : Side) : Prop := (1 ≤ s.As ∧ s.As ≤ 4294967295) ∧ (1 ≤ s.Rel ∧ s.Rel ≤ 3) ∧ (∀ x ∈ s.In, RuleOk true x) ∧ ∀ x ∈ s.Out, RuleOk false x
/-- A configuration that may be. -/
def ConfOk (c : Conf) : Prop := (1 ≤ c.As ∧ c.As ≤ 4294967295) ∧ (1 ≤ c.Id ∧ c.Id ≤ 4294967295) ∧ c.Sides.length ≤ 8 ∧ ∀ i (h : i < c.Sides.length), SideOk c.Sides[i]
theorem t_sides (c : Conf) (f : FewC c) : Ok (m_conf_saneSides c) fun b => b = true → c.Sides.length ≤ 8 ∧ ∀ i (h : i < c.Sides.length), SideOk c.Sides[i] := by
  have hs := f.sides
  unfold m_conf_saneSides
  refine ok_if (fun _ => ok_some fun k => Bool.noConfusion k) fun h8 => ok_idx c.Sides.length (fun j => ∀ i (h : i < c.Sides.length), i < j → SideOk c.Sides[i]) (by omega) (fun _ _ h => absurd h (Nat.not_lt_zero _)) (fun i hi hI nx hnx => ?_) (fun hI nx => ?_)
  · have hi1 := f.ins _ (List.getElem_mem hi)
    have ho1 := f.outs _ (List.getElem_mem hi)
    rw [s_conf_saneSides1]
    refine ok_if (fun _ => ok_ix (by omega) (by omega) fun hlt => ?_) fun h => absurd (Int.ofNat_lt.2 hi) h
    simp only [Int.toNat_natCast]
    refine ok_bd (t_number _) fun r1 _ h1 => ok_ifnb (fun _ => ok_some fun k => Bool.noConfusion k) fun q1 => ok_bde (sl_pre (by omega)) (ok_bd (t_taken _ _ _ (by rw [List.length_take]; omega)) fun _ _ _ => ok_ifb (fun _ => ok_some fun k => Bool.noConfusion k) fun _ =>
      ok_if (fun _ => ok_some fun k => Bool.noConfusion k) fun q2 => ok_if (fun _ => ok_some fun k => Bool.noConfusion k) fun q3 => ok_bd (t_rules _ _ (by omega)) fun r4 _ h4 => ok_ifnb (fun _ => ok_some fun k => Bool.noConfusion k) fun q4 =>
      ok_bd (t_rules _ _ (by omega)) fun r5 _ h5 => ok_ifnb (fun _ => ok_some fun k => Bool.noConfusion k) fun q5 => hnx fun j hj hji => ?_)
    rcases Nat.lt_succ_iff_lt_or_eq.1 hji with g | rfl
    · exact hI j hj g
    · exact ⟨h1 q1, ⟨by omega, by omega⟩, h4 q4, h5 q5⟩
  · rw [s_conf_saneSides1]
    exact ok_if (fun h => by omega) fun _ => ok_some fun _ => ⟨by omega, fun i h => hI i h h⟩
theorem t_sane (c : Conf) (f : FewC c) : Ok (m_conf_Sane c) fun b => b = true → ConfOk c := by
  unfold m_conf_Sane
  have := f.own
  exact ok_bd (t_number _) fun r1 _ h1 => ok_ifb (fun q1 => ok_bd (t_number _) fun r2 _ h2 => ok_ifb (fun q2 => ok_bd (t_hold _) fun _ _ _ => ok_ifb (fun _ => ok_bd (t_cap _) fun _ _ _ => ok_ifb (fun _ => ok_bd (t_own _ (by omega)) fun _ _ _ => ok_ifb (fun _ =>
    ok_bd (t_sides c f) fun r6 _ h6 => ok_some fun q6 => ⟨h1 q1, h2 q2, h6 q6⟩) fun _ => ok_some fun k => Bool.noConfusion k) fun _ => ok_some fun k => Bool.noConfusion k) fun _ => ok_some fun k => Bool.noConfusion k) fun _ => ok_some fun k => Bool.noConfusion k) fun _ => ok_some fun k => Bool.noConfusion k
end Go.Proofs.Ytkdodhkiemfpeab
