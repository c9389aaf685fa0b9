/- What the models come to. -/
import Derived.Test.YtpclfdndjillnaaQ0
import Derived.Test.YtpclfdndjillnaaMf3
import Derived.KernelRfl
namespace Go.Proofs.Ytpclfdndjillnaa
open Go.RowKit
set_option linter.unusedVariables false
set_option linter.unusedSimpArgs false
set_option maxRecDepth 100000
set_option maxHeartbeats 1000000

theorem t_mask (a n : Int) : Ok (m_prefix_Mask a n) fun _ => True := by
  unfold m_prefix_Mask
  have h : 0 ≤ IntKind.i64.wrap ((32 : Int) - (if (32 : Int) < (if (0 : Int) > n then (0 : Int) else n) then (32 : Int) else (if (0 : Int) > n then (0 : Int) else n))) := by
    rw [w64] <;> (split <;> split <;> omega)
  rw [nn_some h, nn_some h]
  exact ok_some trivial
theorem t_prefix (x : Prefix) : Ok (m_prefix_Sane x) fun _ => True := by
  unfold m_prefix_Sane
  refine ok_if (fun _ => ok_if (fun _ => ok_bd (t_mask _ _) fun _ _ _ => ok_some trivial) fun _ => ok_some trivial) fun _ => ok_some trivial
theorem t_has (x y : Prefix) : Ok (m_prefix_Has x y) fun _ => True := by
  unfold m_prefix_Has
  refine ok_bd (t_prefix _) fun _ _ _ => ok_ifb (fun _ => ok_bd (t_prefix _) fun _ _ _ => ok_ifb (fun _ => ok_if (fun _ => ok_bd (t_mask _ _) fun _ _ _ => ok_some trivial) fun _ => ok_some trivial) fun _ => ok_some trivial) fun _ => ok_some trivial
theorem t_number (n : Int) : Ok (m_conf_saneNumber n) fun b => b = true → 1 ≤ n ∧ n ≤ 4294967295 := by
  unfold m_conf_saneNumber
  exact ok_if (fun h => ok_some fun k => ⟨h, of_decide_eq_true k⟩) fun _ => ok_some fun k => Bool.noConfusion k
theorem t_hold (n : Int) : Ok (m_conf_saneHold n) fun _ => True := by
  unfold m_conf_saneHold
  exact ok_if (fun h => ok_some trivial) fun _ => ok_if (fun _ => ok_some trivial) fun _ => ok_some trivial
theorem t_cap (n : Int) : Ok (m_conf_saneCap n) fun _ => True := by
  unfold m_conf_saneCap
  exact ok_if (fun h => ok_some trivial) fun _ => ok_some trivial
/-- A rule that may be. -/
def RuleOk (b : Bool) (x : Rule) : Prop :=
  (b = true → (x.Act = 0 ∧ x.N = 0) ∨ (x.Act = 2 ∧ 1 ≤ x.N ∧ x.N < 400)) ∧ (b = false → x.Act = 0 ∨ x.Act = 1 ∨ (x.Act = 3 ∧ 1 ≤ x.N ∧ x.N ≤ 8))
theorem t_match (x : Rule) (b : Bool) : Ok (m_policy_saneMatch x b) fun _ => True := by
  unfold m_policy_saneMatch
  repeat' first | exact ok_some trivial | refine ok_if (fun _ => ?_) (fun _ => ?_) | refine ok_ifb (fun _ => ?_) (fun _ => ?_) | refine ok_bd (t_prefix _) fun _ _ _ => ?_
theorem t_act (x : Rule) (b : Bool) : Ok (m_policy_saneAct x b) fun r => r = true → RuleOk b x := by
  unfold m_policy_saneAct RuleOk
  cases b
  all_goals
    simp only [Bool.not_true, Bool.not_false, cond_true, cond_false]
    repeat' first | (refine ok_if (fun _ => ?_) (fun _ => ?_)) | refine ok_some fun k => ?_
    all_goals first | (cases k; done) | (simp only [decide_eq_true_eq] at k; refine ⟨fun h => ?_, fun h => ?_⟩ <;> first | (cases h; done) | omega)
theorem t_rule (x : Rule) (b : Bool) : Ok (m_policy_Sane x b) fun r => r = true → RuleOk b x := by
  unfold m_policy_Sane
  exact ok_bd (t_match _ _) fun _ _ _ => ok_ifb (fun _ => ok_bd (t_act _ _) fun _ _ h => ok_some h) fun _ => ok_some fun k => Bool.noConfusion k
theorem t_rules (l : List Rule) (b : Bool) (hl : l.length ≤ 9223372036854775807) : Ok (m_conf_saneRules l b) fun r => r = true → ∀ x ∈ l, RuleOk b x := by
  unfold m_conf_saneRules
  refine ok_if (fun _ => ok_some fun k => Bool.noConfusion k) fun _ => ok_idx l.length (fun j => ∀ i (h : i < l.length), i < j → RuleOk b l[i]) hl (fun _ _ h => absurd h (Nat.not_lt_zero _)) (fun i hi hI nx hnx => ?_) (fun hI nx => ?_)
  · rw [s_conf_saneRules1]
    refine ok_if (fun _ => ok_ix (by omega) (by omega) fun hlt => ok_bd (t_rule _ _) fun r _ hr => ok_ifnb (fun _ => ok_some fun k => Bool.noConfusion k) fun h => hnx fun j hj hji => ?_) fun h => absurd (Int.ofNat_lt.2 hi) h
    simp only [Int.toNat_natCast] at hr
    rcases Nat.lt_succ_iff_lt_or_eq.1 hji with g | rfl
    · exact hI j hj g
    · exact hr h
  · rw [s_conf_saneRules1]
    refine ok_if (fun h => by omega) fun _ => ok_some fun _ x hx => ?_
    obtain ⟨i, hi, rfl⟩ := List.getElem_of_mem hx
    exact hI i hi hi
theorem t_containsP (l : List Prefix) (x : Prefix) (hl : l.length ≤ 9223372036854775807) : Ok (m_slices_Contains___api_Prefix_api_Prefix l x) fun _ => True := by
  unfold m_slices_Contains___api_Prefix_api_Prefix m_slices_Index___api_Prefix_api_Prefix
  refine ok_bd (P := fun _ => True) (ok_idx l.length (fun _ => True) hl trivial (fun i hi _ nx hnx => ?_) (fun _ nx => ?_)) fun _ _ _ => ok_some trivial
  · rw [s_slices_Index___api_Prefix_api_Prefix1]
    exact ok_if (fun _ => ok_ix (by omega) (by omega) fun hlt => ok_ifb (fun _ => ok_some trivial) fun _ => hnx trivial) fun h => absurd (Int.ofNat_lt.2 hi) h
  · rw [s_slices_Index___api_Prefix_api_Prefix1]
    exact ok_if (fun h => by omega) fun _ => ok_some trivial
theorem t_own (l : List Prefix) (hl : l.length ≤ 9223372036854775807) : Ok (m_conf_saneOwn l) fun _ => True := by
  unfold m_conf_saneOwn
  refine ok_if (fun _ => ok_some trivial) fun _ => ok_idx l.length (fun _ => True) hl trivial (fun i hi _ nx hnx => ?_) (fun _ nx => ?_)
  · rw [s_conf_saneOwn1]
    refine ok_if (fun _ => ok_ix (by omega) (by omega) fun hlt => ok_bd (t_prefix _) fun _ _ _ => ok_ifnb (fun _ => ok_some trivial) fun _ => ok_bde (sl_pre (by omega)) (ok_bd (t_containsP _ _ (by rw [List.length_take]; omega)) fun _ _ _ => ok_ifb (fun _ => ok_some trivial) fun _ => hnx trivial)) fun h => absurd (Int.ofNat_lt.2 hi) h
  · rw [s_conf_saneOwn1]
    exact ok_if (fun h => by omega) fun _ => ok_some trivial
theorem t_taken (a : Int) (l : List Side) (n : Int) (hl : l.length ≤ 9223372036854775807) : Ok (m_conf_taken a l n) fun _ => True := by
  unfold m_conf_taken
  refine ok_if (fun _ => ok_some trivial) fun _ => ok_jn (fun _ => True) (fun k' hk => ok_idx l.length (fun _ => True) hl trivial (fun i hi _ nx hnx => ?_) (fun _ nx => ?_)) fun _ _ => ok_some trivial
  · rw [s_conf_taken1]
    exact ok_if (fun _ => ok_ix (by omega) (by omega) fun hlt => ok_if (fun _ => hk _ trivial) fun _ => hnx trivial) fun h => absurd (Int.ofNat_lt.2 hi) h
  · rw [s_conf_taken1]
    exact ok_if (fun h => by omega) fun _ => hk _ trivial
/-- Lists that are few. -/
structure FewC (c : Conf) : Prop where
  own : c.Own.length ≤ 1000
  sides : c.Sides.length ≤ 1000
  ins : ∀ s ∈ c.Sides, s.In.length ≤ 1000
  outs : ∀ s ∈ c.Sides, s.Out.length ≤ 1000
theorem t_few (c : Conf) (hl : c.Sides.length ≤ 9223372036854775807) : Ok (m_ridgewayref12_Few c) fun b => b = true → FewC c := by
  unfold m_ridgewayref12_Few
  refine ok_idx c.Sides.length (fun j => ∀ i (h : i < c.Sides.length), i < j → c.Sides[i].In.length ≤ 20 ∧ c.Sides[i].Out.length ≤ 20) hl (fun _ _ h => absurd h (Nat.not_lt_zero _)) (fun i hi hI nx hnx => ?_) (fun hI nx => ?_)
  · rw [s_ridgewayref12_Few1]
    refine ok_if (fun _ => ok_ix (by omega) (by omega) fun hlt => ok_if (fun _ => ok_some fun k => Bool.noConfusion k) fun h1 => ok_ix (by omega) (by omega) fun hlt => ok_if (fun _ => ok_some fun k => Bool.noConfusion k) fun h2 => hnx fun j hj hji => ?_) fun h => absurd (Int.ofNat_lt.2 hi) h
    simp only [Int.toNat_natCast] at h1 h2
    rcases Nat.lt_succ_iff_lt_or_eq.1 hji with g | rfl
    · exact hI j hj g
    · exact ⟨by omega, by omega⟩
  · rw [s_ridgewayref12_Few1]
    refine ok_if (fun h => by omega) fun _ => ok_if (fun h1 => ok_some fun k => ?_) fun _ => ok_some fun k => Bool.noConfusion k
    have k := of_decide_eq_true k
    refine ⟨by omega, by omega, fun s hs => ?_, fun s hs => ?_⟩
    · obtain ⟨i, h, rfl⟩ := List.getElem_of_mem hs
      have := hI i h h
      omega
    · obtain ⟨i, h, rfl⟩ := List.getElem_of_mem hs
      have := hI i h h
      omega
/-- A side that may be. -/
def SideOk (s : Side) : Prop := (1 ≤ s.As ∧ s.As ≤ 4294967295) ∧ (1 ≤ s.Rel ∧ s.Rel ≤ 3) ∧ (∀ x ∈ s.In, RuleOk true x) ∧ ∀ x ∈ s.Out, RuleOk false x
/-- A configuration that may be. -/
def ConfOk (c : Conf) : Prop := (1 ≤ c.As ∧ c.As ≤ 4294967295) ∧ (1 ≤ c.Id ∧ c.Id ≤ 4294967295) ∧ c.Sides.length ≤ 8 ∧ ∀ i (h : i < c.Sides.length), SideOk c.Sides[i]
theorem t_sides (c : Conf) (f : FewC c) : Ok (m_conf_saneSides c) fun b => b = true → c.Sides.length ≤ 8 ∧ ∀ i (h : i < c.Sides.length), SideOk c.Sides[i] := by
  have hs := f.sides
  unfold m_conf_saneSides
  refine ok_if (fun _ => ok_some fun k => Bool.noConfusion k) fun h8 => ok_idx c.Sides.length (fun j => ∀ i (h : i < c.Sides.length), i < j → SideOk c.Sides[i]) (by omega) (fun _ _ h => absurd h (Nat.not_lt_zero _)) (fun i hi hI nx hnx => ?_) (fun hI nx => ?_)
  · have hi1 := f.ins _ (List.getElem_mem hi)
    have ho1 := f.outs _ (List.getElem_mem hi)
    rw [s_conf_saneSides1]
    refine ok_if (fun _ => ok_ix (by omega) (by omega) fun hlt => ?_) fun h => absurd (Int.ofNat_lt.2 hi) h
    simp only [Int.toNat_natCast]
    refine ok_bd (t_number _) fun r1 _ h1 => ok_ifnb (fun _ => ok_some fun k => Bool.noConfusion k) fun q1 => ok_bde (sl_pre (by omega)) (ok_bd (t_taken _ _ _ (by rw [List.length_take]; omega)) fun _ _ _ => ok_ifb (fun _ => ok_some fun k => Bool.noConfusion k) fun _ =>
      ok_if (fun _ => ok_some fun k => Bool.noConfusion k) fun q2 => ok_if (fun _ => ok_some fun k => Bool.noConfusion k) fun q3 => ok_bd (t_rules _ _ (by omega)) fun r4 _ h4 => ok_ifnb (fun _ => ok_some fun k => Bool.noConfusion k) fun q4 =>
      ok_bd (t_rules _ _ (by omega)) fun r5 _ h5 => ok_ifnb (fun _ => ok_some fun k => Bool.noConfusion k) fun q5 => hnx fun j hj hji => ?_)
    rcases Nat.lt_succ_iff_lt_or_eq.1 hji with g | rfl
    · exact hI j hj g
    · exact ⟨h1 q1, ⟨by omega, by omega⟩, h4 q4, h5 q5⟩
  · rw [s_conf_saneSides1]
    exact ok_if (fun h => by omega) fun _ => ok_some fun _ => ⟨by omega, fun i h => hI i h h⟩
theorem t_sane (c : Conf) (f : FewC c) : Ok (m_conf_Sane c) fun b => b = true → ConfOk c := by
  unfold m_conf_Sane
  have := f.own
  exact ok_bd (t_number _) fun r1 _ h1 => ok_ifb (fun q1 => ok_bd (t_number _) fun r2 _ h2 => ok_ifb (fun q2 => ok_bd (t_hold _) fun _ _ _ => ok_ifb (fun _ => ok_bd (t_cap _) fun _ _ _ => ok_ifb (fun _ => ok_bd (t_own _ (by omega)) fun _ _ _ => ok_ifb (fun _ =>
    ok_bd (t_sides c f) fun r6 _ h6 => ok_some fun q6 => ⟨h1 q1, h2 q2, h6 q6⟩) fun _ => ok_some fun k => Bool.noConfusion k) fun _ => ok_some fun k => Bool.noConfusion k) fun _ => ok_some fun k => Bool.noConfusion k) fun _ => ok_some fun k => Bool.noConfusion k) fun _ => ok_some fun k => Bool.noConfusion k
end Go.Proofs.Ytpclfdndjillnaa
namespace Go.Proofs.Ytpclfdndjillnaa
open Go.RowKit
set_option linter.unusedVariables false
set_option linter.unusedSimpArgs false
set_option maxRecDepth 100000
set_option maxHeartbeats 1000000

/-- A path that may be. -/
def PathOk (p : Path) : Prop := (∀ x ∈ p.As, 1 ≤ x ∧ x ≤ 4294967295) ∧ (0 ≤ p.Origin ∧ p.Origin ≤ 2) ∧ p.As.length ≤ 255 ∧ (1 ≤ p.Hop ∧ p.Hop ≤ 4294967295) ∧ 0 ≤ p.Otc ∧ p.Otc ≤ 4294967295
theorem t_attrSane (p : Path) (hl : p.As.length ≤ 9223372036854775807) : Ok (m_attr_Sane p) fun b => b = true ↔ PathOk p := by
  unfold m_attr_Sane
  have no : ∀ {A : Prop}, ¬ A → Ok (some false : Option Bool) (fun b => b = true ↔ A) := fun h => ok_some ⟨fun k => Bool.noConfusion k, fun k => absurd k h⟩
  refine ok_idx p.As.length (fun j => ∀ i (h : i < p.As.length), i < j → 1 ≤ p.As[i] ∧ p.As[i] ≤ 4294967295) hl (fun _ _ h => absurd h (Nat.not_lt_zero _)) (fun i hi hI nx hnx => ?_) (fun hI nx => ?_)
  · rw [s_attr_Sane1]
    have hm := List.getElem_mem hi
    refine ok_if (fun _ => ok_ix (by omega) (by omega) fun hlt => ok_if (fun h1 => no fun k => ?_) fun h1 => ok_if (fun h2 => no fun k => ?_) fun h2 => hnx fun j hj hji => ?_) fun h => absurd (Int.ofNat_lt.2 hi) h
    · have := k.1 _ hm; simp only [Int.toNat_natCast] at h1; omega
    · have := k.1 _ hm; simp only [Int.toNat_natCast] at h2; omega
    · simp only [Int.toNat_natCast] at h1 h2
      rcases Nat.lt_succ_iff_lt_or_eq.1 hji with g | rfl
      · exact hI j hj g
      · exact ⟨by omega, by omega⟩
  · rw [s_attr_Sane1]
    have hall : ∀ x ∈ p.As, 1 ≤ x ∧ x ≤ 4294967295 := fun x hx => by
      obtain ⟨i, h, rfl⟩ := List.getElem_of_mem hx
      exact hI i h h
    refine ok_if (fun h => by omega) fun _ => ok_if (fun h1 => ok_if (fun h2 => ok_if (fun h3 => ok_if (fun h4 => ok_if (fun h5 => ok_if (fun h6 => ok_some ?_) fun h => no fun k => ?_) fun h => no fun k => ?_) fun h => no fun k => ?_) fun h => no fun k => ?_) fun h => no fun k => ?_) fun h => no fun k => ?_
    · rw [decide_eq_true_eq]
      exact ⟨fun h7 => ⟨hall, ⟨h1, h2⟩, by omega, ⟨h4, h5⟩, h6, h7⟩, fun k => k.2.2.2.2.2⟩
    all_goals (obtain ⟨_, _, _, _, _, _⟩ := k; omega)
/-- A route that may be. -/
def RouteOk (r : Route) : Prop := PathOk r.P ∧ r.P.As.length ≤ 32 ∧ ((r.From = -1 ∧ r.Pref = 400 ∧ r.P.As.length = 0 ∧ r.P.Origin = 0 ∧ r.P.Otc = 0) ∨ (0 ≤ r.From ∧ r.From < 8 ∧ 1 ≤ r.Pref ∧ r.Pref < 400))
theorem t_routeSane (r : Route) (hl : r.P.As.length ≤ 9223372036854775807) : Ok (m_route_Sane r) fun b => b = true ↔ RouteOk r := by
  unfold m_route_Sane
  have no : ∀ {A : Prop}, ¬ A → Ok (some false : Option Bool) (fun b => b = true ↔ A) := fun h => ok_some ⟨fun k => Bool.noConfusion k, fun k => absurd k h⟩
  refine ok_bd (t_attrSane _ hl) fun b _ hb => ok_ifnb (fun h => no fun k => by rw [hb.2 k.1] at h; cases h) fun h => ok_if (fun h1 => no fun k => by have := k.2.1; omega) fun h1 => ok_if (fun h2 => ?_) fun h2 => ?_
  · refine ok_if (fun h3 => ok_if (fun h4 => ok_if (fun h5 => ok_some ?_) fun h => no fun k => ?_) fun h => no fun k => ?_) fun h => no fun k => ?_
    · rw [decide_eq_true_eq]
      exact ⟨fun h6 => ⟨hb.1 ‹_›, by omega, .inl ⟨h2, h3, by omega, h5, h6⟩⟩, fun k => by rcases k.2.2 with q | q <;> omega⟩
    all_goals (rcases k.2.2 with q | q <;> omega)
  · refine ok_if (fun h3 => ok_if (fun h4 => ok_if (fun h5 => ok_some ?_) fun h => no fun k => ?_) fun h => no fun k => ?_) fun h => no fun k => ?_
    · rw [decide_eq_true_eq]
      exact ⟨fun h6 => ⟨hb.1 ‹_›, by omega, .inr ⟨by omega, by omega, by omega, by omega⟩⟩, fun k => by rcases k.2.2 with q | q <;> omega⟩
    all_goals (rcases k.2.2 with q | q <;> omega)
theorem t_contains (l : List Int) (x : Int) (hl : l.length ≤ 9223372036854775807) : Ok (m_slices_Contains___int_int l x) fun b => b = true ↔ x ∈ l := by
  unfold m_slices_Contains___int_int m_slices_Index___int_int
  refine ok_bd (P := fun r => r ≥ 0 ↔ x ∈ l) (ok_idx l.length (fun j => ∀ i (h : i < l.length), i < j → ¬ x = l[i]) hl (fun _ _ h => absurd h (Nat.not_lt_zero _)) (fun i hi hI nx hnx => ?_) (fun hI nx => ?_)) fun r _ hr => ok_some (by rw [decide_eq_true_eq]; exact hr)
  · rw [s_slices_Index___int_int1]
    refine ok_if (fun _ => ok_ix (by omega) (by omega) fun hlt => ok_if (fun h1 => ok_some ⟨fun _ => h1 ▸ List.getElem_mem _, fun _ => by omega⟩) fun h1 => hnx fun j hj hji => ?_) fun h => absurd (Int.ofNat_lt.2 hi) h
    simp only [Int.toNat_natCast] at h1
    rcases Nat.lt_succ_iff_lt_or_eq.1 hji with g | rfl
    · exact hI j hj g
    · exact h1
  · rw [s_slices_Index___int_int1]
    refine ok_if (fun h => by omega) fun _ => ok_some ⟨fun h => by omega, fun h => ?_⟩
    obtain ⟨i, hi, rfl⟩ := List.getElem_of_mem h
    exact absurd rfl (hI i hi hi)
theorem t_fits (r : Rule) (v : View) (hl : v.As.length ≤ 9223372036854775807) : Ok (m_policy_Fits r v) fun _ => True := by
  unfold m_policy_Fits m_policy_fits_1 m_policy_fits_2 m_policy_fits_3 m_policy_fits_4 m_policy_fits_5
  have one : ∀ {m : Option Bool}, Ok m (fun _ => True) → Ok (bd m fun r => some r) (fun _ => True) := fun h => ok_bd h fun _ _ _ => ok_some trivial
  refine ok_if (fun _ => ok_some trivial) fun h1 => ok_if (fun _ => ok_some trivial) fun h2 => ok_if (fun _ => one (ok_some trivial)) fun h3 => ok_if (fun _ => one (ok_bd (t_has _ _) fun _ _ _ => ok_some trivial)) fun h4 =>
    ok_if (fun _ => one (ok_bd (t_contains _ _ hl) fun _ _ _ => ok_some trivial)) fun h5 => ok_if (fun _ => one (ok_some trivial)) fun h6 => ok_if (fun _ => one (ok_some trivial)) fun h7 => by omega
theorem t_pick (l : List Rule) (v : View) (hl : l.length ≤ 9223372036854775807) (hv : v.As.length ≤ 9223372036854775807) : Ok (m_policy_Pick l v) fun r => (r.2 = true → r.1 ∈ l) ∧ (r.2 = false → r.1.Act = 0) := by
  unfold m_policy_Pick
  refine ok_idx l.length (fun _ => True) hl trivial (fun i hi _ nx hnx => ?_) (fun _ nx => ?_)
  · rw [s_policy_Pick1]
    exact ok_if (fun _ => ok_ix (by omega) (by omega) fun hlt => ok_bd (t_fits _ _ hv) fun _ _ _ => ok_ifb (fun _ => ok_some ⟨fun _ => List.getElem_mem _, fun k => Bool.noConfusion k⟩) fun _ => hnx trivial) fun h => absurd (Int.ofNat_lt.2 hi) h
  · rw [s_policy_Pick1]
    exact ok_if (fun h => by omega) fun _ => ok_some ⟨fun k => Bool.noConfusion k, fun _ => rfl⟩
/-- Who may tell whom. -/
def inMark (rel as otc : Int) : Int × Bool := if rel = 1 ∧ otc = 0 then (0, true) else if (rel = 2 ∧ (otc = 0 ∨ otc = as)) ∨ (rel = 3 ∧ otc = 0) then (as, true) else if rel = 3 then (otc, true) else (0, false)
theorem roleIn_eq (rel as otc : Int) : m_role_In rel as otc = some (inMark rel as otc) := by
  unfold m_role_In inMark
  simp only [jn_eq]
  by_cases h1 : rel = 1 <;> by_cases h2 : otc = 0 <;> by_cases h3 : rel = 2 <;> by_cases h4 : otc = as <;> by_cases h5 : rel = 3 <;> simp_all
def outMark (rel own otc : Int) : Int × Bool := if rel = 1 ∧ ¬ otc = 0 then (otc, true) else if (rel = 1 ∨ rel = 2) ∧ otc = 0 then (own, true) else if rel = 3 ∧ otc = 0 then (0, true) else (0, false)
theorem roleOut_eq (rel own otc : Int) : m_role_Out rel own otc = some (outMark rel own otc) := by
  unfold m_role_Out outMark
  by_cases h1 : rel = 1 <;> by_cases h2 : otc = 0 <;> by_cases h3 : rel = 2 <;> by_cases h5 : rel = 3 <;> simp_all
theorem rep2 (v : Int) : m_slices_Repeat___int_int [v] 2 = some [v, v] := by kernel_rfl
theorem rep3 (v : Int) : m_slices_Repeat___int_int [v] 3 = some [v, v, v] := by kernel_rfl
theorem rep4 (v : Int) : m_slices_Repeat___int_int [v] 4 = some [v, v, v, v] := by kernel_rfl
theorem rep5 (v : Int) : m_slices_Repeat___int_int [v] 5 = some [v, v, v, v, v] := by kernel_rfl
theorem rep6 (v : Int) : m_slices_Repeat___int_int [v] 6 = some [v, v, v, v, v, v] := by kernel_rfl
theorem rep7 (v : Int) : m_slices_Repeat___int_int [v] 7 = some [v, v, v, v, v, v, v] := by kernel_rfl
theorem rep8 (v : Int) : m_slices_Repeat___int_int [v] 8 = some [v, v, v, v, v, v, v, v] := by kernel_rfl
theorem rep9 (v : Int) : m_slices_Repeat___int_int [v] 9 = some [v, v, v, v, v, v, v, v, v] := by kernel_rfl
theorem t_longer (own : Int) (r : Rule) (as : List Int) (hl : as.length ≤ 1000) (hr : r.Act = 3 → 1 ≤ r.N ∧ r.N ≤ 8) : Ok (m_edge_longer own r as) fun l => l = List.replicate (if r.Act = 3 then 1 + r.N.toNat else 1) own ++ as := by
  unfold m_edge_longer
  refine ok_if (fun h => ?_) fun h => ok_ap (by simp; omega) (by simp; omega) (ok_some (by rw [if_neg h]; rfl))
  obtain ⟨h1, h2⟩ := hr h
  have hw : IntKind.i64.wrap (1 + r.N) = 1 + r.N := w64 (by omega) (by omega)
  rw [hw, if_pos h]
  have hc : r.N = 1 ∨ r.N = 2 ∨ r.N = 3 ∨ r.N = 4 ∨ r.N = 5 ∨ r.N = 6 ∨ r.N = 7 ∨ r.N = 8 := by omega
  rcases hc with e | e | e | e | e | e | e | e <;> rw [e]
  · exact ok_bde (rep2 own) (ok_ap (by simp; omega) (by simp; omega) (ok_some rfl))
  · exact ok_bde (rep3 own) (ok_ap (by simp; omega) (by simp; omega) (ok_some rfl))
  · exact ok_bde (rep4 own) (ok_ap (by simp; omega) (by simp; omega) (ok_some rfl))
  · exact ok_bde (rep5 own) (ok_ap (by simp; omega) (by simp; omega) (ok_some rfl))
  · exact ok_bde (rep6 own) (ok_ap (by simp; omega) (by simp; omega) (ok_some rfl))
  · exact ok_bde (rep7 own) (ok_ap (by simp; omega) (by simp; omega) (ok_some rfl))
  · exact ok_bde (rep8 own) (ok_ap (by simp; omega) (by simp; omega) (ok_some rfl))
  · exact ok_bde (rep9 own) (ok_ap (by simp; omega) (by simp; omega) (ok_some rfl))
end Go.Proofs.Ytpclfdndjillnaa
namespace Go.Proofs.Ytpclfdndjillnaa
open Go.RowKit
set_option linter.unusedVariables false
set_option linter.unusedSimpArgs false
set_option maxRecDepth 100000
set_option maxHeartbeats 1000000

theorem t_at (c : Conf) (k : Int) (x : Prefix) (f : FewC c) : Ok (m_edge_at c k x) fun b => b = true → (0 ≤ k ∧ k < c.Sides.length) ∧ m_conf_Sane c = some true ∧ ConfOk c := by
  unfold m_edge_at
  refine ok_if (fun h1 => ok_if (fun h2 => ok_bd (t_prefix _) fun _ _ _ => ok_ifb (fun _ => ok_bd (t_sane c f) fun b e hb => ok_some fun k => ?_) fun _ => ok_some fun k => Bool.noConfusion k) fun _ => ok_some fun k => Bool.noConfusion k) fun _ => ok_some fun k => Bool.noConfusion k
  subst k
  exact ⟨⟨h1, h2⟩, e, hb rfl⟩
/-- A route's class. -/
def clsOf (c : Conf) (f : Int) : Int := if f < 0 then 0 else ((c.Sides[f.toNat]?).map (·.Rel)).getD 0
theorem class_eq (c : Conf) (f : Int) : m_edge_Class c f = some (clsOf c f) := by
  refine (?_ : Ok (m_edge_Class c f) (· = clsOf c f)).elim fun x h => by rw [h.1, h.2]
  unfold m_edge_Class clsOf
  refine ok_if (fun h => ok_some (by rw [if_pos h])) fun h => ok_if (fun h2 => ok_some ?_) fun h2 => ok_ix (by omega) (by omega) fun hlt => ok_some ?_
  · rw [if_neg h, List.getElem?_eq_none (by omega)]; rfl
  · rw [if_neg h, List.getElem?_eq_getElem hlt]; rfl
theorem accepts_eq (r : Rule) (b : Bool) : m_edge_accepts r b = some (b && decide (¬ r.Act = 0)) := by
  unfold m_edge_accepts
  cases b <;> rfl
/-- What is taken. -/
def InR (c : Conf) (k : Int) (x : Prefix) (p : Path) (r : Route) : Prop :=
  ∃ s rule m, c.Sides[k.toNat]? = some s ∧ (0 ≤ k ∧ k < c.Sides.length) ∧ m_conf_Sane c = some true ∧ ConfOk c ∧ PathOk p ∧ p.As[0]? = some s.As ∧ c.As ∉ p.As ∧ p.As.length ≤ 32 ∧ inMark s.Rel s.As p.Otc = (m, true) ∧
    m_policy_Pick s.In ⟨x, p.As, s.Rel⟩ = some (rule, true) ∧ rule ∈ s.In ∧ rule.Act = 2 ∧ (1 ≤ rule.N ∧ rule.N < 400) ∧ r = ⟨rule.N, ⟨p.Origin, p.As, p.Hop, m⟩, k⟩
def noRoute : Route := ⟨0, ⟨0, [], 0, 0⟩, 0⟩
theorem t_in (c : Conf) (k : Int) (x : Prefix) (p : Path) (f : FewC c) (hp : p.As.length ≤ 9223372036854775807) : Ok (m_edge_In c k x p) fun r => (r.2 = true → InR c k x p r.1) ∧ (r.2 = false → r.1 = noRoute) := by
  unfold m_edge_In
  have no : Ok (some (noRoute, false)) fun r : Route × Bool => (r.2 = true → InR c k x p r.1) ∧ (r.2 = false → r.1 = noRoute) := ok_some ⟨fun k => Bool.noConfusion k, fun _ => rfl⟩
  refine ok_bd (t_at c k x f) fun b _ hb => ok_ifnb (fun _ => no) fun h1 => ok_bd (t_attrSane p hp) fun b2 _ hb2 => ok_ifnb (fun _ => no) fun h2 => ?_
  obtain ⟨⟨k0, k1⟩, hs, hc⟩ := hb h1
  have hpo := hb2.1 h2
  refine ok_ix k0 k1 fun hlt => ?_
  have hso := hc.2.2.2 _ hlt
  have hin := f.ins _ (List.getElem_mem hlt)
  have hsd : c.Sides[k.toNat]? = some c.Sides[k.toNat] := List.getElem?_eq_getElem hlt
  generalize c.Sides[k.toNat] = s at hso hin hsd
  refine ok_jn (fun j => j.1 = true → InR c k x p ⟨j.2.2.2.2.2.2.1, ⟨p.Origin, p.As, p.Hop, j.2.2.2.2.2.2.2⟩, k⟩) (fun k' hk => ?_) fun j hj => ok_ifnb (fun _ => no) fun h => ok_some ⟨fun _ => hj h, fun k => Bool.noConfusion k⟩
  have nok : ∀ {q : Int × Int × Int × Int × Int × Int × Int}, Ok (k' (false, q)) fun r : Route × Bool => (r.2 = true → InR c k x p r.1) ∧ (r.2 = false → r.1 = noRoute) := hk _ fun k => Bool.noConfusion k
  refine ok_jn (fun j => j = true → p.As[0]? = some s.As) (fun k2 hk2 => ok_if (fun h => ok_ix (by omega) (by omega) fun hl0 => hk2 _ fun h3 => ?_) fun h => hk2 _ fun k => Bool.noConfusion k) fun j hj => ok_ifnb (fun _ => nok) fun h3 => ?_
  · rw [decide_eq_true_eq] at h3
    rw [show (0 : Nat) = (0 : Int).toNat from rfl, List.getElem?_eq_getElem hl0, h3]
  refine ok_bd (t_contains _ _ hp) fun b5 _ hb5 => ok_ifb (fun _ => nok) fun h5 => ok_ifn (fun _ => nok) fun h6 => ok_bde (roleIn_eq _ _ _) (ok_ifnb (fun _ => nok) fun h7 => ok_bd (t_pick _ _ (by omega) hp) fun r8 e8 h8 => ok_bde (accepts_eq _ _) (ok_ifnb (fun _ => nok) fun h9 => hk _ fun _ => ?_))
  simp only [Bool.and_eq_true, decide_eq_true_eq] at h9
  obtain ⟨rule, b8⟩ := r8
  obtain ⟨rfl, h9⟩ := h9
  have hmem := h8.1 rfl
  have hro := (hso.2.2.1 _ hmem).1 rfl
  dsimp only at h9 hmem hro
  refine ⟨s, rule, _, hsd, ⟨k0, k1⟩, hs, hc, hpo, hj h3, fun hm => ?_, by omega, Prod.ext rfl h7, e8, hmem, by omega, by omega, rfl⟩
  rw [hb5.2 hm] at h5
  cases h5
/-- What is told. -/
def OutR (c : Conf) (k : Int) (x : Prefix) (r : Route) (q : Path) : Prop :=
  ∃ s rule m, c.Sides[k.toNat]? = some s ∧ (0 ≤ k ∧ k < c.Sides.length) ∧ m_conf_Sane c = some true ∧ ConfOk c ∧ RouteOk r ∧ ¬ r.From = k ∧ r.From < c.Sides.length ∧ m_policy_Pick s.Out ⟨x, r.P.As, clsOf c r.From⟩ = some (rule, true) ∧ rule ∈ s.Out ∧ ¬ rule.Act = 0 ∧
    outMark s.Rel c.As r.P.Otc = (m, true) ∧ (∃ n, (1 ≤ n ∧ n ≤ 9) ∧ q.As = List.replicate n c.As ++ r.P.As) ∧ q.As.length ≤ 32 ∧ q.Origin = r.P.Origin ∧ q.Hop = c.Id ∧ q.Otc = m
def noPath : Path := ⟨0, [], 0, 0⟩
theorem t_out (c : Conf) (k : Int) (x : Prefix) (r : Route) (f : FewC c) (hp : r.P.As.length ≤ 9223372036854775807) : Ok (m_edge_Out c k x r) fun q => (q.2 = true → OutR c k x r q.1) ∧ (q.2 = false → q.1 = noPath) := by
  unfold m_edge_Out
  have no : Ok (some (noPath, false)) fun q : Path × Bool => (q.2 = true → OutR c k x r q.1) ∧ (q.2 = false → q.1 = noPath) := ok_some ⟨fun k => Bool.noConfusion k, fun _ => rfl⟩
  refine ok_bd (t_at c k x f) fun b _ hb => ok_ifnb (fun _ => no) fun h1 => ok_bd (t_routeSane r hp) fun b2 _ hb2 => ok_ifnb (fun _ => no) fun h2 => ?_
  obtain ⟨⟨k0, k1⟩, hs, hc⟩ := hb h1
  have hro := hb2.1 h2
  have hlen := hro.2.1
  refine ok_ix k0 k1 fun hlt => ?_
  have hso := hc.2.2.2 _ hlt
  have hin := f.outs _ (List.getElem_mem hlt)
  have hsd : c.Sides[k.toNat]? = some c.Sides[k.toNat] := List.getElem?_eq_getElem hlt
  generalize c.Sides[k.toNat] = s at hso hin hsd
  refine ok_jn (fun j => j.1 = true → OutR c k x r ⟨r.P.Origin, j.2.1, c.Id, j.2.2⟩) (fun k' hk => ?_) fun j hj => ok_ifnb (fun _ => no) fun h => ok_some ⟨fun _ => hj h, fun k => Bool.noConfusion k⟩
  have nok : ∀ {q : List Int × Int}, Ok (k' (false, q)) fun q : Path × Bool => (q.2 = true → OutR c k x r q.1) ∧ (q.2 = false → q.1 = noPath) := hk _ fun k => Bool.noConfusion k
  refine ok_jn (fun j => j = true → ¬ r.From = k ∧ r.From < c.Sides.length) (fun k2 hk2 => ok_if (fun h => hk2 _ fun h3 => ⟨h, of_decide_eq_true h3⟩) fun h => hk2 _ fun k => Bool.noConfusion k) fun j hj => ok_ifnb (fun _ => nok) fun h3 => ?_
  refine ok_bde (class_eq _ _) (ok_bd (t_pick _ _ (by omega) hp) fun r5 e5 h5 => ok_bd (t_longer c.As r5.1 r.P.As (by omega) fun ha => ?_) fun r6 _ h6 => ok_bde (accepts_eq _ _) (ok_ifnb (fun _ => nok) fun h7 => ok_bde (roleOut_eq _ _ _) (ok_ifnb (fun _ => nok) fun h8 => ok_ifn (fun _ => nok) fun h9 => hk _ fun _ => ?_)))
  · cases hb5 : r5.2 with
    | false => have := h5.2 hb5; omega
    | true =>
      have := (hso.2.2.2 _ (h5.1 hb5)).2 rfl
      omega
  simp only [Bool.and_eq_true, decide_eq_true_eq] at h7
  obtain ⟨rule, b5⟩ := r5
  obtain ⟨rfl, h7⟩ := h7
  have hmem := h5.1 rfl
  have hru := (hso.2.2.2 _ hmem).2 rfl
  dsimp only at h7 hmem hru h6
  obtain ⟨q1, q2⟩ := hj h3
  refine ⟨s, rule, _, hsd, ⟨k0, k1⟩, hs, hc, hro, q1, q2, e5, hmem, h7, Prod.ext rfl h8, ⟨_, ?_, h6⟩, by dsimp only; omega, rfl, rfl, rfl⟩
  split <;> omega
end Go.Proofs.Ytpclfdndjillnaa
namespace Go.Proofs.Ytpclfdndjillnaa
open Go.RowKit
set_option linter.unusedVariables false
set_option linter.unusedSimpArgs false
set_option maxRecDepth 100000
set_option maxHeartbeats 1000000

/-- Does a rule end the walk for a class? -/
def totalR (x : Rule) (c : Int) : Prop := x.Match = 0 ∨ (x.Match = 4 ∧ x.V = c)
instance (x : Rule) (c : Int) : Decidable (totalR x c) := by unfold totalR; infer_instance
/-- The rules that may be reached. -/
def reach (c : Int) : List Rule → List Rule
  | [] => []
  | x :: xs => if x.Match = 4 ∧ ¬ x.V = c then reach c xs else if totalR x c then [x] else x :: reach c xs
theorem total_eq (x : Rule) (c : Int) : m_policy_Total x c = some (decide (totalR x c)) := by
  refine (?_ : Ok (m_policy_Total x c) (· = decide (totalR x c))).elim fun x h => by rw [h.1, h.2]
  unfold m_policy_Total totalR
  refine ok_if (fun h => ok_some ?_) fun h => ok_if (fun h2 => ok_some ?_) fun h2 => ok_some ?_
  · simp [h]
  · simp [h2]
  · simp [h, h2]
theorem reach_sub (c : Int) : ∀ (l : List Rule), ∀ x ∈ reach c l, x ∈ l
  | [] => fun x h => by cases h
  | y :: ys => fun x h => by
    rw [reach] at h
    split at h
    · exact List.mem_cons_of_mem _ (reach_sub c ys x h)
    · split at h
      · rw [List.mem_singleton] at h; rw [h]; exact List.mem_cons_self
      · rcases List.mem_cons.1 h with h | h
        · rw [h]; exact List.mem_cons_self
        · exact List.mem_cons_of_mem _ (reach_sub c ys x h)
theorem reach_le (c : Int) : ∀ l : List Rule, (reach c l).length ≤ l.length
  | [] => Nat.le_refl _
  | x :: xs => by
    have := reach_le c xs
    rw [reach]
    split
    · simp; omega
    · split
      · simp
      · simp; omega
theorem reach_drop {c : Int} {l : List Rule} {i : Nat} (h : i < l.length) : reach c (l.drop i) = if l[i].Match = 4 ∧ ¬ l[i].V = c then reach c (l.drop (i + 1)) else if totalR l[i] c then [l[i]] else l[i] :: reach c (l.drop (i + 1)) := by
  rw [List.drop_eq_getElem_cons h, reach]
theorem t_reach (l : List Rule) (c : Int) (hl : l.length ≤ 1000) : Ok (m_policy_Reach l c) (· = reach c l) := by
  unfold m_policy_Reach
  refine ok_acc l.length (fun i b => b ++ reach c (l.drop i) = reach c l ∧ b.length ≤ i) (by omega) ⟨by simp, Nat.zero_le _⟩ (fun i b hi hI nx hnx => ?_) (fun b hI nx => ?_)
  · obtain ⟨hI, hb⟩ := hI
    rw [s_policy_Reach1]
    refine ok_if (fun _ => ok_ix (by omega) (by omega) fun hlt => ?_) fun h => absurd (Int.ofNat_lt.2 hi) h
    simp only [Int.toNat_natCast]
    rw [reach_drop hi] at hI
    have add : ¬ (l[i].Match = 4 ∧ ¬ l[i].V = c) → ∀ k : List Rule → Option (List Rule), (∀ b', b' = b ++ [l[i]] → Ok (bif decide (totalR l[i] c) then some b' else nx (b', IntKind.i64.wrap ((i : Int) + 1))) (· = reach c l)) → Ok (bd (ap 48 b [l[i]]) fun y => bd (m_policy_Total l[i] c) fun r => bif r then some y else nx (y, IntKind.i64.wrap ((i : Int) + 1))) (· = reach c l) := fun _ _ hk => by
      refine ok_ap (by simp; omega) (by simp; omega) (ok_bde (total_eq _ _) (hk _ rfl))
    have fin : ¬ (l[i].Match = 4 ∧ ¬ l[i].V = c) → ∀ b', b' = b ++ [l[i]] → Ok (bif decide (totalR l[i] c) then some b' else nx (b', IntKind.i64.wrap ((i : Int) + 1))) (· = reach c l) := fun hn b' hb' => by
      rw [if_neg hn] at hI
      refine ok_if (fun ht => ok_some ?_) fun ht => hnx b' ⟨?_, ?_⟩
      · rw [if_pos ht] at hI; rw [hb', hI]
      · rw [if_neg ht] at hI; rw [hb', ← hI]; simp
      · rw [hb']; simp; omega
    refine ok_if (fun h4 => ok_if (fun hv => hnx b ⟨?_, by omega⟩) fun hv => add (fun k => hv k.2) some (fin fun k => hv k.2)) fun h4 => add (fun k => h4 k.1) some (fin fun k => h4 k.1)
    rw [if_pos ⟨h4, hv⟩] at hI
    exact hI
  · rw [s_policy_Reach1]
    refine ok_if (fun h => by dsimp only at h; omega) fun _ => ok_some ?_
    have := hI.1
    rw [List.drop_length] at this
    simpa [reach] using this
/-- What the rules reached may prefer. -/
def prefL (l : List Rule) : List Int := (l.filter fun x => decide (x.Act = 2)).map (·.N)
theorem mem_prefL {l : List Rule} {n : Int} : n ∈ prefL l ↔ ∃ x ∈ l, x.Act = 2 ∧ x.N = n := by
  unfold prefL
  simp only [List.mem_map, List.mem_filter, decide_eq_true_eq]
  exact ⟨fun ⟨x, ⟨h1, h2⟩, h3⟩ => ⟨x, h1, h2, h3⟩, fun ⟨x, h1, h2, h3⟩ => ⟨x, ⟨h1, h2⟩, h3⟩⟩
theorem prefL_app (l : List Rule) (x : Rule) : prefL (l ++ [x]) = if x.Act = 2 then prefL l ++ [x.N] else prefL l := by
  unfold prefL
  split <;> simp [List.filter_append, *]
theorem t_prefs (s : Side) (c : Int) (hl : s.In.length ≤ 1000) : Ok (m_rise_prefs s c) fun r => r.length ≤ 1000 ∧ ∀ n, n ∈ r ↔ ∃ x ∈ reach c s.In, x.Act = 2 ∧ x.N = n := by
  unfold m_rise_prefs
  refine ok_bd (t_reach _ _ hl) fun r1 _ h1 => ?_
  subst h1
  have hr := reach_le c s.In
  refine ok_acc (reach c s.In).length (fun i b => b = prefL ((reach c s.In).take i) ∧ b.length ≤ i) (by omega) ⟨by simp [prefL], Nat.zero_le _⟩ (fun i b hi hI nx hnx => ?_) (fun b hI nx => ?_)
  · obtain ⟨hI, hb⟩ := hI
    rw [s_rise_prefs1]
    refine ok_if (fun _ => ok_ix (by omega) (by omega) fun hlt => ?_) fun h => absurd (Int.ofNat_lt.2 hi) h
    simp only [Int.toNat_natCast]
    have ht : (reach c s.In).take (i + 1) = (reach c s.In).take i ++ [(reach c s.In)[i]] := (List.take_append_getElem hi).symm
    refine ok_if (fun h2 => ok_ap (by simp; omega) (by simp; omega) (hnx _ ⟨?_, by simp; omega⟩)) fun h2 => hnx _ ⟨?_, by omega⟩
    · rw [ht, hI, prefL_app, if_pos h2]
    · rw [ht, hI, prefL_app, if_neg h2]
  · rw [s_rise_prefs1]
    have := hI.2; refine ok_if (fun h => by dsimp only at h; omega) fun _ => ok_some ⟨by dsimp only; omega, fun n => ?_⟩
    rw [hI.1, List.take_length, mem_prefL]
theorem t_min (l : List Int) (h0 : 0 < l.length) (hl : l.length ≤ 10000000) : Ok (m_slices_Min___int_int l) fun r => r ∈ l ∧ ∀ n ∈ l, r ≤ n := by
  unfold m_slices_Min___int_int
  refine ok_if (fun h => by omega) fun _ => ok_ix (by omega) (by omega) fun hlt => ok_loop (fun st => ∃ j : Nat, st.2 = (j : Int) ∧ j ≤ l.length ∧ st.1 ∈ l ∧ ∀ i (h : i < l.length), i < j → st.1 ≤ l[i]) (fun st => ((l.length : Int) - st.2).toNat) ⟨1, rfl, h0, List.getElem_mem _, fun i h h1 => ?_⟩ (by dsimp only; omega) ?_
  · have : i = 0 := by omega
    subst this
    exact Int.le_refl _
  rintro ⟨m, _⟩ ⟨j, rfl, hj, hm, hI⟩ nx hnx
  dsimp only at hj hm hI hnx
  rw [s_slices_Min___int_int1]
  refine ok_if (fun h => ok_ix (by omega) (by omega) fun hlt => ?_) fun h => ok_some ⟨hm, fun n hn => ?_⟩
  · dsimp only at h
    simp only [Int.toNat_natCast]
    have hw : IntKind.i64.wrap ((j : Int) + 1) = ((j + 1 : Nat) : Int) := by rw [w64 (by omega) (by omega)]; rfl
    refine hnx _ ⟨j + 1, hw, by omega, ?_, fun i hi hij => ?_⟩ (by simp only [hw]; omega)
    · dsimp only
      split
      · exact List.getElem_mem _
      · exact hm
    · dsimp only
      rcases Nat.lt_succ_iff_lt_or_eq.1 hij with g | rfl
      · have := hI i hi g
        split <;> omega
      · split <;> omega
  · dsimp only at h
    obtain ⟨i, hi, rfl⟩ := List.getElem_of_mem hn
    exact hI i hi (by omega)
theorem t_max (l : List Int) (h0 : 0 < l.length) (hl : l.length ≤ 10000000) : Ok (m_slices_Max___int_int l) fun r => r ∈ l ∧ ∀ n ∈ l, n ≤ r := by
  unfold m_slices_Max___int_int
  refine ok_if (fun h => by omega) fun _ => ok_ix (by omega) (by omega) fun hlt => ok_loop (fun st => ∃ j : Nat, st.2 = (j : Int) ∧ j ≤ l.length ∧ st.1 ∈ l ∧ ∀ i (h : i < l.length), i < j → l[i] ≤ st.1) (fun st => ((l.length : Int) - st.2).toNat) ⟨1, rfl, h0, List.getElem_mem _, fun i h h1 => ?_⟩ (by dsimp only; omega) ?_
  · have : i = 0 := by omega
    subst this
    exact Int.le_refl _
  rintro ⟨m, _⟩ ⟨j, rfl, hj, hm, hI⟩ nx hnx
  dsimp only at hj hm hI hnx
  rw [s_slices_Max___int_int1]
  refine ok_if (fun h => ok_ix (by omega) (by omega) fun hlt => ?_) fun h => ok_some ⟨hm, fun n hn => ?_⟩
  · dsimp only at h
    simp only [Int.toNat_natCast]
    have hw : IntKind.i64.wrap ((j : Int) + 1) = ((j + 1 : Nat) : Int) := by rw [w64 (by omega) (by omega)]; rfl
    refine hnx _ ⟨j + 1, hw, by omega, ?_, fun i hi hij => ?_⟩ (by simp only [hw]; omega)
    · dsimp only
      split
      · exact List.getElem_mem _
      · exact hm
    · dsimp only
      rcases Nat.lt_succ_iff_lt_or_eq.1 hij with g | rfl
      · have := hI i hi g
        split <;> omega
      · split <;> omega
  · dsimp only at h
    obtain ⟨i, hi, rfl⟩ := List.getElem_of_mem hn
    exact hI i hi (by omega)
/-- What a class may be preferred with. -/
def Pref (c : Conf) (k n : Int) : Prop := ∃ s ∈ c.Sides, s.Rel = k ∧ ∃ x ∈ reach k s.In, x.Act = 2 ∧ x.N = n
theorem t_low (c : Conf) (k : Int) (f : FewC c) : Ok (m_rise_Low c k) fun r => (k = 0 → r = (400, true)) ∧ (¬ k = 0 → (∀ n, Pref c k n → r.2 = true ∧ r.1 ≤ n) ∧ (r.2 = true → Pref c k r.1)) := by
  have hs := f.sides
  unfold m_rise_Low
  refine ok_if (fun h => ok_some ⟨fun _ => rfl, fun k => absurd h k⟩) fun hk => ok_acc c.Sides.length (fun i b => b.length ≤ i * 1000 ∧ ∀ n, n ∈ b ↔ ∃ j, ∃ h : j < c.Sides.length, j < i ∧ c.Sides[j].Rel = k ∧ ∃ x ∈ reach k c.Sides[j].In, x.Act = 2 ∧ x.N = n) (by omega) ⟨by simp, fun n => by simp⟩ (fun i b hi hI nx hnx => ?_) (fun b hI nx => ?_)
  · obtain ⟨hb, hI⟩ := hI
    have hin := f.ins _ (List.getElem_mem hi)
    rw [s_rise_Low1]
    refine ok_if (fun _ => ok_ix (by omega) (by omega) fun hlt => ?_) fun h => absurd (Int.ofNat_lt.2 hi) h
    simp only [Int.toNat_natCast]
    refine ok_if (fun h2 => ok_bd (t_prefs _ _ hin) fun r3 _ h3 => ok_ap (by omega) (by omega) (hnx _ ⟨by simp; omega, fun n => ?_⟩)) fun h2 => hnx _ ⟨by omega, fun n => ?_⟩
    · rw [List.mem_append, hI, h3.2]
      constructor
      · rintro (⟨j, h, hj, q⟩ | q)
        · exact ⟨j, h, by omega, q⟩
        · exact ⟨i, hi, by omega, h2, q⟩
      · rintro ⟨j, h, hj, q⟩
        rcases Nat.lt_succ_iff_lt_or_eq.1 hj with g | rfl
        · exact .inl ⟨j, h, g, q⟩
        · exact .inr q.2
    · rw [hI]
      constructor
      · rintro ⟨j, h, hj, q⟩
        exact ⟨j, h, by omega, q⟩
      · rintro ⟨j, h, hj, q⟩
        rcases Nat.lt_succ_iff_lt_or_eq.1 hj with g | rfl
        · exact ⟨j, h, g, q⟩
        · exact absurd q.1 h2
  · obtain ⟨hb, hI⟩ := hI
    have hP : ∀ n, n ∈ b ↔ Pref c k n := fun n => by
      rw [hI]
      constructor
      · rintro ⟨j, h, _, q⟩
        exact ⟨_, List.getElem_mem h, q⟩
      · rintro ⟨s, hs, q⟩
        obtain ⟨j, h, rfl⟩ := List.getElem_of_mem hs
        exact ⟨j, h, h, q⟩
    rw [s_rise_Low1]
    refine ok_if (fun h => by dsimp only at h; omega) fun _ => ok_if (fun h0 => ok_some ⟨fun h => absurd h hk, fun _ => ⟨fun n hn => ?_, fun h => Bool.noConfusion h⟩⟩) fun h0 => ok_bd (t_min b (by dsimp only at h0; omega) (by omega)) fun r4 _ h4 => ok_some ⟨fun h => absurd h hk, fun _ => ⟨fun n hn => ⟨rfl, h4.2 n ((hP n).2 hn)⟩, fun _ => (hP _).1 h4.1⟩⟩
    have := (hP n).2 hn
    have h0' : b.length = 0 := by dsimp only at h0; omega
    rw [List.length_eq_zero_iff.1 h0'] at this
    cases this
theorem t_high (c : Conf) (k : Int) (f : FewC c) : Ok (m_rise_High c k) fun r => ∀ s, 0 ≤ k → c.Sides[k.toNat]? = some s → (∀ x ∈ reach s.Rel s.In, x.Act = 2 → r.2 = true ∧ x.N ≤ r.1) ∧ (r.2 = true → ∃ x ∈ reach s.Rel s.In, x.Act = 2 ∧ x.N = r.1) := by
  have hs := f.sides
  unfold m_rise_High
  refine ok_if (fun h => ok_some fun s h0 => by omega) fun h0 => ok_if (fun h1 => ok_some fun s h2 h3 => ?_) fun h1 => ok_ix (by omega) (by omega) fun hlt => ok_ix (by omega) (by omega) fun hlt => ok_bd (t_prefs _ _ (f.ins _ (List.getElem_mem _))) fun r3 _ h3 => ok_if (fun h4 => ok_some fun s _ e => ?_) fun h4 => ok_bd (t_max _ (by omega) (by omega)) fun r5 _ h5 => ok_some fun s _ e => ?_
  · rw [List.getElem?_eq_none (by omega)] at h3
    cases h3
  · rw [List.getElem?_eq_getElem hlt] at e
    cases e
    refine ⟨fun x hx ha => ?_, fun h => Bool.noConfusion h⟩
    have := (h3.2 x.N).2 ⟨x, hx, ha, rfl⟩
    rw [List.length_eq_zero_iff.1 (by omega : r3.length = 0)] at this
    cases this
  · rw [List.getElem?_eq_getElem hlt] at e
    cases e
    exact ⟨fun x hx ha => ⟨rfl, h5.2 _ ((h3.2 x.N).2 ⟨x, hx, ha, rfl⟩)⟩, fun _ => (h3.2 _).1 h5.1⟩
theorem t_findR (l : List Rule) (hl : l.length ≤ 1000) : Ok (m_slices_ContainsFunc___api_Rule_api_Rule_s1 l) fun b => b = true ↔ ∃ x ∈ l, ¬ x.Act = 0 := by
  unfold m_slices_ContainsFunc___api_Rule_api_Rule_s1 m_slices_IndexFunc___api_Rule_api_Rule_s1
  refine ok_bd (P := fun r => r ≥ 0 ↔ ∃ x ∈ l, ¬ x.Act = 0) (ok_idx l.length (fun j => ∀ i (h : i < l.length), i < j → l[i].Act = 0) (by omega) (fun _ _ h => absurd h (Nat.not_lt_zero _)) (fun i hi hI nx hnx => ?_) (fun hI nx => ?_)) fun r _ hr => ok_some (by rw [decide_eq_true_eq]; exact hr)
  · rw [s_slices_IndexFunc___api_Rule_api_Rule_s11]
    refine ok_if (fun _ => ok_ix (by omega) (by omega) fun hlt => ?_) fun h => absurd (Int.ofNat_lt.2 hi) h
    simp only [Int.toNat_natCast]
    unfold m_rise_Tells_1
    refine ok_bde rfl (ok_if (fun h1 => ok_some ⟨fun _ => ⟨_, List.getElem_mem _, h1⟩, fun _ => by omega⟩) fun h1 => hnx fun j hj hji => ?_)
    rcases Nat.lt_succ_iff_lt_or_eq.1 hji with g | rfl
    · exact hI j hj g
    · omega
  · rw [s_slices_IndexFunc___api_Rule_api_Rule_s11]
    refine ok_if (fun h => by omega) fun _ => ok_some ⟨fun h => by omega, fun ⟨x, hx, h⟩ => ?_⟩
    obtain ⟨i, hi, rfl⟩ := List.getElem_of_mem hx
    exact absurd (hI i hi hi) h
theorem t_tells (c : Conf) (k n : Int) (f : FewC c) : Ok (m_rise_Tells c k n) fun b => b = true ↔ 0 ≤ k ∧ ∃ s, c.Sides[k.toNat]? = some s ∧ ∃ x ∈ reach n s.Out, ¬ x.Act = 0 := by
  have hs := f.sides
  unfold m_rise_Tells
  refine ok_if (fun h => ok_some ⟨fun h => Bool.noConfusion h, fun h => by omega⟩) fun h0 => ok_if (fun h1 => ok_some ⟨fun h => Bool.noConfusion h, fun ⟨_, s, e, _⟩ => ?_⟩) fun h1 => ok_ix (by omega) (by omega) fun hlt => ok_bd (t_reach _ _ (f.outs _ (List.getElem_mem _))) fun r2 _ h2 => ?_
  · rw [List.getElem?_eq_none (by omega)] at e
    cases e
  · subst h2
    have := f.outs _ (List.getElem_mem hlt)
    have := reach_le n c.Sides[k.toNat].Out
    refine ok_bd (t_findR _ (by omega)) fun r3 _ h3 => ok_some ?_
    rw [h3]
    constructor
    · exact fun q => ⟨by omega, _, List.getElem?_eq_getElem hlt, q⟩
    · rintro ⟨_, s, e, q⟩
      rw [List.getElem?_eq_getElem hlt] at e
      cases e
      exact q
theorem t_side (c : Conf) (n : Int) (f : FewC c) : Ok (m_rise_Side c n) fun r => r.2 = true → 0 ≤ r.1 ∧ ∃ s, c.Sides[r.1.toNat]? = some s ∧ s.As = n := by
  have hs := f.sides
  unfold m_rise_Side
  refine ok_jn (fun j => j ≥ 0 → ∃ s, c.Sides[j.toNat]? = some s ∧ s.As = n) (fun k' hk => ok_idx c.Sides.length (fun _ => True) (by omega) trivial (fun i hi _ nx hnx => ?_) (fun _ nx => ?_)) fun j hj => ok_some fun h => ?_
  · rw [s_rise_Side1]
    refine ok_if (fun _ => ok_ix (by omega) (by omega) fun hlt => ok_if (fun h1 => hk _ fun _ => ⟨_, List.getElem?_eq_getElem hlt, h1⟩) fun _ => hnx trivial) fun h => absurd (Int.ofNat_lt.2 hi) h
  · rw [s_rise_Side1]
    exact ok_if (fun h => by omega) fun _ => hk _ fun h => by omega
  · have h := of_decide_eq_true h
    rw [if_neg (by omega)]
    exact ⟨h, hj h⟩
theorem law15_awake : m_ridgewaylaw15_awake = some true := by kernel_rfl

/-- What it means that a link rises. -/
structure RisesR (a b : Conf) : Prop where
  saneA : m_conf_Sane a = some true
  saneB : m_conf_Sane b = some true
  okA : ConfOk a
  okB : ConfOk b
  ex : ∃ r1 r2 hi, m_rise_Side a b.As = some r1 ∧ m_rise_Side b a.As = some r2 ∧ r1.2 = true ∧ r2.2 = true ∧ m_rise_High b r2.1 = some hi ∧
    ∀ k, 0 ≤ k → k ≤ 3 → ∀ lo, m_rise_Low a k = some lo → lo.2 = true → hi.2 = true → m_rise_Tells a r1.1 k = some true → hi.1 ≤ lo.1
theorem ix4 (i : Nat) (h : i < 4) : ix [(0 : Int), (1 : Int), (2 : Int), (3 : Int)] (i : Int) = some (i : Int) := by
  have : i = 0 ∨ i = 1 ∨ i = 2 ∨ i = 3 := by omega
  rcases this with rfl | rfl | rfl | rfl <;> simp [ix_eq]
theorem t_rises (a b : Conf) (fa : FewC a) (fb : FewC b) : Ok (m_rise_Rises a b) fun r => r = true → RisesR a b := by
  unfold m_rise_Rises
  refine ok_bd (t_side a b.As fa) fun r1 e1 h1 => ok_bd (t_side b a.As fb) fun r2 e2 h2 => ok_ifnb (fun _ => ok_some fun h => Bool.noConfusion h) fun q1 => ok_ifnb (fun _ => ok_some fun h => Bool.noConfusion h) fun q2 => ok_bd (t_sane a fa) fun r3 e3 h3 => ok_ifnb (fun _ => ok_some fun h => Bool.noConfusion h) fun q3 =>
    ok_bd (t_sane b fb) fun r4 e4 h4 => ok_ifnb (fun _ => ok_some fun h => Bool.noConfusion h) fun q4 => ok_bd (t_high b r2.1 fb) fun r5 e5 h5 => ?_
  subst q3 q4
  refine ok_jn (fun j => j.1 < 0 → ∀ i : Nat, i < 4 → ∀ lo, m_rise_Low a (i : Int) = some lo → lo.2 = true → r5.2 = true → m_rise_Tells a r1.1 (i : Int) = some true → r5.1 ≤ lo.1) (fun k1 hk1 => ?_) fun j hj => ok_some fun h => ?_
  · refine ok_acc' 4 (fun i st => st = r5.2 ∧ ∀ j : Nat, j < i → ∀ lo, m_rise_Low a (j : Int) = some lo → lo.2 = true → r5.2 = true → m_rise_Tells a r1.1 (j : Int) = some true → r5.1 ≤ lo.1) (by omega) ⟨rfl, fun j h => by omega⟩ (fun i st hi hI nx hnx => ?_) (fun st hI nx => ?_)
    · obtain ⟨rfl, hI⟩ := hI
      rw [s_rise_Rises1]
      refine ok_if (fun _ => ok_bde (x := (i : Int)) ?_ ?_) fun h => absurd (show (i : Int) < (([(0 : Int), (1 : Int), (2 : Int), (3 : Int)]).length : Int) from by simp; omega) h
      · exact ix4 i hi
      · refine ok_jn (fun j => j.2 = r5.2 ∧ (j.1 = false → ∀ lo, m_rise_Low a (i : Int) = some lo → lo.2 = true → r5.2 = true → m_rise_Tells a r1.1 (i : Int) = some true → r5.1 ≤ lo.1)) (fun k3 hk3 => ok_bd (t_low a i fa) fun r7 e7 h7 => ok_ifb (fun q7 => ok_ifb (fun q8 => ok_bd (t_tells a r1.1 i fa) fun r8 e8 h8 => ok_ifb (fun q9 => hk3 _ ⟨q8.symm, fun hd lo el hl hh ht => ?_⟩) fun q9 => hk3 _ ⟨q8.symm, fun hd lo el hl hh ht => ?_⟩) fun q8 => hk3 _ ⟨q8.symm, fun hd lo el hl hh ht => ?_⟩) fun q7 => hk3 _ ⟨rfl, fun hd lo el hl hh ht => ?_⟩) fun j hj => ok_ifb (fun h => hk1 _ fun h2 => by dsimp only at h2; omega) fun h => hnx _ ⟨hj.1, fun m hm => ?_⟩
        · rw [e7] at el
          cases el
          have := of_decide_eq_false hd
          omega
        · rw [e8, q9] at ht
          cases ht
        · exact absurd (q8.symm.trans hh) (by decide)
        · rw [e7] at el
          cases el
          rw [hl] at q7
          cases q7
        · rcases Nat.lt_succ_iff_lt_or_eq.1 hm with g | rfl
          · exact hI m g
          · exact hj.2 h
    · rw [s_rise_Rises1]
      exact ok_if (fun h => absurd h (by simp)) fun _ => hk1 _ fun _ i hi => hI.2 i hi
  · have h : ¬ j.1 ≥ 0 := by
      rw [Bool.not_eq_true'] at h
      exact of_decide_eq_false h
    refine ⟨e3, e4, h3 rfl, h4 rfl, r1, r2, r5, e1, e2, q1, q2, e5, fun k k0 k3 lo e hl hh ht => ?_⟩
    have hk : ((k.toNat : Nat) : Int) = k := by omega
    have := hj (by omega) k.toNat (by omega)
    rw [hk] at this
    exact this lo e hl hh ht
end Go.Proofs.Ytpclfdndjillnaa
namespace Go.Proofs.Ytpclfdndjillnaa
open Go.RowKit
set_option linter.unusedVariables false
set_option linter.unusedSimpArgs false
set_option maxRecDepth 100000
set_option maxHeartbeats 1000000
theorem t_fitsR (r : Rule) (v : View) (hl : v.As.length ≤ 9223372036854775807) : Ok (m_policy_Fits r v) fun b => (totalR r v.Class → b = true) ∧ (b = true → ¬ (r.Match = 4 ∧ ¬ r.V = v.Class)) := by
  unfold m_policy_Fits m_policy_fits_1 m_policy_fits_2 m_policy_fits_3 m_policy_fits_4 m_policy_fits_5 totalR
  refine ok_if (fun _ => ok_some ⟨fun h => by omega, fun h => Bool.noConfusion h⟩) fun h1 => ok_if (fun _ => ok_some ⟨fun h => by omega, fun h => Bool.noConfusion h⟩) fun h2 => ok_if (fun _ => ok_bde rfl (ok_some ⟨fun h => rfl, fun h => by omega⟩)) fun h3 => ok_if (fun _ => ?_) fun h4 =>
    ok_if (fun _ => ?_) fun h5 => ok_if (fun _ => ok_bde rfl (ok_some ⟨fun h => by omega, fun h => by omega⟩)) fun h6 => ok_if (fun _ => ok_bde rfl (ok_some ⟨fun h => ?_, fun h => ?_⟩)) fun h7 => by omega
  · exact ok_bd (P := fun _ => True) (ok_bd (t_has _ _) fun _ _ _ => ok_some trivial) fun _ _ _ => ok_some ⟨fun h => by omega, fun h => by omega⟩
  · exact ok_bd (P := fun _ => True) (ok_bd (t_contains _ _ hl) fun _ _ _ => ok_some trivial) fun _ _ _ => ok_some ⟨fun h => by omega, fun h => by omega⟩
  · rw [decide_eq_true_eq]; omega
  · rw [decide_eq_true_eq] at h; omega
theorem t_pickR (l : List Rule) (v : View) (hl : l.length ≤ 9223372036854775807) (hv : v.As.length ≤ 9223372036854775807) : Ok (m_policy_Pick l v) fun r => r.2 = true → r.1 ∈ reach v.Class l := by
  unfold m_policy_Pick
  refine ok_idx l.length (fun i => ∀ y ∈ reach v.Class (l.drop i), y ∈ reach v.Class l) hl (fun y h => h) (fun i hi hI nx hnx => ?_) (fun _ nx => ?_)
  · rw [s_policy_Pick1]
    refine ok_if (fun _ => ok_ix (by omega) (by omega) fun hlt => ?_) fun h => absurd (Int.ofNat_lt.2 hi) h
    simp only [Int.toNat_natCast]
    rw [reach_drop hi] at hI
    refine ok_bd (t_fitsR _ _ hv) fun b _ hb => ok_ifb (fun h => ok_some fun _ => hI _ ?_) fun h => hnx fun y hy => hI y ?_
    · rw [if_neg (hb.2 h)]
      split
      · exact List.mem_singleton.2 rfl
      · exact List.mem_cons_self
    · split
      · exact hy
      · rw [if_neg fun ht => by rw [hb.1 ht] at h; cases h]
        exact List.mem_cons_of_mem _ hy
  · rw [s_policy_Pick1]
    exact ok_if (fun h => by omega) fun _ => ok_some fun k => Bool.noConfusion k
theorem pick_reach {l : List Rule} {v : View} {rule : Rule} (e : m_policy_Pick l v = some (rule, true)) (hl : l.length ≤ 9223372036854775807) (hv : v.As.length ≤ 9223372036854775807) : rule ∈ reach v.Class l := by
  obtain ⟨r, e2, h⟩ := t_pickR l v hl hv
  rw [e] at e2
  cases e2
  exact h rfl

theorem clsOf_some {c : Conf} {k : Int} {s : Side} (h0 : 0 ≤ k) (e : c.Sides[k.toNat]? = some s) : clsOf c k = s.Rel := by
  unfold clsOf
  rw [if_neg (by omega), e]
  rfl
/-- What is taken lies between the bounds. -/
theorem inR_pref {c : Conf} {k : Int} {x : Prefix} {p : Path} {r : Route} (f : FewC c) (hp : p.As.length ≤ 9223372036854775807) (h : InR c k x p r) : ∃ s, c.Sides[k.toNat]? = some s ∧ 0 ≤ k ∧ (1 ≤ s.Rel ∧ s.Rel ≤ 3) ∧ ∃ y ∈ reach s.Rel s.In, y.Act = 2 ∧ y.N = r.Pref := by
  obtain ⟨s, rule, m, hs, hk, h0, hc, hpa, h1, h2, h3, h4, h5, h6, h7, h8, rfl⟩ := h
  have hlt : k.toNat < c.Sides.length := by omega
  have hso := hc.2.2.2 _ hlt
  have hin := f.ins _ (List.getElem_mem hlt)
  rw [List.getElem?_eq_getElem hlt] at hs
  cases hs
  exact ⟨_, List.getElem?_eq_getElem hlt, hk.1, hso.2.1, rule, pick_reach h5 (by omega) hp, h7, rfl⟩
theorem outR_tells {c : Conf} {k : Int} {x : Prefix} {r : Route} {q : Path} (f : FewC c) (hp : r.P.As.length ≤ 9223372036854775807) (h : OutR c k x r q) : 0 ≤ k ∧ ∃ s, c.Sides[k.toNat]? = some s ∧ ∃ y ∈ reach (clsOf c r.From) s.Out, ¬ y.Act = 0 := by
  obtain ⟨s, rule, m, hs, hk, h0, hc, hr, h1, h2, h3, h4, h5, h6, h7, h8, ho, hh, hm⟩ := h
  have hlt : k.toNat < c.Sides.length := by omega
  have hin := f.outs _ (List.getElem_mem hlt)
  rw [List.getElem?_eq_getElem hlt] at hs
  cases hs
  exact ⟨hk.1, _, List.getElem?_eq_getElem hlt, rule, pick_reach h3 (by omega) hp, h5⟩
theorem inR_len {c : Conf} {k : Int} {x : Prefix} {p : Path} {r : Route} (h : InR c k x p r) : r.P.As.length ≤ 32 ∧ r.From = k := by
  obtain ⟨s, rule, m, hs, hk, h0, hc, hpa, h1, h2, h3, h4, h5, h6, h7, h8, rfl⟩ := h
  exact ⟨h3, rfl⟩
end Go.Proofs.Ytpclfdndjillnaa
namespace Go.Proofs.Ytpclfdndjillnaa
open Go.RowKit
set_option linter.unusedVariables false
set_option linter.unusedSimpArgs false
set_option maxRecDepth 100000
set_option maxHeartbeats 1000000
theorem cmp_eq (a b : Int) : m_cmp_Compare_int a b = some (if a < b then -1 else if a > b then 1 else 0) := by
  refine (?_ : Ok (m_cmp_Compare_int a b) (· = if a < b then -1 else if a > b then 1 else 0)).elim fun x h => by rw [h.1, h.2]
  unfold m_cmp_Compare_int m_cmp_isNaN_int
  refine ok_bde rfl (ok_bde rfl (ok_if (fun h => absurd rfl h) fun _ => ok_if (fun h => absurd rfl h) fun _ => ok_if (fun h => ok_some (by rw [if_pos h])) fun h => ok_if (fun h2 => ok_some (by rw [if_neg h, if_pos h2])) fun h2 => ok_some (by rw [if_neg h, if_neg h2])))
/-- A route that is preferred less, or is longer, comes behind. -/
theorem cmp_worse (a b : Route) (h : b.Pref < a.Pref ∨ (b.Pref = a.Pref ∧ a.P.As.length < b.P.As.length)) : m_route_Compare a b = some (-1) := by
  unfold m_route_Compare m_route_pair__pref m_route_pair__length
  simp only [cmp_eq, bd_some]
  rcases h with h | ⟨h1, h2⟩
  · rw [if_pos h]; rfl
  · rw [if_neg (by omega), if_neg (by omega), if_pos (by omega)]; rfl
theorem riseWorse_true (a b : Conf) (k : Int) (x : Prefix) (p : Path) (own : Bool) (ha : a.Sides.length ≤ 9223372036854775807) (hb : b.Sides.length ≤ 9223372036854775807) (hp : p.As.length ≤ 9223372036854775807) : m_ridgewaylaw15_RiseWorse a b k x p own = some true := by
  refine ok_true ?_
  unfold m_ridgewaylaw15_RiseWorse
  refine ok_bde law15_awake (ok_bd (t_few a ha) fun b1 _ hb1 => ok_ifnb (fun _ => ok_some rfl) fun h1 => ok_bd (t_few b hb) fun b2 _ hb2 => ok_ifnb (fun _ => ok_some rfl) fun h2 => ok_if (fun _ => ok_some rfl) fun hl => ?_)
  have fa := hb1 h1
  have fb := hb2 h2
  refine ok_bd (t_rises a b fa fb) fun r4 _ h4 => ok_ifnb (fun _ => ok_some rfl) fun q4 => ?_
  obtain ⟨sa, sb, oa, ob, r1, r2, hi, e1, e2, t1, t2, eh, hall⟩ := h4 q4
  refine ok_bde e1 (ok_bde e2 (ok_bd (t_in a k x p fa hp) fun r7 e7 h7 => ?_))
  refine ok_jn (fun j => j.2.2.2.1.length ≤ 32 ∧ (j.1 = true → j.2.2.2.1.length ≤ 32 ∧ (0 ≤ clsOf a j.2.2.2.2.2.2 ∧ clsOf a j.2.2.2.2.2.2 ≤ 3) ∧ ∀ lo, m_rise_Low a (clsOf a j.2.2.2.2.2.2) = some lo → lo.2 = true ∧ lo.1 ≤ j.2.1)) (fun k1 hk1 => ok_ifb (fun ho => ok_bde (x := ⟨400, ⟨0, [], a.Id, 0⟩, -1⟩) rfl (hk1 _ ⟨by simp, fun _ => ⟨by simp, ⟨Int.le_refl 0, show (0 : Int) ≤ 3 by decide⟩, fun lo el => ?_⟩⟩)) fun ho => hk1 _ ⟨?_, fun hr => ?_⟩) fun j hj => ?_
  · obtain ⟨q, e, hq, _⟩ := t_low a (clsOf a (-1)) fa
    rw [e] at el
    cases el
    rw [hq rfl]
    exact ⟨rfl, Int.le_refl _⟩
  · cases h : r7.2 with
    | true => exact (inR_len (h7.1 h)).1
    | false => rw [h7.2 h]; exact Nat.zero_le _
  · have hin := h7.1 hr
    obtain ⟨s, hs, hk, hrel, y, hy, hya, hyn⟩ := inR_pref fa hp hin
    obtain ⟨hlen, hfrom⟩ := inR_len hin
    have hcls := clsOf_some hk hs
    dsimp only
    rw [hfrom, hcls]
    refine ⟨hlen, by omega, fun lo el => ?_⟩
    obtain ⟨q, e, _, hq⟩ := t_low a s.Rel fa
    rw [e] at el
    cases el
    have hmem : s ∈ a.Sides := List.mem_of_getElem? hs
    rw [← hyn]
    exact (hq (by omega)).1 _ ⟨s, hmem, rfl, y, hy, hya, rfl⟩
  obtain ⟨hj1, hj2⟩ := hj
  generalize hR : (Route.mk j.2.1 (Path.mk j.2.2.1 j.2.2.2.1 j.2.2.2.2.1 j.2.2.2.2.2.1) j.2.2.2.2.2.2) = R
  have hRl : R.P.As.length ≤ 32 := by rw [← hR]; exact hj1
  refine ok_bd (t_out a r1.1 x R fa (by omega)) fun r9 e9 h9 => ?_
  have h9l : r9.1.As.length ≤ 32 := by
    cases h : r9.2 with
    | true =>
      obtain ⟨s, rule, m, hs, hk, h0, hc, hr, f1, f2, f3, f4, f5, f6, f7, f8, ho, hh, hm⟩ := h9.1 h
      exact f8
    | false => rw [h9.2 h]; exact Nat.zero_le _
  refine ok_bd (t_in b r2.1 x r9.1 fb (by omega)) fun r10 e10 h10 => ok_ifnb (fun h => by rw [t1] at h; cases h) fun _ => ok_ifnb (fun h => by rw [t2] at h; cases h) fun _ => ok_ifb (fun _ => ok_ifnb (fun _ => ok_some rfl) fun hj => ok_ifnb (fun _ => ok_some rfl) fun h9b => ok_ifnb (fun _ => ok_some rfl) fun h10b => ?_) fun h => Bool.noConfusion h
  obtain ⟨_, hcl, hlo⟩ := hj2 hj
  have hto := outR_tells fa (by omega) (h9.1 h9b)
  have hin := h10.1 h10b
  obtain ⟨s, hs, hk, hrel, y, hy, hya, hyn⟩ := inR_pref fb (by omega) hin
  obtain ⟨lo, el, _⟩ := t_low a (clsOf a j.2.2.2.2.2.2) fa
  obtain ⟨tl, et, htl⟩ := t_tells a r1.1 (clsOf a j.2.2.2.2.2.2) fa
  obtain ⟨hi2, eh2, hhi⟩ := t_high b r2.1 fb
  rw [eh] at eh2
  cases eh2
  obtain ⟨l1, l2⟩ := hlo lo el
  have hF : R.From = j.2.2.2.2.2.2 := by rw [← hR]
  have hPf : R.Pref = j.2.1 := by rw [← hR]
  rw [hF] at hto
  have htl := htl.2 hto
  subst htl
  obtain ⟨g1, g2⟩ := (hhi s hk hs).1 y hy hya
  have := hall _ hcl.1 hcl.2 lo el l1 g1 et
  obtain ⟨s', rule, m, hs', hk', h0, hc, hpa, f1, f2, f3, f4, f5, f6, f7, f8, hr10⟩ := hin
  obtain ⟨s2, rule2, m2, hs2, hk2, h02, hc2, hr2, g1, g2, g3, g4, g5, g6, ⟨n, hn, hq⟩, g8, ho, hh, hm⟩ := h9.1 h9b
  have hlen : r10.1.P.As.length = n + R.P.As.length := by rw [hr10]; dsimp only; rw [hq]; simp
  refine ok_bde (cmp_worse R r10.1 ?_) (ok_some rfl)
  omega
end Go.Proofs.Ytpclfdndjillnaa
