/- What the models come to. -/
import Derived.Test.YtkdodhkiemfpeabQ0
import Derived.Test.YtkdodhkiemfpeabMe6
import Derived.KernelRfl
import Derived.Test.YtkdodhkiemfpeabNum
namespace Go.Proofs.Ytkdodhkiemfpeab
open Go.RowKit
set_option linter.unusedVariables false
set_option linter.unusedSimpArgs false
set_option maxRecDepth 100000
set_option maxHeartbeats 1000000

theorem t_mask (a n : Int) : Ok (m_prefix_Mask a n) fun _ => True := by
  unfold m_prefix_Mask
  have h : 0 ≤ IntKind.i64.wrap ((32 : Int) - (if (32 : Int) < (if (0 : Int) > n then (0 : Int) else n) then (32 : Int) else (if (0 : Int) > n then (0 : Int) else n))) := by
    rw [w64] <;> (split <;> split <;> omega)
  rw [nn_some h, nn_some h]
  exact ok_some trivial
theorem t_prefix (x : Prefix) : Ok (m_prefix_Sane x) fun _ => True := by
  unfold m_prefix_Sane
  refine ok_if (fun _ => ok_if (fun _ => ok_bd (t_mask _ _) fun _ _ _ => ok_some trivial) fun _ => ok_some trivial) fun _ => ok_some trivial
theorem t_has (x y : Prefix) : Ok (m_prefix_Has x y) fun _ => True := by
  unfold m_prefix_Has
  refine ok_bd (t_prefix _) fun _ _ _ => ok_ifb (fun _ => ok_bd (t_prefix _) fun _ _ _ => ok_ifb (fun _ => ok_if (fun _ => ok_bd (t_mask _ _) fun _ _ _ => ok_some trivial) fun _ => ok_some trivial) fun _ => ok_some trivial) fun _ => ok_some trivial
theorem t_number (n : Int) : Ok (m_conf_saneNumber n) fun b => b = true → 1 ≤ n ∧ n ≤ 4294967295 := by
  unfold m_conf_saneNumber
  exact ok_if (fun h => ok_some fun k => ⟨h, of_decide_eq_true k⟩) fun _ => ok_some fun k => Bool.noConfusion k
theorem t_hold (n : Int) : Ok (m_conf_saneHold n) fun _ => True := by
  unfold m_conf_saneHold
  exact ok_if (fun h => ok_some trivial) fun _ => ok_if (fun _ => ok_some trivial) fun _ => ok_some trivial
theorem t_cap (n : Int) : Ok (m_conf_saneCap n) fun _ => True := by
  unfold m_conf_saneCap
  exact ok_if (fun h => ok_some trivial) fun _ => ok_some trivial
/-- A rule that may be. -/
def RuleOk (b : Bool) (x : Rule) : Prop :=
  (b = true → (x.Act = 0 ∧ x.N = 0) ∨ (x.Act = 2 ∧ 1 ≤ x.N ∧ x.N < 400)) ∧ (b = false → x.Act = 0 ∨ x.Act = 1 ∨ (x.Act = 3 ∧ 1 ≤ x.N ∧ x.N ≤ 8))
theorem t_match (x : Rule) (b : Bool) : Ok (m_policy_saneMatch x b) fun _ => True := by
  unfold m_policy_saneMatch
  repeat' first | exact ok_some trivial | refine ok_if (fun _ => ?_) (fun _ => ?_) | refine ok_ifb (fun _ => ?_) (fun _ => ?_) | refine ok_bd (t_prefix _) fun _ _ _ => ?_
theorem t_act (x : Rule) (b : Bool) : Ok (m_policy_saneAct x b) fun r => r = true → RuleOk b x := by
  unfold m_policy_saneAct RuleOk
  cases b
  all_goals
    simp only [Bool.not_true, Bool.not_false, cond_true, cond_false]
    repeat' first | (refine ok_if (fun _ => ?_) (fun _ => ?_)) | refine ok_some fun k => ?_
    all_goals first | (cases k; done) | (simp only [decide_eq_true_eq] at k; refine ⟨fun h => ?_, fun h => ?_⟩ <;> first | (cases h; done) | omega)
theorem t_rule (x : Rule) (b : Bool) : Ok (m_policy_Sane x b) fun r => r = true → RuleOk b x := by
  unfold m_policy_Sane
  exact ok_bd (t_match _ _) fun _ _ _ => ok_ifb (fun _ => ok_bd (t_act _ _) fun _ _ h => ok_some h) fun _ => ok_some fun k => Bool.noConfusion k
theorem t_rules (l : List Rule) (b : Bool) (hl : l.length ≤ 9223372036854775807) : Ok (m_conf_saneRules l b) fun r => r = true → ∀ x ∈ l, RuleOk b x := by
  unfold m_conf_saneRules
  refine ok_if (fun _ => ok_some fun k => Bool.noConfusion k) fun _ => ok_idx l.length (fun j => ∀ i (h : i < l.length), i < j → RuleOk b l[i]) hl (fun _ _ h => absurd h (Nat.not_lt_zero _)) (fun i hi hI nx hnx => ?_) (fun hI nx => ?_)
  · rw [s_conf_saneRules1]
    refine ok_if (fun _ => ok_ix (by omega) (by omega) fun hlt => ok_bd (t_rule _ _) fun r _ hr => ok_ifnb (fun _ => ok_some fun k => Bool.noConfusion k) fun h => hnx fun j hj hji => ?_) fun h => absurd (Int.ofNat_lt.2 hi) h
    simp only [Int.toNat_natCast] at hr
    rcases Nat.lt_succ_iff_lt_or_eq.1 hji with g | rfl
    · exact hI j hj g
    · exact hr h
  · rw [s_conf_saneRules1]
    refine ok_if (fun h => by omega) fun _ => ok_some fun _ x hx => ?_
    obtain ⟨i, hi, rfl⟩ := List.getElem_of_mem hx
    exact hI i hi hi
theorem t_containsP (l : List Prefix) (x : Prefix) (hl : l.length ≤ 9223372036854775807) : Ok (m_slices_Contains___api_Prefix_api_Prefix l x) fun _ => True := by
  unfold m_slices_Contains___api_Prefix_api_Prefix m_slices_Index___api_Prefix_api_Prefix
  refine ok_bd (P := fun _ => True) (ok_idx l.length (fun _ => True) hl trivial (fun i hi _ nx hnx => ?_) (fun _ nx => ?_)) fun _ _ _ => ok_some trivial
  · rw [s_slices_Index___api_Prefix_api_Prefix1]
    exact ok_if (fun _ => ok_ix (by omega) (by omega) fun hlt => ok_ifb (fun _ => ok_some trivial) fun _ => hnx trivial) fun h => absurd (Int.ofNat_lt.2 hi) h
  · rw [s_slices_Index___api_Prefix_api_Prefix1]
    exact ok_if (fun h => by omega) fun _ => ok_some trivial
theorem t_own (l : List Prefix) (hl : l.length ≤ 9223372036854775807) : Ok (m_conf_saneOwn l) fun _ => True := by
  unfold m_conf_saneOwn
  refine ok_if (fun _ => ok_some trivial) fun _ => ok_idx l.length (fun _ => True) hl trivial (fun i hi _ nx hnx => ?_) (fun _ nx => ?_)
  · rw [s_conf_saneOwn1]
    refine ok_if (fun _ => ok_ix (by omega) (by omega) fun hlt => ok_bd (t_prefix _) fun _ _ _ => ok_ifnb (fun _ => ok_some trivial) fun _ => ok_bde (sl_pre (by omega)) (ok_bd (t_containsP _ _ (by rw [List.length_take]; omega)) fun _ _ _ => ok_ifb (fun _ => ok_some trivial) fun _ => hnx trivial)) fun h => absurd (Int.ofNat_lt.2 hi) h
  · rw [s_conf_saneOwn1]
    exact ok_if (fun h => by omega) fun _ => ok_some trivial
theorem t_taken (a : Int) (l : List Side) (n : Int) (hl : l.length ≤ 9223372036854775807) : Ok (m_conf_taken a l n) fun _ => True := by
  unfold m_conf_taken
  refine ok_if (fun _ => ok_some trivial) fun _ => ok_jn (fun _ => True) (fun k' hk => ok_idx l.length (fun _ => True) hl trivial (fun i hi _ nx hnx => ?_) (fun _ nx => ?_)) fun _ _ => ok_some trivial
  · rw [s_conf_taken1]
    exact ok_if (fun _ => ok_ix (by omega) (by omega) fun hlt => ok_if (fun _ => hk _ trivial) fun _ => hnx trivial) fun h => absurd (Int.ofNat_lt.2 hi) h
  · rw [s_conf_taken1]
    exact ok_if (fun h => by omega) fun _ => hk _ trivial
/-- Lists that are few. -/
structure FewC (c : Conf) : Prop where
  own : c.Own.length ≤ 1000
  sides : c.Sides.length ≤ 1000
  ins : ∀ s ∈ c.Sides, s.In.length ≤ 1000
  outs : ∀ s ∈ c.Sides, s.Out.length ≤ 1000
theorem t_few (c : Conf) (hl : c.Sides.length ≤ 9223372036854775807) : Ok (m_ridgewayref12_Few c) fun b => b = true → FewC c := by
  unfold m_ridgewayref12_Few
  refine ok_idx c.Sides.length (fun j => ∀ i (h : i < c.Sides.length), i < j → c.Sides[i].In.length ≤ 20 ∧ c.Sides[i].Out.length ≤ 20) hl (fun _ _ h => absurd h (Nat.not_lt_zero _)) (fun i hi hI nx hnx => ?_) (fun hI nx => ?_)
  · rw [s_ridgewayref12_Few1]
    refine ok_if (fun _ => ok_ix (by omega) (by omega) fun hlt => ok_if (fun _ => ok_some fun k => Bool.noConfusion k) fun h1 => ok_ix (by omega) (by omega) fun hlt => ok_if (fun _ => ok_some fun k => Bool.noConfusion k) fun h2 => hnx fun j hj hji => ?_) fun h => absurd (Int.ofNat_lt.2 hi) h
    simp only [Int.toNat_natCast] at h1 h2
    rcases Nat.lt_succ_iff_lt_or_eq.1 hji with g | rfl
    · exact hI j hj g
    · exact ⟨by omega, by omega⟩
  · rw [s_ridgewayref12_Few1]
    refine ok_if (fun h => by omega) fun _ => ok_if (fun h1 => ok_some fun k => ?_) fun _ => ok_some fun k => Bool.noConfusion k
    have k := of_decide_eq_true k
    refine ⟨by omega, by omega, fun s hs => ?_, fun s hs => ?_⟩
    · obtain ⟨i, h, rfl⟩ := List.getElem_of_mem hs
      have := hI i h h
      omega
    · obtain ⟨i, h, rfl⟩ := List.getElem_of_mem hs
      have := hI i h h
      omega
/-- A side that may be. -/
def SideOk (s : Side) : Prop := (1 ≤ s.As ∧ s.As ≤ 4294967295) ∧ (1 ≤ s.Rel ∧ s.Rel ≤ 3) ∧ (∀ x ∈ s.In, RuleOk true x) ∧ ∀ x ∈ s.Out, RuleOk false x
/-- A configuration that may be. -/
def ConfOk (c : Conf) : Prop := (1 ≤ c.As ∧ c.As ≤ 4294967295) ∧ (1 ≤ c.Id ∧ c.Id ≤ 4294967295) ∧ c.Sides.length ≤ 8 ∧ ∀ i (h : i < c.Sides.length), SideOk c.Sides[i]
theorem t_sides (c : Conf) (f : FewC c) : Ok (m_conf_saneSides c) fun b => b = true → c.Sides.length ≤ 8 ∧ ∀ i (h : i < c.Sides.length), SideOk c.Sides[i] := by
  have hs := f.sides
  unfold m_conf_saneSides
  refine ok_if (fun _ => ok_some fun k => Bool.noConfusion k) fun h8 => ok_idx c.Sides.length (fun j => ∀ i (h : i < c.Sides.length), i < j → SideOk c.Sides[i]) (by omega) (fun _ _ h => absurd h (Nat.not_lt_zero _)) (fun i hi hI nx hnx => ?_) (fun hI nx => ?_)
  · have hi1 := f.ins _ (List.getElem_mem hi)
    have ho1 := f.outs _ (List.getElem_mem hi)
    rw [s_conf_saneSides1]
    refine ok_if (fun _ => ok_ix (by omega) (by omega) fun hlt => ?_) fun h => absurd (Int.ofNat_lt.2 hi) h
    simp only [Int.toNat_natCast]
    refine ok_bd (t_number _) fun r1 _ h1 => ok_ifnb (fun _ => ok_some fun k => Bool.noConfusion k) fun q1 => ok_bde (sl_pre (by omega)) (ok_bd (t_taken _ _ _ (by rw [List.length_take]; omega)) fun _ _ _ => ok_ifb (fun _ => ok_some fun k => Bool.noConfusion k) fun _ =>
      ok_if (fun _ => ok_some fun k => Bool.noConfusion k) fun q2 => ok_if (fun _ => ok_some fun k => Bool.noConfusion k) fun q3 => ok_bd (t_rules _ _ (by omega)) fun r4 _ h4 => ok_ifnb (fun _ => ok_some fun k => Bool.noConfusion k) fun q4 =>
      ok_bd (t_rules _ _ (by omega)) fun r5 _ h5 => ok_ifnb (fun _ => ok_some fun k => Bool.noConfusion k) fun q5 => hnx fun j hj hji => ?_)
    rcases Nat.lt_succ_iff_lt_or_eq.1 hji with g | rfl
    · exact hI j hj g
    · exact ⟨h1 q1, ⟨by omega, by omega⟩, h4 q4, h5 q5⟩
  · rw [s_conf_saneSides1]
    exact ok_if (fun h => by omega) fun _ => ok_some fun _ => ⟨by omega, fun i h => hI i h h⟩
theorem t_sane (c : Conf) (f : FewC c) : Ok (m_conf_Sane c) fun b => b = true → ConfOk c := by
  unfold m_conf_Sane
  have := f.own
  exact ok_bd (t_number _) fun r1 _ h1 => ok_ifb (fun q1 => ok_bd (t_number _) fun r2 _ h2 => ok_ifb (fun q2 => ok_bd (t_hold _) fun _ _ _ => ok_ifb (fun _ => ok_bd (t_cap _) fun _ _ _ => ok_ifb (fun _ => ok_bd (t_own _ (by omega)) fun _ _ _ => ok_ifb (fun _ =>
    ok_bd (t_sides c f) fun r6 _ h6 => ok_some fun q6 => ⟨h1 q1, h2 q2, h6 q6⟩) fun _ => ok_some fun k => Bool.noConfusion k) fun _ => ok_some fun k => Bool.noConfusion k) fun _ => ok_some fun k => Bool.noConfusion k) fun _ => ok_some fun k => Bool.noConfusion k) fun _ => ok_some fun k => Bool.noConfusion k
end Go.Proofs.Ytkdodhkiemfpeab
namespace Go.Proofs.Ytkdodhkiemfpeab
open Go.RowKit
set_option linter.unusedVariables false
set_option linter.unusedSimpArgs false
set_option maxRecDepth 100000
set_option maxHeartbeats 1000000

/-- A path that may be. -/
def PathOk (p : Path) : Prop := (∀ x ∈ p.As, 1 ≤ x ∧ x ≤ 4294967295) ∧ (0 ≤ p.Origin ∧ p.Origin ≤ 2) ∧ p.As.length ≤ 255 ∧ (1 ≤ p.Hop ∧ p.Hop ≤ 4294967295) ∧ 0 ≤ p.Otc ∧ p.Otc ≤ 4294967295
theorem t_attrSane (p : Path) (hl : p.As.length ≤ 9223372036854775807) : Ok (m_attr_Sane p) fun b => b = true ↔ PathOk p := by
  unfold m_attr_Sane
  have no : ∀ {A : Prop}, ¬ A → Ok (some false : Option Bool) (fun b => b = true ↔ A) := fun h => ok_some ⟨fun k => Bool.noConfusion k, fun k => absurd k h⟩
  refine ok_idx p.As.length (fun j => ∀ i (h : i < p.As.length), i < j → 1 ≤ p.As[i] ∧ p.As[i] ≤ 4294967295) hl (fun _ _ h => absurd h (Nat.not_lt_zero _)) (fun i hi hI nx hnx => ?_) (fun hI nx => ?_)
  · rw [s_attr_Sane1]
    have hm := List.getElem_mem hi
    refine ok_if (fun _ => ok_ix (by omega) (by omega) fun hlt => ok_if (fun h1 => no fun k => ?_) fun h1 => ok_if (fun h2 => no fun k => ?_) fun h2 => hnx fun j hj hji => ?_) fun h => absurd (Int.ofNat_lt.2 hi) h
    · have := k.1 _ hm; simp only [Int.toNat_natCast] at h1; omega
    · have := k.1 _ hm; simp only [Int.toNat_natCast] at h2; omega
    · simp only [Int.toNat_natCast] at h1 h2
      rcases Nat.lt_succ_iff_lt_or_eq.1 hji with g | rfl
      · exact hI j hj g
      · exact ⟨by omega, by omega⟩
  · rw [s_attr_Sane1]
    have hall : ∀ x ∈ p.As, 1 ≤ x ∧ x ≤ 4294967295 := fun x hx => by
      obtain ⟨i, h, rfl⟩ := List.getElem_of_mem hx
      exact hI i h h
    refine ok_if (fun h => by omega) fun _ => ok_if (fun h1 => ok_if (fun h2 => ok_if (fun h3 => ok_if (fun h4 => ok_if (fun h5 => ok_if (fun h6 => ok_some ?_) fun h => no fun k => ?_) fun h => no fun k => ?_) fun h => no fun k => ?_) fun h => no fun k => ?_) fun h => no fun k => ?_) fun h => no fun k => ?_
    · rw [decide_eq_true_eq]
      exact ⟨fun h7 => ⟨hall, ⟨h1, h2⟩, by omega, ⟨h4, h5⟩, h6, h7⟩, fun k => k.2.2.2.2.2⟩
    all_goals (obtain ⟨_, _, _, _, _, _⟩ := k; omega)
/-- A route that may be. -/
def RouteOk (r : Route) : Prop := PathOk r.P ∧ r.P.As.length ≤ 32 ∧ ((r.From = -1 ∧ r.Pref = 400 ∧ r.P.As.length = 0 ∧ r.P.Origin = 0 ∧ r.P.Otc = 0) ∨ (0 ≤ r.From ∧ r.From < 8 ∧ 1 ≤ r.Pref ∧ r.Pref < 400))
theorem t_routeSane (r : Route) (hl : r.P.As.length ≤ 9223372036854775807) : Ok (m_route_Sane r) fun b => b = true ↔ RouteOk r := by
  unfold m_route_Sane
  have no : ∀ {A : Prop}, ¬ A → Ok (some false : Option Bool) (fun b => b = true ↔ A) := fun h => ok_some ⟨fun k => Bool.noConfusion k, fun k => absurd k h⟩
  refine ok_bd (t_attrSane _ hl) fun b _ hb => ok_ifnb (fun h => no fun k => by rw [hb.2 k.1] at h; cases h) fun h => ok_if (fun h1 => no fun k => by have := k.2.1; omega) fun h1 => ok_if (fun h2 => ?_) fun h2 => ?_
  · refine ok_if (fun h3 => ok_if (fun h4 => ok_if (fun h5 => ok_some ?_) fun h => no fun k => ?_) fun h => no fun k => ?_) fun h => no fun k => ?_
    · rw [decide_eq_true_eq]
      exact ⟨fun h6 => ⟨hb.1 ‹_›, by omega, .inl ⟨h2, h3, by omega, h5, h6⟩⟩, fun k => by rcases k.2.2 with q | q <;> omega⟩
    all_goals (rcases k.2.2 with q | q <;> omega)
  · refine ok_if (fun h3 => ok_if (fun h4 => ok_if (fun h5 => ok_some ?_) fun h => no fun k => ?_) fun h => no fun k => ?_) fun h => no fun k => ?_
    · rw [decide_eq_true_eq]
      exact ⟨fun h6 => ⟨hb.1 ‹_›, by omega, .inr ⟨by omega, by omega, by omega, by omega⟩⟩, fun k => by rcases k.2.2 with q | q <;> omega⟩
    all_goals (rcases k.2.2 with q | q <;> omega)
theorem t_contains (l : List Int) (x : Int) (hl : l.length ≤ 9223372036854775807) : Ok (m_slices_Contains___int_int l x) fun b => b = true ↔ x ∈ l := by
  unfold m_slices_Contains___int_int m_slices_Index___int_int
  refine ok_bd (P := fun r => r ≥ 0 ↔ x ∈ l) (ok_idx l.length (fun j => ∀ i (h : i < l.length), i < j → ¬ x = l[i]) hl (fun _ _ h => absurd h (Nat.not_lt_zero _)) (fun i hi hI nx hnx => ?_) (fun hI nx => ?_)) fun r _ hr => ok_some (by rw [decide_eq_true_eq]; exact hr)
  · rw [s_slices_Index___int_int1]
    refine ok_if (fun _ => ok_ix (by omega) (by omega) fun hlt => ok_if (fun h1 => ok_some ⟨fun _ => h1 ▸ List.getElem_mem _, fun _ => by omega⟩) fun h1 => hnx fun j hj hji => ?_) fun h => absurd (Int.ofNat_lt.2 hi) h
    simp only [Int.toNat_natCast] at h1
    rcases Nat.lt_succ_iff_lt_or_eq.1 hji with g | rfl
    · exact hI j hj g
    · exact h1
  · rw [s_slices_Index___int_int1]
    refine ok_if (fun h => by omega) fun _ => ok_some ⟨fun h => by omega, fun h => ?_⟩
    obtain ⟨i, hi, rfl⟩ := List.getElem_of_mem h
    exact absurd rfl (hI i hi hi)
theorem t_fits (r : Rule) (v : View) (hl : v.As.length ≤ 9223372036854775807) : Ok (m_policy_Fits r v) fun _ => True := by
  unfold m_policy_Fits m_policy_fits_1 m_policy_fits_2 m_policy_fits_3 m_policy_fits_4 m_policy_fits_5
  have one : ∀ {m : Option Bool}, Ok m (fun _ => True) → Ok (bd m fun r => some r) (fun _ => True) := fun h => ok_bd h fun _ _ _ => ok_some trivial
  refine ok_if (fun _ => ok_some trivial) fun h1 => ok_if (fun _ => ok_some trivial) fun h2 => ok_if (fun _ => one (ok_some trivial)) fun h3 => ok_if (fun _ => one (ok_bd (t_has _ _) fun _ _ _ => ok_some trivial)) fun h4 =>
    ok_if (fun _ => one (ok_bd (t_contains _ _ hl) fun _ _ _ => ok_some trivial)) fun h5 => ok_if (fun _ => one (ok_some trivial)) fun h6 => ok_if (fun _ => one (ok_some trivial)) fun h7 => by omega
theorem t_pick (l : List Rule) (v : View) (hl : l.length ≤ 9223372036854775807) (hv : v.As.length ≤ 9223372036854775807) : Ok (m_policy_Pick l v) fun r => (r.2 = true → r.1 ∈ l) ∧ (r.2 = false → r.1.Act = 0) := by
  unfold m_policy_Pick
  refine ok_idx l.length (fun _ => True) hl trivial (fun i hi _ nx hnx => ?_) (fun _ nx => ?_)
  · rw [s_policy_Pick1]
    exact ok_if (fun _ => ok_ix (by omega) (by omega) fun hlt => ok_bd (t_fits _ _ hv) fun _ _ _ => ok_ifb (fun _ => ok_some ⟨fun _ => List.getElem_mem _, fun k => Bool.noConfusion k⟩) fun _ => hnx trivial) fun h => absurd (Int.ofNat_lt.2 hi) h
  · rw [s_policy_Pick1]
    exact ok_if (fun h => by omega) fun _ => ok_some ⟨fun k => Bool.noConfusion k, fun _ => rfl⟩
/-- Who may tell whom. -/
def inMark (rel as otc : Int) : Int × Bool := if rel = 1 ∧ otc = 0 then (0, true) else if (rel = 2 ∧ (otc = 0 ∨ otc = as)) ∨ (rel = 3 ∧ otc = 0) then (as, true) else if rel = 3 then (otc, true) else (0, false)
theorem roleIn_eq (rel as otc : Int) : m_role_In rel as otc = some (inMark rel as otc) := by
  unfold m_role_In inMark
  simp only [jn_eq]
  by_cases h1 : rel = 1 <;> by_cases h2 : otc = 0 <;> by_cases h3 : rel = 2 <;> by_cases h4 : otc = as <;> by_cases h5 : rel = 3 <;> simp_all
def outMark (rel own otc : Int) : Int × Bool := if rel = 1 ∧ ¬ otc = 0 then (otc, true) else if (rel = 1 ∨ rel = 2) ∧ otc = 0 then (own, true) else if rel = 3 ∧ otc = 0 then (0, true) else (0, false)
theorem roleOut_eq (rel own otc : Int) : m_role_Out rel own otc = some (outMark rel own otc) := by
  unfold m_role_Out outMark
  by_cases h1 : rel = 1 <;> by_cases h2 : otc = 0 <;> by_cases h3 : rel = 2 <;> by_cases h5 : rel = 3 <;> simp_all
theorem rep2 (v : Int) : m_slices_Repeat___int_int [v] 2 = some [v, v] := by kernel_rfl
theorem rep3 (v : Int) : m_slices_Repeat___int_int [v] 3 = some [v, v, v] := by kernel_rfl
theorem rep4 (v : Int) : m_slices_Repeat___int_int [v] 4 = some [v, v, v, v] := by kernel_rfl
theorem rep5 (v : Int) : m_slices_Repeat___int_int [v] 5 = some [v, v, v, v, v] := by kernel_rfl
theorem rep6 (v : Int) : m_slices_Repeat___int_int [v] 6 = some [v, v, v, v, v, v] := by kernel_rfl
theorem rep7 (v : Int) : m_slices_Repeat___int_int [v] 7 = some [v, v, v, v, v, v, v] := by kernel_rfl
theorem rep8 (v : Int) : m_slices_Repeat___int_int [v] 8 = some [v, v, v, v, v, v, v, v] := by kernel_rfl
theorem rep9 (v : Int) : m_slices_Repeat___int_int [v] 9 = some [v, v, v, v, v, v, v, v, v] := by kernel_rfl
theorem t_longer (own : Int) (r : Rule) (as : List Int) (hl : as.length ≤ 1000) (hr : r.Act = 3 → 1 ≤ r.N ∧ r.N ≤ 8) : Ok (m_edge_longer own r as) fun l => l = List.replicate (if r.Act = 3 then 1 + r.N.toNat else 1) own ++ as := by
  unfold m_edge_longer
  refine ok_if (fun h => ?_) fun h => ok_ap (by simp; omega) (by simp; omega) (ok_some (by rw [if_neg h]; rfl))
  obtain ⟨h1, h2⟩ := hr h
  have hw : IntKind.i64.wrap (1 + r.N) = 1 + r.N := w64 (by omega) (by omega)
  rw [hw, if_pos h]
  have hc : r.N = 1 ∨ r.N = 2 ∨ r.N = 3 ∨ r.N = 4 ∨ r.N = 5 ∨ r.N = 6 ∨ r.N = 7 ∨ r.N = 8 := by omega
  rcases hc with e | e | e | e | e | e | e | e <;> rw [e]
  · exact ok_bde (rep2 own) (ok_ap (by simp; omega) (by simp; omega) (ok_some rfl))
  · exact ok_bde (rep3 own) (ok_ap (by simp; omega) (by simp; omega) (ok_some rfl))
  · exact ok_bde (rep4 own) (ok_ap (by simp; omega) (by simp; omega) (ok_some rfl))
  · exact ok_bde (rep5 own) (ok_ap (by simp; omega) (by simp; omega) (ok_some rfl))
  · exact ok_bde (rep6 own) (ok_ap (by simp; omega) (by simp; omega) (ok_some rfl))
  · exact ok_bde (rep7 own) (ok_ap (by simp; omega) (by simp; omega) (ok_some rfl))
  · exact ok_bde (rep8 own) (ok_ap (by simp; omega) (by simp; omega) (ok_some rfl))
  · exact ok_bde (rep9 own) (ok_ap (by simp; omega) (by simp; omega) (ok_some rfl))
end Go.Proofs.Ytkdodhkiemfpeab
namespace Go.Proofs.Ytkdodhkiemfpeab
open Go.RowKit
set_option linter.unusedVariables false
set_option linter.unusedSimpArgs false
set_option maxRecDepth 100000
set_option maxHeartbeats 1000000

theorem t_at (c : Conf) (k : Int) (x : Prefix) (f : FewC c) : Ok (m_edge_at c k x) fun b => b = true → (0 ≤ k ∧ k < c.Sides.length) ∧ m_conf_Sane c = some true ∧ ConfOk c := by
  unfold m_edge_at
  refine ok_if (fun h1 => ok_if (fun h2 => ok_bd (t_prefix _) fun _ _ _ => ok_ifb (fun _ => ok_bd (t_sane c f) fun b e hb => ok_some fun k => ?_) fun _ => ok_some fun k => Bool.noConfusion k) fun _ => ok_some fun k => Bool.noConfusion k) fun _ => ok_some fun k => Bool.noConfusion k
  subst k
  exact ⟨⟨h1, h2⟩, e, hb rfl⟩
/-- A route's class. -/
def clsOf (c : Conf) (f : Int) : Int := if f < 0 then 0 else ((c.Sides[f.toNat]?).map (·.Rel)).getD 0
theorem class_eq (c : Conf) (f : Int) : m_edge_Class c f = some (clsOf c f) := by
  refine (?_ : Ok (m_edge_Class c f) (· = clsOf c f)).elim fun x h => by rw [h.1, h.2]
  unfold m_edge_Class clsOf
  refine ok_if (fun h => ok_some (by rw [if_pos h])) fun h => ok_if (fun h2 => ok_some ?_) fun h2 => ok_ix (by omega) (by omega) fun hlt => ok_some ?_
  · rw [if_neg h, List.getElem?_eq_none (by omega)]; rfl
  · rw [if_neg h, List.getElem?_eq_getElem hlt]; rfl
theorem accepts_eq (r : Rule) (b : Bool) : m_edge_accepts r b = some (b && decide (¬ r.Act = 0)) := by
  unfold m_edge_accepts
  cases b <;> rfl
/-- What is taken. -/
def InR (c : Conf) (k : Int) (x : Prefix) (p : Path) (r : Route) : Prop :=
  ∃ s rule m, c.Sides[k.toNat]? = some s ∧ (0 ≤ k ∧ k < c.Sides.length) ∧ m_conf_Sane c = some true ∧ ConfOk c ∧ PathOk p ∧ p.As[0]? = some s.As ∧ c.As ∉ p.As ∧ p.As.length ≤ 32 ∧ inMark s.Rel s.As p.Otc = (m, true) ∧
    m_policy_Pick s.In ⟨x, p.As, s.Rel⟩ = some (rule, true) ∧ rule ∈ s.In ∧ rule.Act = 2 ∧ (1 ≤ rule.N ∧ rule.N < 400) ∧ r = ⟨rule.N, ⟨p.Origin, p.As, p.Hop, m⟩, k⟩
def noRoute : Route := ⟨0, ⟨0, [], 0, 0⟩, 0⟩
theorem t_in (c : Conf) (k : Int) (x : Prefix) (p : Path) (f : FewC c) (hp : p.As.length ≤ 9223372036854775807) : Ok (m_edge_In c k x p) fun r => (r.2 = true → InR c k x p r.1) ∧ (r.2 = false → r.1 = noRoute) := by
  unfold m_edge_In
  have no : Ok (some (noRoute, false)) fun r : Route × Bool => (r.2 = true → InR c k x p r.1) ∧ (r.2 = false → r.1 = noRoute) := ok_some ⟨fun k => Bool.noConfusion k, fun _ => rfl⟩
  refine ok_bd (t_at c k x f) fun b _ hb => ok_ifnb (fun _ => no) fun h1 => ok_bd (t_attrSane p hp) fun b2 _ hb2 => ok_ifnb (fun _ => no) fun h2 => ?_
  obtain ⟨⟨k0, k1⟩, hs, hc⟩ := hb h1
  have hpo := hb2.1 h2
  refine ok_ix k0 k1 fun hlt => ?_
  have hso := hc.2.2.2 _ hlt
  have hin := f.ins _ (List.getElem_mem hlt)
  have hsd : c.Sides[k.toNat]? = some c.Sides[k.toNat] := List.getElem?_eq_getElem hlt
  generalize c.Sides[k.toNat] = s at hso hin hsd
  refine ok_jn (fun j => j.1 = true → InR c k x p ⟨j.2.2.2.2.2.2.1, ⟨p.Origin, p.As, p.Hop, j.2.2.2.2.2.2.2⟩, k⟩) (fun k' hk => ?_) fun j hj => ok_ifnb (fun _ => no) fun h => ok_some ⟨fun _ => hj h, fun k => Bool.noConfusion k⟩
  have nok : ∀ {q : Int × Int × Int × Int × Int × Int × Int}, Ok (k' (false, q)) fun r : Route × Bool => (r.2 = true → InR c k x p r.1) ∧ (r.2 = false → r.1 = noRoute) := hk _ fun k => Bool.noConfusion k
  refine ok_jn (fun j => j = true → p.As[0]? = some s.As) (fun k2 hk2 => ok_if (fun h => ok_ix (by omega) (by omega) fun hl0 => hk2 _ fun h3 => ?_) fun h => hk2 _ fun k => Bool.noConfusion k) fun j hj => ok_ifnb (fun _ => nok) fun h3 => ?_
  · rw [decide_eq_true_eq] at h3
    rw [show (0 : Nat) = (0 : Int).toNat from rfl, List.getElem?_eq_getElem hl0, h3]
  refine ok_bd (t_contains _ _ hp) fun b5 _ hb5 => ok_ifb (fun _ => nok) fun h5 => ok_ifn (fun _ => nok) fun h6 => ok_bde (roleIn_eq _ _ _) (ok_ifnb (fun _ => nok) fun h7 => ok_bd (t_pick _ _ (by omega) hp) fun r8 e8 h8 => ok_bde (accepts_eq _ _) (ok_ifnb (fun _ => nok) fun h9 => hk _ fun _ => ?_))
  simp only [Bool.and_eq_true, decide_eq_true_eq] at h9
  obtain ⟨rule, b8⟩ := r8
  obtain ⟨rfl, h9⟩ := h9
  have hmem := h8.1 rfl
  have hro := (hso.2.2.1 _ hmem).1 rfl
  dsimp only at h9 hmem hro
  refine ⟨s, rule, _, hsd, ⟨k0, k1⟩, hs, hc, hpo, hj h3, fun hm => ?_, by omega, Prod.ext rfl h7, e8, hmem, by omega, by omega, rfl⟩
  rw [hb5.2 hm] at h5
  cases h5
/-- What is told. -/
def OutR (c : Conf) (k : Int) (x : Prefix) (r : Route) (q : Path) : Prop :=
  ∃ s rule m, c.Sides[k.toNat]? = some s ∧ (0 ≤ k ∧ k < c.Sides.length) ∧ m_conf_Sane c = some true ∧ ConfOk c ∧ RouteOk r ∧ ¬ r.From = k ∧ r.From < c.Sides.length ∧ m_policy_Pick s.Out ⟨x, r.P.As, clsOf c r.From⟩ = some (rule, true) ∧ rule ∈ s.Out ∧ ¬ rule.Act = 0 ∧
    outMark s.Rel c.As r.P.Otc = (m, true) ∧ (∃ n, (1 ≤ n ∧ n ≤ 9) ∧ q.As = List.replicate n c.As ++ r.P.As) ∧ q.As.length ≤ 32 ∧ q.Origin = r.P.Origin ∧ q.Hop = c.Id ∧ q.Otc = m
def noPath : Path := ⟨0, [], 0, 0⟩
theorem t_out (c : Conf) (k : Int) (x : Prefix) (r : Route) (f : FewC c) (hp : r.P.As.length ≤ 9223372036854775807) : Ok (m_edge_Out c k x r) fun q => (q.2 = true → OutR c k x r q.1) ∧ (q.2 = false → q.1 = noPath) := by
  unfold m_edge_Out
  have no : Ok (some (noPath, false)) fun q : Path × Bool => (q.2 = true → OutR c k x r q.1) ∧ (q.2 = false → q.1 = noPath) := ok_some ⟨fun k => Bool.noConfusion k, fun _ => rfl⟩
  refine ok_bd (t_at c k x f) fun b _ hb => ok_ifnb (fun _ => no) fun h1 => ok_bd (t_routeSane r hp) fun b2 _ hb2 => ok_ifnb (fun _ => no) fun h2 => ?_
  obtain ⟨⟨k0, k1⟩, hs, hc⟩ := hb h1
  have hro := hb2.1 h2
  have hlen := hro.2.1
  refine ok_ix k0 k1 fun hlt => ?_
  have hso := hc.2.2.2 _ hlt
  have hin := f.outs _ (List.getElem_mem hlt)
  have hsd : c.Sides[k.toNat]? = some c.Sides[k.toNat] := List.getElem?_eq_getElem hlt
  generalize c.Sides[k.toNat] = s at hso hin hsd
  refine ok_jn (fun j => j.1 = true → OutR c k x r ⟨r.P.Origin, j.2.1, c.Id, j.2.2⟩) (fun k' hk => ?_) fun j hj => ok_ifnb (fun _ => no) fun h => ok_some ⟨fun _ => hj h, fun k => Bool.noConfusion k⟩
  have nok : ∀ {q : List Int × Int}, Ok (k' (false, q)) fun q : Path × Bool => (q.2 = true → OutR c k x r q.1) ∧ (q.2 = false → q.1 = noPath) := hk _ fun k => Bool.noConfusion k
  refine ok_jn (fun j => j = true → ¬ r.From = k ∧ r.From < c.Sides.length) (fun k2 hk2 => ok_if (fun h => hk2 _ fun h3 => ⟨h, of_decide_eq_true h3⟩) fun h => hk2 _ fun k => Bool.noConfusion k) fun j hj => ok_ifnb (fun _ => nok) fun h3 => ?_
  refine ok_bde (class_eq _ _) (ok_bd (t_pick _ _ (by omega) hp) fun r5 e5 h5 => ok_bd (t_longer c.As r5.1 r.P.As (by omega) fun ha => ?_) fun r6 _ h6 => ok_bde (accepts_eq _ _) (ok_ifnb (fun _ => nok) fun h7 => ok_bde (roleOut_eq _ _ _) (ok_ifnb (fun _ => nok) fun h8 => ok_ifn (fun _ => nok) fun h9 => hk _ fun _ => ?_)))
  · cases hb5 : r5.2 with
    | false => have := h5.2 hb5; omega
    | true =>
      have := (hso.2.2.2 _ (h5.1 hb5)).2 rfl
      omega
  simp only [Bool.and_eq_true, decide_eq_true_eq] at h7
  obtain ⟨rule, b5⟩ := r5
  obtain ⟨rfl, h7⟩ := h7
  have hmem := h5.1 rfl
  have hru := (hso.2.2.2 _ hmem).2 rfl
  dsimp only at h7 hmem hru h6
  obtain ⟨q1, q2⟩ := hj h3
  refine ⟨s, rule, _, hsd, ⟨k0, k1⟩, hs, hc, hro, q1, q2, e5, hmem, h7, Prod.ext rfl h8, ⟨_, ?_, h6⟩, by dsimp only; omega, rfl, rfl, rfl⟩
  split <;> omega
theorem t_short (c : Conf) (p : Path) (hl : c.Sides.length ≤ 9223372036854775807) : Ok (m_ridgewaylaw14_short c p) fun b => b = true → FewC c ∧ p.As.length ≤ 100 := by
  unfold m_ridgewaylaw14_short
  exact ok_bd (t_few c hl) fun b _ hb => ok_ifb (fun h => ok_some fun k => ⟨hb h, by have := of_decide_eq_true k; omega⟩) fun _ => ok_some fun k => Bool.noConfusion k
theorem law14_awake : m_ridgewaylaw14_awake = some true := by kernel_rfl
end Go.Proofs.Ytkdodhkiemfpeab
namespace Go.Proofs.Ytkdodhkiemfpeab
open Go.RowKit
set_option linter.unusedVariables false
set_option linter.unusedSimpArgs false
set_option maxRecDepth 100000
set_option maxHeartbeats 1000000

theorem ok_out {R : Type} {m : Option R} {r : R} (h : Ok m (· = r)) : m = some r := by
  obtain ⟨x, e, rfl⟩ := h
  exact e
theorem ok_same {m m' : Option Bool} {P : Prop} (h : Ok m fun b => b = true ↔ P) (h' : Ok m' fun b => b = true ↔ P) : m = m' := by
  obtain ⟨b, e, hb⟩ := h
  obtain ⟨b', e', hb'⟩ := h'
  rw [e, e']
  congr 1
  cases b <;> cases b' <;> simp_all
theorem lo_eq (v : Int) : IntKind.i64.wrap ((BitVec.ofInt IntKind.i64.bits v &&& BitVec.ofInt IntKind.i64.bits (4294967295 : Int)).toNat : Int) = v % 4294967296 := by
  have h := and_mask v 32 (by omega)
  rw [show ((2 : Int) ^ 32 - 1) = 4294967295 by decide, show ((2 : Int) ^ 32) = 4294967296 by decide] at h
  exact h
/-- What is left under a mask. -/
def lowCut (a n : Int) : Int := a % 4294967296 - a % 4294967296 % (2 : Int) ^ (32 - n).toNat
theorem cut_rng (a n : Int) : 0 ≤ lowCut a n ∧ lowCut a n < 4294967296 := by
  have h0 := Int.emod_nonneg a (show (4294967296 : Int) ≠ 0 by decide)
  have h1 := Int.emod_lt_of_pos a (show (0 : Int) < 4294967296 by decide)
  have hp : (0 : Int) < 2 ^ (32 - n).toNat := Int.pow_pos (by decide)
  have h2 := Int.emod_nonneg (a % 4294967296) (show (2 : Int) ^ (32 - n).toNat ≠ 0 by omega)
  have h3 : a % 4294967296 % (2 : Int) ^ (32 - n).toNat ≤ a % 4294967296 := by
    have := Int.emod_def (a % 4294967296) ((2 : Int) ^ (32 - n).toNat)
    have hq : 0 ≤ (a % 4294967296) / (2 : Int) ^ (32 - n).toNat := Int.ediv_nonneg h0 (by omega)
    have := Int.mul_nonneg (Int.le_of_lt hp) hq
    omega
  unfold lowCut
  omega
theorem mask_val (a n : Int) (h : 0 ≤ n ∧ n ≤ 32) : m_prefix_Mask a n = some (lowCut a n) := by
  unfold m_prefix_Mask
  have e1 : (if (0 : Int) > n then (0 : Int) else n) = n := if_neg (by omega)
  have e2 : (if (32 : Int) < n then (32 : Int) else n) = n := if_neg (by omega)
  have e3 : IntKind.i64.wrap (32 - n) = 32 - n := w64 (by omega) (by omega)
  have e4 : min (32 - n).toNat IntKind.i64.bits = (32 - n).toNat := Nat.min_eq_left (show (32 - n).toNat ≤ 64 by omega)
  rw [e1, e2, e3, nn_some (by omega), nn_some (by omega), e4, lo_eq]
  have hp : (0 : Int) < 2 ^ (32 - n).toNat := Int.pow_pos (by decide)
  have hr := cut_rng a n
  rw [Int.fdiv_eq_ediv_of_nonneg _ (Int.le_of_lt hp)]
  have hd := Int.emod_def (a % 4294967296) ((2 : Int) ^ (32 - n).toNat)
  have he : a % 4294967296 / (2 : Int) ^ (32 - n).toNat * (2 : Int) ^ (32 - n).toNat = lowCut a n := by
    unfold lowCut
    rw [hd, Int.mul_comm]
    omega
  rw [he, w64 (by omega) (by omega)]
theorem size_val (n : Int) (h : 0 ≤ n ∧ n ≤ 32) : m_ridgewayref02_size n = some ((2 : Int) ^ (32 - n).toNat) := by
  refine ok_out ?_
  unfold m_ridgewayref02_size
  rw [show (if (0 : Int) > n then (0 : Int) else n) = n from if_neg (by omega)]
  refine ok_loop (fun st => ∃ j : Nat, st.2 = n + (j : Int) ∧ n + (j : Int) ≤ 32 ∧ st.1 = (2 : Int) ^ j) (fun st => (32 - st.2).toNat) ⟨0, by simp, by omega, rfl⟩ (by dsimp only; omega) ?_
  rintro ⟨_, _⟩ ⟨j, rfl, hj, rfl⟩ nx hnx
  rw [s_ridgewayref02_size1]
  dsimp only at hnx ⊢
  refine ok_if (fun hlt => ?_) fun hge => ok_some ?_
  · have hw : IntKind.i64.wrap (n + (j : Int) + 1) = n + ((j + 1 : Nat) : Int) := by rw [w64 (by omega) (by omega)]; omega
    have hb : (2 : Int) ^ j ≤ 2 ^ 32 := by
      have := Nat.pow_le_pow_right (n := 2) (by omega) (show j ≤ 32 by omega)
      exact_mod_cast this
    have hb0 : (0 : Int) < 2 ^ j := Int.pow_pos (by decide)
    have h32 : (2 : Int) ^ 32 = 4294967296 := by decide
    refine hnx _ ⟨j + 1, hw, by omega, ?_⟩ (by dsimp only; rw [hw]; omega)
    dsimp only
    rw [w64 (by omega) (by omega), Int.pow_succ]
  · have : j = (32 - n).toNat := by omega
    rw [this]
theorem rmask_val (a n : Int) (h : 0 ≤ n ∧ n ≤ 32) : m_ridgewayref02_Mask a n = some (lowCut a n) := by
  unfold m_ridgewayref02_Mask
  have hp : (0 : Int) < 2 ^ (32 - n).toNat := Int.pow_pos (by decide)
  have hr := cut_rng a n
  rw [size_val n h, bd_some, nz_some (by omega), lo_eq, Int.tmod_eq_emod_of_nonneg (Int.emod_nonneg a (by decide))]
  show some (IntKind.i64.wrap (lowCut a n)) = _
  rw [w64 (by omega) (by omega)]
/-- A prefix that may be. -/
def PrefixOk (x : Prefix) : Prop := (0 ≤ x.N ∧ x.N ≤ 32) ∧ lowCut x.A x.N = x.A
theorem t_psane (x : Prefix) : Ok (m_prefix_Sane x) fun b => b = true ↔ PrefixOk x := by
  unfold m_prefix_Sane PrefixOk
  refine ok_if (fun h1 => ok_if (fun h2 => ok_bde (mask_val _ _ ⟨h1, h2⟩) (ok_some ?_)) fun h => ok_some ?_) fun h => ok_some ?_
  · rw [decide_eq_true_eq]
    exact ⟨fun k => ⟨⟨h1, h2⟩, k⟩, fun k => k.2⟩
  · exact ⟨fun k => Bool.noConfusion k, fun k => by omega⟩
  · exact ⟨fun k => Bool.noConfusion k, fun k => by omega⟩
theorem t_rsane (x : Prefix) : Ok (m_ridgewayref02_Sane x) fun b => b = true ↔ PrefixOk x := by
  unfold m_ridgewayref02_Sane PrefixOk
  have hr := cut_rng x.A x.N
  refine ok_if (fun h1 => ok_if (fun h2 => ok_if (fun h3 => ok_if (fun h4 => ok_bde (rmask_val _ _ ⟨h1, h2⟩) (ok_some ?_)) fun h => ok_some ?_) fun h => ok_some ?_) fun h => ok_some ?_) fun h => ok_some ?_
  · rw [decide_eq_true_eq]
    exact ⟨fun k => ⟨⟨h1, h2⟩, k⟩, fun k => k.2⟩
  all_goals exact ⟨fun k => Bool.noConfusion k, fun k => by omega⟩
theorem psane_eq (x : Prefix) : m_ridgewayref02_Sane x = m_prefix_Sane x := ok_same (t_rsane x) (t_psane x)
theorem has_eq (x y : Prefix) : m_ridgewayref02_Has x y = m_prefix_Has x y := by
  unfold m_ridgewayref02_Has m_prefix_Has
  rw [psane_eq, psane_eq]
  obtain ⟨b, e, hb⟩ := t_psane x
  rw [e, bd_some, bd_some]
  cases b with
  | false => rfl
  | true =>
    have hx := (hb.1 rfl).1
    rw [rmask_val _ _ hx, mask_val _ _ hx]
theorem t_rhas14 (l : List Int) (x : Int) (hl : l.length ≤ 9223372036854775807) : Ok (m_ridgewayref14_has l x) fun b => b = true ↔ x ∈ l := by
  unfold m_ridgewayref14_has
  refine ok_idx l.length (fun j => ∀ i (h : i < l.length), i < j → ¬ l[i] = x) hl (fun _ _ h => absurd h (Nat.not_lt_zero _)) (fun i hi hI nx hnx => ?_) (fun hI nx => ?_)
  · rw [s_ridgewayref14_has1]
    refine ok_if (fun _ => ok_ix (by omega) (by omega) fun hlt => ok_if (fun h1 => ok_some ⟨fun _ => h1 ▸ List.getElem_mem _, fun _ => rfl⟩) fun h1 => hnx fun j hj hji => ?_) fun h => absurd (Int.ofNat_lt.2 hi) h
    simp only [Int.toNat_natCast] at h1
    rcases Nat.lt_succ_iff_lt_or_eq.1 hji with g | rfl
    · exact hI j hj g
    · exact h1
  · rw [s_ridgewayref14_has1]
    refine ok_if (fun h => by omega) fun _ => ok_some ⟨fun h => Bool.noConfusion h, fun h => ?_⟩
    obtain ⟨i, hi, rfl⟩ := List.getElem_of_mem h
    exact absurd rfl (hI i hi hi)
theorem t_rhas10 (l : List Int) (x : Int) (hl : l.length ≤ 9223372036854775807) : Ok (m_ridgewayref10_has l x) fun b => b = true ↔ x ∈ l := by
  unfold m_ridgewayref10_has
  refine ok_idx l.length (fun j => ∀ i (h : i < l.length), i < j → ¬ l[i] = x) hl (fun _ _ h => absurd h (Nat.not_lt_zero _)) (fun i hi hI nx hnx => ?_) (fun hI nx => ?_)
  · rw [s_ridgewayref10_has1]
    refine ok_if (fun _ => ok_ix (by omega) (by omega) fun hlt => ok_if (fun h1 => ok_some ⟨fun _ => h1 ▸ List.getElem_mem _, fun _ => rfl⟩) fun h1 => hnx fun j hj hji => ?_) fun h => absurd (Int.ofNat_lt.2 hi) h
    simp only [Int.toNat_natCast] at h1
    rcases Nat.lt_succ_iff_lt_or_eq.1 hji with g | rfl
    · exact hI j hj g
    · exact h1
  · rw [s_ridgewayref10_has1]
    refine ok_if (fun h => by omega) fun _ => ok_some ⟨fun h => Bool.noConfusion h, fun h => ?_⟩
    obtain ⟨i, hi, rfl⟩ := List.getElem_of_mem h
    exact absurd rfl (hI i hi hi)
theorem rroleIn_eq (rel as otc : Int) : m_ridgewayref13_In rel as otc = some (inMark rel as otc) := by
  unfold m_ridgewayref13_In inMark
  by_cases h1 : rel = 1 <;> by_cases h2 : otc = 0 <;> by_cases h3 : rel = 2 <;> by_cases h4 : otc = as <;> by_cases h5 : rel = 3 <;> simp_all
theorem rroleOut_eq (rel own otc : Int) : m_ridgewayref13_Out rel own otc = some (outMark rel own otc) := by
  unfold m_ridgewayref13_Out outMark
  by_cases h1 : rel = 1 <;> by_cases h2 : otc = 0 <;> by_cases h3 : rel = 2 <;> by_cases h5 : rel = 3 <;> simp_all
theorem bd_id {α : Type} (m : Option α) : bd m (fun x => some x) = m := by
  cases m with
  | none => exact bd_none _
  | some x => exact bd_some
theorem fits_eq (r : Rule) (v : View) (hl : v.As.length ≤ 9223372036854775807) : m_ridgewayref10_Fits r v = m_policy_Fits r v := by
  unfold m_ridgewayref10_Fits m_policy_Fits m_policy_fits_1 m_policy_fits_2 m_policy_fits_3 m_policy_fits_4 m_policy_fits_5
  rw [has_eq, ok_same (t_rhas10 v.As r.V hl) (t_contains v.As r.V hl)]
  simp only [bd_id, bd_some]
  by_cases h0 : r.Match = 0
  · simp [h0]
  by_cases h1 : r.Match = 1
  · simp [h1]
  by_cases h2 : r.Match = 2
  · simp [h2]
  by_cases h3 : r.Match = 3
  · simp [h3]
  by_cases h4 : r.Match = 4
  · simp [h4]
  by_cases h5 : r.Match < 0
  · simp [h0, h1, h2, h3, h4, h5]
  · have : r.Match ≥ 5 := by omega
    simp [h0, h1, h2, h3, h4, h5, this]
theorem pick_eq (l : List Rule) (v : View) (hl : v.As.length ≤ 9223372036854775807) : m_ridgewayref10_Pick l v = m_policy_Pick l v := by
  unfold m_ridgewayref10_Pick m_policy_Pick
  congr 1
  funext st nx bk
  rw [s_ridgewayref10_Pick1, s_policy_Pick1]
  cases ix l st with
  | none => simp only [bd_none]
  | some y => simp only [bd_some, fits_eq y v hl]
theorem rsane_eq (x : Rule) (b : Bool) : m_ridgewayref10_Sane x b = m_policy_Sane x b := by
  unfold m_ridgewayref10_Sane m_ridgewayref10_match m_policy_Sane m_policy_saneMatch m_policy_saneAct
  rw [psane_eq]
  obtain ⟨o, e, _⟩ := t_psane x.X
  rw [e]
  have l1 : decide (x.N < 400) = decide (x.N ≤ 399) := decide_eq_decide.2 (by omega)
  rw [l1]
  have hM : x.Match = 0 ∨ x.Match = 1 ∨ x.Match = 2 ∨ x.Match = 3 ∨ x.Match = 4 ∨ (¬ x.Match = 0 ∧ ¬ x.Match = 1 ∧ ¬ x.Match = 2 ∧ ¬ x.Match = 3 ∧ ¬ x.Match = 4) := by omega
  have hA : x.Act = 0 ∨ x.Act = 1 ∨ x.Act = 2 ∨ x.Act = 3 ∨ (¬ x.Act = 0 ∧ ¬ x.Act = 1 ∧ ¬ x.Act = 2 ∧ ¬ x.Act = 3) := by omega
  generalize (decide (x.X.A = 0) && decide (x.X.N = 0)) = z
  generalize decide (x.V = 0) = v0
  generalize decide (x.V ≥ 1) = v1
  generalize decide (x.V ≤ 4294967295) = v2
  generalize decide (x.V ≥ 0) = v3
  generalize decide (x.V ≤ 32) = v4
  generalize decide (x.V ≤ 3) = v5
  generalize decide (x.N = 0) = n0
  generalize decide (x.N ≥ 1) = n1
  generalize decide (x.N ≤ 399) = n2
  generalize decide (x.N ≤ 8) = n3
  rcases hM with h | h | h | h | h | ⟨g0, g1, g2, g3, g4⟩ <;> rcases hA with k | k | k | k | ⟨k0, k1, k2, k3⟩ <;> cases b <;> cases z <;> cases o <;> simp [*, bd_some, bd_id] <;> (try (cases v0 <;> cases v1 <;> cases v2 <;> cases v3 <;> cases v4 <;> cases v5 <;> simp [bd_some, bd_id]))
end Go.Proofs.Ytkdodhkiemfpeab
namespace Go.Proofs.Ytkdodhkiemfpeab
open Go.RowKit
set_option linter.unusedVariables false
set_option linter.unusedSimpArgs false
set_option maxRecDepth 100000
set_option maxHeartbeats 1000000

theorem hold_eq (n : Int) : m_ridgewayref12_Hold n = m_conf_saneHold n := rfl
theorem t_polT (x : Rule) (b : Bool) : Ok (m_policy_Sane x b) fun r => r = true ↔ m_policy_Sane x b = some true := by
  obtain ⟨r, e, _⟩ := t_rule x b
  refine ⟨r, e, ?_⟩
  rw [e]
  exact ⟨fun h => by rw [h], fun h => by cases h; rfl⟩
def RulesB (l : List Rule) (b : Bool) : Prop := l.length ≤ 8 ∧ ∀ i (h : i < l.length), m_policy_Sane l[i] b = some true
theorem t_rulesB (l : List Rule) (b : Bool) (hl : l.length ≤ 9223372036854775807) : Ok (m_conf_saneRules l b) fun r => r = true ↔ RulesB l b := by
  unfold m_conf_saneRules RulesB
  refine ok_if (fun h => ok_some ⟨fun k => Bool.noConfusion k, fun k => by omega⟩) fun h8 => ok_idx l.length (fun j => ∀ i (h : i < l.length), i < j → m_policy_Sane l[i] b = some true) hl (fun _ _ h => absurd h (Nat.not_lt_zero _)) (fun i hi hI nx hnx => ?_) (fun hI nx => ?_)
  · rw [s_conf_saneRules1]
    refine ok_if (fun _ => ok_ix (by omega) (by omega) fun hlt => ok_bd (t_polT _ _) fun r _ hr => ok_ifnb (fun h => ok_some ⟨fun k => Bool.noConfusion k, fun k => ?_⟩) fun h => hnx fun j hj hji => ?_) fun h => absurd (Int.ofNat_lt.2 hi) h
    · have := hr.2 (by simpa using k.2 i hi); rw [this] at h; cases h
    · rcases Nat.lt_succ_iff_lt_or_eq.1 hji with g | rfl
      · exact hI j hj g
      · simpa using hr.1 h
  · rw [s_conf_saneRules1]
    exact ok_if (fun h => by omega) fun _ => ok_some ⟨fun _ => ⟨by omega, fun i h => hI i h h⟩, fun _ => rfl⟩
theorem t_rrulesB (l : List Rule) (b : Bool) (hl : l.length ≤ 9223372036854775807) : Ok (m_ridgewayref12_rules l b) fun r => r = true ↔ RulesB l b := by
  unfold m_ridgewayref12_rules RulesB
  refine ok_idx l.length (fun j => ∀ i (h : i < l.length), i < j → m_policy_Sane l[i] b = some true) hl (fun _ _ h => absurd h (Nat.not_lt_zero _)) (fun i hi hI nx hnx => ?_) (fun hI nx => ?_)
  · rw [s_ridgewayref12_rules1]
    refine ok_if (fun _ => ok_ix (by omega) (by omega) fun hlt => ?_) fun h => absurd (Int.ofNat_lt.2 hi) h
    rw [rsane_eq]
    refine ok_bd (t_polT _ _) fun r _ hr => ok_ifnb (fun h => ok_some ⟨fun k => Bool.noConfusion k, fun k => ?_⟩) fun h => hnx fun j hj hji => ?_
    · have := hr.2 (by simpa using k.2 i hi); rw [this] at h; cases h
    · rcases Nat.lt_succ_iff_lt_or_eq.1 hji with g | rfl
      · exact hI j hj g
      · simpa using hr.1 h
  · rw [s_ridgewayref12_rules1]
    exact ok_if (fun h => by omega) fun _ => ok_some ⟨fun k => ⟨by have := of_decide_eq_true k; omega, fun i h => hI i h h⟩, fun k => decide_eq_true (by omega)⟩
theorem rules_eq (l : List Rule) (b : Bool) (hl : l.length ≤ 9223372036854775807) : m_ridgewayref12_rules l b = m_conf_saneRules l b := ok_same (t_rrulesB l b hl) (t_rulesB l b hl)
def OwnB (l : List Prefix) : Prop := l.length ≤ 8 ∧ ∀ i (h : i < l.length), PrefixOk l[i] ∧ ∀ j (hj : j < i), ¬ l[j]'(by omega) = l[i]
theorem pfx_eq (x y : Prefix) : (decide (x.A = y.A) && decide (x.N = y.N)) = decide (x = y) := by
  cases x; cases y
  simp
theorem t_contP (l : List Prefix) (x : Prefix) (hl : l.length ≤ 9223372036854775807) : Ok (m_slices_Contains___api_Prefix_api_Prefix l x) fun b => b = true ↔ x ∈ l := by
  unfold m_slices_Contains___api_Prefix_api_Prefix m_slices_Index___api_Prefix_api_Prefix
  refine ok_bd (P := fun r => r ≥ 0 ↔ x ∈ l) (ok_idx l.length (fun j => ∀ i (h : i < l.length), i < j → ¬ x = l[i]) hl (fun _ _ h => absurd h (Nat.not_lt_zero _)) (fun i hi hI nx hnx => ?_) (fun hI nx => ?_)) fun r _ hr => ok_some (by rw [decide_eq_true_eq]; exact hr)
  · rw [s_slices_Index___api_Prefix_api_Prefix1]
    refine ok_if (fun _ => ok_ix (by omega) (by omega) fun hlt => ?_) fun h => absurd (Int.ofNat_lt.2 hi) h
    rw [pfx_eq]
    refine ok_if (fun h1 => ok_some ⟨fun _ => h1 ▸ List.getElem_mem _, fun _ => by omega⟩) fun h1 => hnx fun j hj hji => ?_
    simp only [Int.toNat_natCast] at h1
    rcases Nat.lt_succ_iff_lt_or_eq.1 hji with g | rfl
    · exact hI j hj g
    · exact h1
  · rw [s_slices_Index___api_Prefix_api_Prefix1]
    refine ok_if (fun h => by omega) fun _ => ok_some ⟨fun h => by omega, fun h => ?_⟩
    obtain ⟨i, hi, rfl⟩ := List.getElem_of_mem h
    exact absurd rfl (hI i hi hi)
theorem mem_take_ix {α : Type} {l : List α} {i : Nat} (hi : i < l.length) {x : α} : x ∈ l.take i ↔ ∃ j, ∃ hj : j < i, l[j]'(by omega) = x := by
  rw [List.mem_take_iff_getElem]
  constructor
  · rintro ⟨j, hj, e⟩
    exact ⟨j, by omega, e⟩
  · rintro ⟨j, hj, e⟩
    exact ⟨j, by omega, e⟩
theorem t_ownB (l : List Prefix) (hl : l.length ≤ 9223372036854775807) : Ok (m_conf_saneOwn l) fun r => r = true ↔ OwnB l := by
  unfold m_conf_saneOwn OwnB
  refine ok_if (fun h => ok_some ⟨fun k => Bool.noConfusion k, fun k => by omega⟩) fun h8 => ok_idx l.length (fun m => ∀ i (h : i < l.length), i < m → PrefixOk l[i] ∧ ∀ j (hj : j < i), ¬ l[j]'(by omega) = l[i]) hl (fun _ _ h => absurd h (Nat.not_lt_zero _)) (fun i hi hI nx hnx => ?_) (fun hI nx => ?_)
  · rw [s_conf_saneOwn1]
    refine ok_if (fun _ => ok_ix (by omega) (by omega) fun hlt => ?_) fun h => absurd (Int.ofNat_lt.2 hi) h
    simp only [Int.toNat_natCast]
    refine ok_bd (t_psane _) fun r _ hr => ok_ifnb (fun h => ok_some ⟨fun k => Bool.noConfusion k, fun k => ?_⟩) fun h => ok_bde (sl_pre (by omega)) ?_
    · have := hr.2 (k.2 i hi).1; rw [this] at h; cases h
    simp only [Int.toNat_natCast]
    refine ok_bd (t_contP _ _ (by rw [List.length_take]; omega)) fun r2 _ hr2 => ok_ifb (fun h2 => ok_some ⟨fun k => Bool.noConfusion k, fun k => ?_⟩) fun h2 => hnx fun m hm hmi => ?_
    · obtain ⟨j, hj, e⟩ := (mem_take_ix hi).1 (hr2.1 h2)
      exact absurd e ((k.2 i hi).2 j hj)
    · rcases Nat.lt_succ_iff_lt_or_eq.1 hmi with g | rfl
      · exact hI m hm g
      · refine ⟨hr.1 h, fun j hj e => ?_⟩
        have := hr2.2 ((mem_take_ix hi).2 ⟨j, hj, e⟩)
        rw [this] at h2; cases h2
  · rw [s_conf_saneOwn1]
    exact ok_if (fun h => by omega) fun _ => ok_some ⟨fun _ => ⟨by omega, fun i h => hI i h h⟩, fun _ => rfl⟩
theorem t_rownB (l : List Prefix) (hl : l.length ≤ 9223372036854775807) : Ok (m_ridgewayref12_owns l) fun r => r = true ↔ OwnB l := by
  unfold m_ridgewayref12_owns OwnB
  refine ok_idx l.length (fun m => ∀ i (h : i < l.length), i < m → PrefixOk l[i] ∧ ∀ j (hj : j < i), ¬ l[j]'(by omega) = l[i]) hl (fun _ _ h => absurd h (Nat.not_lt_zero _)) (fun i hi hI nx hnx => ?_) (fun hI nx => ?_)
  · rw [s_ridgewayref12_owns1]
    refine ok_if (fun _ => ok_ix (by omega) (by omega) fun hlt => ?_) fun h => absurd (Int.ofNat_lt.2 hi) h
    simp only [Int.toNat_natCast]
    refine ok_bd (t_rsane _) fun r _ hr => ok_ifnb (fun h => ok_some ⟨fun k => Bool.noConfusion k, fun k => ?_⟩) fun h => ok_idx i (fun m => ∀ j (hj : j < m) (hji : j < i), ¬ l[j]'(by omega) = l[i]) (by omega) (fun _ h => absurd h (Nat.not_lt_zero _)) (fun j hj hJ nx2 hnx2 => ?_) (fun hJ nx2 => ?_)
    · have := hr.2 (k.2 i hi).1; rw [this] at h; cases h
    · rw [s_ridgewayref12_owns2]
      refine ok_if (fun _ => ok_ix (by omega) (by omega) fun _ => ok_ix (by omega) (by omega) fun _ => ?_) fun h => absurd (Int.ofNat_lt.2 hj) h
      rw [pfx_eq]
      simp only [Int.toNat_natCast]
      refine ok_if (fun e => ok_some ⟨fun k => Bool.noConfusion k, fun k => absurd e ((k.2 i hi).2 j hj)⟩) fun ne => hnx2 fun m hm hmi => ?_
      rcases Nat.lt_succ_iff_lt_or_eq.1 hm with g | rfl
      · exact hJ m g hmi
      · exact ne
    · rw [s_ridgewayref12_owns2]
      refine ok_if (fun h => by omega) fun _ => hnx fun m hm hmi => ?_
      rcases Nat.lt_succ_iff_lt_or_eq.1 hmi with g | rfl
      · exact hI m hm g
      · exact ⟨hr.1 h, fun j hj => hJ j hj hj⟩
  · rw [s_ridgewayref12_owns1]
    exact ok_if (fun h => by omega) fun _ => ok_some ⟨fun k => ⟨by have := of_decide_eq_true k; omega, fun i h => hI i h h⟩, fun k => decide_eq_true (by omega)⟩
theorem own_eq (l : List Prefix) (hl : l.length ≤ 9223372036854775807) : m_ridgewayref12_owns l = m_conf_saneOwn l := ok_same (t_rownB l hl) (t_ownB l hl)
theorem t_numB (n : Int) : Ok (m_conf_saneNumber n) fun b => b = true ↔ 1 ≤ n ∧ n ≤ 4294967295 := by
  unfold m_conf_saneNumber
  exact ok_if (fun h => ok_some (by rw [decide_eq_true_eq]; exact ⟨fun k => ⟨h, k⟩, fun k => k.2⟩)) fun h => ok_some ⟨fun k => Bool.noConfusion k, fun k => absurd k.1 h⟩
def SideB (a : Int) (l : List Side) (i : Nat) (h : i < l.length) : Prop := (1 ≤ l[i].As ∧ l[i].As ≤ 4294967295) ∧ ¬ l[i].As = a ∧ (1 ≤ l[i].Rel ∧ l[i].Rel ≤ 3) ∧ RulesB l[i].In true ∧ RulesB l[i].Out false ∧ ∀ j (hj : j < i), ¬ (l[j]'(by omega)).As = l[i].As
theorem t_takenB (a : Int) (l : List Side) (n : Int) (hl : l.length ≤ 9223372036854775807) : Ok (m_conf_taken a l n) fun b => b = true ↔ (n = a ∨ ∃ s ∈ l, s.As = n) := by
  unfold m_conf_taken
  refine ok_if (fun h => ok_some ⟨fun _ => .inl h, fun _ => rfl⟩) fun h0 => ok_jn (fun j => j ≥ 0 ↔ ∃ s ∈ l, s.As = n) (fun k' hk => ok_idx l.length (fun m => ∀ i (h : i < l.length), i < m → ¬ l[i].As = n) hl (fun _ _ h => absurd h (Nat.not_lt_zero _)) (fun i hi hI nx hnx => ?_) (fun hI nx => ?_)) fun j hj => ok_some (by rw [decide_eq_true_eq, hj]; exact ⟨.inr, fun h => h.resolve_left h0⟩)
  · rw [s_conf_taken1]
    refine ok_if (fun _ => ok_ix (by omega) (by omega) fun hlt => ok_if (fun h1 => hk _ ⟨fun _ => ⟨_, List.getElem_mem _, h1⟩, fun _ => by omega⟩) fun h1 => hnx fun j hj hji => ?_) fun h => absurd (Int.ofNat_lt.2 hi) h
    simp only [Int.toNat_natCast] at h1
    rcases Nat.lt_succ_iff_lt_or_eq.1 hji with g | rfl
    · exact hI j hj g
    · exact h1
  · rw [s_conf_taken1]
    refine ok_if (fun h => by omega) fun _ => hk _ ⟨fun h => by omega, fun ⟨s, hs, e⟩ => ?_⟩
    obtain ⟨i, hi, rfl⟩ := List.getElem_of_mem hs
    exact absurd e (hI i hi hi)
theorem t_sidesB (c : Conf) (f : FewC c) : Ok (m_conf_saneSides c) fun r => r = true ↔ (c.Sides.length ≤ 8 ∧ ∀ i (h : i < c.Sides.length), SideB c.As c.Sides i h) := by
  have hs := f.sides
  unfold m_conf_saneSides
  have no : ∀ {A : Prop}, ¬ A → Ok (some false : Option Bool) (fun b => b = true ↔ A) := fun h => ok_some ⟨fun k => Bool.noConfusion k, fun k => absurd k h⟩
  refine ok_if (fun h => no fun k => by omega) fun h8 => ok_idx c.Sides.length (fun m => ∀ i (h : i < c.Sides.length), i < m → SideB c.As c.Sides i h) (by omega) (fun _ _ h => absurd h (Nat.not_lt_zero _)) (fun i hi hI nx hnx => ?_) (fun hI nx => ?_)
  · have hin := f.ins _ (List.getElem_mem hi)
    have hout := f.outs _ (List.getElem_mem hi)
    rw [s_conf_saneSides1]
    refine ok_if (fun _ => ok_ix (by omega) (by omega) fun hlt => ?_) fun h => absurd (Int.ofNat_lt.2 hi) h
    simp only [Int.toNat_natCast]
    refine ok_bd (t_numB _) fun r1 _ h1 => ok_ifnb (fun q => no fun k => by rw [h1.2 (k.2 i hi).1] at q; cases q) fun q1 => ok_bde (sl_pre (by omega)) ?_
    simp only [Int.toNat_natCast]
    refine ok_bd (t_takenB _ _ _ (by rw [List.length_take]; omega)) fun r2 _ h2 => ok_ifb (fun q => no fun k => ?_) fun q2 => ok_if (fun q => no fun k => by have := (k.2 i hi).2.2.1; omega) fun q3 => ok_if (fun q => no fun k => by have := (k.2 i hi).2.2.1; omega) fun q4 =>
      ok_bd (t_rulesB _ _ (by omega)) fun r5 _ h5 => ok_ifnb (fun q => no fun k => by rw [h5.2 (k.2 i hi).2.2.2.1] at q; cases q) fun q5 => ok_bd (t_rulesB _ _ (by omega)) fun r6 _ h6 => ok_ifnb (fun q => no fun k => by rw [h6.2 (k.2 i hi).2.2.2.2.1] at q; cases q) fun q6 => hnx fun m hm hmi => ?_
    · rcases h2.1 q with e | ⟨s, hs, e⟩
      · exact (k.2 i hi).2.1 e
      · obtain ⟨j, hj, rfl⟩ := (mem_take_ix hi).1 hs
        exact (k.2 i hi).2.2.2.2.2 j hj e
    · rcases Nat.lt_succ_iff_lt_or_eq.1 hmi with g | rfl
      · exact hI m hm g
      · refine ⟨h1.1 q1, fun e => ?_, ⟨by omega, by omega⟩, h5.1 q5, h6.1 q6, fun j hj e => ?_⟩
        · rw [h2.2 (.inl e)] at q2; cases q2
        · rw [h2.2 (.inr ⟨_, (mem_take_ix hi).2 ⟨j, hj, rfl⟩, e⟩)] at q2; cases q2
  · rw [s_conf_saneSides1]
    exact ok_if (fun h => by omega) fun _ => ok_some ⟨fun _ => ⟨by omega, fun i h => hI i h h⟩, fun _ => rfl⟩
theorem t_rsidesB (c : Conf) (f : FewC c) : Ok (m_ridgewayref12_sides c.Sides c.As) fun r => r = true ↔ (c.Sides.length ≤ 8 ∧ ∀ i (h : i < c.Sides.length), SideB c.As c.Sides i h) := by
  have hs := f.sides
  unfold m_ridgewayref12_sides
  have no : ∀ {A : Prop}, ¬ A → Ok (some false : Option Bool) (fun b => b = true ↔ A) := fun h => ok_some ⟨fun k => Bool.noConfusion k, fun k => absurd k h⟩
  refine ok_idx c.Sides.length (fun m => ∀ i (h : i < c.Sides.length), i < m → SideB c.As c.Sides i h) (by omega) (fun _ _ h => absurd h (Nat.not_lt_zero _)) (fun i hi hI nx hnx => ?_) (fun hI nx => ?_)
  · have hin := f.ins _ (List.getElem_mem hi)
    have hout := f.outs _ (List.getElem_mem hi)
    rw [s_ridgewayref12_sides1]
    refine ok_if (fun _ => ok_ix (by omega) (by omega) fun hlt => ?_) fun h => absurd (Int.ofNat_lt.2 hi) h
    simp only [Int.toNat_natCast]
    refine ok_if (fun q => no fun k => by have := (k.2 i hi).1; omega) fun q1 => ok_if (fun q => no fun k => by have := (k.2 i hi).1; omega) fun q1' => ok_if (fun q => no fun k => (k.2 i hi).2.1 q) fun q2 => ok_if (fun q => no fun k => by have := (k.2 i hi).2.2.1; omega) fun q3 => ok_if (fun q => no fun k => by have := (k.2 i hi).2.2.1; omega) fun q4 =>
      ok_bd (t_rrulesB _ _ (by omega)) fun r5 _ h5 => ok_ifnb (fun q => no fun k => by rw [h5.2 (k.2 i hi).2.2.2.1] at q; cases q) fun q5 => ok_bd (t_rrulesB _ _ (by omega)) fun r6 _ h6 => ok_ifnb (fun q => no fun k => by rw [h6.2 (k.2 i hi).2.2.2.2.1] at q; cases q) fun q6 =>
      ok_idx i (fun m => ∀ j (hj : j < m) (hji : j < i), ¬ (c.Sides[j]'(by omega)).As = c.Sides[i].As) (by omega) (fun _ h => absurd h (Nat.not_lt_zero _)) (fun j hj hJ nx2 hnx2 => ?_) (fun hJ nx2 => ?_)
    · rw [s_ridgewayref12_sides2]
      refine ok_if (fun _ => ok_ix (by omega) (by omega) fun _ => ?_) fun h => absurd (Int.ofNat_lt.2 hj) h
      simp only [Int.toNat_natCast]
      refine ok_if (fun e => no fun k => (k.2 i hi).2.2.2.2.2 j hj e) fun ne => hnx2 fun m hm hmi => ?_
      rcases Nat.lt_succ_iff_lt_or_eq.1 hm with g | rfl
      · exact hJ m g hmi
      · exact ne
    · rw [s_ridgewayref12_sides2]
      refine ok_if (fun h => by omega) fun _ => hnx fun m hm hmi => ?_
      rcases Nat.lt_succ_iff_lt_or_eq.1 hmi with g | rfl
      · exact hI m hm g
      · exact ⟨⟨by omega, by omega⟩, q2, ⟨by omega, by omega⟩, h5.1 q5, h6.1 q6, fun j hj => hJ j hj hj⟩
  · rw [s_ridgewayref12_sides1]
    exact ok_if (fun h => by omega) fun _ => ok_some ⟨fun k => ⟨by have := of_decide_eq_true k; omega, fun i h => hI i h h⟩, fun k => decide_eq_true (by omega)⟩
theorem csane_eq (c : Conf) (f : FewC c) : m_ridgewayref12_Sane c = m_conf_Sane c := by
  have hown := f.own
  unfold m_ridgewayref12_Sane m_conf_Sane m_conf_saneNumber m_conf_saneCap
  rw [hold_eq, own_eq _ (by omega), ok_same (t_rsidesB c f) (t_sidesB c f)]
  by_cases h1 : c.As ≥ 1 <;> by_cases h2 : c.As ≤ 4294967295 <;> by_cases h3 : c.Id ≥ 1 <;> by_cases h4 : c.Id ≤ 4294967295 <;> by_cases h5 : c.Cap ≥ 1 <;> by_cases h6 : c.Cap ≤ 1000 <;>
    simp only [h1, h2, h3, h4, h5, h6, decide_true, decide_false, cond_true, cond_false, bd_some] <;> (obtain ⟨b, e, _⟩ := t_hold c.Hold; rw [e]; cases b <;> rfl)
end Go.Proofs.Ytkdodhkiemfpeab
namespace Go.Proofs.Ytkdodhkiemfpeab
open Go.RowKit
set_option linter.unusedVariables false
set_option linter.unusedSimpArgs false
set_option maxRecDepth 100000
set_option maxHeartbeats 1000000

theorem t_refSane (p : Path) (hl : p.As.length ≤ 9223372036854775807) : Ok (m_ridgewayref07_Sane p) fun b => b = true ↔ PathOk p := by
  unfold m_ridgewayref07_Sane
  have no : ∀ {A : Prop}, ¬ A → Ok (some false : Option Bool) (fun b => b = true ↔ A) := fun h => ok_some ⟨fun k => Bool.noConfusion k, fun k => absurd k h⟩
  refine ok_idx p.As.length (fun j => ∀ i (h : i < p.As.length), i < j → 1 ≤ p.As[i] ∧ p.As[i] ≤ 4294967295) hl (fun _ _ h => absurd h (Nat.not_lt_zero _)) (fun i hi hI nx hnx => ?_) (fun hI nx => ?_)
  · rw [s_ridgewayref07_Sane1]
    have hm := List.getElem_mem hi
    refine ok_if (fun _ => ok_ix (by omega) (by omega) fun hlt => ok_if (fun h1 => no fun k => ?_) fun h1 => ok_ix (by omega) (by omega) fun hlt => ok_if (fun h2 => no fun k => ?_) fun h2 => hnx fun j hj hji => ?_) fun h => absurd (Int.ofNat_lt.2 hi) h
    · have := k.1 _ hm; simp only [Int.toNat_natCast] at h1; omega
    · have := k.1 _ hm; simp only [Int.toNat_natCast] at h2; omega
    · simp only [Int.toNat_natCast] at h1 h2
      rcases Nat.lt_succ_iff_lt_or_eq.1 hji with g | rfl
      · exact hI j hj g
      · exact ⟨by omega, by omega⟩
  · rw [s_ridgewayref07_Sane1]
    have hall : ∀ x ∈ p.As, 1 ≤ x ∧ x ≤ 4294967295 := fun x hx => by
      obtain ⟨i, h, rfl⟩ := List.getElem_of_mem hx
      exact hI i h h
    refine ok_if (fun h => by omega) fun _ => ok_if (fun h1 => ok_if (fun h2 => ok_if (fun h3 => ok_if (fun h4 => ok_if (fun h5 => ok_if (fun h6 => ok_some ?_) fun h => no fun k => ?_) fun h => no fun k => ?_) fun h => no fun k => ?_) fun h => no fun k => ?_) fun h => no fun k => ?_) fun h => no fun k => ?_
    · rw [decide_eq_true_eq]
      exact ⟨fun h7 => ⟨hall, ⟨h1, h2⟩, by omega, ⟨h4, h5⟩, h6, h7⟩, fun k => k.2.2.2.2.2⟩
    all_goals (obtain ⟨_, _, _, _, _, _⟩ := k; omega)

theorem same_refl (p : Path) (h : p.As.length ≤ 10000) : m_ridgewayref07_SamePath p p = some true := by
  refine ok_true ?_
  unfold m_ridgewayref07_SamePath
  refine ok_if (fun h => absurd rfl h) fun _ => ok_if (fun h => absurd rfl h) fun _ => ok_if (fun h => absurd rfl h) fun _ => ok_if (fun h => absurd rfl h) fun _ => ok_idx p.As.length (fun _ => True) (by omega) trivial (fun i hi _ nx hnx => ?_) (fun _ nx => ?_)
  · rw [s_ridgewayref07_SamePath1]
    exact ok_if (fun _ => ok_ix (by omega) (by omega) fun _ => ok_ix (by omega) (by omega) fun _ => ok_if (fun h => absurd rfl h) fun _ => hnx trivial) fun h => absurd (Int.ofNat_lt.2 hi) h
  · rw [s_ridgewayref07_SamePath1]
    exact ok_if (fun h => by omega) fun _ => ok_some rfl

theorem t_refRoute (r : Route) (hl : r.P.As.length ≤ 9223372036854775807) : Ok (m_ridgewayref09_Sane r) fun b => b = true ↔ RouteOk r := by
  unfold m_ridgewayref09_Sane
  have no : ∀ {A : Prop}, ¬ A → Ok (some false : Option Bool) (fun b => b = true ↔ A) := fun h => ok_some ⟨fun k => Bool.noConfusion k, fun k => absurd k h⟩
  refine ok_bd (t_refSane _ hl) fun b _ hb => ok_ifnb (fun h => no fun k => by rw [hb.2 k.1] at h; cases h) fun h => ok_if (fun h1 => no fun k => by have := k.2.1; omega) fun h1 => ok_if (fun h2 => ?_) fun h2 => ?_
  · refine ok_if (fun h3 => ok_if (fun h4 => ok_if (fun h5 => ok_some ?_) fun h => no fun k => ?_) fun h => no fun k => ?_) fun h => no fun k => ?_
    · rw [decide_eq_true_eq]
      exact ⟨fun h6 => ⟨hb.1 ‹_›, by omega, .inl ⟨h2, h3, by omega, h5, h6⟩⟩, fun k => by rcases k.2.2 with q | q <;> omega⟩
    all_goals (rcases k.2.2 with q | q <;> omega)
  · refine ok_if (fun h3 => ok_if (fun h4 => ok_if (fun h5 => ok_some ?_) fun h => no fun k => ?_) fun h => no fun k => ?_) fun h => no fun k => ?_
    · rw [decide_eq_true_eq]
      exact ⟨fun h6 => ⟨hb.1 ‹_›, by omega, .inr ⟨by omega, by omega, by omega, by omega⟩⟩, fun k => by rcases k.2.2 with q | q <;> omega⟩
    all_goals (rcases k.2.2 with q | q <;> omega)

theorem rclass_eq (c : Conf) (k : Int) : m_ridgewayref14_Class c k = some (clsOf c k) := by
  refine ok_out ?_
  unfold m_ridgewayref14_Class m_ridgewayref14_side clsOf
  by_cases h1 : k ≥ 0
  · by_cases h2 : k < c.Sides.length
    · simp only [h1, h2, decide_true, cond_true, bd_some, Bool.not_true, cond_false]
      refine ok_ix h1 h2 fun hlt => ok_some ?_
      rw [if_neg (by omega), List.getElem?_eq_getElem hlt]; rfl
    · simp only [h1, h2, decide_true, decide_false, cond_true, bd_some, Bool.not_false]
      refine ok_some ?_
      rw [if_neg (by omega), List.getElem?_eq_none (by omega)]; rfl
  · simp only [h1, decide_false, cond_false, cond_true, bd_some, Bool.not_false]
    exact ok_some (by rw [if_pos (by omega)])
theorem in_eq (c : Conf) (k : Int) (x : Prefix) (p : Path) (f : FewC c) (hp : p.As.length ≤ 9223372036854775807) : m_ridgewayref14_In c k x p = m_edge_In c k x p := by
  obtain ⟨bS, eS, hS⟩ := t_sane c f
  obtain ⟨bP, eP, _⟩ := t_psane x
  obtain ⟨bA, eA, _⟩ := t_attrSane p hp
  unfold m_ridgewayref14_In m_edge_In m_edge_at m_ridgewayref14_side
  rw [csane_eq c f, psane_eq, ok_same (t_refSane p hp) (t_attrSane p hp), eS, eP, eA]
  by_cases h1 : k ≥ 0
  rotate_left
  · cases bS <;> simp only [h1, decide_false, cond_true, cond_false, bd_some, Bool.not_true, Bool.not_false]
  by_cases h2 : k < c.Sides.length
  rotate_left
  · cases bS <;> simp only [h1, h2, decide_true, decide_false, cond_true, cond_false, bd_some, Bool.not_true, Bool.not_false]
  cases bS with
  | false => cases bP <;> simp only [h1, h2, decide_true, cond_true, cond_false, bd_some, Bool.not_true, Bool.not_false]
  | true =>
  cases bP with
  | false => simp only [h1, h2, decide_true, cond_true, cond_false, bd_some, Bool.not_true, Bool.not_false]
  | true =>
  cases bA with
  | false => simp only [h1, h2, decide_true, cond_true, cond_false, bd_some, Bool.not_true, Bool.not_false]
  | true =>
  have hc := hS rfl
  have hlt : k.toNat < c.Sides.length := by omega
  have hso := hc.2.2.2 _ hlt
  have hin := f.ins _ (List.getElem_mem hlt)
  have hix : ix c.Sides k = some c.Sides[k.toNat] := ix_some h1 (List.getElem?_eq_getElem hlt)
  generalize c.Sides[k.toNat] = s at hso hin hix
  simp only [h1, h2, hix, decide_true, cond_true, cond_false, bd_some, Bool.not_true, Bool.not_false, jn_eq]
  by_cases h0 : (p.As.length : Int) = 0
  · have h0' : ¬ (p.As.length : Int) > 0 := by omega
    simp only [h0, h0', decide_true, decide_false, cond_true, cond_false, Bool.not_false]
    rfl
  have h0' : (p.As.length : Int) > 0 := by omega
  have hy : ix p.As 0 = some (p.As[(0 : Int).toNat]'(by simp; omega)) := ix_some (by omega) (List.getElem?_eq_getElem (by simp; omega))
  generalize (p.As[(0 : Int).toNat]'(by simp; omega)) = y at hy
  simp only [h0, h0', hy, decide_true, decide_false, cond_true, cond_false, bd_some]
  by_cases hys : y = s.As
  rotate_left
  · simp only [hys, not_false_eq_true, decide_true, decide_false, cond_true, Bool.not_false]
  obtain ⟨b5, e5, _⟩ := t_contains p.As c.As hp
  rw [ok_same (t_rhas14 p.As c.As hp) (t_contains p.As c.As hp), e5]
  simp only [hys, not_true_eq_false, decide_true, decide_false, cond_true, cond_false, Bool.not_true, bd_some]
  cases b5 with
  | true => simp only [cond_true, Bool.not_true, Bool.not_false, cond_false]
  | false =>
  simp only [cond_true, Bool.not_true, Bool.not_false, cond_false]
  by_cases h32 : (p.As.length : Int) ≤ 32
  rotate_left
  · have h32' : (p.As.length : Int) > 32 := by omega
    simp only [h32, h32', decide_true, decide_false, cond_true, Bool.not_false]
  have h32' : ¬ (p.As.length : Int) > 32 := by omega
  obtain ⟨⟨rule, b8⟩, e8, h8⟩ := t_pick s.In ⟨x, p.As, s.Rel⟩ (by omega) hp
  rw [pick_eq _ _ hp, e8, rroleIn_eq, roleIn_eq]
  simp only [h32, h32', decide_true, decide_false, cond_true, cond_false, Bool.not_true, bd_some, accepts_eq]
  cases (inMark s.Rel s.As p.Otc).2 with
  | false => simp only [Bool.not_false, cond_true]
  | true =>
  simp only [Bool.not_true, cond_false]
  cases b8 with
  | false => simp only [Bool.not_false, cond_true, Bool.false_and]
  | true =>
  have hro := (hso.2.2.1 _ (h8.1 rfl)).1 rfl
  dsimp only at hro
  simp only [Bool.not_true, cond_false, Bool.true_and]
  by_cases ha : rule.Act = 2
  · have ha' : ¬ rule.Act = 0 := by omega
    simp only [ha, ha', not_true_eq_false, not_false_eq_true, decide_true, decide_false, cond_true, cond_false, Bool.not_true]
    rfl
  · have ha' : rule.Act = 0 := by omega
    simp only [ha, ha', not_true_eq_false, not_false_eq_true, decide_true, decide_false, cond_true, Bool.not_false]
    rfl
theorem rloop (c : Conf) (rule : Rule) (b : Bool) (hN : 0 ≤ rule.N ∧ rule.N ≤ 8) {bk : List Int → Option (Path × Bool)} {v : Path × Bool} (hb : bk (List.replicate (1 + rule.N.toNat) c.As) = some v) : loopC (s_ridgewayref14_Out1 c (rule, b)) bk BIG ([c.As], (0 : Int)) = some v := by
  refine ok_out (ok_acc rule.N.toNat (fun i l => l = List.replicate (1 + i) c.As) (by omega) rfl (fun i l hi hI nx hnx => ?_) (fun l hI nx => ?_))
  · subst hI
    rw [s_ridgewayref14_Out1]
    refine ok_if (fun _ => ok_ap (by simp; omega) (by simp; omega) (hnx _ ?_)) fun h => absurd (show (i : Int) < rule.N by omega) h
    dsimp only
    rw [← List.replicate_succ']
    congr 1
  · subst hI
    rw [s_ridgewayref14_Out1]
    exact ok_if (fun h => by dsimp only at h; omega) fun _ => ⟨v, hb, rfl⟩
theorem out_eq (c : Conf) (k : Int) (x : Prefix) (r : Route) (f : FewC c) (hp : r.P.As.length ≤ 9223372036854775807) : m_ridgewayref14_Out c k x r = m_edge_Out c k x r := by
  obtain ⟨bS, eS, hS⟩ := t_sane c f
  obtain ⟨bP, eP, _⟩ := t_psane x
  obtain ⟨bA, eA, hA⟩ := t_routeSane r hp
  unfold m_ridgewayref14_Out m_edge_Out m_edge_at m_ridgewayref14_side
  rw [csane_eq c f, psane_eq, ok_same (t_refRoute r hp) (t_routeSane r hp), eS, eP, eA]
  by_cases h1 : k ≥ 0
  rotate_left
  · cases bS <;> simp only [h1, decide_false, cond_true, cond_false, bd_some, Bool.not_true, Bool.not_false]
  by_cases h2 : k < c.Sides.length
  rotate_left
  · cases bS <;> simp only [h1, h2, decide_true, decide_false, cond_true, cond_false, bd_some, Bool.not_true, Bool.not_false]
  cases bS with
  | false => cases bP <;> simp only [h1, h2, decide_true, cond_true, cond_false, bd_some, Bool.not_true, Bool.not_false]
  | true =>
  cases bP with
  | false => simp only [h1, h2, decide_true, cond_true, cond_false, bd_some, Bool.not_true, Bool.not_false]
  | true =>
  cases bA with
  | false => simp only [h1, h2, decide_true, cond_true, cond_false, bd_some, Bool.not_true, Bool.not_false]
  | true =>
  have hc := hS rfl
  have hro := hA.1 rfl
  have hlen := hro.2.1
  have hlt : k.toNat < c.Sides.length := by omega
  have hso := hc.2.2.2 _ hlt
  have hin := f.outs _ (List.getElem_mem hlt)
  have hix : ix c.Sides k = some c.Sides[k.toNat] := ix_some h1 (List.getElem?_eq_getElem hlt)
  generalize c.Sides[k.toNat] = s at hso hin hix
  simp only [h1, h2, hix, decide_true, cond_true, cond_false, bd_some, Bool.not_true, Bool.not_false, jn_eq]
  by_cases hf : r.From = k
  · simp only [hf, not_true_eq_false, decide_true, decide_false, cond_true, cond_false, Bool.not_false]
  by_cases hf2 : r.From < c.Sides.length
  rotate_left
  · have hf2' : r.From ≥ (c.Sides.length : Int) := by omega
    simp only [hf, hf2, hf2', not_false_eq_true, decide_true, decide_false, cond_true, cond_false, Bool.not_false]
  have hf2' : ¬ r.From ≥ (c.Sides.length : Int) := by omega
  obtain ⟨⟨rule, b5⟩, e5, h5⟩ := t_pick s.Out ⟨x, r.P.As, clsOf c r.From⟩ (by omega) hp
  have hrule : rule.Act = 3 → 1 ≤ rule.N ∧ rule.N ≤ 8 := fun ha => by
    cases hb5 : b5 with
    | false => have := h5.2 hb5; dsimp only at this; omega
    | true =>
      have := (hso.2.2.2 _ (h5.1 hb5)).2 rfl
      dsimp only at this
      omega
  have e5' := (pick_eq s.Out ⟨x, r.P.As, clsOf c r.From⟩ hp).trans e5
  obtain ⟨L, eL, hL⟩ := t_longer c.As rule r.P.As (by omega) hrule
  simp only [hf, hf2, hf2', not_false_eq_true, decide_true, decide_false, cond_true, cond_false, Bool.not_true, rclass_eq, class_eq, bd_some, e5', e5, eL, accepts_eq, rroleOut_eq, roleOut_eq]
  cases b5 with
  | false => simp only [Bool.not_false, cond_true, Bool.false_and]
  | true =>
  simp only [Bool.not_true, cond_false, Bool.true_and]
  by_cases ha0 : rule.Act = 0
  · simp only [ha0, not_true_eq_false, decide_true, decide_false, cond_true, Bool.not_false]
  simp only [ha0, not_false_eq_true, decide_true, decide_false, cond_false, Bool.not_true]
  cases (outMark s.Rel c.As r.P.Otc).2 with
  | false => simp only [Bool.not_false, cond_true]
  | true =>
  simp only [Bool.not_true, cond_false]
  have leaf : ∀ l : List Int, l.length ≤ 100 → l ++ r.P.As = L → (bd (ap 8 l r.P.As) fun y10 => bif decide ((y10.length : Int) > (32 : Int)) then some ((Path.mk (0 : Int) ([]) (0 : Int) (0 : Int)), false) else some ((Path.mk r.P.Origin y10 c.Id (outMark s.Rel c.As r.P.Otc).1), true)) =
      some (if (L.length : Int) ≤ 32 then ((Path.mk r.P.Origin L c.Id (outMark s.Rel c.As r.P.Otc).1), true) else ((Path.mk (0 : Int) ([]) (0 : Int) (0 : Int)), false)) := fun l hl e => by
    rw [ap_some (by omega) (by omega), bd_some, e]
    by_cases h32 : (L.length : Int) ≤ 32
    · rw [decide_eq_false (by omega), if_pos h32]; rfl
    · rw [decide_eq_true (by omega), if_neg h32]; rfl
  have right : (bif !decide ((L.length : Int) ≤ (32 : Int)) then (some ((Path.mk (0 : Int) ([]) (0 : Int) (0 : Int)), false) : Option (Path × Bool)) else some ((Path.mk r.P.Origin L c.Id (outMark s.Rel c.As r.P.Otc).1), true)) =
      some (if (L.length : Int) ≤ 32 then ((Path.mk r.P.Origin L c.Id (outMark s.Rel c.As r.P.Otc).1), true) else ((Path.mk (0 : Int) ([]) (0 : Int) (0 : Int)), false)) := by
    by_cases h32 : (L.length : Int) ≤ 32
    · rw [decide_eq_true h32, if_pos h32]; rfl
    · rw [decide_eq_false h32, if_neg h32]; rfl
  refine Eq.trans ?_ (Eq.trans right.symm ?_)
  · by_cases ha3 : rule.Act = 3
    · have hr := hrule ha3
      rw [decide_eq_true ha3, cond_true]
      refine rloop c rule true (by omega) (leaf _ (by simp; omega) ?_)
      rw [hL, if_pos ha3]
    · rw [decide_eq_false ha3, cond_false]
      refine leaf _ (by simp) ?_
      rw [hL, if_neg ha3]
      rfl
  · by_cases h32 : (L.length : Int) ≤ 32
    · simp only [h32, decide_true, Bool.not_true, cond_false]
    · simp only [h32, decide_false, Bool.not_false, cond_true]
theorem edgeIs_true (c : Conf) (k : Int) (x : Prefix) (p : Path) (r : Route) (hc : c.Sides.length ≤ 9223372036854775807) (hp : p.As.length ≤ 9223372036854775807) (hr : r.P.As.length ≤ 9223372036854775807) : m_ridgewaylaw14_EdgeIs c k x p r = some true := by
  refine ok_true ?_
  unfold m_ridgewaylaw14_EdgeIs
  refine ok_bde law14_awake (ok_bd (t_short c p hc) fun b1 _ hb1 => ok_ifnb (fun _ => ok_some rfl) fun h1 => ok_bd (t_short c r.P hc) fun b2 _ hb2 => ok_ifnb (fun _ => ok_some rfl) fun h2 => ?_)
  obtain ⟨f, hl⟩ := hb1 h1
  refine ok_bd (t_in c k x p f hp) fun r4 e4 h4 => ok_bde ((in_eq c k x p f hp).trans e4) (ok_bd (t_out c k x r f hr) fun r6 e6 h6 => ok_bde ((out_eq c k x r f hr).trans e6) (ok_ifb (fun _ => ok_bde (class_eq _ _) (ok_bde (rclass_eq _ _) (ok_if (fun _ => ok_ifb (fun _ => ?_) fun h => by simp at h) fun h => absurd rfl h))) fun h => Bool.noConfusion h))
  have l4 : r4.1.P.As.length ≤ 10000 := by
    cases h : r4.2 with
    | true =>
      obtain ⟨s, rule, m, _, _, _, _, _, _, _, h3, _, _, _, _, _, e⟩ := h4.1 h
      rw [e]
      dsimp only
      omega
    | false => rw [h4.2 h]; exact Nat.zero_le _
  have l6 : r6.1.As.length ≤ 10000 := by
    cases h : r6.2 with
    | true =>
      obtain ⟨s, rule, m, _, _, _, _, _, _, _, _, _, _, _, _, h8, _⟩ := h6.1 h
      omega
    | false => rw [h6.2 h]; exact Nat.zero_le _
  unfold m_ridgewayref09_Same
  refine ok_bde (x := true) (ok_out (ok_if (fun _ => ok_if (fun _ => ok_bde (same_refl _ l4) (ok_some rfl)) fun h => absurd rfl h) fun h => absurd rfl h)) (ok_ifb (fun _ => ok_ifb (fun _ => ok_bde (same_refl _ l6) (ok_some rfl)) fun h => by simp at h) fun h => Bool.noConfusion h)
end Go.Proofs.Ytkdodhkiemfpeab
