/- Paths, routes, rules, roles. -/
import Derived.Test.YtkdodhkiemfpeabQ1e4
import Derived.KernelRfl
namespace Go.Proofs.Ytkdodhkiemfpeab
open Go.RowKit
set_option linter.unusedVariables false
set_option linter.unusedSimpArgs false
set_option maxRecDepth 100000
set_option maxHeartbeats 1000000

/-- A path that may be. -/
def PathOk (p : Path) : Prop := (∀ x ∈ p.As, 1 ≤ x ∧ x ≤ 4294967295) ∧ (0 ≤ p.Origin ∧ p.Origin ≤ 2) ∧ p.As.length ≤ 255 ∧ (1 ≤ p.Hop ∧ p.Hop ≤ 4294967295) ∧ 0 ≤ p.Otc ∧ p.Otc ≤ 4294967295
theorem t_attrSane (p : Path) (hl : p.As.length ≤ 9223372036854775807) : Ok (m_attr_Sane p) fun b => b = true ↔ PathOk p := by
  unfold m_attr_Sane
  have no : ∀ {A : Prop}, ¬ A → Ok (some false : Option Bool) (fun b => b = true ↔ A) := fun h => ok_some ⟨fun k => Bool.noConfusion k, fun k => absurd k h⟩
  refine ok_idx p.As.length (fun j => ∀ i (h : i < p.As.length), i < j → 1 ≤ p.As[i] ∧ p.As[i] ≤ 4294967295) hl (fun _ _ h => absurd h (Nat.not_lt_zero _)) (fun i hi hI nx hnx => ?_) (fun hI nx => ?_)
  · rw [s_attr_Sane1]
    have hm := List.getElem_mem hi
    refine ok_if (fun _ => ok_ix (by omega) (by omega) fun hlt => ok_if (fun h1 => no fun k => ?_) fun h1 => ok_if (fun h2 => no fun k => ?_) fun h2 => hnx fun j hj hji => ?_) fun h => absurd (Int.ofNat_lt.2 hi) h
    · have := k.1 _ hm; simp only [Int.toNat_natCast] at h1; omega
    · have := k.1 _ hm; simp only [Int.toNat_natCast] at h2; omega
    · simp only [Int.toNat_natCast] at h1 h2
      rcases Nat.lt_succ_iff_lt_or_eq.1 hji with g | rfl
      · exact hI j hj g
      · exact ⟨by omega, by omega⟩
  · rw [s_attr_Sane1]
    have hall : ∀ x ∈ p.As, 1 ≤ x ∧ x ≤ 4294967295 := fun x hx => by
      obtain ⟨i, h, rfl⟩ := List.getElem_of_mem hx
      exact hI i h h
    refine ok_if (fun h => by omega) fun _ => ok_if (fun h1 => ok_if (fun h2 => ok_if (fun h3 => ok_if (fun h4 => ok_if (fun h5 => ok_if (fun h6 => ok_some ?_) fun h => no fun k => ?_) fun h => no fun k => ?_) fun h => no fun k => ?_) fun h => no fun k => ?_) fun h => no fun k => ?_) fun h => no fun k => ?_
    · rw [decide_eq_true_eq]
      exact ⟨fun h7 => ⟨hall, ⟨h1, h2⟩, by omega, ⟨h4, h5⟩, h6, h7⟩, fun k => k.2.2.2.2.2⟩
    all_goals (obtain ⟨_, _, _, _, _, _⟩ := k; omega)
/-- A route that may be. -/
def RouteOk (r : Route) : Prop := PathOk r.P ∧ r.P.As.length ≤ 32 ∧ ((r.From = -1 ∧ r.Pref = 400 ∧ r.P.As.length = 0 ∧ r.P.Origin = 0 ∧ r.P.Otc = 0) ∨ (0 ≤ r.From ∧ r.From < 8 ∧ 1 ≤ r.Pref ∧ r.Pref < 400))
theorem t_routeSane (r : Route) (hl : r.P.As.length ≤ 9223372036854775807) : Ok (m_route_Sane r) fun b => b = true ↔ RouteOk r := by
  unfold m_route_Sane
  have no : ∀ {A : Prop}, ¬ A → Ok (some false : Option Bool) (fun b => b = true ↔ A) := fun h => ok_some ⟨fun k => Bool.noConfusion k, fun k => absurd k h⟩
  refine ok_bd (t_attrSane _ hl) fun b _ hb => ok_ifnb (fun h => no fun k => by rw [hb.2 k.1] at h; cases h) fun h => ok_if (fun h1 => no fun k => by have := k.2.1; omega) fun h1 => ok_if (fun h2 => ?_) fun h2 => ?_
  · refine ok_if (fun h3 => ok_if (fun h4 => ok_if (fun h5 => ok_some ?_) fun h => no fun k => ?_) fun h => no fun k => ?_) fun h => no fun k => ?_
    · rw [decide_eq_true_eq]
      exact ⟨fun h6 => ⟨hb.1 ‹_›, by omega, .inl ⟨h2, h3, by omega, h5, h6⟩⟩, fun k => by rcases k.2.2 with q | q <;> omega⟩
    all_goals (rcases k.2.2 with q | q <;> omega)
  · refine ok_if (fun h3 => ok_if (fun h4 => ok_if (fun h5 => ok_some ?_) fun h => no fun k => ?_) fun h => no fun k => ?_) fun h => no fun k => ?_
    · rw [decide_eq_true_eq]
      exact ⟨fun h6 => ⟨hb.1 ‹_›, by omega, .inr ⟨by omega, by omega, by omega, by omega⟩⟩, fun k => by rcases k.2.2 with q | q <;> omega⟩
    all_goals (rcases k.2.2 with q | q <;> omega)
theorem t_contains (l : List Int) (x : Int) (hl : l.length ≤ 9223372036854775807) : Ok (m_slices_Contains___int_int l x) fun b => b = true ↔ x ∈ l := by
  unfold m_slices_Contains___int_int m_slices_Index___int_int
  refine ok_bd (P := fun r => r ≥ 0 ↔ x ∈ l) (ok_idx l.length (fun j => ∀ i (h : i < l.length), i < j → ¬ x = l[i]) hl (fun _ _ h => absurd h (Nat.not_lt_zero _)) (fun i hi hI nx hnx => ?_) (fun hI nx => ?_)) fun r _ hr => ok_some (by rw [decide_eq_true_eq]; exact hr)
  · rw [s_slices_Index___int_int1]
    refine ok_if (fun _ => ok_ix (by omega) (by omega) fun hlt => ok_if (fun h1 => ok_some ⟨fun _ => h1 ▸ List.getElem_mem _, fun _ => by omega⟩) fun h1 => hnx fun j hj hji => ?_) fun h => absurd (Int.ofNat_lt.2 hi) h
    simp only [Int.toNat_natCast] at h1
    rcases Nat.lt_succ_iff_lt_or_eq.1 hji with g | rfl
    · exact hI j hj g
    · exact h1
  · rw [s_slices_Index___int_int1]
    refine ok_if (fun h => by omega) fun _ => ok_some ⟨fun h => by omega, fun h => ?_⟩
    obtain ⟨i, hi, rfl⟩ := List.getElem_of_mem h
    exact absurd rfl (hI i hi hi)
theorem t_fits (r : Rule) (v : View) (hl : v.As.length ≤ 9223372036854775807) : Ok (m_policy_Fits r v) fun _ => True := by
  unfold m_policy_Fits m_policy_fits_1 m_policy_fits_2 m_policy_fits_3 m_policy_fits_4 m_policy_fits_5
  have one : ∀ {m : Option Bool}, Ok m (fun _ => True) → Ok (bd m fun r => some r) (fun _ => True) := fun h => ok_bd h fun _ _ _ => ok_some trivial
  refine ok_if (fun _ => ok_some trivial) fun h1 => ok_if (fun _ => ok_some trivial) fun h2 => ok_if (fun _ => one (ok_some trivial)) fun h3 => ok_if (fun _ => one (ok_bd (t_has _ _) fun _ _ _ => ok_some trivial)) fun h4 =>
    ok_if (fun _ => one (ok_bd (t_contains _ _ hl) fun _ _ _ => ok_some trivial)) fun h5 => ok_if (fun _ => one (ok_some trivial)) fun h6 => ok_if (fun _ => one (ok_some trivial)) fun h7 => by omega
theorem t_pick (l : List Rule) (v : View) (hl : l.length ≤ 9223372036854775807) (hv : v.As.length ≤ 9223372036854775807) : Ok (m_policy_Pick l v) fun r => (r.2 = true → r.1 ∈ l) ∧ (r.2 = false → r.1.Act = 0) := by
  unfold m_policy_Pick
  refine ok_idx l.length (fun _ => True) hl trivial (fun i hi _ nx hnx => ?_) (fun _ nx => ?_)
  · rw [s_policy_Pick1]
    exact ok_if (fun _ => ok_ix (by omega) (by omega) fun hlt => ok_bd (t_fits _ _ hv) fun _ _ _ => ok_ifb (fun _ => ok_some ⟨fun _ => List.getElem_mem _, fun k => Bool.noConfusion k⟩) fun _ => hnx trivial) fun h => absurd (Int.ofNat_lt.2 hi) h
  · rw [s_policy_Pick1]
    exact ok_if (fun h => by omega) fun _ => ok_some ⟨fun k => Bool.noConfusion k, fun _ => rfl⟩
/-- Who may tell whom. -/
def inMark (rel as otc : Int) : Int × Bool := if rel = 1 ∧ otc = 0 then (0, true) else if (rel = 2 ∧ (otc = 0 ∨ otc = as)) ∨ (rel = 3 ∧ otc = 0) then (as, true) else if rel = 3 then (otc, true) else (0, false)
theorem roleIn_eq (rel as otc : Int) : m_role_In rel as otc = some (inMark rel as otc) := by
  unfold m_role_In inMark
  simp only [jn_eq]
  by_cases h1 : rel = 1 <;> by_cases h2 : otc = 0 <;> by_cases h3 : rel = 2 <;> by_cases h4 : otc = as <;> by_cases h5 : rel = 3 <;> simp_all
def outMark (rel own otc : Int) : Int × Bool := if rel = 1 ∧ ¬ otc = 0 then (otc, true) else if (rel = 1 ∨ rel = 2) ∧ otc = 0 then (own, true) else if rel = 3 ∧ otc = 0 then (0, true) else (0, false)
theorem roleOut_eq (rel own otc : Int) : m_role_Out rel own otc = some (outMark rel own otc) := by
  unfold m_role_Out outMark
  by_cases h1 : rel = 1 <;> by_cases h2 : otc = 0 <;> by_cases h3 : rel = 2 <;> by_cases h5 : rel = 3 <;> simp_all
theorem rep2 (v : Int) : m_slices_Repeat___int_int [v] 2 = some [v, v] := by kernel_rfl
theorem rep3 (v : Int) : m_slices_Repeat___int_int [v] 3 = some [v, v, v] := by kernel_rfl
theorem rep4 (v : Int) : m_slices_Repeat___int_int [v] 4 = some [v, v, v, v] := by kernel_rfl
theorem rep5 (v : Int) : m_slices_Repeat___int_int [v] 5 = some [v, v, v, v, v] := by kernel_rfl
theorem rep6 (v : Int) : m_slices_Repeat___int_int [v] 6 = some [v, v, v, v, v, v] := by kernel_rfl
theorem rep7 (v : Int) : m_slices_Repeat___int_int [v] 7 = some [v, v, v, v, v, v, v] := by kernel_rfl
theorem rep8 (v : Int) : m_slices_Repeat___int_int [v] 8 = some [v, v, v, v, v, v, v, v] := by kernel_rfl
theorem rep9 (v : Int) : m_slices_Repeat___int_int [v] 9 = some [v, v, v, v, v, v, v, v, v] := by kernel_rfl
theorem t_longer (own : Int) (r : Rule) (as : List Int) (hl : as.length ≤ 1000) (hr : r.Act = 3 → 1 ≤ r.N ∧ r.N ≤ 8) : Ok (m_edge_longer own r as) fun l => l = List.replicate (if r.Act = 3 then 1 + r.N.toNat else 1) own ++ as := by
  unfold m_edge_longer
  refine ok_if (fun h => ?_) fun h => ok_ap (by simp; omega) (by simp; omega) (ok_some (by rw [if_neg h]; rfl))
  obtain ⟨h1, h2⟩ := hr h
  have hw : IntKind.i64.wrap (1 + r.N) = 1 + r.N := w64 (by omega) (by omega)
  rw [hw, if_pos h]
  have hc : r.N = 1 ∨ r.N = 2 ∨ r.N = 3 ∨ r.N = 4 ∨ r.N = 5 ∨ r.N = 6 ∨ r.N = 7 ∨ r.N = 8 := by omega
  rcases hc with e | e | e | e | e | e | e | e <;> rw [e]
  · exact ok_bde (rep2 own) (ok_ap (by simp; omega) (by simp; omega) (ok_some rfl))
  · exact ok_bde (rep3 own) (ok_ap (by simp; omega) (by simp; omega) (ok_some rfl))
  · exact ok_bde (rep4 own) (ok_ap (by simp; omega) (by simp; omega) (ok_some rfl))
  · exact ok_bde (rep5 own) (ok_ap (by simp; omega) (by simp; omega) (ok_some rfl))
  · exact ok_bde (rep6 own) (ok_ap (by simp; omega) (by simp; omega) (ok_some rfl))
  · exact ok_bde (rep7 own) (ok_ap (by simp; omega) (by simp; omega) (ok_some rfl))
  · exact ok_bde (rep8 own) (ok_ap (by simp; omega) (by simp; omega) (ok_some rfl))
  · exact ok_bde (rep9 own) (ok_ap (by simp; omega) (by simp; omega) (ok_some rfl))
end Go.Proofs.Ytkdodhkiemfpeab
