/- RiseLess. -/
import Derived.Test.YtpclfdndjillnaaPr4
namespace Go.Proofs.Ytpclfdndjillnaa
open Go.RowKit
set_option linter.unusedVariables false
set_option linter.unusedSimpArgs false
set_option maxRecDepth 100000
set_option maxHeartbeats 1000000

theorem an_some {α : Type} {b : Nat} {ys : List α} (h1 : 0 < ys.length) (h : ys.length * b ≤ 140737488355328) (h2 : ys.length ≤ 140737488355328) : an b ys = some ys := by
  rw [an_eq, if_pos ⟨h1, h, by unfold maxLen; omega⟩]
theorem map_set_same {α β : Type} (p : α → β) (l : List α) (j : Nat) (h : j < l.length) (x : α) (e : p x = p l[j]) : (l.set j x).map p = l.map p := by
  rw [List.map_set, e]
  apply List.ext_getElem (by simp)
  intro i h1 h2
  rw [List.getElem_set]
  split
  · subst_vars; simp
  · rfl
theorem findN_map {α : Type} (p : α → Bool) : ∀ (l : List α) (i : Nat), findN p i l = findN (fun x => x) i (l.map p)
  | [], _ => rfl
  | x :: xs, i => by rw [findN, List.map_cons, findN, findN_map p xs]
theorem sideOf_congr {c a : Conf} (h : c.Sides.map (·.As) = a.Sides.map (·.As)) (n : Int) : sideOf c n = sideOf a n := by
  unfold sideOf
  rw [findN_map, findN_map (l := a.Sides)]
  have : ∀ l : List Side, l.map (fun s : Side => decide (s.As = n)) = (l.map (·.As)).map fun x => decide (x = n) := fun l => by rw [List.map_map]; rfl
  rw [this, this, h]
theorem takenB_congr {l l' : List Side} (h : l.map (·.As) = l'.map (·.As)) (a n : Int) : takenB a l n = takenB a l' n := by
  unfold takenB
  have : ∀ l : List Side, l.any (fun s : Side => decide (s.As = n)) = (l.map (·.As)).any fun x => decide (x = n) := fun l => by rw [List.any_map]; rfl
  rw [this, this, h]
theorem rules_all (l : List Rule) (b : Bool) (hl : l.length ≤ 1000) (h : m_conf_saneRules l b = some true) : ∀ x ∈ l, m_policy_Sane x b = some true := by
  unfold m_conf_saneRules at h
  by_cases h8 : (l.length : Int) > 8
  · rw [decide_eq_true h8, cond_true] at h
    cases h
  rw [decide_eq_false h8, cond_false] at h
  have key : ∀ bk : Unit → Option Bool, bk = (fun _ => some true) → loopC (s_conf_saneRules1 l b) bk BIG 0 = some true → ∀ i (h : i < l.length), m_policy_Sane l[i] b = some true := by
    intro bk _
    refine loopC_ex (fun o => o = some true → ∀ i (h : i < l.length), m_policy_Sane l[i] b = some true) (fun st : Int => ∃ j : Nat, st = (j : Int) ∧ j ≤ l.length ∧ ∀ i (h : i < l.length), i < j → m_policy_Sane l[i] b = some true) (fun st : Int => ((l.length : Int) - st).toNat) ?_ _ _ ⟨0, rfl, Nat.zero_le _, fun _ _ h => by omega⟩ (big_lt (by omega))
    rintro _ ⟨j, rfl, hj, hok⟩ nx hnx
    rw [s_conf_saneRules1]
    by_cases hlt : j < l.length
    · rw [decide_eq_true (by omega), cond_true, ix_nat hlt, bd_some]
      obtain ⟨v, e⟩ := tot_rule l[j] b
      rw [e, bd_some]
      cases v with
      | false => intro k; cases k
      | true =>
        refine hnx _ ⟨j + 1, w64s (by omega), hlt, fun i h hi => ?_⟩ (by rw [w64s (by omega)]; omega)
        rcases Nat.lt_succ_iff_lt_or_eq.1 hi with g | rfl
        · exact hok i h g
        · exact e
    · intro _ i h
      exact hok i h (by omega)
  intro x hx
  obtain ⟨i, hi, rfl⟩ := List.getElem_of_mem hx
  exact key _ rfl h i hi
theorem pref_pos (x : Rule) (h : m_policy_Sane x true = some true) (ha : x.Act = 2) : 1 ≤ x.N := by
  unfold m_policy_Sane at h
  obtain ⟨v, e⟩ := tot_match x true
  rw [e, bd_some] at h
  cases v with
  | false => cases h
  | true =>
    rw [cond_true] at h
    unfold m_policy_saneAct at h
    rw [decide_eq_false (by omega), cond_false, decide_eq_false (by omega), cond_false, decide_eq_true ha, cond_true, cond_true] at h
    by_cases hn : x.N ≥ 1
    · exact hn
    · rw [decide_eq_false hn, cond_false, bd_some] at h
      cases h
theorem reach_sub (c : Int) : ∀ (l : List Rule) (x : Rule), x ∈ reach c l → x ∈ l
  | [], x, h => by simp [reach] at h
  | y :: ys, x, h => by
    rw [reach] at h
    split at h
    · exact List.mem_cons_of_mem _ (reach_sub c ys x h)
    · split at h
      · rw [List.mem_singleton] at h
        rw [h]
        exact List.mem_cons_self
      · rcases List.mem_cons.1 h with rfl | h
        · exact List.mem_cons_self
        · exact List.mem_cons_of_mem _ (reach_sub c ys x h)
theorem low_pos (c : Conf) (f : FewC c) (o : okConf c) (cl low : Int) (h : m_rise_Low c cl = some (low, true)) : 1 ≤ low := by
  obtain ⟨v, ok, e, h1, h2⟩ := riseLow_ex c cl f
  rw [e] at h
  cases h
  by_cases h0 : cl = 0
  · rw [h2 h0]; decide
  · have := h1 rfl h0
    unfold lowL at this
    rw [List.mem_flatMap] at this
    obtain ⟨s, hs, hv⟩ := this
    split at hv
    rotate_left
    · simp at hv
    unfold prefL at hv
    obtain ⟨x, hx, rfl⟩ := List.mem_map.1 hv
    obtain ⟨hx, ha⟩ := List.mem_filter.1 hx
    obtain ⟨i, hi, rfl⟩ := List.getElem_of_mem hs
    exact pref_pos x (rules_all _ true (f.ins _ hs) (o.2.2 i hi).2.2.2.1 x (reach_sub cl _ x hx)) (of_decide_eq_true ha)
/-- A side is changed, but not of whom it is. -/
def withSide (c : Conf) (j : Nat) (s : Side) : Conf := ⟨c.As, c.Id, c.Hold, c.Cap, c.Own, c.Sides.set j s⟩
theorem withSide_few (c : Conf) (j : Nat) (s : Side) (f : FewC c) (h1 : s.In.length ≤ 1000) (h2 : s.Out.length ≤ 1000) : FewC (withSide c j s) := by
  refine ⟨f.own, by simpa [withSide] using f.sides, fun x hx => ?_, fun x hx => ?_⟩
  · rcases List.mem_or_eq_of_mem_set hx with h | rfl
    · exact f.ins x h
    · exact h1
  · rcases List.mem_or_eq_of_mem_set hx with h | rfl
    · exact f.outs x h
    · exact h2
theorem withSide_as (c : Conf) (j : Nat) (s : Side) (h : j < c.Sides.length) (e : s.As = c.Sides[j].As) : (withSide c j s).Sides.map (·.As) = c.Sides.map (·.As) :=
  map_set_same (fun x : Side => x.As) c.Sides j h s e
theorem withSide_ok (c : Conf) (j : Nat) (s : Side) (h : j < c.Sides.length) (e : s.As = c.Sides[j].As) (hr : s.Rel = c.Sides[j].Rel) (o : okConf c) (hi : m_conf_saneRules s.In true = some true) (ho : m_conf_saneRules s.Out false = some true) : okConf (withSide c j s) := by
  refine ⟨o.1, by simpa [withSide] using o.2.1, fun i hlt => ?_⟩
  have hlt' : i < c.Sides.length := by simpa [withSide] using hlt
  have old := o.2.2 i hlt'
  have ht : takenB c.As ((withSide c j s).Sides.take i) = takenB c.As (c.Sides.take i) := funext fun n => takenB_congr (by rw [List.map_take, List.map_take, withSide_as c j s h e]) _ _
  suffices hh : ∀ y : Side, (y = if j = i then s else c.Sides[i]) → okSide c.As ((withSide c j s).Sides.take i) y from hh _ (List.getElem_set (by simpa using hlt'))
  intro y hy
  subst hy
  unfold okSide at old ⊢
  rw [ht]
  split
  · rename_i g
    subst g
    rw [e, hr]
    exact ⟨old.1, old.2.1, old.2.2.1, hi, ho⟩
  · exact old
theorem riseLess_true (a b : Conf) (ha : a.Sides.length ≤ 9223372036854775807) (hb : b.Sides.length ≤ 9223372036854775807) : m_ridgewaylaw15_RiseLess a b = some true := by
  unfold m_ridgewaylaw15_RiseLess
  rw [law15_awake, bd_some]
  obtain ⟨v, e, fa⟩ := few_ex a ha
  rw [e, bd_some]
  cases v with
  | false => rfl
  | true =>
  obtain ⟨v, e, fb⟩ := few_ex b hb
  rw [Bool.not_true, cond_false, e, bd_some]
  cases v with
  | false => rfl
  | true =>
  have fa := fa rfl
  have fb := fb rfl
  obtain ⟨v, e, p, _⟩ := riseRises_ex a b fa fb
  rw [Bool.not_true, cond_false, e, bd_some]
  cases v with
  | false => rfl
  | true =>
  obtain ⟨h1, h2, oa, ob⟩ := p rfl
  have hsa := fa.sides
  have hsb := fb.sides
  rw [Bool.not_true, cond_false, riseSide_eq _ _ (by omega), bd_some, riseSide_eq _ _ (by omega), bd_some]
  dsimp only
  rw [decide_eq_true h1, decide_eq_true h2, Bool.not_true, cond_false, cond_false]
  have ka := sideOf_lt a b.As
  have kb := sideOf_lt b a.As
  obtain ⟨j, hj⟩ := Int.eq_ofNat_of_zero_le h1
  obtain ⟨k, hk⟩ := Int.eq_ofNat_of_zero_le h2
  have ej : (if (0 : Int) > sideOf a b.As then 0 else sideOf a b.As) = (j : Int) := by rw [if_neg (by omega)]; exact hj
  have ek : (if (0 : Int) > sideOf b a.As then 0 else sideOf b a.As) = (k : Int) := by rw [if_neg (by omega)]; exact hk
  have lj : j < a.Sides.length := by omega
  have lk : k < b.Sides.length := by omega
  rw [ej, ek, decide_eq_false (by omega), cond_false, an_some (by omega) (by omega) (by omega), bd_some, ix_nat lj, bd_some, up_eq, bd_some, fz_eq, bd_some]
  rw [decide_eq_false (by omega), cond_false, an_some (by omega) (by omega) (by omega), bd_some, ix_nat lk, bd_some, up_eq, bd_some, fz_eq, bd_some, cond_true]
  rw [Int.toNat_natCast, Int.toNat_natCast]
  have rj : okSide a.As (a.Sides.take j) a.Sides[j] := oa.2.2 j lj
  have rk : okSide b.As (b.Sides.take k) b.Sides[k] := ob.2.2 k lk
  generalize hs : (⟨a.Sides[j].As, a.Sides[j].Rel, a.Sides[j].In, []⟩ : Side) = s
  generalize ht : (⟨b.Sides[k].As, b.Sides[k].Rel, [⟨0, ⟨0, 0⟩, 0, 2, 1⟩], b.Sides[k].Out⟩ : Side) = t
  have fc : FewC (withSide a j s) := withSide_few a j s fa (by rw [← hs]; exact (fa.ins a.Sides[j] (List.getElem_mem lj) :)) (by rw [← hs]; simp)
  have fd : FewC (withSide b k t) := withSide_few b k t fb (by rw [← ht]; simp) (by rw [← ht]; exact (fb.outs b.Sides[k] (List.getElem_mem lk) :))
  have oc : okConf (withSide a j s) := withSide_ok a j s lj (by rw [← hs]) (by rw [← hs]) oa (by rw [← hs]; exact rj.2.2.2.1) (by rw [← hs]; kernel_rfl)
  have od : okConf (withSide b k t) := withSide_ok b k t lk (by rw [← ht]) (by rw [← ht]) ob (by rw [← ht]; kernel_rfl) (by rw [← ht]; exact rk.2.2.2.2)
  have sc : ∀ n, sideOf (withSide a j s) n = sideOf a n := sideOf_congr (withSide_as a j s lj (by rw [← hs]))
  have sd : ∀ n, sideOf (withSide b k t) n = sideOf b n := sideOf_congr (withSide_as b k t lk (by rw [← ht]))
  have noTell : ∀ (b' : Conf), b'.As = b.As → ∀ cl, ¬ betterB (withSide a j s) b' cl := by
    rintro b' eb cl ⟨low, high, _, _, h3, _⟩
    rw [eb, sc, ej, riseTells_eq _ j cl (by simpa [withSide] using lj) fc] at h3
    have : (withSide a j s).Sides[j]'(by simpa [withSide] using lj) = s := by simp [withSide]
    rw [this, ← hs] at h3
    cases h3
  have noMore : ∀ cl, ¬ betterB a (withSide b k t) cl := by
    rintro cl ⟨low, high, h1, h2, _, h4⟩
    have := low_pos a fa oa cl low h1
    rw [sd, ek] at h2
    obtain ⟨v, ok, e, hv⟩ := riseHigh_ex (withSide b k t) k (by simpa [withSide] using lk) fd
    rw [e] at h2
    cases h2
    have hv := hv rfl
    have e2 : (withSide b k t).Sides[k]'(by simpa [withSide] using lk) = t := by simp [withSide]
    rw [e2, ← ht] at hv
    have : high = 1 := by simpa [reach, totalR, prefL] using hv
    omega
  have e1 : m_rise_Rises (withSide a j s) b = some true := by
    obtain ⟨v, e, _, q⟩ := riseRises_ex (withSide a j s) b fc fb
    rw [e, q ⟨by rw [sc]; exact h1, h2, oc, ob⟩ (noTell b rfl)]
  have e2 : m_rise_Rises a (withSide b k t) = some true := by
    obtain ⟨v, e, _, q⟩ := riseRises_ex a (withSide b k t) fa fd
    rw [e, q ⟨h1, by rw [sd]; exact h2, oa, od⟩ noMore]
  have e3 : m_rise_Rises (withSide a j s) (withSide b k t) = some true := by
    obtain ⟨v, e, _, q⟩ := riseRises_ex (withSide a j s) (withSide b k t) fc fd
    rw [e, q ⟨by rw [sc]; exact h1, by rw [sd]; exact h2, oc, od⟩ (noTell _ rfl)]
  unfold withSide at e1 e2 e3
  rw [e1, bd_some, cond_true, e2, bd_some, cond_true, e3, bd_some]
end Go.Proofs.Ytpclfdndjillnaa
