/- Rise: bounds on what may be preferred. -/
import Derived.Test.YtpclfdndjillnaaQ3rf2
namespace Go.Proofs.Ytpclfdndjillnaa
open Go.RowKit
set_option linter.unusedVariables false
set_option linter.unusedSimpArgs false
set_option maxRecDepth 100000
set_option maxHeartbeats 1000000

/-- Does a rule end the walk for a class? -/
def totalR (x : Rule) (c : Int) : Prop := x.Match = 0 ∨ (x.Match = 4 ∧ x.V = c)
instance (x : Rule) (c : Int) : Decidable (totalR x c) := by unfold totalR; infer_instance
/-- The rules that may be reached. -/
def reach (c : Int) : List Rule → List Rule
  | [] => []
  | x :: xs => if x.Match = 4 ∧ ¬ x.V = c then reach c xs else if totalR x c then [x] else x :: reach c xs
theorem total_eq (x : Rule) (c : Int) : m_policy_Total x c = some (decide (totalR x c)) := by
  refine (?_ : Ok (m_policy_Total x c) (· = decide (totalR x c))).elim fun x h => by rw [h.1, h.2]
  unfold m_policy_Total totalR
  refine ok_if (fun h => ok_some ?_) fun h => ok_if (fun h2 => ok_some ?_) fun h2 => ok_some ?_
  · simp [h]
  · simp [h2]
  · simp [h, h2]
theorem reach_sub (c : Int) : ∀ (l : List Rule), ∀ x ∈ reach c l, x ∈ l
  | [] => fun x h => by cases h
  | y :: ys => fun x h => by
    rw [reach] at h
    split at h
    · exact List.mem_cons_of_mem _ (reach_sub c ys x h)
    · split at h
      · rw [List.mem_singleton] at h; rw [h]; exact List.mem_cons_self
      · rcases List.mem_cons.1 h with h | h
        · rw [h]; exact List.mem_cons_self
        · exact List.mem_cons_of_mem _ (reach_sub c ys x h)
theorem reach_le (c : Int) : ∀ l : List Rule, (reach c l).length ≤ l.length
  | [] => Nat.le_refl _
  | x :: xs => by
    have := reach_le c xs
    rw [reach]
    split
    · simp; omega
    · split
      · simp
      · simp; omega
theorem reach_drop {c : Int} {l : List Rule} {i : Nat} (h : i < l.length) : reach c (l.drop i) = if l[i].Match = 4 ∧ ¬ l[i].V = c then reach c (l.drop (i + 1)) else if totalR l[i] c then [l[i]] else l[i] :: reach c (l.drop (i + 1)) := by
  rw [List.drop_eq_getElem_cons h, reach]
theorem t_reach (l : List Rule) (c : Int) (hl : l.length ≤ 1000) : Ok (m_policy_Reach l c) (· = reach c l) := by
  unfold m_policy_Reach
  refine ok_acc l.length (fun i b => b ++ reach c (l.drop i) = reach c l ∧ b.length ≤ i) (by omega) ⟨by simp, Nat.zero_le _⟩ (fun i b hi hI nx hnx => ?_) (fun b hI nx => ?_)
  · obtain ⟨hI, hb⟩ := hI
    rw [s_policy_Reach1]
    refine ok_if (fun _ => ok_ix (by omega) (by omega) fun hlt => ?_) fun h => absurd (Int.ofNat_lt.2 hi) h
    simp only [Int.toNat_natCast]
    rw [reach_drop hi] at hI
    have add : ¬ (l[i].Match = 4 ∧ ¬ l[i].V = c) → ∀ k : List Rule → Option (List Rule), (∀ b', b' = b ++ [l[i]] → Ok (bif decide (totalR l[i] c) then some b' else nx (b', IntKind.i64.wrap ((i : Int) + 1))) (· = reach c l)) → Ok (bd (ap 48 b [l[i]]) fun y => bd (m_policy_Total l[i] c) fun r => bif r then some y else nx (y, IntKind.i64.wrap ((i : Int) + 1))) (· = reach c l) := fun _ _ hk => by
      refine ok_ap (by simp; omega) (by simp; omega) (ok_bde (total_eq _ _) (hk _ rfl))
    have fin : ¬ (l[i].Match = 4 ∧ ¬ l[i].V = c) → ∀ b', b' = b ++ [l[i]] → Ok (bif decide (totalR l[i] c) then some b' else nx (b', IntKind.i64.wrap ((i : Int) + 1))) (· = reach c l) := fun hn b' hb' => by
      rw [if_neg hn] at hI
      refine ok_if (fun ht => ok_some ?_) fun ht => hnx b' ⟨?_, ?_⟩
      · rw [if_pos ht] at hI; rw [hb', hI]
      · rw [if_neg ht] at hI; rw [hb', ← hI]; simp
      · rw [hb']; simp; omega
    refine ok_if (fun h4 => ok_if (fun hv => hnx b ⟨?_, by omega⟩) fun hv => add (fun k => hv k.2) some (fin fun k => hv k.2)) fun h4 => add (fun k => h4 k.1) some (fin fun k => h4 k.1)
    rw [if_pos ⟨h4, hv⟩] at hI
    exact hI
  · rw [s_policy_Reach1]
    refine ok_if (fun h => by dsimp only at h; omega) fun _ => ok_some ?_
    have := hI.1
    rw [List.drop_length] at this
    simpa [reach] using this
/-- What the rules reached may prefer. -/
def prefL (l : List Rule) : List Int := (l.filter fun x => decide (x.Act = 2)).map (·.N)
theorem mem_prefL {l : List Rule} {n : Int} : n ∈ prefL l ↔ ∃ x ∈ l, x.Act = 2 ∧ x.N = n := by
  unfold prefL
  simp only [List.mem_map, List.mem_filter, decide_eq_true_eq]
  exact ⟨fun ⟨x, ⟨h1, h2⟩, h3⟩ => ⟨x, h1, h2, h3⟩, fun ⟨x, h1, h2, h3⟩ => ⟨x, ⟨h1, h2⟩, h3⟩⟩
theorem prefL_app (l : List Rule) (x : Rule) : prefL (l ++ [x]) = if x.Act = 2 then prefL l ++ [x.N] else prefL l := by
  unfold prefL
  split <;> simp [List.filter_append, *]
theorem t_prefs (s : Side) (c : Int) (hl : s.In.length ≤ 1000) : Ok (m_rise_prefs s c) fun r => r.length ≤ 1000 ∧ ∀ n, n ∈ r ↔ ∃ x ∈ reach c s.In, x.Act = 2 ∧ x.N = n := by
  unfold m_rise_prefs
  refine ok_bd (t_reach _ _ hl) fun r1 _ h1 => ?_
  subst h1
  have hr := reach_le c s.In
  refine ok_acc (reach c s.In).length (fun i b => b = prefL ((reach c s.In).take i) ∧ b.length ≤ i) (by omega) ⟨by simp [prefL], Nat.zero_le _⟩ (fun i b hi hI nx hnx => ?_) (fun b hI nx => ?_)
  · obtain ⟨hI, hb⟩ := hI
    rw [s_rise_prefs1]
    refine ok_if (fun _ => ok_ix (by omega) (by omega) fun hlt => ?_) fun h => absurd (Int.ofNat_lt.2 hi) h
    simp only [Int.toNat_natCast]
    have ht : (reach c s.In).take (i + 1) = (reach c s.In).take i ++ [(reach c s.In)[i]] := (List.take_append_getElem hi).symm
    refine ok_if (fun h2 => ok_ap (by simp; omega) (by simp; omega) (hnx _ ⟨?_, by simp; omega⟩)) fun h2 => hnx _ ⟨?_, by omega⟩
    · rw [ht, hI, prefL_app, if_pos h2]
    · rw [ht, hI, prefL_app, if_neg h2]
  · rw [s_rise_prefs1]
    have := hI.2; refine ok_if (fun h => by dsimp only at h; omega) fun _ => ok_some ⟨by dsimp only; omega, fun n => ?_⟩
    rw [hI.1, List.take_length, mem_prefL]
theorem t_min (l : List Int) (h0 : 0 < l.length) (hl : l.length ≤ 10000000) : Ok (m_slices_Min___int_int l) fun r => r ∈ l ∧ ∀ n ∈ l, r ≤ n := by
  unfold m_slices_Min___int_int
  refine ok_if (fun h => by omega) fun _ => ok_ix (by omega) (by omega) fun hlt => ok_loop (fun st => ∃ j : Nat, st.2 = (j : Int) ∧ j ≤ l.length ∧ st.1 ∈ l ∧ ∀ i (h : i < l.length), i < j → st.1 ≤ l[i]) (fun st => ((l.length : Int) - st.2).toNat) ⟨1, rfl, h0, List.getElem_mem _, fun i h h1 => ?_⟩ (by dsimp only; omega) ?_
  · have : i = 0 := by omega
    subst this
    exact Int.le_refl _
  rintro ⟨m, _⟩ ⟨j, rfl, hj, hm, hI⟩ nx hnx
  dsimp only at hj hm hI hnx
  rw [s_slices_Min___int_int1]
  refine ok_if (fun h => ok_ix (by omega) (by omega) fun hlt => ?_) fun h => ok_some ⟨hm, fun n hn => ?_⟩
  · dsimp only at h
    simp only [Int.toNat_natCast]
    have hw : IntKind.i64.wrap ((j : Int) + 1) = ((j + 1 : Nat) : Int) := by rw [w64 (by omega) (by omega)]; rfl
    refine hnx _ ⟨j + 1, hw, by omega, ?_, fun i hi hij => ?_⟩ (by simp only [hw]; omega)
    · dsimp only
      split
      · exact List.getElem_mem _
      · exact hm
    · dsimp only
      rcases Nat.lt_succ_iff_lt_or_eq.1 hij with g | rfl
      · have := hI i hi g
        split <;> omega
      · split <;> omega
  · dsimp only at h
    obtain ⟨i, hi, rfl⟩ := List.getElem_of_mem hn
    exact hI i hi (by omega)
theorem t_max (l : List Int) (h0 : 0 < l.length) (hl : l.length ≤ 10000000) : Ok (m_slices_Max___int_int l) fun r => r ∈ l ∧ ∀ n ∈ l, n ≤ r := by
  unfold m_slices_Max___int_int
  refine ok_if (fun h => by omega) fun _ => ok_ix (by omega) (by omega) fun hlt => ok_loop (fun st => ∃ j : Nat, st.2 = (j : Int) ∧ j ≤ l.length ∧ st.1 ∈ l ∧ ∀ i (h : i < l.length), i < j → l[i] ≤ st.1) (fun st => ((l.length : Int) - st.2).toNat) ⟨1, rfl, h0, List.getElem_mem _, fun i h h1 => ?_⟩ (by dsimp only; omega) ?_
  · have : i = 0 := by omega
    subst this
    exact Int.le_refl _
  rintro ⟨m, _⟩ ⟨j, rfl, hj, hm, hI⟩ nx hnx
  dsimp only at hj hm hI hnx
  rw [s_slices_Max___int_int1]
  refine ok_if (fun h => ok_ix (by omega) (by omega) fun hlt => ?_) fun h => ok_some ⟨hm, fun n hn => ?_⟩
  · dsimp only at h
    simp only [Int.toNat_natCast]
    have hw : IntKind.i64.wrap ((j : Int) + 1) = ((j + 1 : Nat) : Int) := by rw [w64 (by omega) (by omega)]; rfl
    refine hnx _ ⟨j + 1, hw, by omega, ?_, fun i hi hij => ?_⟩ (by simp only [hw]; omega)
    · dsimp only
      split
      · exact List.getElem_mem _
      · exact hm
    · dsimp only
      rcases Nat.lt_succ_iff_lt_or_eq.1 hij with g | rfl
      · have := hI i hi g
        split <;> omega
      · split <;> omega
  · dsimp only at h
    obtain ⟨i, hi, rfl⟩ := List.getElem_of_mem hn
    exact hI i hi (by omega)
/-- What a class may be preferred with. -/
def Pref (c : Conf) (k n : Int) : Prop := ∃ s ∈ c.Sides, s.Rel = k ∧ ∃ x ∈ reach k s.In, x.Act = 2 ∧ x.N = n
theorem t_low (c : Conf) (k : Int) (f : FewC c) : Ok (m_rise_Low c k) fun r => (k = 0 → r = (400, true)) ∧ (¬ k = 0 → (∀ n, Pref c k n → r.2 = true ∧ r.1 ≤ n) ∧ (r.2 = true → Pref c k r.1)) := by
  have hs := f.sides
  unfold m_rise_Low
  refine ok_if (fun h => ok_some ⟨fun _ => rfl, fun k => absurd h k⟩) fun hk => ok_acc c.Sides.length (fun i b => b.length ≤ i * 1000 ∧ ∀ n, n ∈ b ↔ ∃ j, ∃ h : j < c.Sides.length, j < i ∧ c.Sides[j].Rel = k ∧ ∃ x ∈ reach k c.Sides[j].In, x.Act = 2 ∧ x.N = n) (by omega) ⟨by simp, fun n => by simp⟩ (fun i b hi hI nx hnx => ?_) (fun b hI nx => ?_)
  · obtain ⟨hb, hI⟩ := hI
    have hin := f.ins _ (List.getElem_mem hi)
    rw [s_rise_Low1]
    refine ok_if (fun _ => ok_ix (by omega) (by omega) fun hlt => ?_) fun h => absurd (Int.ofNat_lt.2 hi) h
    simp only [Int.toNat_natCast]
    refine ok_if (fun h2 => ok_bd (t_prefs _ _ hin) fun r3 _ h3 => ok_ap (by omega) (by omega) (hnx _ ⟨by simp; omega, fun n => ?_⟩)) fun h2 => hnx _ ⟨by omega, fun n => ?_⟩
    · rw [List.mem_append, hI, h3.2]
      constructor
      · rintro (⟨j, h, hj, q⟩ | q)
        · exact ⟨j, h, by omega, q⟩
        · exact ⟨i, hi, by omega, h2, q⟩
      · rintro ⟨j, h, hj, q⟩
        rcases Nat.lt_succ_iff_lt_or_eq.1 hj with g | rfl
        · exact .inl ⟨j, h, g, q⟩
        · exact .inr q.2
    · rw [hI]
      constructor
      · rintro ⟨j, h, hj, q⟩
        exact ⟨j, h, by omega, q⟩
      · rintro ⟨j, h, hj, q⟩
        rcases Nat.lt_succ_iff_lt_or_eq.1 hj with g | rfl
        · exact ⟨j, h, g, q⟩
        · exact absurd q.1 h2
  · obtain ⟨hb, hI⟩ := hI
    have hP : ∀ n, n ∈ b ↔ Pref c k n := fun n => by
      rw [hI]
      constructor
      · rintro ⟨j, h, _, q⟩
        exact ⟨_, List.getElem_mem h, q⟩
      · rintro ⟨s, hs, q⟩
        obtain ⟨j, h, rfl⟩ := List.getElem_of_mem hs
        exact ⟨j, h, h, q⟩
    rw [s_rise_Low1]
    refine ok_if (fun h => by dsimp only at h; omega) fun _ => ok_if (fun h0 => ok_some ⟨fun h => absurd h hk, fun _ => ⟨fun n hn => ?_, fun h => Bool.noConfusion h⟩⟩) fun h0 => ok_bd (t_min b (by dsimp only at h0; omega) (by omega)) fun r4 _ h4 => ok_some ⟨fun h => absurd h hk, fun _ => ⟨fun n hn => ⟨rfl, h4.2 n ((hP n).2 hn)⟩, fun _ => (hP _).1 h4.1⟩⟩
    have := (hP n).2 hn
    have h0' : b.length = 0 := by dsimp only at h0; omega
    rw [List.length_eq_zero_iff.1 h0'] at this
    cases this
theorem t_high (c : Conf) (k : Int) (f : FewC c) : Ok (m_rise_High c k) fun r => ∀ s, 0 ≤ k → c.Sides[k.toNat]? = some s → (∀ x ∈ reach s.Rel s.In, x.Act = 2 → r.2 = true ∧ x.N ≤ r.1) ∧ (r.2 = true → ∃ x ∈ reach s.Rel s.In, x.Act = 2 ∧ x.N = r.1) := by
  have hs := f.sides
  unfold m_rise_High
  refine ok_if (fun h => ok_some fun s h0 => by omega) fun h0 => ok_if (fun h1 => ok_some fun s h2 h3 => ?_) fun h1 => ok_ix (by omega) (by omega) fun hlt => ok_ix (by omega) (by omega) fun hlt => ok_bd (t_prefs _ _ (f.ins _ (List.getElem_mem _))) fun r3 _ h3 => ok_if (fun h4 => ok_some fun s _ e => ?_) fun h4 => ok_bd (t_max _ (by omega) (by omega)) fun r5 _ h5 => ok_some fun s _ e => ?_
  · rw [List.getElem?_eq_none (by omega)] at h3
    cases h3
  · rw [List.getElem?_eq_getElem hlt] at e
    cases e
    refine ⟨fun x hx ha => ?_, fun h => Bool.noConfusion h⟩
    have := (h3.2 x.N).2 ⟨x, hx, ha, rfl⟩
    rw [List.length_eq_zero_iff.1 (by omega : r3.length = 0)] at this
    cases this
  · rw [List.getElem?_eq_getElem hlt] at e
    cases e
    exact ⟨fun x hx ha => ⟨rfl, h5.2 _ ((h3.2 x.N).2 ⟨x, hx, ha, rfl⟩)⟩, fun _ => (h3.2 _).1 h5.1⟩
theorem t_findR (l : List Rule) (hl : l.length ≤ 1000) : Ok (m_slices_ContainsFunc___api_Rule_api_Rule_s1 l) fun b => b = true ↔ ∃ x ∈ l, ¬ x.Act = 0 := by
  unfold m_slices_ContainsFunc___api_Rule_api_Rule_s1 m_slices_IndexFunc___api_Rule_api_Rule_s1
  refine ok_bd (P := fun r => r ≥ 0 ↔ ∃ x ∈ l, ¬ x.Act = 0) (ok_idx l.length (fun j => ∀ i (h : i < l.length), i < j → l[i].Act = 0) (by omega) (fun _ _ h => absurd h (Nat.not_lt_zero _)) (fun i hi hI nx hnx => ?_) (fun hI nx => ?_)) fun r _ hr => ok_some (by rw [decide_eq_true_eq]; exact hr)
  · rw [s_slices_IndexFunc___api_Rule_api_Rule_s11]
    refine ok_if (fun _ => ok_ix (by omega) (by omega) fun hlt => ?_) fun h => absurd (Int.ofNat_lt.2 hi) h
    simp only [Int.toNat_natCast]
    unfold m_rise_Tells_1
    refine ok_bde rfl (ok_if (fun h1 => ok_some ⟨fun _ => ⟨_, List.getElem_mem _, h1⟩, fun _ => by omega⟩) fun h1 => hnx fun j hj hji => ?_)
    rcases Nat.lt_succ_iff_lt_or_eq.1 hji with g | rfl
    · exact hI j hj g
    · omega
  · rw [s_slices_IndexFunc___api_Rule_api_Rule_s11]
    refine ok_if (fun h => by omega) fun _ => ok_some ⟨fun h => by omega, fun ⟨x, hx, h⟩ => ?_⟩
    obtain ⟨i, hi, rfl⟩ := List.getElem_of_mem hx
    exact absurd (hI i hi hi) h
theorem t_tells (c : Conf) (k n : Int) (f : FewC c) : Ok (m_rise_Tells c k n) fun b => b = true ↔ 0 ≤ k ∧ ∃ s, c.Sides[k.toNat]? = some s ∧ ∃ x ∈ reach n s.Out, ¬ x.Act = 0 := by
  have hs := f.sides
  unfold m_rise_Tells
  refine ok_if (fun h => ok_some ⟨fun h => Bool.noConfusion h, fun h => by omega⟩) fun h0 => ok_if (fun h1 => ok_some ⟨fun h => Bool.noConfusion h, fun ⟨_, s, e, _⟩ => ?_⟩) fun h1 => ok_ix (by omega) (by omega) fun hlt => ok_bd (t_reach _ _ (f.outs _ (List.getElem_mem _))) fun r2 _ h2 => ?_
  · rw [List.getElem?_eq_none (by omega)] at e
    cases e
  · subst h2
    have := f.outs _ (List.getElem_mem hlt)
    have := reach_le n c.Sides[k.toNat].Out
    refine ok_bd (t_findR _ (by omega)) fun r3 _ h3 => ok_some ?_
    rw [h3]
    constructor
    · exact fun q => ⟨by omega, _, List.getElem?_eq_getElem hlt, q⟩
    · rintro ⟨_, s, e, q⟩
      rw [List.getElem?_eq_getElem hlt] at e
      cases e
      exact q
theorem t_side (c : Conf) (n : Int) (f : FewC c) : Ok (m_rise_Side c n) fun r => r.2 = true → 0 ≤ r.1 ∧ ∃ s, c.Sides[r.1.toNat]? = some s ∧ s.As = n := by
  have hs := f.sides
  unfold m_rise_Side
  refine ok_jn (fun j => j ≥ 0 → ∃ s, c.Sides[j.toNat]? = some s ∧ s.As = n) (fun k' hk => ok_idx c.Sides.length (fun _ => True) (by omega) trivial (fun i hi _ nx hnx => ?_) (fun _ nx => ?_)) fun j hj => ok_some fun h => ?_
  · rw [s_rise_Side1]
    refine ok_if (fun _ => ok_ix (by omega) (by omega) fun hlt => ok_if (fun h1 => hk _ fun _ => ⟨_, List.getElem?_eq_getElem hlt, h1⟩) fun _ => hnx trivial) fun h => absurd (Int.ofNat_lt.2 hi) h
  · rw [s_rise_Side1]
    exact ok_if (fun h => by omega) fun _ => hk _ fun h => by omega
  · have h := of_decide_eq_true h
    rw [if_neg (by omega)]
    exact ⟨h, hj h⟩
theorem t_fitsR (r : Rule) (v : View) (hl : v.As.length ≤ 9223372036854775807) : Ok (m_policy_Fits r v) fun b => (totalR r v.Class → b = true) ∧ (b = true → ¬ (r.Match = 4 ∧ ¬ r.V = v.Class)) := by
  unfold m_policy_Fits m_policy_fits_1 m_policy_fits_2 m_policy_fits_3 m_policy_fits_4 m_policy_fits_5 totalR
  refine ok_if (fun _ => ok_some ⟨fun h => by omega, fun h => Bool.noConfusion h⟩) fun h1 => ok_if (fun _ => ok_some ⟨fun h => by omega, fun h => Bool.noConfusion h⟩) fun h2 => ok_if (fun _ => ok_bde rfl (ok_some ⟨fun h => rfl, fun h => by omega⟩)) fun h3 => ok_if (fun _ => ?_) fun h4 =>
    ok_if (fun _ => ?_) fun h5 => ok_if (fun _ => ok_bde rfl (ok_some ⟨fun h => by omega, fun h => by omega⟩)) fun h6 => ok_if (fun _ => ok_bde rfl (ok_some ⟨fun h => ?_, fun h => ?_⟩)) fun h7 => by omega
  · exact ok_bd (P := fun _ => True) (ok_bd (t_has _ _) fun _ _ _ => ok_some trivial) fun _ _ _ => ok_some ⟨fun h => by omega, fun h => by omega⟩
  · exact ok_bd (P := fun _ => True) (ok_bd (t_contains _ _ hl) fun _ _ _ => ok_some trivial) fun _ _ _ => ok_some ⟨fun h => by omega, fun h => by omega⟩
  · rw [decide_eq_true_eq]; omega
  · rw [decide_eq_true_eq] at h; omega
theorem t_pickR (l : List Rule) (v : View) (hl : l.length ≤ 9223372036854775807) (hv : v.As.length ≤ 9223372036854775807) : Ok (m_policy_Pick l v) fun r => r.2 = true → r.1 ∈ reach v.Class l := by
  unfold m_policy_Pick
  refine ok_idx l.length (fun i => ∀ y ∈ reach v.Class (l.drop i), y ∈ reach v.Class l) hl (fun y h => h) (fun i hi hI nx hnx => ?_) (fun _ nx => ?_)
  · rw [s_policy_Pick1]
    refine ok_if (fun _ => ok_ix (by omega) (by omega) fun hlt => ?_) fun h => absurd (Int.ofNat_lt.2 hi) h
    simp only [Int.toNat_natCast]
    rw [reach_drop hi] at hI
    refine ok_bd (t_fitsR _ _ hv) fun b _ hb => ok_ifb (fun h => ok_some fun _ => hI _ ?_) fun h => hnx fun y hy => hI y ?_
    · rw [if_neg (hb.2 h)]
      split
      · exact List.mem_singleton.2 rfl
      · exact List.mem_cons_self
    · split
      · exact hy
      · rw [if_neg fun ht => by rw [hb.1 ht] at h; cases h]
        exact List.mem_cons_of_mem _ hy
  · rw [s_policy_Pick1]
    exact ok_if (fun h => by omega) fun _ => ok_some fun k => Bool.noConfusion k
theorem pick_reach {l : List Rule} {v : View} {rule : Rule} (e : m_policy_Pick l v = some (rule, true)) (hl : l.length ≤ 9223372036854775807) (hv : v.As.length ≤ 9223372036854775807) : rule ∈ reach v.Class l := by
  obtain ⟨r, e2, h⟩ := t_pickR l v hl hv
  rw [e] at e2
  cases e2
  exact h rfl
theorem law15_awake : m_ridgewaylaw15_awake = some true := by kernel_rfl
end Go.Proofs.Ytpclfdndjillnaa
