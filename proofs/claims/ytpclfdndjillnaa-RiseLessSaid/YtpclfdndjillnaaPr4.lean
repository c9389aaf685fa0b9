/- Rise: what the models come to (4). -/
import Derived.Test.YtpclfdndjillnaaPr3
import Derived.KernelRfl
namespace Go.Proofs.Ytpclfdndjillnaa
open Go.RowKit
set_option linter.unusedVariables false
set_option linter.unusedSimpArgs false
set_option maxRecDepth 100000
set_option maxHeartbeats 1000000

theorem law15_awake : m_ridgewaylaw15_awake = some true := by kernel_rfl
theorem w64b {i : Nat} (h : i < 9223372036854775807) : IntKind.i64.wrap ((i : Int) + 1) = ((i + 1 : Nat) : Int) := by
  rw [w64 (by omega) (by omega)]
  rfl
theorem few_ex (c : Conf) (hl : c.Sides.length ≤ 9223372036854775807) : ∃ b, m_ridgewayref12_Few c = some b ∧ (b = true → FewC c) := by
  unfold m_ridgewayref12_Few
  refine loopC_ex (fun o => ∃ b, o = some b ∧ (b = true → FewC c)) (fun st : Int => ∃ j : Nat, st = (j : Int) ∧ j ≤ c.Sides.length ∧ ∀ i (h : i < c.Sides.length), i < j → c.Sides[i].In.length ≤ 20 ∧ c.Sides[i].Out.length ≤ 20) (fun st : Int => ((c.Sides.length : Int) - st).toNat) ?_ _ _ ⟨0, rfl, Nat.zero_le _, fun _ _ h => by omega⟩ (big_lt (by omega))
  rintro _ ⟨j, rfl, hj, hok⟩ nx hnx
  rw [s_ridgewayref12_Few1]
  by_cases hlt : j < c.Sides.length
  · rw [decide_eq_true (by omega), cond_true, ix_nat hlt, bd_some]
    by_cases h1 : (c.Sides[j].In.length : Int) > 20
    · rw [decide_eq_true h1, cond_true]
      exact ⟨false, rfl, fun k => Bool.noConfusion k⟩
    rw [decide_eq_false h1, cond_false, bd_some]
    by_cases h2 : (c.Sides[j].Out.length : Int) > 20
    · rw [decide_eq_true h2, cond_true]
      exact ⟨false, rfl, fun k => Bool.noConfusion k⟩
    rw [decide_eq_false h2, cond_false]
    refine hnx _ ⟨j + 1, w64b (by omega), hlt, fun i h hi => ?_⟩ (by rw [w64b (by omega)]; omega)
    rcases Nat.lt_succ_iff_lt_or_eq.1 hi with g | rfl
    · exact hok i h g
    · exact ⟨by omega, by omega⟩
  · rw [decide_eq_false (by omega), cond_false]
    by_cases h1 : (c.Own.length : Int) ≤ 20
    · rw [decide_eq_true h1, cond_true]
      refine ⟨_, rfl, fun k => ?_⟩
      have k := of_decide_eq_true k
      refine ⟨by omega, by omega, fun s hs => ?_, fun s hs => ?_⟩
      · obtain ⟨i, h, rfl⟩ := List.getElem_of_mem hs
        have := hok i h (by omega)
        omega
      · obtain ⟨i, h, rfl⟩ := List.getElem_of_mem hs
        have := hok i h (by omega)
        omega
    · rw [decide_eq_false h1, cond_false]
      exact ⟨false, rfl, fun k => Bool.noConfusion k⟩
/-- A configuration that may be. -/
def okConf (c : Conf) : Prop :=
  (m_conf_saneNumber c.As = some true ∧ m_conf_saneNumber c.Id = some true ∧ m_conf_saneHold c.Hold = some true ∧ m_conf_saneCap c.Cap = some true ∧ m_conf_saneOwn c.Own = some true) ∧ c.Sides.length ≤ 8 ∧ ∀ i (h : i < c.Sides.length), okSide c.As (c.Sides.take i) c.Sides[i]
theorem confSane_iff (c : Conf) (f : FewC c) : ∃ b, m_conf_Sane c = some b ∧ (b = true ↔ okConf c) := by
  unfold m_conf_Sane okConf
  obtain ⟨b1, e1⟩ := tot_number c.As
  obtain ⟨b2, e2⟩ := tot_number c.Id
  obtain ⟨b3, e3⟩ := tot_hold c.Hold
  obtain ⟨b4, e4⟩ := tot_cap c.Cap
  obtain ⟨b5, e5⟩ := tot_own c.Own (by have := f.own; omega)
  obtain ⟨b6, e6, h6⟩ := saneSides_iff c f
  rw [e1, e2, e3, e4, e5, e6, ← h6]
  refine ⟨b1 && (b2 && (b3 && (b4 && (b5 && b6)))), ?_, ?_⟩
  · cases b1 <;> cases b2 <;> cases b3 <;> cases b4 <;> cases b5 <;> cases b6 <;> simp only [bd_some, cond_true, cond_false, Bool.true_and, Bool.false_and]
  · simp only [Option.some.injEq, Bool.and_eq_true, and_assoc]
/-- What is better to the other. -/
def betterB (a b : Conf) (cl : Int) : Prop := ∃ low high, m_rise_Low a cl = some (low, true) ∧ m_rise_High b (if (0 : Int) > sideOf b a.As then 0 else sideOf b a.As) = some (high, true) ∧
  m_rise_Tells a (if (0 : Int) > sideOf a b.As then 0 else sideOf a b.As) cl = some true ∧ high > low
theorem sideOf_lt (c : Conf) (n : Int) : sideOf c n < c.Sides.length := by
  have := (findN_lt (fun s : Side => decide (s.As = n)) c.Sides 0).1
  unfold sideOf
  omega
theorem riseRises_ex (a b : Conf) (fa : FewC a) (fb : FewC b) : ∃ v, m_rise_Rises a b = some v ∧ (v = true → (0 ≤ sideOf a b.As ∧ 0 ≤ sideOf b a.As ∧ okConf a ∧ okConf b)) ∧
    ((0 ≤ sideOf a b.As ∧ 0 ≤ sideOf b a.As ∧ okConf a ∧ okConf b) → (∀ cl, ¬ betterB a b cl) → v = true) := by
  unfold m_rise_Rises
  have hsa := fa.sides
  have hsb := fb.sides
  rw [riseSide_eq _ _ (by omega), bd_some, riseSide_eq _ _ (by omega), bd_some]
  dsimp only
  by_cases h1 : sideOf a b.As ≥ 0
  rotate_left
  · rw [decide_eq_false h1]
    exact ⟨false, rfl, fun k => Bool.noConfusion k, fun k _ => absurd k.1 h1⟩
  by_cases h2 : sideOf b a.As ≥ 0
  rotate_left
  · rw [decide_eq_true h1, decide_eq_false h2]
    exact ⟨false, rfl, fun k => Bool.noConfusion k, fun k _ => absurd k.2.1 h2⟩
  rw [decide_eq_true h1, decide_eq_true h2, Bool.not_true, cond_false, cond_false]
  obtain ⟨b3, e3, i3⟩ := confSane_iff a fa
  obtain ⟨b4, e4, i4⟩ := confSane_iff b fb
  rw [e3, bd_some]
  cases b3 with
  | false => exact ⟨false, rfl, fun k => Bool.noConfusion k, fun k _ => i3.2 k.2.2.1⟩
  | true =>
  rw [Bool.not_true, cond_false, e4, bd_some]
  cases b4 with
  | false => exact ⟨false, rfl, fun k => Bool.noConfusion k, fun k _ => i4.2 k.2.2.2⟩
  | true =>
  rw [Bool.not_true, cond_false]
  have ka := sideOf_lt a b.As
  have kb := sideOf_lt b a.As
  obtain ⟨j, hj⟩ := Int.eq_ofNat_of_zero_le h1
  obtain ⟨k, hk⟩ := Int.eq_ofNat_of_zero_le h2
  have ej : (if (0 : Int) > sideOf a b.As then 0 else sideOf a b.As) = (j : Int) := by rw [if_neg (by omega)]; exact hj
  have ek : (if (0 : Int) > sideOf b a.As then 0 else sideOf b a.As) = (k : Int) := by rw [if_neg (by omega)]; exact hk
  rw [ej, ek]
  obtain ⟨high, takes, eh, _⟩ := riseHigh_ex b k (by omega) fb
  rw [eh, bd_some, jn_eq]
  refine (?_ : ∃ v, loopC _ _ BIG _ = some v ∧ ((v = true → _) ∧ (_ → _ → v = true)))
  refine loopC_ex (fun o => ∃ v, o = some v ∧ ((v = true → (0 ≤ sideOf a b.As ∧ 0 ≤ sideOf b a.As ∧ okConf a ∧ okConf b)) ∧ ((0 ≤ sideOf a b.As ∧ 0 ≤ sideOf b a.As ∧ okConf a ∧ okConf b) → (∀ cl, ¬ betterB a b cl) → v = true))) (fun st : Int × Bool => st.2 = takes ∧ ∃ i : Nat, st.1 = (i : Int) ∧ i ≤ 4) (fun st : Int × Bool => ((4 : Int) - st.1).toNat) ?_ _ _ ⟨rfl, 0, rfl, by omega⟩ (big_lt (by simp))
  rintro ⟨_, takes⟩ ⟨rfl, i, rfl, hi⟩ nx hnx
  have all : ∀ v : Bool, v = true → (0 ≤ sideOf a b.As ∧ 0 ≤ sideOf b a.As ∧ okConf a ∧ okConf b) := fun _ _ => ⟨h1, h2, i3.1 rfl, i4.1 rfl⟩
  rw [s_rise_Rises1]
  dsimp only at hnx ⊢
  by_cases hlt : i < 4
  · rw [decide_eq_true (by simp; omega), cond_true, ix_nat (by simpa using hlt), bd_some, jn_eq]
    generalize hcl : ([(0 : Int), 1, 2, 3] : List Int)[i] = cl
    obtain ⟨low, has, el, _⟩ := riseLow_ex a cl fa
    have go : ∀ b', (fun i3 : Bool × Bool => bif i3.1 then some (!decide ((i : Int) ≥ 0)) else nx (IntKind.i64.wrap ((i : Int) + 1), i3.2)) (false, b') = nx (IntKind.i64.wrap ((i : Int) + 1), b') := fun _ => rfl
    have st := hnx (IntKind.i64.wrap ((i : Int) + 1), takes) ⟨rfl, i + 1, w64s (by omega), hlt⟩ (by rw [w64s (by omega)]; omega)
    rw [el, bd_some, riseTells_eq a j cl (by omega) fa, bd_some]
    cases has with
    | false => exact st
    | true =>
    cases takes with
    | false => exact st
    | true =>
    cases ht : (reach cl a.Sides[j].Out).any fun x => decide (¬ x.Act = 0) with
    | false => exact st
    | true =>
    by_cases hg : high > low
    · rw [decide_eq_true hg]
      refine ⟨false, ?_, fun q => Bool.noConfusion q, fun _ q => ?_⟩
      · show some (!decide ((i : Int) ≥ 0)) = some false
        rw [decide_eq_true (by omega)]
        rfl
      · refine absurd ⟨low, high, el, ?_, ?_, hg⟩ (q cl)
        · rw [ek]; exact eh
        · rw [ej, riseTells_eq a j cl (by omega) fa, ht]
    · rw [decide_eq_false hg]
      exact st
  · rw [decide_eq_false (by simp; omega), cond_false]
    exact ⟨true, rfl, all true, fun _ _ => rfl⟩
end Go.Proofs.Ytpclfdndjillnaa
