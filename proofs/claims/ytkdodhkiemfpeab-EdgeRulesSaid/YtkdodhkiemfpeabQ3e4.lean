/- What becomes of a route on its way. -/
import Derived.Test.YtkdodhkiemfpeabQ2e4
namespace Go.Proofs.Ytkdodhkiemfpeab
open Go.RowKit
set_option linter.unusedVariables false
set_option linter.unusedSimpArgs false
set_option maxRecDepth 100000
set_option maxHeartbeats 1000000

theorem t_at (c : Conf) (k : Int) (x : Prefix) (f : FewC c) : Ok (m_edge_at c k x) fun b => b = true → (0 ≤ k ∧ k < c.Sides.length) ∧ m_conf_Sane c = some true ∧ ConfOk c := by
  unfold m_edge_at
  refine ok_if (fun h1 => ok_if (fun h2 => ok_bd (t_prefix _) fun _ _ _ => ok_ifb (fun _ => ok_bd (t_sane c f) fun b e hb => ok_some fun k => ?_) fun _ => ok_some fun k => Bool.noConfusion k) fun _ => ok_some fun k => Bool.noConfusion k) fun _ => ok_some fun k => Bool.noConfusion k
  subst k
  exact ⟨⟨h1, h2⟩, e, hb rfl⟩
/-- A route's class. -/
def clsOf (c : Conf) (f : Int) : Int := if f < 0 then 0 else ((c.Sides[f.toNat]?).map (·.Rel)).getD 0
theorem class_eq (c : Conf) (f : Int) : m_edge_Class c f = some (clsOf c f) := by
  refine (?_ : Ok (m_edge_Class c f) (· = clsOf c f)).elim fun x h => by rw [h.1, h.2]
  unfold m_edge_Class clsOf
  refine ok_if (fun h => ok_some (by rw [if_pos h])) fun h => ok_if (fun h2 => ok_some ?_) fun h2 => ok_ix (by omega) (by omega) fun hlt => ok_some ?_
  · rw [if_neg h, List.getElem?_eq_none (by omega)]; rfl
  · rw [if_neg h, List.getElem?_eq_getElem hlt]; rfl
theorem accepts_eq (r : Rule) (b : Bool) : m_edge_accepts r b = some (b && decide (¬ r.Act = 0)) := by
  unfold m_edge_accepts
  cases b <;> rfl
/-- What is taken. -/
def InR (c : Conf) (k : Int) (x : Prefix) (p : Path) (r : Route) : Prop :=
  ∃ s rule m, c.Sides[k.toNat]? = some s ∧ (0 ≤ k ∧ k < c.Sides.length) ∧ m_conf_Sane c = some true ∧ ConfOk c ∧ PathOk p ∧ p.As[0]? = some s.As ∧ c.As ∉ p.As ∧ p.As.length ≤ 32 ∧ inMark s.Rel s.As p.Otc = (m, true) ∧
    m_policy_Pick s.In ⟨x, p.As, s.Rel⟩ = some (rule, true) ∧ rule ∈ s.In ∧ rule.Act = 2 ∧ (1 ≤ rule.N ∧ rule.N < 400) ∧ r = ⟨rule.N, ⟨p.Origin, p.As, p.Hop, m⟩, k⟩
def noRoute : Route := ⟨0, ⟨0, [], 0, 0⟩, 0⟩
theorem t_in (c : Conf) (k : Int) (x : Prefix) (p : Path) (f : FewC c) (hp : p.As.length ≤ 9223372036854775807) : Ok (m_edge_In c k x p) fun r => (r.2 = true → InR c k x p r.1) ∧ (r.2 = false → r.1 = noRoute) := by
  unfold m_edge_In
  have no : Ok (some (noRoute, false)) fun r : Route × Bool => (r.2 = true → InR c k x p r.1) ∧ (r.2 = false → r.1 = noRoute) := ok_some ⟨fun k => Bool.noConfusion k, fun _ => rfl⟩
  refine ok_bd (t_at c k x f) fun b _ hb => ok_ifnb (fun _ => no) fun h1 => ok_bd (t_attrSane p hp) fun b2 _ hb2 => ok_ifnb (fun _ => no) fun h2 => ?_
  obtain ⟨⟨k0, k1⟩, hs, hc⟩ := hb h1
  have hpo := hb2.1 h2
  refine ok_ix k0 k1 fun hlt => ?_
  have hso := hc.2.2.2 _ hlt
  have hin := f.ins _ (List.getElem_mem hlt)
  have hsd : c.Sides[k.toNat]? = some c.Sides[k.toNat] := List.getElem?_eq_getElem hlt
  generalize c.Sides[k.toNat] = s at hso hin hsd
  refine ok_jn (fun j => j.1 = true → InR c k x p ⟨j.2.2.2.2.2.2.1, ⟨p.Origin, p.As, p.Hop, j.2.2.2.2.2.2.2⟩, k⟩) (fun k' hk => ?_) fun j hj => ok_ifnb (fun _ => no) fun h => ok_some ⟨fun _ => hj h, fun k => Bool.noConfusion k⟩
  have nok : ∀ {q : Int × Int × Int × Int × Int × Int × Int}, Ok (k' (false, q)) fun r : Route × Bool => (r.2 = true → InR c k x p r.1) ∧ (r.2 = false → r.1 = noRoute) := hk _ fun k => Bool.noConfusion k
  refine ok_jn (fun j => j = true → p.As[0]? = some s.As) (fun k2 hk2 => ok_if (fun h => ok_ix (by omega) (by omega) fun hl0 => hk2 _ fun h3 => ?_) fun h => hk2 _ fun k => Bool.noConfusion k) fun j hj => ok_ifnb (fun _ => nok) fun h3 => ?_
  · rw [decide_eq_true_eq] at h3
    rw [show (0 : Nat) = (0 : Int).toNat from rfl, List.getElem?_eq_getElem hl0, h3]
  refine ok_bd (t_contains _ _ hp) fun b5 _ hb5 => ok_ifb (fun _ => nok) fun h5 => ok_ifn (fun _ => nok) fun h6 => ok_bde (roleIn_eq _ _ _) (ok_ifnb (fun _ => nok) fun h7 => ok_bd (t_pick _ _ (by omega) hp) fun r8 e8 h8 => ok_bde (accepts_eq _ _) (ok_ifnb (fun _ => nok) fun h9 => hk _ fun _ => ?_))
  simp only [Bool.and_eq_true, decide_eq_true_eq] at h9
  obtain ⟨rule, b8⟩ := r8
  obtain ⟨rfl, h9⟩ := h9
  have hmem := h8.1 rfl
  have hro := (hso.2.2.1 _ hmem).1 rfl
  dsimp only at h9 hmem hro
  refine ⟨s, rule, _, hsd, ⟨k0, k1⟩, hs, hc, hpo, hj h3, fun hm => ?_, by omega, Prod.ext rfl h7, e8, hmem, by omega, by omega, rfl⟩
  rw [hb5.2 hm] at h5
  cases h5
/-- What is told. -/
def OutR (c : Conf) (k : Int) (x : Prefix) (r : Route) (q : Path) : Prop :=
  ∃ s rule m, c.Sides[k.toNat]? = some s ∧ (0 ≤ k ∧ k < c.Sides.length) ∧ m_conf_Sane c = some true ∧ ConfOk c ∧ RouteOk r ∧ ¬ r.From = k ∧ r.From < c.Sides.length ∧ m_policy_Pick s.Out ⟨x, r.P.As, clsOf c r.From⟩ = some (rule, true) ∧ rule ∈ s.Out ∧ ¬ rule.Act = 0 ∧
    outMark s.Rel c.As r.P.Otc = (m, true) ∧ (∃ n, (1 ≤ n ∧ n ≤ 9) ∧ q.As = List.replicate n c.As ++ r.P.As) ∧ q.As.length ≤ 32 ∧ q.Origin = r.P.Origin ∧ q.Hop = c.Id ∧ q.Otc = m
def noPath : Path := ⟨0, [], 0, 0⟩
theorem t_out (c : Conf) (k : Int) (x : Prefix) (r : Route) (f : FewC c) (hp : r.P.As.length ≤ 9223372036854775807) : Ok (m_edge_Out c k x r) fun q => (q.2 = true → OutR c k x r q.1) ∧ (q.2 = false → q.1 = noPath) := by
  unfold m_edge_Out
  have no : Ok (some (noPath, false)) fun q : Path × Bool => (q.2 = true → OutR c k x r q.1) ∧ (q.2 = false → q.1 = noPath) := ok_some ⟨fun k => Bool.noConfusion k, fun _ => rfl⟩
  refine ok_bd (t_at c k x f) fun b _ hb => ok_ifnb (fun _ => no) fun h1 => ok_bd (t_routeSane r hp) fun b2 _ hb2 => ok_ifnb (fun _ => no) fun h2 => ?_
  obtain ⟨⟨k0, k1⟩, hs, hc⟩ := hb h1
  have hro := hb2.1 h2
  have hlen := hro.2.1
  refine ok_ix k0 k1 fun hlt => ?_
  have hso := hc.2.2.2 _ hlt
  have hin := f.outs _ (List.getElem_mem hlt)
  have hsd : c.Sides[k.toNat]? = some c.Sides[k.toNat] := List.getElem?_eq_getElem hlt
  generalize c.Sides[k.toNat] = s at hso hin hsd
  refine ok_jn (fun j => j.1 = true → OutR c k x r ⟨r.P.Origin, j.2.1, c.Id, j.2.2⟩) (fun k' hk => ?_) fun j hj => ok_ifnb (fun _ => no) fun h => ok_some ⟨fun _ => hj h, fun k => Bool.noConfusion k⟩
  have nok : ∀ {q : List Int × Int}, Ok (k' (false, q)) fun q : Path × Bool => (q.2 = true → OutR c k x r q.1) ∧ (q.2 = false → q.1 = noPath) := hk _ fun k => Bool.noConfusion k
  refine ok_jn (fun j => j = true → ¬ r.From = k ∧ r.From < c.Sides.length) (fun k2 hk2 => ok_if (fun h => hk2 _ fun h3 => ⟨h, of_decide_eq_true h3⟩) fun h => hk2 _ fun k => Bool.noConfusion k) fun j hj => ok_ifnb (fun _ => nok) fun h3 => ?_
  refine ok_bde (class_eq _ _) (ok_bd (t_pick _ _ (by omega) hp) fun r5 e5 h5 => ok_bd (t_longer c.As r5.1 r.P.As (by omega) fun ha => ?_) fun r6 _ h6 => ok_bde (accepts_eq _ _) (ok_ifnb (fun _ => nok) fun h7 => ok_bde (roleOut_eq _ _ _) (ok_ifnb (fun _ => nok) fun h8 => ok_ifn (fun _ => nok) fun h9 => hk _ fun _ => ?_)))
  · cases hb5 : r5.2 with
    | false => have := h5.2 hb5; omega
    | true =>
      have := (hso.2.2.2 _ (h5.1 hb5)).2 rfl
      omega
  simp only [Bool.and_eq_true, decide_eq_true_eq] at h7
  obtain ⟨rule, b5⟩ := r5
  obtain ⟨rfl, h7⟩ := h7
  have hmem := h5.1 rfl
  have hru := (hso.2.2.2 _ hmem).2 rfl
  dsimp only at h7 hmem hru h6
  obtain ⟨q1, q2⟩ := hj h3
  refine ⟨s, rule, _, hsd, ⟨k0, k1⟩, hs, hc, hro, q1, q2, e5, hmem, h7, Prod.ext rfl h8, ⟨_, ?_, h6⟩, by dsimp only; omega, rfl, rfl, rfl⟩
  split <;> omega
theorem t_short (c : Conf) (p : Path) (hl : c.Sides.length ≤ 9223372036854775807) : Ok (m_ridgewaylaw14_short c p) fun b => b = true → FewC c ∧ p.As.length ≤ 100 := by
  unfold m_ridgewaylaw14_short
  exact ok_bd (t_few c hl) fun b _ hb => ok_ifb (fun h => ok_some fun k => ⟨hb h, by have := of_decide_eq_true k; omega⟩) fun _ => ok_some fun k => Bool.noConfusion k
theorem law14_awake : m_ridgewaylaw14_awake = some true := by kernel_rfl
end Go.Proofs.Ytkdodhkiemfpeab
