/- EdgeRules: what its model comes to. -/
import Derived.Test.YtkdodhkiemfpeabQ3e4
namespace Go.Proofs.Ytkdodhkiemfpeab
open Go.RowKit
set_option linter.unusedVariables false
set_option linter.unusedSimpArgs false
set_option maxRecDepth 100000
set_option maxHeartbeats 1000000

theorem pick_total (x : Prefix) (as : List Int) (cl : Int) : m_policy_Pick [⟨0, ⟨0, 0⟩, 0, 0, 0⟩] ⟨x, as, cl⟩ = some (⟨0, ⟨0, 0⟩, 0, 0, 0⟩, true) := by
  refine (?_ : Ok (m_policy_Pick [⟨0, ⟨0, 0⟩, 0, 0, 0⟩] ⟨x, as, cl⟩) (· = (⟨0, ⟨0, 0⟩, 0, 0, 0⟩, true))).elim fun y h => by rw [h.1, h.2]
  unfold m_policy_Pick
  refine ok_idx 1 (fun j => j = 0) (by omega) rfl (fun i hi hI nx hnx => ?_) (fun h => by omega)
  subst hI
  rw [s_policy_Pick1]
  refine ok_if (fun _ => ok_ix (by omega) (by simp) fun hlt => ok_bde (x := true) ?_ (ok_ifb (fun _ => ok_some rfl) fun h => Bool.noConfusion h)) fun h => absurd (by simp) h
  kernel_rfl
theorem edgeRules_true (c : Conf) (k : Int) (x : Prefix) (p : Path) (q : Route) (hc : c.Sides.length ≤ 9223372036854775807) (hp : p.As.length ≤ 9223372036854775807) (hq : q.P.As.length ≤ 9223372036854775807) : m_ridgewaylaw14_EdgeRules c k x p q = some true := by
  refine ok_true ?_
  unfold m_ridgewaylaw14_EdgeRules
  refine ok_bde law14_awake (ok_bd (t_short c p hc) fun b _ hb => ok_ifnb (fun _ => ok_some rfl) fun h => ok_bd (t_short c q.P hc) fun b2 _ hb2 => ok_ifnb (fun _ => ok_some rfl) fun h2 => ?_)
  obtain ⟨f, hl⟩ := hb h
  obtain ⟨_, hl2⟩ := hb2 h2
  have hfs := f.sides
  refine ok_bd (t_sane c f) fun b3 _ _ => ok_ifnb (fun _ => ok_some rfl) fun h3 => ok_if (fun _ => ok_some rfl) fun k0 => ok_if (fun _ => ok_some rfl) fun k1 => ok_bd (t_in c k x p f hp) fun r _ hr => ok_ix (by omega) (by omega) fun hlt => ok_ix (by omega) (by omega) fun _ => ?_
  have hin := f.ins _ (List.getElem_mem hlt)
  have key : ∀ (s : Side) (z : List Side), z = c.Sides.set k.toNat s → s.In = [⟨0, ⟨0, 0⟩, 0, 0, 0⟩] → s.Out = [] → Ok (bd (m_edge_In ⟨c.As, c.Id, c.Hold, c.Cap, c.Own, z⟩ k x p) fun r14 => bd (m_edge_Out ⟨c.As, c.Id, c.Hold, c.Cap, c.Own, z⟩ k x q) fun r15 =>
      bif true then bif (!r14.2) then some (!r15.2) else some false else some false) (· = true) := fun s z hz e1 e2 => by
    have hlt2 : k.toNat < z.length := by rw [hz, List.length_set]; exact hlt
    have hzs : z[k.toNat]? = some s := by rw [hz, List.getElem?_set_self hlt]
    have fz : FewC ⟨c.As, c.Id, c.Hold, c.Cap, c.Own, z⟩ := ⟨f.own, by rw [hz]; simpa using f.sides, fun y hy => by
      rw [hz] at hy
      rcases List.mem_or_eq_of_mem_set hy with h | rfl
      · exact f.ins y h
      · rw [e1]; simp, fun y hy => by
      rw [hz] at hy
      rcases List.mem_or_eq_of_mem_set hy with h | rfl
      · exact f.outs y h
      · rw [e2]; simp⟩
    refine ok_bd (t_in _ k x p fz hp) fun r14 _ h14 => ok_bd (t_out _ k x q fz hq) fun r15 _ h15 => ok_ifb (fun _ => ?_) fun h => Bool.noConfusion h
    have n14 : r14.2 = false := by
      cases h : r14.2 with
      | false => rfl
      | true =>
        obtain ⟨s', rule, m, hs, hk, hsane, hco, hpo, hfst, hno, h32, hmark, hpick, hmem, hact, hN, hre⟩ := h14.1 h
        dsimp only at hs
        rw [hzs] at hs
        injection hs with hs
        subst hs
        rw [e1] at hmem
        obtain rfl := List.mem_singleton.1 hmem
        exact absurd hact (by decide)
    have n15 : r15.2 = false := by
      cases h : r15.2 with
      | false => rfl
      | true =>
        obtain ⟨s', rule, m, hs, hk, hsane, hco, hro, hf1, hf2, hpick, hmem, _⟩ := h15.1 h
        dsimp only at hs
        rw [hzs] at hs
        injection hs with hs
        subst hs
        rw [e2] at hmem
        cases hmem
    rw [n14, n15]
    exact ok_ifnb (fun _ => ok_some rfl) fun h => Bool.noConfusion h
  have mk : ∀ (hne : ¬ (c.Sides.length : Int) = 0), an 64 c.Sides = some c.Sides := fun hne => by rw [an_eq, if_pos ⟨by omega, by omega, by unfold maxLen; omega⟩]
  have ixs : ∀ {y : List Side} {i : Int} {kk : Side → Option Bool}, y.length = c.Sides.length → i = k → (∀ h : i.toNat < y.length, Ok (kk y[i.toNat]) (· = true)) → Ok (bd (ixn c.Sides.length y i) kk) (· = true) := fun {y i kk} hy hi hk => by
    rw [ixn_eq, if_pos hy.symm]
    exact ok_ix (by omega) (by omega) hk
  have tail : Ok (bif decide ((c.Sides.length : Int) = (0 : Int)) then none else
      bd (an 64 c.Sides) fun y9 =>
      bd (ixn y9.length y9 k) fun y10 =>
      bd (up y9 k (Side.mk y10.As y10.Rel ([(Rule.mk (0 : Int) (Prefix.mk (0 : Int) (0 : Int)) (0 : Int) (0 : Int) (0 : Int))]) y10.Out)) fun z11 =>
      bd (ixn y9.length z11 k) fun y12 =>
      bd (up z11 k (Side.mk y12.As y12.Rel y12.In ([]))) fun z13 =>
      bd (fzn y9.length z13) fun _ =>
      bd (m_edge_In (Conf.mk c.As c.Id c.Hold c.Cap c.Own z13) k x p) fun r14 =>
      bd (m_edge_Out (Conf.mk c.As c.Id c.Hold c.Cap c.Own z13) k x q) fun r15 =>
      bif true then bif (!r14.2) then some (!r15.2) else some false else some false) (· = true) := by
    refine ok_if (fun h => by omega) fun hne => ok_bde (mk hne) (ixs rfl rfl fun h1 => ok_bde (up_eq _ _ _) (ixs (by simp) rfl fun h2 => ok_bde (up_eq _ _ _) (ok_bde (x := ()) ?_ ?_)))
    · rw [fzn_eq, if_pos (by simp)]
    · refine key ⟨c.Sides[k.toNat].As, c.Sides[k.toNat].Rel, [⟨0, ⟨0, 0⟩, 0, 0, 0⟩], []⟩ _ ?_ rfl rfl
      rw [List.set_set]
      simp
  refine ok_bd (t_pick _ _ (by omega) hp) fun r8 e8 h8 => ok_ifb (fun h5 => ?_) fun _ => tail
  obtain ⟨s, rule, m, hs, hk, hsane, hco, hpo, hfst, hno, h32, hmark, hpick, hmem, hact, hN, hre⟩ := hr.1 h5
  obtain ⟨e3, e4⟩ := List.getElem?_eq_some_iff.1 hs
  subst e4
  rw [hpick] at e8
  injection e8 with e8
  subst e8
  exact ok_ifnb (fun h => Bool.noConfusion h) fun _ => ok_if (fun h => absurd hact h) fun _ => ok_if (fun h => absurd (by rw [hre]) h) fun _ => tail
end Go.Proofs.Ytkdodhkiemfpeab
