/- EdgeLoops: what its model comes to. -/
import Derived.Test.YtkdodhkiemfpeabQ3e5
namespace Go.Proofs.Ytkdodhkiemfpeab
open Go.RowKit
set_option linter.unusedVariables false
set_option linter.unusedSimpArgs false
set_option maxRecDepth 100000
set_option maxHeartbeats 1000000

theorem edgeLoops_true (c : Conf) (k j : Int) (x : Prefix) (r : Route) (hc : c.Sides.length ≤ 9223372036854775807) (hp : r.P.As.length ≤ 9223372036854775807) : m_ridgewaylaw14_EdgeLoops c k j x r = some true := by
  refine ok_true ?_
  unfold m_ridgewaylaw14_EdgeLoops
  refine ok_bde law14_awake (ok_bd (t_short c r.P hc) fun b _ hb => ok_ifnb (fun _ => ok_some rfl) fun h => ?_)
  obtain ⟨f, hl⟩ := hb h
  refine ok_bd (t_out c k x r f hp) fun q _ hq => ?_
  have hlq : q.1.As.length ≤ 9223372036854775807 := by
    cases h : q.2 with
    | false => rw [hq.2 h]; exact Nat.zero_le _
    | true =>
      obtain ⟨s2, rule2, m2, hs2, hk2, _, _, hro, hf1, hf2, hpick2, hmem2, hact2, hmark2, _, h32, _, _, hotc⟩ := hq.1 h
      omega
  refine ok_bd (t_in c j x q.1 f hlq) fun r4 _ h4 => ok_ap (by simp; omega) (by simp; omega) (ok_bd (t_in c j x _ f (by simp; omega)) fun r6 _ h6 => ok_ifb (fun _ => ?_) fun h => Bool.noConfusion h)
  have h6n : r6.2 = false := by
    cases h : r6.2 with
    | false => rfl
    | true =>
      obtain ⟨s, rule, m, hs, hk, hsane, hco, hpo, hfst, hno, _⟩ := h6.1 h
      exact absurd (List.mem_append_left _ (List.mem_singleton.2 rfl)) hno
  have hsane : q.2 = true → Ok (m_route_Sane r) (· = true) := fun h => by
    obtain ⟨s2, rule2, m2, hs2, hk2, _, _, hro, _⟩ := hq.1 h
    exact ok_mono (t_routeSane r hp) fun b hb => hb.2 hro
  have h4n : q.2 = true → r4.2 = false := fun hq2 => by
    cases h : r4.2 with
    | false => rfl
    | true =>
      obtain ⟨s, rule, m, hs, hk, hsane, hco, hpo, hfst, hno, _⟩ := h4.1 h
      obtain ⟨s2, rule2, m2, hs2, hk2, _, _, hro, hf1, hf2, hpick2, hmem2, hact2, hmark2, ⟨n, hn, e⟩, h32, _⟩ := hq.1 hq2
      refine absurd ?_ hno
      rw [e]
      exact List.mem_append_left _ (List.mem_replicate.2 ⟨by omega, rfl⟩)
  rw [h6n]
  refine ok_ifnb (fun h0 => ok_ifnb (fun _ => ok_ifnb (fun _ => ok_some rfl) fun h => ok_bd (hsane h) fun _ _ h => ok_some h) fun h => Bool.noConfusion h) fun h1 => ?_
  rw [h4n h1]
  exact ok_ifnb (fun _ => ok_ifnb (fun _ => ok_ifnb (fun _ => ok_some rfl) fun h => ok_bd (hsane h) fun _ _ h => ok_some h) fun h => Bool.noConfusion h) fun h => Bool.noConfusion h
end Go.Proofs.Ytkdodhkiemfpeab
