/- EdgeTakes: what its model comes to. -/
import Derived.Test.YtkdodhkiemfpeabQ3e1
namespace Go.Proofs.Ytkdodhkiemfpeab
open Go.RowKit
set_option linter.unusedVariables false
set_option linter.unusedSimpArgs false
set_option maxRecDepth 100000
set_option maxHeartbeats 1000000

theorem same_refl (o h t : Int) (l : List Int) (hl : l.length ≤ 9223372036854775807) : Ok (m_ridgewayref07_SamePath ⟨o, l, h, t⟩ ⟨o, l, h, t⟩) (· = true) := by
  unfold m_ridgewayref07_SamePath
  refine ok_if (fun k => absurd rfl k) fun _ => ok_if (fun k => absurd rfl k) fun _ => ok_if (fun k => absurd rfl k) fun _ => ok_if (fun k => absurd rfl k) fun _ => ok_idx l.length (fun _ => True) hl trivial (fun i hi _ nx hnx => ?_) (fun _ nx => ?_)
  · rw [s_ridgewayref07_SamePath1]
    exact ok_if (fun _ => ok_ix (by omega) (by simp only; omega) fun _ => ok_ix (by omega) (by simp only; omega) fun _ => ok_if (fun k => absurd rfl k) fun _ => hnx trivial) fun h => absurd (Int.ofNat_lt.2 hi) h
  · rw [s_ridgewayref07_SamePath1]
    exact ok_if (fun h => by simp only at h; omega) fun _ => ok_some rfl
theorem mark_rng {rel as otc m : Int} (h : inMark rel as otc = (m, true)) (ha : 1 ≤ as ∧ as ≤ 4294967295) (ho : 0 ≤ otc ∧ otc ≤ 4294967295) : 0 ≤ m ∧ m ≤ 4294967295 := by
  unfold inMark at h
  split at h
  · cases h; omega
  · split at h
    · cases h; omega
    · split at h
      · cases h; omega
      · cases h
theorem inR_route {c : Conf} {k : Int} {x : Prefix} {p : Path} {r : Route} (h : InR c k x p r) : RouteOk r := by
  obtain ⟨s, rule, m, hs, hk, h0, hc, hp, h1, h2, h3, h4, h5, h6, h7, h8, rfl⟩ := h
  have hso : SideOk s := by
    obtain ⟨hlt, rfl⟩ := List.getElem?_eq_some_iff.1 hs
    exact hc.2.2.2 _ hlt
  have := mark_rng h4 hso.1 ⟨hp.2.2.2.2.1, hp.2.2.2.2.2⟩
  exact ⟨⟨hp.1, hp.2.1, hp.2.2.1, hp.2.2.2.1, this⟩, h3, .inr ⟨hk.1, by have := hc.2.2.1; dsimp only; omega, h8.1, h8.2⟩⟩
theorem edgeTakes_true (c : Conf) (k : Int) (x : Prefix) (p : Path) (hc : c.Sides.length ≤ 9223372036854775807) (hp : p.As.length ≤ 9223372036854775807) : m_ridgewaylaw14_EdgeTakes c k x p = some true := by
  refine ok_true ?_
  unfold m_ridgewaylaw14_EdgeTakes
  refine ok_bde law14_awake (ok_bd (t_short c p hc) fun b _ hb => ok_ifnb (fun _ => ok_some rfl) fun h => ?_)
  obtain ⟨f, hl⟩ := hb h
  refine ok_bd (t_in c k x p f hp) fun r _ hr => ok_ifnb (fun h0 => ?_) fun h1 => ?_
  · rw [hr.2 h0]
    exact ok_ifb (fun _ => ok_bde (x := true) (by kernel_rfl) (ok_some rfl)) fun h => Bool.noConfusion h
  have hin := hr.1 h1
  have hro := inR_route hin
  obtain ⟨s, rule, m, hs, hk, hsane, hco, hpo, hfst, hno, h32, hmark, hpick, hmem, hact, hN, hre⟩ := hin
  have hAs : r.1.P.As = p.As := by rw [hre]
  refine ok_idx r.1.P.As.length (fun _ => True) (by rw [hAs]; exact hp) trivial (fun i hi _ nx hnx => ?_) (fun _ nx => ?_)
  · rw [s_ridgewaylaw14_EdgeTakes1]
    refine ok_if (fun _ => ok_ix (by omega) (by omega) fun hlt => ok_if (fun h => ?_) fun _ => hnx trivial) fun h => absurd (Int.ofNat_lt.2 hi) h
    exact absurd (hAs ▸ h ▸ List.getElem_mem _ : c.As ∈ p.As) hno
  · rw [s_ridgewaylaw14_EdgeTakes1]
    refine ok_if (fun h => by omega) fun _ => ok_ifb (fun _ => ok_bde hsane (ok_ifb (fun _ => ok_bd (t_routeSane r.1 (by rw [hAs]; exact hp)) fun b _ hb => ok_ifb (fun _ => ?_) fun h => ?_) fun h => Bool.noConfusion h)) fun h => Bool.noConfusion h
    rotate_left
    · rw [hb.2 hro] at h; cases h
    have hlen : 0 < p.As.length := by
      obtain ⟨h, _⟩ := List.getElem?_eq_some_iff.1 hfst
      exact h
    refine ok_if (fun _ => ok_if (fun _ => ok_if (fun _ => ok_if (fun _ => ok_ix (by omega) (by rw [hAs]; omega) fun h0 => ok_ix hk.1 hk.2 fun h2 => ok_if (fun _ => ?_) fun h => ?_) fun h => ?_) fun h => absurd hk.2 h) fun h => absurd hk.1 h) fun h => ?_
    · rw [hre]
      exact ok_bd (same_refl _ _ _ _ hp) fun _ _ h => ok_some h
    · refine absurd ?_ h
      obtain ⟨e1, e2⟩ := List.getElem?_eq_some_iff.1 hfst
      obtain ⟨e3, e4⟩ := List.getElem?_eq_some_iff.1 hs
      rw [e4, ← e2]
      simp only [hAs]
      rfl
    · rw [hAs] at h; omega
    · rw [hre] at h; exact absurd rfl h
end Go.Proofs.Ytkdodhkiemfpeab
