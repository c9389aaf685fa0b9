/- EdgeTells: what its model comes to. -/
import Derived.Test.YtkdodhkiemfpeabQ3e2
namespace Go.Proofs.Ytkdodhkiemfpeab
open Go.RowKit
set_option linter.unusedVariables false
set_option linter.unusedSimpArgs false
set_option maxRecDepth 100000
set_option maxHeartbeats 1000000

theorem same_none : m_ridgewayref07_SamePath noPath ⟨0, [], 0, 0⟩ = some true := by kernel_rfl
theorem omark_rng {rel own otc m : Int} (h : outMark rel own otc = (m, true)) (ha : 1 ≤ own ∧ own ≤ 4294967295) (ho : 0 ≤ otc ∧ otc ≤ 4294967295) : 0 ≤ m ∧ m ≤ 4294967295 := by
  unfold outMark at h
  split at h
  · cases h; omega
  · split at h
    · cases h; omega
    · split at h
      · cases h; omega
      · cases h
theorem outR_path {c : Conf} {k : Int} {x : Prefix} {r : Route} {q : Path} (h : OutR c k x r q) : PathOk q := by
  obtain ⟨s, rule, m, hs, hk, h0, hc, hr, h1, h2, h3, h4, h5, h6, ⟨n, hn, hq⟩, h32, ho, hh, hm⟩ := h
  refine ⟨fun y hy => ?_, by rw [ho]; exact hr.1.2.1, by omega, by rw [hh]; exact hc.2.1, ?_⟩
  · rw [hq] at hy
    rcases List.mem_append.1 hy with hy | hy
    · obtain ⟨_, rfl⟩ := List.mem_replicate.1 hy
      exact hc.1
    · exact hr.1.1 y hy
  · rw [hm]
    exact omark_rng h6 hc.1 ⟨hr.1.2.2.2.2.1, hr.1.2.2.2.2.2⟩
theorem edgeTells_true (c : Conf) (k : Int) (x : Prefix) (r : Route) (hc : c.Sides.length ≤ 9223372036854775807) (hp : r.P.As.length ≤ 9223372036854775807) : m_ridgewaylaw14_EdgeTells c k x r = some true := by
  refine ok_true ?_
  unfold m_ridgewaylaw14_EdgeTells
  refine ok_bde law14_awake (ok_bd (t_short c r.P hc) fun b _ hb => ok_ifnb (fun _ => ok_some rfl) fun h => ?_)
  obtain ⟨f, hl⟩ := hb h
  refine ok_bd (t_out c k x r f hp) fun q _ hq => ok_ifnb (fun h0 => ?_) fun h1 => ?_
  · rw [hq.2 h0]
    exact ok_ifb (fun _ => ok_bde same_none (ok_some rfl)) fun h => Bool.noConfusion h
  have hout := hq.1 h1
  have hpa := outR_path hout
  obtain ⟨s, rule, m, hs, hk, hsane, hco, hro, hf1, hf2, hpick, hmem, hact, hmark, ⟨n, hn, hqa⟩, h32, ho, hh, hm⟩ := hout
  have hlen : q.1.As.length = n + r.P.As.length := by rw [hqa]; simp
  have hw : IntKind.i64.wrap ((q.1.As.length : Int) - (r.P.As.length : Int)) = (n : Int) := by rw [w64 (by omega) (by omega)]; omega
  rw [hw]
  refine ok_if (fun h => by omega) fun _ => ok_if (fun h => by omega) fun _ => ok_if (fun h => by omega) fun _ => ok_if (fun h => absurd h hf1) fun _ => ok_idx q.1.As.length (fun _ => True) (by omega) trivial (fun i hi _ nx hnx => ?_) (fun _ nx => ?_)
  · rw [s_ridgewaylaw14_EdgeTells1, hw]
    have lo : i < n → q.1.As[i] = c.As := fun h => by
      simp only [hqa]
      rw [List.getElem_append_left (by simpa using h), List.getElem_replicate]
    have hi2 : ∀ (h : n ≤ i), q.1.As[i] = r.P.As[i - n]'(by omega) := fun h => by
      simp only [hqa]
      rw [List.getElem_append_right (by simpa using h)]
      simp
    have hw2 : n ≤ i → IntKind.i64.wrap ((i : Int) - (n : Int)) = ((i - n : Nat) : Int) := fun h => by rw [w64 (by omega) (by omega)]; omega
    refine ok_if (fun _ => ok_if (fun h => ok_ix (by omega) (by omega) fun hlt => ok_if (fun h2 => ?_) fun _ => ok_if (fun h3 => by omega) fun _ => hnx trivial) fun h => ok_if (fun h2 => ok_ix (by omega) (by omega) fun hlt => ?_) fun _ => hnx trivial) fun h => absurd (Int.ofNat_lt.2 hi) h
    · exact absurd (lo (by omega)) h2
    · rw [hw2 (by omega)]
      refine ok_ix (by omega) (by omega) fun hlt2 => ok_if (fun h3 => ?_) fun _ => hnx trivial
      exact absurd (hi2 (by omega)) h3
  · rw [s_ridgewaylaw14_EdgeTells1]
    refine ok_if (fun h => by omega) fun _ => ok_ifb (fun _ => ok_bde hsane (ok_ifb (fun _ => ok_bd (t_attrSane q.1 (by omega)) fun b _ hb => ok_ifb (fun _ => ok_bd (t_routeSane r hp) fun b2 _ hb2 => ok_ifb (fun _ => ok_if (fun _ => ok_some ?_) fun h => absurd hh h) fun h => ?_) fun h => ?_) fun h => Bool.noConfusion h)) fun h => Bool.noConfusion h
    · exact decide_eq_true ho
    · rw [hb2.2 hro] at h; cases h
    · rw [hb.2 hpa] at h; cases h
end Go.Proofs.Ytkdodhkiemfpeab
