/- RiseBounds: what its model comes to. -/
import Derived.Test.YtpclfdndjillnaaR1f2
namespace Go.Proofs.Ytpclfdndjillnaa
open Go.RowKit
set_option linter.unusedVariables false
set_option linter.unusedSimpArgs false
set_option maxRecDepth 100000
set_option maxHeartbeats 1000000

theorem clsOf_some {c : Conf} {k : Int} {s : Side} (h0 : 0 ≤ k) (e : c.Sides[k.toNat]? = some s) : clsOf c k = s.Rel := by
  unfold clsOf
  rw [if_neg (by omega), e]
  rfl
/-- What is taken lies between the bounds. -/
theorem inR_pref {c : Conf} {k : Int} {x : Prefix} {p : Path} {r : Route} (f : FewC c) (hp : p.As.length ≤ 9223372036854775807) (h : InR c k x p r) : ∃ s, c.Sides[k.toNat]? = some s ∧ 0 ≤ k ∧ (1 ≤ s.Rel ∧ s.Rel ≤ 3) ∧ ∃ y ∈ reach s.Rel s.In, y.Act = 2 ∧ y.N = r.Pref := by
  obtain ⟨s, rule, m, hs, hk, h0, hc, hpa, h1, h2, h3, h4, h5, h6, h7, h8, rfl⟩ := h
  have hlt : k.toNat < c.Sides.length := by omega
  have hso := hc.2.2.2 _ hlt
  have hin := f.ins _ (List.getElem_mem hlt)
  rw [List.getElem?_eq_getElem hlt] at hs
  cases hs
  exact ⟨_, List.getElem?_eq_getElem hlt, hk.1, hso.2.1, rule, pick_reach h5 (by omega) hp, h7, rfl⟩
theorem outR_tells {c : Conf} {k : Int} {x : Prefix} {r : Route} {q : Path} (f : FewC c) (hp : r.P.As.length ≤ 9223372036854775807) (h : OutR c k x r q) : 0 ≤ k ∧ ∃ s, c.Sides[k.toNat]? = some s ∧ ∃ y ∈ reach (clsOf c r.From) s.Out, ¬ y.Act = 0 := by
  obtain ⟨s, rule, m, hs, hk, h0, hc, hr, h1, h2, h3, h4, h5, h6, h7, h8, ho, hh, hm⟩ := h
  have hlt : k.toNat < c.Sides.length := by omega
  have hin := f.outs _ (List.getElem_mem hlt)
  rw [List.getElem?_eq_getElem hlt] at hs
  cases hs
  exact ⟨hk.1, _, List.getElem?_eq_getElem hlt, rule, pick_reach h3 (by omega) hp, h5⟩
theorem inR_len {c : Conf} {k : Int} {x : Prefix} {p : Path} {r : Route} (h : InR c k x p r) : r.P.As.length ≤ 32 ∧ r.From = k := by
  obtain ⟨s, rule, m, hs, hk, h0, hc, hpa, h1, h2, h3, h4, h5, h6, h7, h8, rfl⟩ := h
  exact ⟨h3, rfl⟩
theorem riseBounds_true (c : Conf) (k k2 : Int) (x : Prefix) (p : Path) (hc : c.Sides.length ≤ 9223372036854775807) (hp : p.As.length ≤ 9223372036854775807) : m_ridgewaylaw15_RiseBounds c k k2 x p = some true := by
  refine ok_true ?_
  unfold m_ridgewaylaw15_RiseBounds
  refine ok_bde law15_awake (ok_bd (t_few c hc) fun b _ hb => ok_ifnb (fun _ => ok_some rfl) fun h => ok_if (fun _ => ok_some rfl) fun hl => ?_)
  have f := hb h
  refine ok_bd (t_in c k x p f hp) fun r3 _ h3 => ok_ifnb (fun _ => ok_some rfl) fun h3b => ?_
  have hin := h3.1 h3b
  obtain ⟨s, hs, hk, hrel, y, hy, hya, hyn⟩ := inR_pref f hp hin
  obtain ⟨hlen, hfrom⟩ := inR_len hin
  have hcls := clsOf_some hk hs
  rw [class_eq, hcls, bd_some]
  refine ok_bd (t_low c s.Rel f) fun r5 _ h5 => ok_bd (t_high c k f) fun r6 _ h6 => ok_bd (t_out c k2 x r3.1 f (by omega)) fun r7 _ h7 => ?_
  have hlt : k.toNat < c.Sides.length := by
    rcases Nat.lt_or_ge k.toNat c.Sides.length with h | h
    · exact h
    · rw [List.getElem?_eq_none h] at hs; cases hs
  have hmem : s ∈ c.Sides := by
    rw [List.getElem?_eq_getElem hlt] at hs
    cases hs
    exact List.getElem_mem _
  obtain ⟨l1, l2⟩ := (h5.2 (by omega)).1 y.N ⟨s, hmem, rfl, y, hy, hya, rfl⟩
  obtain ⟨g1, g2⟩ := (h6 s hk hs).1 y hy hya
  refine ok_ifb (fun _ => ok_ifb (fun _ => ok_ifb (fun _ => ok_if (fun _ => ok_if (fun _ => ok_ifnb (fun _ => ok_some rfl) fun ho => ?_) fun h => by omega) fun h => by omega) fun h => by rw [g1] at h; cases h) fun h => by rw [l1] at h; cases h) fun h => Bool.noConfusion h
  have ht := outR_tells f (by omega) (h7.1 ho)
  rw [hfrom, hcls] at ht
  exact ok_bd (t_tells c k2 s.Rel f) fun r8 _ h8 => ok_some (h8.2 ht)
end Go.Proofs.Ytpclfdndjillnaa
