/- EdgeMarks: what its model comes to. -/
import Derived.Test.YtkdodhkiemfpeabQ3e3
namespace Go.Proofs.Ytkdodhkiemfpeab
open Go.RowKit
set_option linter.unusedVariables false
set_option linter.unusedSimpArgs false
set_option maxRecDepth 100000
set_option maxHeartbeats 1000000

theorem cls_at {c : Conf} {k : Int} {s : Side} (h0 : 0 ≤ k) (h : c.Sides[k.toNat]? = some s) : clsOf c k = s.Rel := by
  unfold clsOf
  rw [if_neg (by omega), h]
  rfl
theorem in_m {rel as otc m : Int} (h : inMark rel as otc = (m, true)) (hr : 1 ≤ rel ∧ rel ≤ 3) (ha : 1 ≤ as) : (rel = 1 ∧ m = 0) ∨ (¬ rel = 1 ∧ ¬ m = 0) := by
  unfold inMark at h
  split at h
  · simp only [Prod.mk.injEq] at h; omega
  · split at h
    · simp only [Prod.mk.injEq] at h; omega
    · split at h
      · simp only [Prod.mk.injEq] at h; omega
      · simp only [Prod.mk.injEq, Bool.false_eq_true, and_false] at h
theorem out_m {rel own otc m : Int} (h : outMark rel own otc = (m, true)) (hr : 1 ≤ rel ∧ rel ≤ 3) (ha : 1 ≤ own) : (rel = 1 ∧ ¬ m = 0) ∨ (rel = 2 ∧ otc = 0 ∧ ¬ m = 0) ∨ (rel = 3 ∧ otc = 0 ∧ m = 0) := by
  unfold outMark at h
  split at h
  · simp only [Prod.mk.injEq] at h; omega
  · split at h
    · simp only [Prod.mk.injEq] at h; omega
    · split at h
      · simp only [Prod.mk.injEq] at h; omega
      · simp only [Prod.mk.injEq, Bool.false_eq_true, and_false] at h
theorem marks_pure {rel as otc m rel2 own m2 : Int} (h : inMark rel as otc = (m, true)) (h2 : outMark rel2 own m = (m2, true)) (hr : 1 ≤ rel ∧ rel ≤ 3) (hr2 : 1 ≤ rel2 ∧ rel2 ≤ 3) (ha : 1 ≤ as) (ho : 1 ≤ own) :
    (rel = 1 ∨ rel2 = 1) ∧ (m = 0 ∨ rel2 = 1) ∧ (decide (rel2 = 3) == decide (m2 = 0)) = true := by
  have k1 := in_m h hr ha
  have k2 := out_m h2 hr2 ho
  rw [beq_iff_eq, decide_eq_decide]
  omega
theorem edgeMarks_true (c : Conf) (k j : Int) (x : Prefix) (p : Path) (hc : c.Sides.length ≤ 9223372036854775807) (hp : p.As.length ≤ 9223372036854775807) : m_ridgewaylaw14_EdgeMarks c k j x p = some true := by
  refine ok_true ?_
  unfold m_ridgewaylaw14_EdgeMarks
  refine ok_bde law14_awake (ok_bd (t_short c p hc) fun b _ hb => ok_ifnb (fun _ => ok_some rfl) fun h => ?_)
  obtain ⟨f, hl⟩ := hb h
  refine ok_bd (t_in c k x p f hp) fun r _ hr => ?_
  have hlr : r.1.P.As.length ≤ 9223372036854775807 := by
    cases h : r.2 with
    | false => rw [hr.2 h]; exact Nat.zero_le _
    | true =>
      obtain ⟨s, rule, m, hs, hk, hsane, hco, hpo, hfst, hno, h32, hmark, hpick, hmem, hact, hN, hre⟩ := hr.1 h
      rw [hre]; dsimp only; omega
  refine ok_bd (t_out c j x r.1 f hlr) fun q _ hq => ok_ifnb (fun h0 => ok_some rfl) fun h1 => ok_ifnb (fun _ => ok_some rfl) fun h2 => ?_
  obtain ⟨s, rule, m, hs, hk, hsane, hco, hpo, hfst, hno, h32, hmark, hpick, hmem, hact, hN, hre⟩ := hr.1 h1
  obtain ⟨s2, rule2, m2, hs2, hk2, _, _, hro, hf1, hf2, hpick2, hmem2, hact2, hmark2, _, _, _, _, hotc⟩ := hq.1 h2
  have hso : SideOk s := by
    obtain ⟨hlt, rfl⟩ := List.getElem?_eq_some_iff.1 hs
    exact hco.2.2.2 _ hlt
  have hso2 : SideOk s2 := by
    obtain ⟨hlt, rfl⟩ := List.getElem?_eq_some_iff.1 hs2
    exact hco.2.2.2 _ hlt
  obtain ⟨e3, e4⟩ := List.getElem?_eq_some_iff.1 hs
  have hrm : r.1.P.Otc = m := by rw [hre]
  rw [hrm] at hmark2
  obtain ⟨g1, g2, g3⟩ := marks_pure hmark hmark2 hso.2.1 hso2.2.1 hso.1.1 hco.1.1
  refine ok_bde (class_eq _ _) (ok_bde (class_eq _ _) (ok_ix hk.1 hk.2 fun hlt => ?_))
  rw [cls_at hk.1 hs, cls_at hk2.1 hs2, e4, hrm, hotc]
  refine ok_bde (roleIn_eq _ _ _) ?_
  rw [hmark]
  refine ok_ifb (fun _ => ok_ifb (fun _ => ok_if (fun _ => ok_if (fun h => ok_if (fun h => ok_some g3) fun h => ok_if (fun _ => ok_some g3) fun h3 => ?_) fun h => ok_if (fun _ => ok_if (fun _ => ok_some g3) fun _ => ok_if (fun _ => ok_some g3) fun h3 => ?_) fun h3 => ?_) fun h => absurd rfl h) fun h => Bool.noConfusion h) fun h => Bool.noConfusion h
  · omega
  · omega
  · omega
end Go.Proofs.Ytkdodhkiemfpeab
