/- AttrTurn: what its model comes to. -/
import Derived.Test.YtgakgilaikgboaaT2t3
namespace Go.Proofs.Ytgakgilaikgboaa
open Go.RowKit
set_option linter.unusedVariables false
set_option linter.unusedSimpArgs false
set_option maxRecDepth 100000
set_option maxHeartbeats 1000000

/-- No kind twice. -/
def Once (l : List Attr) : Prop := l.Pairwise fun a b => ¬ a.Typ = b.Typ
theorem gat_once : ∀ (l : List Attr) (e : List (Int × Attr)), Once l → (∀ y ∈ l, mget e y.Typ = none) → gat e l = if l.any fatalB = true then none else some (e ++ l.map fun y => (y.Typ, y))
  | [], e, _, _ => by simp [gat]
  | y :: ys, e, ho, hn => by
    rw [gat, hn y List.mem_cons_self, if_neg (show ¬ (none : Option Attr).isSome = true by decide), List.any_cons]
    cases hf : fatalB y with
    | true => rw [if_pos rfl, Bool.true_or, if_pos rfl]
    | false =>
      rw [if_neg (by decide), Bool.false_or, gat_once ys (e ++ [(y.Typ, y)]) (List.pairwise_cons.1 ho).2 fun z hz => ?_]
      · split
        · rfl
        · rw [List.map_cons, List.append_assoc]; rfl
      · have h1 := hn z (List.mem_cons_of_mem _ hz)
        have h2 := (List.pairwise_cons.1 ho).1 z hz
        rw [mget_eq] at h1 ⊢
        rw [List.find?_append]
        rw [Option.map_eq_none_iff] at h1
        rw [h1, Option.none_or, List.find?_cons, decide_eq_false h2]
        rfl
theorem mget_once (t : Int) : ∀ (l : List Attr), Once l → ∀ z, mget (l.map fun y => (y.Typ, y)) t = some z ↔ z ∈ l ∧ z.Typ = t
  | [], _, z => by simp [mget_eq]
  | y :: ys, ho, z => by
    have ih := mget_once t ys (List.pairwise_cons.1 ho).2 z
    have hn := (List.pairwise_cons.1 ho).1
    rw [mget_eq] at ih
    rw [mget_eq, List.map_cons, List.find?_cons]
    by_cases hk : y.Typ = t
    · rw [decide_eq_true hk]
      constructor
      · intro h
        cases h
        exact ⟨List.mem_cons_self, hk⟩
      · rintro ⟨hz, ht⟩
        rcases List.mem_cons.1 hz with rfl | hz
        · rfl
        · exact absurd (hk.trans ht.symm) (hn z hz)
    · rw [decide_eq_false hk]
      refine ih.trans ⟨fun ⟨h1, h2⟩ => ⟨List.mem_cons_of_mem _ h1, h2⟩, fun ⟨h1, h2⟩ => ?_⟩
      rcases List.mem_cons.1 h1 with rfl | h1
      · exact absurd h2 hk
      · exact ⟨h1, h2⟩
theorem gat_turn (l : List Attr) (ho : Once l) : (gat [] l = none ∧ gat [] l.reverse = none) ∨ ∃ e e', gat [] l = some e ∧ gat [] l.reverse = some e' ∧ ∀ t, mget e t = mget e' t := by
  have ho' : Once l.reverse := by
    unfold Once
    rw [List.pairwise_reverse]
    exact ho.imp fun h => fun k => h k.symm
  rw [gat_once l [] ho fun y _ => by simp [mget_eq], gat_once l.reverse [] ho' fun y _ => by simp [mget_eq], List.any_reverse]
  split
  · exact .inl ⟨rfl, rfl⟩
  · refine .inr ⟨_, _, rfl, rfl, fun t => ?_⟩
    simp only [List.nil_append]
    refine Option.ext fun z => ?_
    have := mget_once t l ho z
    have := mget_once t l.reverse ho' z
    rw [List.mem_reverse] at this
    simp only [*]
theorem attrTurn_true (l : List Attr) (hl : l.length ≤ 9223372036854775807) : m_ridgewaylaw07_AttrTurn l = some true := by
  refine ok_true ?_
  unfold m_ridgewaylaw07_AttrTurn
  refine ok_bde law07_awake (ok_bd (t_fewA l hl) fun b _ hb => ok_ifnb (fun _ => ok_some rfl) fun h => ?_)
  have f := hb h
  have hlen := f.len
  have hw : IntKind.i64.wrap ((l.length : Int) - 1) = (l.length : Int) - 1 := w64 (by omega) (by omega)
  rw [hw]
  refine ok_loop (fun st => ∃ i : Nat, i ≤ l.length ∧ st.2 = (l.length : Int) - 1 - i ∧ st.1 = l.reverse.take i ∧ Once (l.drop (l.length - i)) ∧ ∀ y ∈ l.drop (l.length - i), ∀ z ∈ l.take (l.length - i), ¬ z.Typ = y.Typ) (fun st => (st.2 + 1).toNat) ⟨0, Nat.zero_le _, by simp, rfl, by simp [Once], by simp⟩ (by dsimp only; omega) ?_
  rintro ⟨b, _⟩ ⟨i, hi, rfl, rfl, hon, hd⟩ nx hnx
  rw [s_ridgewaylaw07_AttrTurn1]
  dsimp only at hnx ⊢
  refine ok_if (fun h1 => ?_) fun h1 => ?_
  · generalize hj : l.length - 1 - i = j
    have hjl : j < l.length := by omega
    have hji : (l.length : Int) - 1 - i = (j : Int) := by omega
    rw [hji]
    refine ok_idx j (fun k => ∀ m (h : m < l.length), m < k → ¬ l[m].Typ = l[j].Typ) (by omega) (fun _ _ h => absurd h (Nat.not_lt_zero _)) (fun k hk hI nx2 hnx2 => ?_) (fun hI nx2 => ?_)
    · rw [s_ridgewaylaw07_AttrTurn2]
      dsimp only
      refine ok_if (fun _ => ok_ix (by omega) (by omega) fun _ => ok_ix (by omega) (by omega) fun _ => ok_if (fun _ => ok_some rfl) fun hne => hnx2 fun m hm hmk => ?_) fun h => absurd (Int.ofNat_lt.2 hk) h
      simp only [Int.toNat_natCast] at hne
      rcases Nat.lt_succ_iff_lt_or_eq.1 hmk with g | rfl
      · exact hI m hm g
      · exact hne
    · rw [s_ridgewaylaw07_AttrTurn2]
      dsimp only
      have hw2 : IntKind.i64.wrap ((j : Int) - 1) = (l.length : Int) - 1 - ((i + 1 : Nat) : Int) := by rw [w64 (by omega) (by omega)]; omega
      refine ok_if (fun h => by omega) fun _ => ok_ix (by omega) (by omega) fun hlt => ok_ap (by simp; omega) (by simp; omega) (hnx _ ⟨i + 1, by omega, hw2, ?_, ?_, ?_⟩ (by dsimp only; rw [hw2]; omega))
      · dsimp only
        rw [← List.take_append_getElem (l := l.reverse) (i := i) (by simp; omega)]
        congr 2
        simp only [Int.toNat_natCast, List.getElem_reverse]
        congr 1
        omega
      · rw [show l.length - (i + 1) = j by omega, List.drop_eq_getElem_cons hjl, show j + 1 = l.length - i by omega]
        refine List.pairwise_cons.2 ⟨fun y hy => hd y hy _ ?_, hon⟩
        rw [List.mem_take_iff_getElem]
        exact ⟨j, by omega, rfl⟩
      · rw [show l.length - (i + 1) = j by omega, List.drop_eq_getElem_cons hjl, show j + 1 = l.length - i by omega]
        intro y hy z hz
        rw [List.mem_take_iff_getElem] at hz
        obtain ⟨m, hm, rfl⟩ := hz
        rcases List.mem_cons.1 hy with rfl | hy
        · exact hI m (by omega) (by omega)
        · exact hd y hy _ (by rw [List.mem_take_iff_getElem]; exact ⟨m, by omega, rfl⟩)
  · have hi2 : i = l.length := by omega
    subst hi2
    rw [show l.length - l.length = 0 by omega, List.drop_zero] at hon
    rw [List.take_of_length_le (by simp)]
    obtain ⟨bk, h0, hc, ho⟩ := judge_ex
    have f2 : FewA l.reverse := ⟨by simpa using hlen, fun y hy => f.data y (by simpa using hy)⟩
    refine ok_bd (t_judge h0 ho l f) fun r7 _ h7 => ok_bd (t_judge h0 ho l.reverse f2) fun r8 _ h8 => ?_
    rcases gat_turn l hon with ⟨g1, g2⟩ | ⟨e, e', g1, g2, g3⟩
    · obtain ⟨a1, a2, a3, a4⟩ := h7.1 g1
      obtain ⟨b1, b2, b3, b4⟩ := h8.1 g2
      refine ok_ifb (fun _ => ok_if (fun _ => ok_bde (x := true) ?_ (ok_ifb (fun _ => ok_if (fun _ => ok_if (fun _ => ok_if (fun _ => ok_some rfl) fun h => by omega) fun h => by omega) fun h => by omega) fun h => Bool.noConfusion h)) fun h => by omega) fun h => Bool.noConfusion h
      rw [a1, b1]
      exact same_refl _ (Nat.zero_le _)
    · obtain ⟨a1, a2, a3, a4⟩ := h7.2 e g1
      obtain ⟨b1, _⟩ := h8.2 e' g2
      rw [← hc e e' fun t => by rw [g3], a1] at b1
      cases b1
      refine ok_ifb (fun _ => ok_if (fun _ => ok_bde (same_refl _ a4) (ok_ifb (fun _ => ok_if (fun _ => ok_if (fun _ => ok_if (fun _ => ok_some rfl) fun h => ok_some (decide_eq_true (by rw [a3]))) fun h => absurd rfl h) fun h => absurd rfl h) fun h => Bool.noConfusion h)) fun h => absurd rfl h) fun h => Bool.noConfusion h
end Go.Proofs.Ytgakgilaikgboaa
