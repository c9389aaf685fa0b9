/- Attributes: what a list comes to when judged. -/
import Derived.Test.YtgakgilaikgboaaT1t3
namespace Go.Proofs.Ytgakgilaikgboaa
open Go.RowKit
set_option linter.unusedVariables false
set_option linter.unusedSimpArgs false
set_option maxRecDepth 100000
set_option maxHeartbeats 1000000

/-- The first of each kind; nothing if one is fatal. -/
def gat : List (Int × Attr) → List Attr → Option (List (Int × Attr))
  | e, [] => some e
  | e, y :: ys => if (mget e y.Typ).isSome = true then gat e ys else if fatalB y = true then none else gat (e ++ [(y.Typ, y)]) ys
theorem set_new {e : List (Int × Attr)} {k : Int} {y : Attr} (h : mget e k = none) : msetL e k y = e ++ [(k, y)] := by
  rw [mget_eq] at h
  induction e with
  | nil => rfl
  | cons p e ih =>
    obtain ⟨a, b⟩ := p
    rw [List.find?_cons] at h
    rw [msetL]
    by_cases hk : a = k
    · rw [decide_eq_true hk] at h; cases h
    · rw [decide_eq_false hk] at h
      rw [if_neg hk, ih h]
      rfl
theorem mget_app {e : List (Int × Attr)} {k t : Int} {y z : Attr} (h : mget (e ++ [(k, y)]) t = some z) : mget e t = some z ∨ z = y := by
  rw [mget_eq, List.find?_append, Option.map_or] at h
  cases he : mget e t with
  | some w => rw [mget_eq] at he; rw [he] at h; exact .inl h
  | none =>
    rw [mget_eq] at he
    rw [he, Option.none_or, List.find?_cons] at h
    by_cases hk : k = t
    · rw [decide_eq_true hk] at h
      cases h
      exact .inr rfl
    · rw [decide_eq_false hk] at h
      cases h
/-- Lists that are few. -/
structure FewA (l : List Attr) : Prop where
  len : l.length ≤ 20
  data : ∀ y ∈ l, y.Data.length ≤ 2000
theorem t_fewA (l : List Attr) (hl : l.length ≤ 9223372036854775807) : Ok (m_ridgewayref07_Few l) fun b => b = true → FewA l := by
  unfold m_ridgewayref07_Few
  refine ok_idx l.length (fun j => ∀ i (h : i < l.length), i < j → l[i].Data.length ≤ 2000) hl (fun _ _ h => absurd h (Nat.not_lt_zero _)) (fun i hi hI nx hnx => ?_) (fun hI nx => ?_)
  · rw [s_ridgewayref07_Few1]
    refine ok_if (fun _ => ok_ix (by omega) (by omega) fun hlt => ok_if (fun _ => ok_some fun k => Bool.noConfusion k) fun h1 => hnx fun j hj hji => ?_) fun h => absurd (Int.ofNat_lt.2 hi) h
    simp only [Int.toNat_natCast] at h1
    rcases Nat.lt_succ_iff_lt_or_eq.1 hji with g | rfl
    · exact hI j hj g
    · omega
  · rw [s_ridgewayref07_Few1]
    refine ok_if (fun h => by omega) fun _ => ok_some fun k => ⟨by have := of_decide_eq_true k; omega, fun y hy => ?_⟩
    obtain ⟨i, h, rfl⟩ := List.getElem_of_mem hy
    exact hI i h h
/-- What is fatal. -/
def Fatal (r : Path × Int × Note) : Prop := r.1 = ⟨0, [], 0, 0⟩ ∧ r.2.1 = 2 ∧ r.2.2.Code = 3 ∧ r.2.2.Sub = 2
theorem t_judge {bk : List (Int × Attr) → Option (Path × Int × Note)} (h0 : ∀ l, m_attr_Judge l = loopC (s_attr_Judge1 l) bk BIG ((0 : Int), []))
    (ho : ∀ e : List (Int × Attr), (∀ t y, mget e t = some y → y.Data.length ≤ 10000) → Ok (bk e) After) (l : List Attr) (f : FewA l) :
    Ok (m_attr_Judge l) fun r => (gat [] l = none → Fatal r) ∧ ∀ e, gat [] l = some e → bk e = some r ∧ After r := by
  have hl := f.len
  rw [h0]
  refine ok_acc' l.length (fun i e => gat e (l.drop i) = gat [] l ∧ ∀ t y, mget e t = some y → y.Data.length ≤ 10000) (by omega) ⟨rfl, fun t y h => by rw [mget_eq] at h; cases h⟩ (fun i e hi hI nx hnx => ?_) (fun e hI nx => ?_)
  · obtain ⟨hI, hd⟩ := hI
    have hy := f.data _ (List.getElem_mem hi)
    rw [List.drop_eq_getElem_cons hi, gat] at hI
    rw [s_attr_Judge1]
    refine ok_if (fun _ => ok_ix (by dsimp only; omega) (by dsimp only; omega) fun hlt => ?_) fun h => absurd (Int.ofNat_lt.2 hi) h
    simp only [Int.toNat_natCast]
    rw [mhas_get]
    cases hg : mget e l[i].Typ with
    | some z =>
      rw [hg, if_pos (show (some z).isSome = true from rfl)] at hI
      rw [show (some z).isSome = true from rfl, cond_true]
      exact ok_bde rfl (hnx _ ⟨hI, hd⟩)
    | none =>
      rw [hg, if_neg (show ¬ (none : Option Attr).isSome = true by decide)] at hI
      rw [show (none : Option Attr).isSome = false from rfl, cond_false]
      refine ok_bde (ms_eq _ _ _) (ok_bde (fatal_eq _) (ok_ifb (fun hf => ?_) fun hf => hnx _ ⟨?_, fun t y h => ?_⟩))
      · rw [if_pos hf] at hI
        exact ok_bd (t_attrPut [] _ (by simp) (by omega)) fun r5 _ _ => ok_some ⟨fun _ => ⟨rfl, rfl, rfl, rfl⟩, fun e' he => by rw [← hI] at he; cases he⟩
      · rw [if_neg (by rw [hf]; decide)] at hI
        rw [set_new hg]
        exact hI
      · rw [set_new hg] at h
        rcases mget_app h with h | rfl
        · exact hd t y h
        · omega
  · obtain ⟨hI, hd⟩ := hI
    rw [List.drop_length, gat] at hI
    rw [s_attr_Judge1]
    refine ok_if (fun h => by dsimp only at h; omega) fun _ => ?_
    obtain ⟨r, e1, e2⟩ := ho e hd
    refine ⟨r, e1, fun h => ?_, fun e' he => ?_⟩
    · rw [← hI] at h; cases h
    · rw [← hI] at he
      cases he
      exact ⟨e1, e2⟩
theorem same_refl (p : Path) (h : p.As.length ≤ 10000) : m_ridgewayref07_SamePath p p = some true := by
  refine ok_true ?_
  unfold m_ridgewayref07_SamePath
  refine ok_if (fun h => absurd rfl h) fun _ => ok_if (fun h => absurd rfl h) fun _ => ok_if (fun h => absurd rfl h) fun _ => ok_if (fun h => absurd rfl h) fun _ => ok_idx p.As.length (fun _ => True) (by omega) trivial (fun i hi _ nx hnx => ?_) (fun _ nx => ?_)
  · rw [s_ridgewayref07_SamePath1]
    exact ok_if (fun _ => ok_ix (by omega) (by omega) fun _ => ok_ix (by omega) (by omega) fun _ => ok_if (fun h => absurd rfl h) fun _ => hnx trivial) fun h => absurd (Int.ofNat_lt.2 hi) h
  · rw [s_ridgewayref07_SamePath1]
    exact ok_if (fun h => by omega) fun _ => ok_some rfl
theorem law07_awake : m_ridgewaylaw07_awake = some true := by kernel_rfl
end Go.Proofs.Ytgakgilaikgboaa
