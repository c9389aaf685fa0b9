/- What the models come to. -/
import Derived.Test.YtgakgilaikgboaaQ0
import Derived.Test.YtgakgilaikgboaaMt4
import Derived.KernelRfl
namespace Go.Proofs.Ytgakgilaikgboaa
open Go.RowKit
set_option linter.unusedVariables false
set_option linter.unusedSimpArgs false
set_option maxRecDepth 100000
set_option maxHeartbeats 1000000

theorem wrap_rng (x : Int) : -9223372036854775808 ≤ IntKind.i64.wrap x ∧ IntKind.i64.wrap x ≤ 9223372036854775807 := by
  rw [IntKind.wrap_i64]
  omega
def takeR (l : List UInt8) (n : Int) : List UInt8 × List UInt8 × Bool := if 0 ≤ n ∧ n ≤ l.length then (l.take n.toNat, l.drop n.toNat, true) else ([], [], false)
theorem take_eq (l : List UInt8) (n : Int) : m_octet_Take l n = some (takeR l n) := by
  refine (?_ : Ok (m_octet_Take l n) (· = takeR l n)).elim fun x h => by rw [h.1, h.2]
  unfold m_octet_Take takeR
  refine ok_if (fun h => ok_some (by rw [if_neg (by omega)])) fun h => ok_if (fun h2 => ok_some (by rw [if_neg (by omega)])) fun h2 => ok_bde (sl_pre (by omega)) (ok_bde (sl_all (by omega)) (ok_some (by rw [if_pos (by omega)])))
theorem t_get (l : List UInt8) (n : Int) (hl : l.length ≤ 1000000) : Ok (m_octet_Get l n) fun r => r.2.1.length ≤ l.length ∧ (-9223372036854775808 ≤ r.1 ∧ r.1 ≤ 9223372036854775807) ∧ (¬ r.1 = 0 → 1 ≤ n ∧ n ≤ 4 ∧ r.2.1.length + n.toNat = l.length) := by
  unfold m_octet_Get
  refine ok_if (fun h => ok_some ⟨Nat.zero_le _, by simp, fun k => absurd rfl k⟩) fun h => ok_if (fun h2 => ok_some ⟨Nat.zero_le _, by simp, fun k => absurd rfl k⟩) fun h2 => ok_bde (take_eq _ _) ?_
  unfold takeR
  by_cases hn : 0 ≤ n ∧ n ≤ l.length
  · rw [if_pos hn]
    have ht : (l.take n.toNat).length = n.toNat := by rw [List.length_take]; omega
    have hd : (l.drop n.toNat).length = l.length - n.toNat := List.length_drop
    refine ok_acc n.toNat (fun _ b => -9223372036854775808 ≤ b ∧ b ≤ 9223372036854775807) (by omega) (by simp) (fun i b hi hI nx hnx => ?_) (fun b hI nx => ?_)
    · rw [s_octet_Get1]
      exact ok_if (fun _ => ok_ix (by dsimp only; omega) (by dsimp only; omega) fun hlt => hnx _ (wrap_rng _)) fun h => absurd (show (i : Int) < ((l.take n.toNat).length : Int) by omega) h
    · rw [s_octet_Get1]
      exact ok_if (fun h => absurd h (by dsimp only; omega)) fun _ => ok_some ⟨by dsimp only; omega, hI, fun _ => ⟨by omega, by omega, by dsimp only; omega⟩⟩
  · rw [if_neg hn]
    refine ok_acc 0 (fun _ b => b = 0) (by omega) rfl (fun i b hi hI nx hnx => by omega) (fun b hI nx => ?_)
    rw [s_octet_Get1]
    exact ok_if (fun h => absurd h (by simp)) fun _ => ok_some ⟨Nat.zero_le _, by dsimp only; omega, fun k => absurd hI k⟩
theorem t_put (l : List UInt8) (v n : Int) (hl : l.length ≤ 1000000) : Ok (m_octet_Put l v n) fun r => r.length ≤ l.length + 4 := by
  unfold m_octet_Put
  refine ok_if (fun _ => ok_some (by omega)) fun h1 => ok_if (fun _ => ok_some (by omega)) fun h2 => ok_bde (sl_pre (by omega)) ?_
  rw [Int.toNat_natCast, List.take_length]
  refine ok_acc n.toNat (fun i b => b.length = l.length + i) (by omega) rfl (fun i b hi hI nx hnx => ?_) (fun b hI nx => ?_)
  · rw [s_octet_Put1]
    refine ok_if (fun _ => ?_) fun h => absurd (show (i : Int) < n by omega) h
    have hw : 0 ≤ IntKind.i64.wrap ((8 : Int) * (IntKind.i64.wrap ((IntKind.i64.wrap (n - (1 : Int))) - (i : Int)))) := by
      rw [w64 (x := n - 1) (by omega) (by omega), w64 (x := n - 1 - i) (by omega) (by omega), w64 (by omega) (by omega)]
      omega
    dsimp only
    rw [nn_some hw]
    exact ok_ap (by simp; omega) (by simp; omega) (hnx _ (by simp; omega))
  · rw [s_octet_Put1]
    exact ok_if (fun h => absurd h (by dsimp only; omega)) fun _ => ok_some (by dsimp only; omega)
theorem oct_eq (n : Int) : m_attr_octetSized n = some (decide (0 ≤ n ∧ n ≤ 255)) := by
  refine (?_ : Ok (m_attr_octetSized n) (· = decide (0 ≤ n ∧ n ≤ 255))).elim fun x h => by rw [h.1, h.2]
  unfold m_attr_octetSized
  refine ok_if (fun h => ok_some ?_) fun h => ok_some ?_
  · by_cases h2 : n ≤ 255
    · rw [decide_eq_true h2, decide_eq_true (by omega)]
    · rw [decide_eq_false h2, decide_eq_false (by omega)]
  · rw [decide_eq_false (by omega)]
theorem t_attrPut (l : List UInt8) (y : Attr) (hl : l.length ≤ 500000) (hy : y.Data.length ≤ 10000) : Ok (m_attr_Put l y) fun r => r.length ≤ l.length + 12 + y.Data.length := by
  unfold m_attr_Put
  refine ok_bde (oct_eq _) (ok_ifnb (fun _ => ok_some (by omega)) fun h1 => ok_bde (oct_eq _) (ok_ifnb (fun _ => ok_some (by omega)) fun h2 => ok_if (fun h => by omega) fun _ => ok_if (fun h => ?_) fun h => ?_))
  · exact ok_bd (t_put _ _ _ (by omega)) fun r3 _ h3 => ok_bd (t_put _ _ _ (by omega)) fun r4 _ h4 => ok_bd (t_put _ _ _ (by omega)) fun r5 _ h5 => ok_ap (by omega) (by omega) (ok_some (by simp; omega))
  · exact ok_bd (t_put _ _ _ (by omega)) fun r3 _ h3 => ok_bd (t_put _ _ _ (by omega)) fun r4 _ h4 => ok_bd (t_put _ _ _ (by omega)) fun r5 _ h5 => ok_ap (by omega) (by omega) (ok_some (by simp; omega))
def fatalB (y : Attr) : Bool := (m_attr_fatal y).getD false
theorem fatal_eq (y : Attr) : m_attr_fatal y = some (fatalB y) := by
  have h : Ok (m_attr_fatal y) fun _ => True := by
    unfold m_attr_fatal
    exact ok_if (fun _ => ok_if (fun _ => ok_some trivial) fun _ => ok_ifnb (fun _ => ok_some trivial) fun _ => ok_some trivial) fun _ => ok_ifnb (fun _ => ok_some trivial) fun _ => ok_some trivial
  obtain ⟨b, e, _⟩ := h
  unfold fatalB
  rw [e]
  rfl
theorem t_num (l : List UInt8) (hl : l.length ≤ 1000000) : Ok (m_attr_number l) fun _ => True := by
  unfold m_attr_number
  exact ok_bd (t_get l 4 hl) fun r1 _ h1 => ok_if (fun _ => ok_some trivial) fun _ => ok_some trivial
theorem if_cong {R : Type} {b : Bool} {A A' B B' : R} (h1 : A = A') (h2 : b = false → B = B') : (bif b then A else B) = bif b then A' else B' := by
  cases b
  · exact h2 rfl
  · exact h1
theorem if_cong1 {R : Type} {b : Bool} {A A' B B' : R} (h1 : b = true → A = A') (h2 : B = B') : (bif b then A else B) = bif b then A' else B' := by
  cases b
  · exact h2
  · exact h1 rfl
theorem bd_cong {α R : Type} {m m' : Option α} {k k' : α → Option R} (h : m = m') (h2 : ∀ x, k x = k' x) : bd m k = bd m' k' := by
  rw [h, funext h2]
theorem jn_cong {τ R : Type} {i : Nat} {f f' : (τ → Option R) → Option R} {k k' : τ → Option R} (h : ∀ k, f k = f' k) (h2 : ∀ x, k x = k' x) : jn i f k = jn i f' k' := by
  rw [funext h, funext h2]
/-- What a flag says, and what else an attribute holds. -/
def view (y : Attr) : Int × List UInt8 := (IntKind.i64.wrap ((BitVec.ofInt IntKind.i64.bits y.Flags &&& BitVec.ofInt IntKind.i64.bits (192 : Int)).toNat : Int), y.Data)
/-- What is made of a list with no fatal attribute. -/
def After (r : Path × Int × Note) : Prop := (r.2.1 = 0 ∨ r.2.1 = 1) ∧ r.2.2 = ⟨0, 0, []⟩ ∧ r.1.As.length ≤ 10000
def bad2 : Path × Int × Note := (⟨0, [], 0, 0⟩, 1, ⟨0, 0, []⟩)
theorem after_bad : Ok (some bad2) After := ok_some ⟨.inr rfl, rfl, Nat.zero_le _⟩
theorem judge_ex : ∃ bk : List (Int × Attr) → Option (Path × Int × Note), (∀ l, m_attr_Judge l = loopC (s_attr_Judge1 l) bk BIG ((0 : Int), [])) ∧
    (∀ e e' : List (Int × Attr), (∀ t, (mget e t).map view = (mget e' t).map view) → bk e = bk e') ∧
    (∀ e : List (Int × Attr), (∀ t y, mget e t = some y → y.Data.length ≤ 10000) → Ok (bk e) After) := by
  refine ⟨_, fun l => by unfold m_attr_Judge; rfl, fun e e' h => ?_, fun e h => ?_⟩
  · have key : ∀ t, (∃ y y', mget e t = some y ∧ mget e' t = some y' ∧ mhas e t = true ∧ mhas e' t = true ∧ (IntKind.i64.wrap ((BitVec.ofInt IntKind.i64.bits y.Flags &&& BitVec.ofInt IntKind.i64.bits (192 : Int)).toNat : Int)) = (IntKind.i64.wrap ((BitVec.ofInt IntKind.i64.bits y'.Flags &&& BitVec.ofInt IntKind.i64.bits (192 : Int)).toNat : Int)) ∧ y.Data = y'.Data) ∨ (mhas e t = false ∧ mhas e' t = false) := fun t => by
      have ht := h t
      rw [mhas_get, mhas_get]
      cases h1 : mget e t with
      | none =>
        cases h2 : mget e' t with
        | none => exact .inr ⟨rfl, rfl⟩
        | some y' => rw [h1, h2] at ht; cases ht
      | some y =>
        cases h2 : mget e' t with
        | none => rw [h1, h2] at ht; cases ht
        | some y' =>
          rw [h1, h2] at ht
          simp only [Option.map_some, Option.some.injEq, view, Prod.mk.injEq] at ht
          exact .inl ⟨y, y', rfl, rfl, rfl, rfl, ht.1, ht.2⟩
    have cg : ∀ (t : Int) (F F' : Attr → Option (Path × Int × Note)) (A : Option (Path × Int × Note)), (∀ y y' : Attr, (IntKind.i64.wrap ((BitVec.ofInt IntKind.i64.bits y.Flags &&& BitVec.ofInt IntKind.i64.bits (192 : Int)).toNat : Int)) = (IntKind.i64.wrap ((BitVec.ofInt IntKind.i64.bits y'.Flags &&& BitVec.ofInt IntKind.i64.bits (192 : Int)).toNat : Int)) → y.Data = y'.Data → F y = F' y') →
        (bif mhas e t then bd (mget e t) F else A) = (bif mhas e' t then bd (mget e' t) F' else A) := fun t F F' A hF => by
      rcases key t with ⟨y, y', h1, h2, h3, h4, h5, h6⟩ | ⟨h1, h2⟩
      · rw [h1, h2, h3, h4, cond_true, cond_true, bd_some, bd_some, hF y y' h5 h6]
      · rw [h1, h2, cond_false, cond_false]
    refine cg 1 _ _ _ fun y y' h1 h2 => ?_
    rw [h1, h2]
    refine if_cong rfl fun _ => jn_cong (fun _ => rfl) fun i1 => if_cong rfl fun _ => cg 2 _ _ _ fun y9 y9' h1 h2 => ?_
    rw [h1, h2]
    refine if_cong rfl fun _ => jn_cong (fun _ => rfl) fun i2 => if_cong rfl fun _ => cg 3 _ _ _ fun y14 y14' h1 h2 => ?_
    rw [h1, h2]
    refine if_cong rfl fun _ => bd_cong rfl fun r15 => if_cong rfl fun _ => ?_
    rcases key 4 with ⟨y, y', k1, k2, k3, k4, k5, k6⟩ | ⟨k1, k2⟩
    · rw [k1, k2, k3, k4, cond_true, cond_true, bd_some, bd_some, k5, k6]
      refine if_cong rfl fun _ => if_cong rfl fun _ => cg 35 _ _ _ fun y17 y17' h1 h2 => ?_
      rw [h1, h2]
    · rw [k1, k2, cond_false, cond_false]
      refine cg 35 _ _ _ fun y17 y17' h1 h2 => ?_
      rw [h1, h2]
  · have fork : ∀ (t : Int) (F : Attr → Option (Path × Int × Note)) (A : Option (Path × Int × Note)), (∀ y : Attr, y.Data.length ≤ 10000 → Ok (F y) After) → Ok A After → Ok (bif mhas e t then bd (mget e t) F else A) After := fun t F A hF hA => by
      rw [mhas_get]
      cases h1 : mget e t with
      | none => exact hA
      | some y =>
        rw [bd_some]
        exact hF y (h t y h1)
    have ok0 : ∀ {p : Path}, p.As.length ≤ 10000 → Ok (some (p, (0 : Int), (⟨0, 0, []⟩ : Note))) After := fun hp => ok_some ⟨.inl rfl, rfl, hp⟩
    have o35 : ∀ (i1 : Bool × Int) (i2 : Bool × List Int) (r15 : Int × Bool), i2.2.length ≤ 10000 → Ok (bif mhas e (35 : Int) then
                            bd (mget e (35 : Int)) fun y17 =>
                              bif decide (¬ (IntKind.i64.wrap ((BitVec.ofInt IntKind.i64.bits y17.Flags &&& BitVec.ofInt IntKind.i64.bits (192 : Int)).toNat : Int)) = (192 : Int)) then
                                some ((Path.mk (0 : Int) ([]) (0 : Int) (0 : Int)), (1 : Int), (Note.mk (0 : Int) (0 : Int) ([])))
                              else
                                bd (m_attr_number y17.Data) fun r18 =>
                                bif (!r18.2) then
                                  some ((Path.mk (0 : Int) ([]) (0 : Int) (0 : Int)), (1 : Int), (Note.mk (0 : Int) (0 : Int) ([])))
                                else
                                  some ((Path.mk i1.2 i2.2 r15.1 r18.1), (0 : Int), (Note.mk (0 : Int) (0 : Int) ([])))
                            else
                              some ((Path.mk i1.2 i2.2 r15.1 (0 : Int)), (0 : Int), (Note.mk (0 : Int) (0 : Int) ([])))) After := fun i1 i2 r15 h2 =>
      fork 35 _ _ (fun y hy => ok_if (fun _ => after_bad) fun _ => ok_bd (t_num _ (by omega)) fun _ _ _ => ok_ifnb (fun _ => after_bad) fun _ => ok0 h2) (ok0 h2)
    refine fork 1 _ _ (fun y hy => ok_if (fun _ => after_bad) fun _ => ok_jn (fun _ => True) (fun k hk => ok_if (fun _ => hk _ trivial) fun hl => ok_ix (by omega) (by omega) fun _ => ok_if (fun _ => hk _ trivial) fun _ => ok_ix (by omega) (by omega) fun _ => hk _ trivial) fun i1 _ => ok_ifnb (fun _ => after_bad) fun _ => ?_) after_bad
    refine fork 2 _ _ (fun y9 hy9 => ok_if (fun _ => after_bad) fun _ => ok_jn (fun j => j.2.length ≤ 10000) (fun k hk => ?_) fun i2 hi2 => ok_ifnb (fun _ => after_bad) fun _ => ?_) after_bad
    · refine ok_loop (fun st => st.1.length + st.2.length ≤ 10000) (fun st => st.1.length) (by simpa using hy9) (by dsimp only; omega) fun st hst nx hnx => ?_
      rw [s_attr_Judge2]
      refine ok_if (fun h0 => ok_bd (t_get _ 1 (by omega)) fun r10 _ h10 => ok_bd (t_get _ 1 (by omega)) fun r11 _ h11 => ok_if (fun _ => hk _ (by dsimp only; omega)) fun q1 => ok_if (fun _ => hk _ (by dsimp only; omega)) fun q2 => ?_) fun _ => hk _ (by dsimp only; omega)
      have g10 := h10.2.2 (by omega)
      have g11 := h11.2.2 q2
      refine ok_loop (fun s3 => 0 ≤ s3.2.1 ∧ s3.1.length + s3.2.2.length ≤ 9998 ∧ s3.1.length < st.1.length) (fun s3 => (9223372036854775807 - s3.2.1).toNat) ⟨Int.le_refl _, by dsimp only; omega, by dsimp only; omega⟩ (by dsimp only; omega) fun s3 hs3 nx3 hnx3 => ?_
      rw [s_attr_Judge3]
      refine ok_if (fun h3 => ok_bd (t_get _ 4 (by omega)) fun r12 _ h12 => ok_if (fun _ => hk _ (by dsimp only; omega)) fun q3 => ?_) fun _ => hnx _ (by dsimp only; omega) (by dsimp only; omega)
      have g12 := h12.2.2 q3
      refine ok_ap (by simp; omega) (by simp; omega) (hnx3 _ ?_ ?_)
      · simp only [List.length_append, List.length_singleton]
        rw [w64 (by omega) (by omega)]
        omega
      · dsimp only
        rw [w64 (by omega) (by omega)]
        omega
    · refine fork 3 _ _ (fun y14 hy14 => ok_if (fun _ => after_bad) fun _ => ok_bd (t_num _ (by omega)) fun r15 _ _ => ok_ifnb (fun _ => after_bad) fun _ => fork 4 _ _ (fun y16 hy16 => ok_if (fun _ => after_bad) fun _ => ok_ifn (fun _ => after_bad) fun _ => o35 i1 i2 r15 hi2) (o35 i1 i2 r15 hi2)) after_bad
end Go.Proofs.Ytgakgilaikgboaa
namespace Go.Proofs.Ytgakgilaikgboaa
open Go.RowKit
set_option linter.unusedVariables false
set_option linter.unusedSimpArgs false
set_option maxRecDepth 100000
set_option maxHeartbeats 1000000

/-- The first of each kind; nothing if one is fatal. -/
def gat : List (Int × Attr) → List Attr → Option (List (Int × Attr))
  | e, [] => some e
  | e, y :: ys => if (mget e y.Typ).isSome = true then gat e ys else if fatalB y = true then none else gat (e ++ [(y.Typ, y)]) ys
theorem set_new {e : List (Int × Attr)} {k : Int} {y : Attr} (h : mget e k = none) : msetL e k y = e ++ [(k, y)] := by
  rw [mget_eq] at h
  induction e with
  | nil => rfl
  | cons p e ih =>
    obtain ⟨a, b⟩ := p
    rw [List.find?_cons] at h
    rw [msetL]
    by_cases hk : a = k
    · rw [decide_eq_true hk] at h; cases h
    · rw [decide_eq_false hk] at h
      rw [if_neg hk, ih h]
      rfl
theorem mget_app {e : List (Int × Attr)} {k t : Int} {y z : Attr} (h : mget (e ++ [(k, y)]) t = some z) : mget e t = some z ∨ z = y := by
  rw [mget_eq, List.find?_append, Option.map_or] at h
  cases he : mget e t with
  | some w => rw [mget_eq] at he; rw [he] at h; exact .inl h
  | none =>
    rw [mget_eq] at he
    rw [he, Option.none_or, List.find?_cons] at h
    by_cases hk : k = t
    · rw [decide_eq_true hk] at h
      cases h
      exact .inr rfl
    · rw [decide_eq_false hk] at h
      cases h
/-- Lists that are few. -/
structure FewA (l : List Attr) : Prop where
  len : l.length ≤ 20
  data : ∀ y ∈ l, y.Data.length ≤ 2000
theorem t_fewA (l : List Attr) (hl : l.length ≤ 9223372036854775807) : Ok (m_ridgewayref07_Few l) fun b => b = true → FewA l := by
  unfold m_ridgewayref07_Few
  refine ok_idx l.length (fun j => ∀ i (h : i < l.length), i < j → l[i].Data.length ≤ 2000) hl (fun _ _ h => absurd h (Nat.not_lt_zero _)) (fun i hi hI nx hnx => ?_) (fun hI nx => ?_)
  · rw [s_ridgewayref07_Few1]
    refine ok_if (fun _ => ok_ix (by omega) (by omega) fun hlt => ok_if (fun _ => ok_some fun k => Bool.noConfusion k) fun h1 => hnx fun j hj hji => ?_) fun h => absurd (Int.ofNat_lt.2 hi) h
    simp only [Int.toNat_natCast] at h1
    rcases Nat.lt_succ_iff_lt_or_eq.1 hji with g | rfl
    · exact hI j hj g
    · omega
  · rw [s_ridgewayref07_Few1]
    refine ok_if (fun h => by omega) fun _ => ok_some fun k => ⟨by have := of_decide_eq_true k; omega, fun y hy => ?_⟩
    obtain ⟨i, h, rfl⟩ := List.getElem_of_mem hy
    exact hI i h h
/-- What is fatal. -/
def Fatal (r : Path × Int × Note) : Prop := r.1 = ⟨0, [], 0, 0⟩ ∧ r.2.1 = 2 ∧ r.2.2.Code = 3 ∧ r.2.2.Sub = 2
theorem t_judge {bk : List (Int × Attr) → Option (Path × Int × Note)} (h0 : ∀ l, m_attr_Judge l = loopC (s_attr_Judge1 l) bk BIG ((0 : Int), []))
    (ho : ∀ e : List (Int × Attr), (∀ t y, mget e t = some y → y.Data.length ≤ 10000) → Ok (bk e) After) (l : List Attr) (f : FewA l) :
    Ok (m_attr_Judge l) fun r => (gat [] l = none → Fatal r) ∧ ∀ e, gat [] l = some e → bk e = some r ∧ After r := by
  have hl := f.len
  rw [h0]
  refine ok_acc' l.length (fun i e => gat e (l.drop i) = gat [] l ∧ ∀ t y, mget e t = some y → y.Data.length ≤ 10000) (by omega) ⟨rfl, fun t y h => by rw [mget_eq] at h; cases h⟩ (fun i e hi hI nx hnx => ?_) (fun e hI nx => ?_)
  · obtain ⟨hI, hd⟩ := hI
    have hy := f.data _ (List.getElem_mem hi)
    rw [List.drop_eq_getElem_cons hi, gat] at hI
    rw [s_attr_Judge1]
    refine ok_if (fun _ => ok_ix (by dsimp only; omega) (by dsimp only; omega) fun hlt => ?_) fun h => absurd (Int.ofNat_lt.2 hi) h
    simp only [Int.toNat_natCast]
    rw [mhas_get]
    cases hg : mget e l[i].Typ with
    | some z =>
      rw [hg, if_pos (show (some z).isSome = true from rfl)] at hI
      rw [show (some z).isSome = true from rfl, cond_true]
      exact ok_bde rfl (hnx _ ⟨hI, hd⟩)
    | none =>
      rw [hg, if_neg (show ¬ (none : Option Attr).isSome = true by decide)] at hI
      rw [show (none : Option Attr).isSome = false from rfl, cond_false]
      refine ok_bde (ms_eq _ _ _) (ok_bde (fatal_eq _) (ok_ifb (fun hf => ?_) fun hf => hnx _ ⟨?_, fun t y h => ?_⟩))
      · rw [if_pos hf] at hI
        exact ok_bd (t_attrPut [] _ (by simp) (by omega)) fun r5 _ _ => ok_some ⟨fun _ => ⟨rfl, rfl, rfl, rfl⟩, fun e' he => by rw [← hI] at he; cases he⟩
      · rw [if_neg (by rw [hf]; decide)] at hI
        rw [set_new hg]
        exact hI
      · rw [set_new hg] at h
        rcases mget_app h with h | rfl
        · exact hd t y h
        · omega
  · obtain ⟨hI, hd⟩ := hI
    rw [List.drop_length, gat] at hI
    rw [s_attr_Judge1]
    refine ok_if (fun h => by dsimp only at h; omega) fun _ => ?_
    obtain ⟨r, e1, e2⟩ := ho e hd
    refine ⟨r, e1, fun h => ?_, fun e' he => ?_⟩
    · rw [← hI] at h; cases h
    · rw [← hI] at he
      cases he
      exact ⟨e1, e2⟩
theorem same_refl (p : Path) (h : p.As.length ≤ 10000) : m_ridgewayref07_SamePath p p = some true := by
  refine ok_true ?_
  unfold m_ridgewayref07_SamePath
  refine ok_if (fun h => absurd rfl h) fun _ => ok_if (fun h => absurd rfl h) fun _ => ok_if (fun h => absurd rfl h) fun _ => ok_if (fun h => absurd rfl h) fun _ => ok_idx p.As.length (fun _ => True) (by omega) trivial (fun i hi _ nx hnx => ?_) (fun _ nx => ?_)
  · rw [s_ridgewayref07_SamePath1]
    exact ok_if (fun _ => ok_ix (by omega) (by omega) fun _ => ok_ix (by omega) (by omega) fun _ => ok_if (fun h => absurd rfl h) fun _ => hnx trivial) fun h => absurd (Int.ofNat_lt.2 hi) h
  · rw [s_ridgewayref07_SamePath1]
    exact ok_if (fun h => by omega) fun _ => ok_some rfl
theorem law07_awake : m_ridgewaylaw07_awake = some true := by kernel_rfl
end Go.Proofs.Ytgakgilaikgboaa
namespace Go.Proofs.Ytgakgilaikgboaa
open Go.RowKit
set_option linter.unusedVariables false
set_option linter.unusedSimpArgs false
set_option maxRecDepth 100000
set_option maxHeartbeats 1000000

/-- What of an entry, of an attribute, is looked at. -/
def pv (p : Int × Attr) : Int × (Int × List UInt8) := (p.1, view p.2)
def av (y : Attr) : Int × (Int × List UInt8) × Bool := (y.Typ, view y, fatalB y)
theorem mget_pv (t : Int) (e : List (Int × Attr)) : (mget e t).map view = ((e.map pv).find? fun p => decide (p.1 = t)).map (·.2) := by
  rw [mget_eq]
  induction e with
  | nil => rfl
  | cons p e ih =>
    rw [List.find?_cons, List.map_cons, List.find?_cons]
    show _ = Option.map _ (match decide (p.1 = t) with | true => _ | false => _)
    cases decide (p.1 = t) with
    | true => rfl
    | false => exact ih
theorem mget_some (t : Int) (e e' : List (Int × Attr)) (h : e.map pv = e'.map pv) : (mget e t).isSome = (mget e' t).isSome := by
  have h1 := mget_pv t e
  have h2 := mget_pv t e'
  rw [h, ← h2] at h1
  have := congrArg Option.isSome h1
  simpa using this
theorem gat_pv : ∀ (l l' : List Attr) (e e' : List (Int × Attr)), l.map av = l'.map av → e.map pv = e'.map pv → (gat e l = none ∧ gat e' l' = none) ∨ ∃ r r', gat e l = some r ∧ gat e' l' = some r' ∧ r.map pv = r'.map pv
  | [], [], e, e', _, h => .inr ⟨e, e', rfl, rfl, h⟩
  | [], _ :: _, _, _, h, _ => by cases h
  | _ :: _, [], _, _, h, _ => by cases h
  | y :: ys, z :: zs, e, e', h, he => by
    simp only [List.map_cons, List.cons.injEq, av, Prod.mk.injEq] at h
    obtain ⟨⟨h1, h2, h3⟩, h4⟩ := h
    rw [gat, gat, ← h1, ← mget_some y.Typ e e' he, ← h3]
    split
    · exact gat_pv ys zs e e' h4 he
    · split
      · exact .inl ⟨rfl, rfl⟩
      · refine gat_pv ys zs _ _ h4 ?_
        rw [List.map_append, List.map_append, he]
        simp only [List.map_cons, List.map_nil, pv, h2]
theorem bits_back1 (b : BitVec 64) : BitVec.ofInt 64 (IntKind.i64.wrap (b.toNat : Int)) = b := by
  rw [IntKind.wrap_i64]
  apply BitVec.eq_of_toNat_eq
  rw [BitVec.toNat_ofInt]
  have := b.isLt
  omega
theorem bits_back (b : BitVec IntKind.i64.bits) : BitVec.ofInt IntKind.i64.bits (IntKind.i64.wrap (b.toNat : Int)) = b := bits_back1 b
theorem mask_off (x y m : BitVec 64) (h : ∀ i, i < 64 → ((63#64).getLsbD i && m.getLsbD i) = false) : (x ^^^ (y &&& 63#64)) &&& m = x &&& m := by
  refine BitVec.eq_of_getLsbD_eq fun i hi => ?_
  have := h i hi
  simp only [BitVec.getLsbD_and, BitVec.getLsbD_xor]
  cases h1 : (63#64).getLsbD i <;> cases h2 : m.getLsbD i <;> simp_all
theorem mask_fl (f a : Int) (m : Int) (h : ∀ i, i < 64 → ((63#64).getLsbD i && (BitVec.ofInt 64 m).getLsbD i) = false) : BitVec.ofInt IntKind.i64.bits (IntKind.i64.wrap ((BitVec.ofInt IntKind.i64.bits f ^^^ BitVec.ofInt IntKind.i64.bits (IntKind.i64.wrap ((BitVec.ofInt IntKind.i64.bits a &&& BitVec.ofInt IntKind.i64.bits (63 : Int)).toNat : Int))).toNat : Int)) &&& BitVec.ofInt IntKind.i64.bits m = BitVec.ofInt IntKind.i64.bits f &&& BitVec.ofInt IntKind.i64.bits m := by
  rw [bits_back, bits_back]
  exact mask_off _ _ _ h
/-- Other low bits in the flags. -/
def twist (a : Int) (y : Attr) : Attr := ⟨IntKind.i64.wrap ((BitVec.ofInt IntKind.i64.bits y.Flags ^^^ BitVec.ofInt IntKind.i64.bits (IntKind.i64.wrap ((BitVec.ofInt IntKind.i64.bits a &&& BitVec.ofInt IntKind.i64.bits (63 : Int)).toNat : Int))).toNat : Int), y.Typ, y.Data⟩
theorem twist_av (a : Int) (y : Attr) : av (twist a y) = av y := by
  unfold av view fatalB m_attr_fatal twist
  dsimp only
  rw [mask_fl y.Flags a 192 (by decide), mask_fl y.Flags a 128 (by decide)]
theorem an_some {α : Type} {b : Nat} {ys : List α} (h1 : 0 < ys.length) (h : ys.length * b ≤ 140737488355328) (h2 : ys.length ≤ 140737488355328) : an b ys = some ys := by
  rw [an_eq, if_pos ⟨h1, h, by unfold maxLen; omega⟩]
theorem ixn_some {α : Type} {xs : List α} {i : Int} {y : α} (h : ix xs i = some y) : ixn xs.length xs i = some y := by
  rw [ixn_eq, if_pos rfl, h]
theorem fzn_some {α : Type} {n : Nat} {xs : List α} (h : n = xs.length) : fzn n xs = some () := by
  rw [fzn_eq, if_pos h]
theorem note_refl : m_ridgewayref03_SameNote ⟨0, 0, []⟩ ⟨0, 0, []⟩ = some true := by kernel_rfl
theorem attrFlags_true (l : List Attr) (i a : Int) (hl : l.length ≤ 9223372036854775807) : m_ridgewaylaw07_AttrFlags l i a = some true := by
  refine ok_true ?_
  unfold m_ridgewaylaw07_AttrFlags
  refine ok_bde law07_awake (ok_bd (t_fewA l hl) fun b _ hb => ok_ifnb (fun _ => ok_some rfl) fun h => ok_if (fun _ => ok_some rfl) fun h0 => ?_)
  have f := hb h
  have hlen := f.len
  rw [nz_some h0]
  refine ok_if (fun h => absurd h h0) fun _ => ok_bde (an_some (by omega) (by omega) (by omega)) ?_
  generalize hk : (IntKind.i64.wrap ((BitVec.ofInt IntKind.i64.bits i &&& BitVec.ofInt IntKind.i64.bits (65535 : Int)).toNat : Int)).tmod (l.length : Int) = k
  have hk0 : 0 ≤ k := by
    rw [← hk]
    refine Int.tmod_nonneg _ ?_
    have h1 : (BitVec.ofInt IntKind.i64.bits i &&& BitVec.ofInt IntKind.i64.bits (65535 : Int)).toNat ≤ 65535 := by
      rw [BitVec.toNat_and]
      exact Nat.le_trans Nat.and_le_right (by decide)
    rw [w64 (by omega) (by omega)]
    omega
  have hk1 : k < l.length := by
    rw [← hk]
    exact Int.tmod_lt_of_pos _ (by omega)
  have hkl : k.toNat < l.length := by omega
  have hix : ix l k = some l[k.toNat] := ix_some hk0 (List.getElem?_eq_getElem hkl)
  refine ok_bde (ixn_some hix) (ok_bde (ixn_some hix) (ok_bde (up_eq _ _ _) (ok_bde (fzn_some (by simp)) ?_)))
  have hm : (l.set k.toNat (twist a l[k.toNat])).map av = l.map av := by
    rw [List.map_set, twist_av]
    refine List.ext_getElem (by simp) fun n h1 h2 => ?_
    rw [List.getElem_set]
    split
    · rename_i h; subst h; simp
    · rfl
  have f2 : FewA (l.set k.toNat (twist a l[k.toNat])) := ⟨by simpa using hlen, fun y hy => by
    rcases List.mem_or_eq_of_mem_set hy with h | rfl
    · exact f.data y h
    · exact f.data l[k.toNat] (List.getElem_mem hkl)⟩
  show Ok (bd (m_attr_Judge l) fun r7 => bd (m_attr_Judge (l.set k.toNat (twist a l[k.toNat]))) _) _
  obtain ⟨bk, h0, hc, ho⟩ := judge_ex
  refine ok_bd (t_judge h0 ho l f) fun r7 _ h7 => ok_bd (t_judge h0 ho _ f2) fun r8 _ h8 => ?_
  rcases gat_pv _ _ [] [] hm rfl with ⟨g2, g1⟩ | ⟨e', e, g2, g1, g3⟩
  · obtain ⟨a1, a2, a3, a4⟩ := h7.1 g1
    obtain ⟨b1, b2, b3, b4⟩ := h8.1 g2
    refine ok_ifb (fun _ => ok_if (fun _ => ok_bde (x := true) ?_ (ok_ifb (fun _ => ok_if (fun _ => ok_if (fun _ => ok_some rfl) fun h => by omega) fun h => by omega) fun h => Bool.noConfusion h)) fun h => by omega) fun h => Bool.noConfusion h
    rw [a1, b1]
    exact same_refl _ (Nat.zero_le _)
  · obtain ⟨a1, a2, a3, a4⟩ := h7.2 e g1
    obtain ⟨b1, _⟩ := h8.2 e' g2
    rw [← hc e e' fun t => by rw [mget_pv, mget_pv, g3], a1] at b1
    cases b1
    refine ok_ifb (fun _ => ok_if (fun _ => ok_bde (same_refl _ a4) (ok_ifb (fun _ => ok_if (fun _ => ok_if (fun _ => ok_some rfl) fun _ => ?_) fun h => absurd rfl h) fun h => Bool.noConfusion h)) fun h => absurd rfl h) fun h => Bool.noConfusion h
    rw [a3]
    exact ok_bde note_refl (ok_some rfl)
end Go.Proofs.Ytgakgilaikgboaa
