/- What the models come to. -/
import Derived.Test.YtkdodhkiemfpeaaPu0
import Derived.Test.YtkdodhkiemfpeaaMu1
import Derived.Test.YtkdodhkiemfpeaaQ0
import Derived.Test.YtkdodhkiemfpeaaNum
import Derived.KernelRfl
namespace Go.Proofs.Ytkdodhkiemfpeaa
open Go.RowKit
set_option linter.unusedVariables false
set_option linter.unusedSimpArgs false

theorem octTake_eq (l : List UInt8) (n : Int) : m_octet_Take l n = some (if 0 ≤ n ∧ n ≤ l.length then (l.take n.toNat, l.drop n.toNat, true) else ([], [], false)) := by
  unfold m_octet_Take
  by_cases h1 : n < 0
  · rw [decide_eq_true h1, cond_true, if_neg (by omega)]
  rw [decide_eq_false h1, cond_false]
  by_cases h2 : n > (l.length : Int)
  · rw [decide_eq_true h2, cond_true, if_neg (by omega)]
  rw [decide_eq_false h2, cond_false, sl_pre (by omega), bd_some, sl_all (by omega), bd_some, if_pos (by omega)]
theorem octGet_eq (l : List UInt8) (a : Int) (h1 : 1 ≤ a) (h4 : a ≤ 4) : m_octet_Get l a = some (if a ≤ l.length then (((num (l.take a.toNat) : Nat) : Int), l.drop a.toNat, true) else (0, [], false)) := by
  unfold m_octet_Get
  rw [decide_eq_false (by omega), cond_false, decide_eq_false (by omega), cond_false, octTake_eq, bd_some]
  by_cases hk : a ≤ l.length
  · rw [if_pos (by omega), if_pos hk]
    refine loopC_ind (fun st => ∃ j : Nat, j ≤ a.toNat ∧ st = (((num (l.take j) : Nat) : Int), (j : Int))) (fun st => (a - st.2).toNat) ?_ _ _ ⟨0, Nat.zero_le _, by simp [num]⟩ (big_lt (by simp; omega))
    rintro st ⟨j, hj, rfl⟩ nx hnx
    unfold s_octet_Get1
    have hlen : (l.take a.toNat).length = a.toNat := by rw [List.length_take]; omega
    simp only [hlen]
    by_cases hlt : j < a.toNat
    · rw [decide_eq_true (by omega), cond_true, ix_nat (by rw [hlen]; exact hlt), bd_some, List.getElem_take]
      have hb : l[j].toNat < 256 := l[j].toNat_lt
      have hnl : num (l.take j) < 16777216 := by
        have := num_lt (l.take j)
        have : 256 ^ (l.take j).length ≤ 256 ^ 3 := Nat.pow_le_pow_right (by omega) (by rw [List.length_take]; omega)
        omega
      have e1 : IntKind.i64.wrap ((num (l.take j) : Nat) * 2 ^ (min (8 : Int).toNat IntKind.i64.bits) : Int) = (num (l.take j) : Nat) * 256 := by
        rw [show (2 : Int) ^ (min (8 : Int).toNat IntKind.i64.bits) = 256 from rfl, w64 (by omega) (by omega)]
      have e2 : IntKind.i64.wrap (l[j].toNat : Int) = l[j].toNat := w64 (by omega) (by omega)
      have e3 := or_byte (num (l.take j)) l[j].toNat hb hnl
      simp only [bits] at e3
      have e4 := num_step l j (by omega)
      rw [e1, e2, e3, ← e4, w64 (by omega) (by omega)]
      exact hnx _ ⟨j + 1, by omega, by simp⟩ (by simp; omega)
    · obtain rfl : j = a.toNat := by omega
      rw [decide_eq_false (by omega), cond_false]
  · rw [if_neg (by omega), if_neg hk]
    rw [show BIG = (BIG - 1) + 1 from rfl, loopC_succ]
    rfl
theorem u8_fdiv' (v : Int) (j : Nat) (h : j ≤ 3) : toB (IntKind.u8.wrap (v.fdiv (2 ^ (min (8 * j) 64)))) = octAt v j := by
  have : v.fdiv (2 ^ (8 * j)) = v / 2 ^ (8 * j) := by
    rw [Int.fdiv_eq_ediv_of_nonneg]
    exact Int.le_of_lt (Int.pow_pos (by decide))
  rw [Nat.min_eq_left (by omega), this, u8wrap_eq]
  rfl
theorem octPut_eq (l : List UInt8) (v a : Int) (h1 : 1 ≤ a) (h4 : a ≤ 4) (hl : l.length ≤ 140737488355000) : m_octet_Put l v a = some (l ++ putL v a.toNat) := by
  unfold m_octet_Put
  rw [decide_eq_false (by omega), cond_false, decide_eq_false (by omega), cond_false, sl_pre (by omega), bd_some, Int.toNat_natCast, List.take_length]
  refine loopC_ind (fun st => ∃ j : Nat, j ≤ a.toNat ∧ st = (l ++ (putL v a.toNat).take j, (j : Int))) (fun st => (a - st.2).toNat) ?_ _ _ ⟨0, Nat.zero_le _, by simp⟩ (big_lt (by simp; omega))
  rintro st ⟨j, hj, rfl⟩ nx hnx
  unfold s_octet_Put1
  by_cases hlt : j < a.toNat
  · rw [decide_eq_true (by simp only; omega), cond_true]
    have e1 : IntKind.i64.wrap (8 * IntKind.i64.wrap (IntKind.i64.wrap (a - 1) - (j : Int))) = ((8 * (a.toNat - 1 - j) : Nat) : Int) := by
      rw [w64 (x := a - 1) (by omega) (by omega), w64 (x := a - 1 - (j : Int)) (by omega) (by omega), w64 (by omega) (by omega)]
      omega
    simp only [e1]
    rw [nn_some (by omega), Int.toNat_natCast, show IntKind.i64.bits = 64 from rfl, u8_fdiv' v _ (by omega), ap_some (by simp; omega) (by simp; omega), bd_some, w64 (by omega) (by omega), List.append_assoc, ← putL_step v a.toNat j hlt]
    exact hnx _ ⟨j + 1, by omega, by simp⟩ (by simp; omega)
  · obtain rfl : j = a.toNat := by omega
    rw [decide_eq_false (by simp only; omega), cond_false, List.take_of_length_le (by rw [putL_length]; exact Nat.le_refl _)]
end Go.Proofs.Ytkdodhkiemfpeaa
namespace Go.Proofs.Ytkdodhkiemfpeaa
open Go.RowKit
set_option linter.unusedVariables false
set_option linter.unusedSimpArgs false
set_option maxRecDepth 100000
set_option maxHeartbeats 1000000
theorem wrap_rng (x : Int) : -9223372036854775808 ≤ IntKind.i64.wrap x ∧ IntKind.i64.wrap x ≤ 9223372036854775807 := by
  rw [IntKind.wrap_i64]
  omega
def takeR (l : List UInt8) (n : Int) : List UInt8 × List UInt8 × Bool := if 0 ≤ n ∧ n ≤ l.length then (l.take n.toNat, l.drop n.toNat, true) else ([], [], false)
theorem take_eq (l : List UInt8) (n : Int) : m_octet_Take l n = some (takeR l n) := by
  refine (?_ : Ok (m_octet_Take l n) (· = takeR l n)).elim fun x h => by rw [h.1, h.2]
  unfold m_octet_Take takeR
  refine ok_if (fun h => ok_some (by rw [if_neg (by omega)])) fun h => ok_if (fun h2 => ok_some (by rw [if_neg (by omega)])) fun h2 => ok_bde (sl_pre (by omega)) (ok_bde (sl_all (by omega)) (ok_some (by rw [if_pos (by omega)])))
theorem t_get (l : List UInt8) (n : Int) (hl : l.length ≤ 1000000) : Ok (m_octet_Get l n) fun r => r.2.1.length ≤ l.length ∧ (-9223372036854775808 ≤ r.1 ∧ r.1 ≤ 9223372036854775807) ∧ (¬ r.1 = 0 → 1 ≤ n ∧ n ≤ 4 ∧ r.2.1.length + n.toNat = l.length) := by
  unfold m_octet_Get
  refine ok_if (fun h => ok_some ⟨Nat.zero_le _, by simp, fun k => absurd rfl k⟩) fun h => ok_if (fun h2 => ok_some ⟨Nat.zero_le _, by simp, fun k => absurd rfl k⟩) fun h2 => ok_bde (take_eq _ _) ?_
  unfold takeR
  by_cases hn : 0 ≤ n ∧ n ≤ l.length
  · rw [if_pos hn]
    have ht : (l.take n.toNat).length = n.toNat := by rw [List.length_take]; omega
    have hd : (l.drop n.toNat).length = l.length - n.toNat := List.length_drop
    refine ok_acc n.toNat (fun _ b => -9223372036854775808 ≤ b ∧ b ≤ 9223372036854775807) (by omega) (by simp) (fun i b hi hI nx hnx => ?_) (fun b hI nx => ?_)
    · rw [s_octet_Get1]
      exact ok_if (fun _ => ok_ix (by dsimp only; omega) (by dsimp only; omega) fun hlt => hnx _ (wrap_rng _)) fun h => absurd (show (i : Int) < ((l.take n.toNat).length : Int) by omega) h
    · rw [s_octet_Get1]
      exact ok_if (fun h => absurd h (by dsimp only; omega)) fun _ => ok_some ⟨by dsimp only; omega, hI, fun _ => ⟨by omega, by omega, by dsimp only; omega⟩⟩
  · rw [if_neg hn]
    refine ok_acc 0 (fun _ b => b = 0) (by omega) rfl (fun i b hi hI nx hnx => by omega) (fun b hI nx => ?_)
    rw [s_octet_Get1]
    exact ok_if (fun h => absurd h (by simp)) fun _ => ok_some ⟨Nat.zero_le _, by dsimp only; omega, fun k => absurd hI k⟩
theorem t_put (l : List UInt8) (v n : Int) (hl : l.length ≤ 1000000) : Ok (m_octet_Put l v n) fun r => r.length ≤ l.length + 4 := by
  unfold m_octet_Put
  refine ok_if (fun _ => ok_some (by omega)) fun h1 => ok_if (fun _ => ok_some (by omega)) fun h2 => ok_bde (sl_pre (by omega)) ?_
  rw [Int.toNat_natCast, List.take_length]
  refine ok_acc n.toNat (fun i b => b.length = l.length + i) (by omega) rfl (fun i b hi hI nx hnx => ?_) (fun b hI nx => ?_)
  · rw [s_octet_Put1]
    refine ok_if (fun _ => ?_) fun h => absurd (show (i : Int) < n by omega) h
    have hw : 0 ≤ IntKind.i64.wrap ((8 : Int) * (IntKind.i64.wrap ((IntKind.i64.wrap (n - (1 : Int))) - (i : Int)))) := by
      rw [w64 (x := n - 1) (by omega) (by omega), w64 (x := n - 1 - i) (by omega) (by omega), w64 (by omega) (by omega)]
      omega
    dsimp only
    rw [nn_some hw]
    exact ok_ap (by simp; omega) (by simp; omega) (hnx _ (by simp; omega))
  · rw [s_octet_Put1]
    exact ok_if (fun h => absurd h (by dsimp only; omega)) fun _ => ok_some (by dsimp only; omega)
theorem oct_eq (n : Int) : m_attr_octetSized n = some (decide (0 ≤ n ∧ n ≤ 255)) := by
  refine (?_ : Ok (m_attr_octetSized n) (· = decide (0 ≤ n ∧ n ≤ 255))).elim fun x h => by rw [h.1, h.2]
  unfold m_attr_octetSized
  refine ok_if (fun h => ok_some ?_) fun h => ok_some ?_
  · by_cases h2 : n ≤ 255
    · rw [decide_eq_true h2, decide_eq_true (by omega)]
    · rw [decide_eq_false h2, decide_eq_false (by omega)]
  · rw [decide_eq_false (by omega)]
theorem t_attrPut (l : List UInt8) (y : Attr) (hl : l.length ≤ 500000) (hy : y.Data.length ≤ 10000) : Ok (m_attr_Put l y) fun r => r.length ≤ l.length + 12 + y.Data.length := by
  unfold m_attr_Put
  refine ok_bde (oct_eq _) (ok_ifnb (fun _ => ok_some (by omega)) fun h1 => ok_bde (oct_eq _) (ok_ifnb (fun _ => ok_some (by omega)) fun h2 => ok_if (fun h => by omega) fun _ => ok_if (fun h => ?_) fun h => ?_))
  · exact ok_bd (t_put _ _ _ (by omega)) fun r3 _ h3 => ok_bd (t_put _ _ _ (by omega)) fun r4 _ h4 => ok_bd (t_put _ _ _ (by omega)) fun r5 _ h5 => ok_ap (by omega) (by omega) (ok_some (by simp; omega))
  · exact ok_bd (t_put _ _ _ (by omega)) fun r3 _ h3 => ok_bd (t_put _ _ _ (by omega)) fun r4 _ h4 => ok_bd (t_put _ _ _ (by omega)) fun r5 _ h5 => ok_ap (by omega) (by omega) (ok_some (by simp; omega))
def fatalB (y : Attr) : Bool := (m_attr_fatal y).getD false
theorem fatal_eq (y : Attr) : m_attr_fatal y = some (fatalB y) := by
  have h : Ok (m_attr_fatal y) fun _ => True := by
    unfold m_attr_fatal
    exact ok_if (fun _ => ok_if (fun _ => ok_some trivial) fun _ => ok_ifnb (fun _ => ok_some trivial) fun _ => ok_some trivial) fun _ => ok_ifnb (fun _ => ok_some trivial) fun _ => ok_some trivial
  obtain ⟨b, e, _⟩ := h
  unfold fatalB
  rw [e]
  rfl
theorem t_num (l : List UInt8) (hl : l.length ≤ 1000000) : Ok (m_attr_number l) fun _ => True := by
  unfold m_attr_number
  exact ok_bd (t_get l 4 hl) fun r1 _ h1 => ok_if (fun _ => ok_some trivial) fun _ => ok_some trivial
theorem if_cong {R : Type} {b : Bool} {A A' B B' : R} (h1 : A = A') (h2 : b = false → B = B') : (bif b then A else B) = bif b then A' else B' := by
  cases b
  · exact h2 rfl
  · exact h1
theorem if_cong1 {R : Type} {b : Bool} {A A' B B' : R} (h1 : b = true → A = A') (h2 : B = B') : (bif b then A else B) = bif b then A' else B' := by
  cases b
  · exact h2
  · exact h1 rfl
theorem bd_cong {α R : Type} {m m' : Option α} {k k' : α → Option R} (h : m = m') (h2 : ∀ x, k x = k' x) : bd m k = bd m' k' := by
  rw [h, funext h2]
theorem jn_cong {τ R : Type} {i : Nat} {f f' : (τ → Option R) → Option R} {k k' : τ → Option R} (h : ∀ k, f k = f' k) (h2 : ∀ x, k x = k' x) : jn i f k = jn i f' k' := by
  rw [funext h, funext h2]
def b16 (f : Int) : Int := IntKind.i64.wrap ((BitVec.ofInt IntKind.i64.bits f &&& BitVec.ofInt IntKind.i64.bits (16 : Int)).toNat : Int)
def noA : Attr × List UInt8 × Bool := (⟨0, 0, []⟩, [], false)
def firstB (x y : UInt8) (n : Nat) (t : List UInt8) : Attr × List UInt8 × Bool := if n ≤ t.length then (⟨x.toNat, y.toNat, t.take n⟩, t.drop n, true) else noA
/-- The first attribute of octets, as both read it. -/
def firstA : List UInt8 → Attr × List UInt8 × Bool
  | x :: y :: z :: t => if b16 (x.toNat : Int) = 0 then firstB x y z.toNat t else (match t with | [] => noA | u :: t => firstB x y (z.toNat * 256 + u.toNat) t)
  | _ => noA
theorem firstA_0 {x y z : UInt8} {t : List UInt8} (h : b16 (x.toNat : Int) = 0) : firstA (x :: y :: z :: t) = firstB x y z.toNat t := by
  show (if b16 (x.toNat : Int) = 0 then _ else _) = _
  rw [if_pos h]
theorem firstA_1 {x y z u : UInt8} {t : List UInt8} (h : ¬ b16 (x.toNat : Int) = 0) : firstA (x :: y :: z :: u :: t) = firstB x y (z.toNat * 256 + u.toNat) t := by
  show (if b16 (x.toNat : Int) = 0 then _ else _) = _
  rw [if_neg h]
theorem firstA_n {x y z : UInt8} (h : ¬ b16 (x.toNat : Int) = 0) : firstA [x, y, z] = noA := by
  show (if b16 (x.toNat : Int) = 0 then _ else _) = _
  rw [if_neg h]
theorem get1c (x : UInt8) (t : List UInt8) : m_octet_Get (x :: t) 1 = some ((x.toNat : Int), t, true) := by
  rw [octGet_eq _ _ (by omega) (by omega), if_pos (by simp; omega)]
  simp [num]
theorem get2c (x y : UInt8) (t : List UInt8) : m_octet_Get (x :: y :: t) 2 = some (((x.toNat * 256 + y.toNat : Nat) : Int), t, true) := by
  rw [octGet_eq _ _ (by omega) (by omega), if_pos (by simp; omega)]
  simp [num]
theorem get_no (l : List UInt8) (n : Int) (h : 1 ≤ n ∧ n ≤ 4) (h2 : (l.length : Int) < n) : m_octet_Get l n = some (0, [], false) := by
  rw [octGet_eq _ _ h.1 h.2, if_neg (by omega)]
theorem get_first (l : List UInt8) : m_attr_Get l = some (firstA l) := by
  refine (?_ : Ok (m_attr_Get l) (· = firstA l)).elim fun x h => by rw [h.1, h.2]
  unfold m_attr_Get
  match l with
  | [] =>
    refine ok_bde (get_no [] 1 (by omega) (by simp)) (ok_bde (get_no [] 1 (by omega) (by simp)) (ok_jn' ?_))
    exact ok_if (fun _ => ok_bde (get_no [] 2 (by omega) (by simp)) (ok_bde (octTake_eq _ _) (ok_ifnb (fun _ => ok_some rfl) fun h => Bool.noConfusion h))) fun _ => ok_bde (get_no [] 1 (by omega) (by simp)) (ok_bde (octTake_eq _ _) (ok_ifnb (fun _ => ok_some rfl) fun h => Bool.noConfusion h))
  | [x] =>
    refine ok_bde (get1c x []) (ok_bde (get_no [] 1 (by omega) (by simp)) (ok_jn' ?_))
    exact ok_if (fun _ => ok_bde (get_no [] 2 (by omega) (by simp)) (ok_bde (octTake_eq _ _) (ok_ifnb (fun _ => ok_some rfl) fun h => Bool.noConfusion h))) fun _ => ok_bde (get_no [] 1 (by omega) (by simp)) (ok_bde (octTake_eq _ _) (ok_ifnb (fun _ => ok_some rfl) fun h => Bool.noConfusion h))
  | [x, y] =>
    refine ok_bde (get1c x [y]) (ok_bde (get1c y []) (ok_jn' ?_))
    exact ok_if (fun _ => ok_bde (get_no [] 2 (by omega) (by simp)) (ok_bde (octTake_eq _ _) (ok_ifnb (fun _ => ok_some rfl) fun h => Bool.noConfusion h))) fun _ => ok_bde (get_no [] 1 (by omega) (by simp)) (ok_bde (octTake_eq _ _) (ok_ifnb (fun _ => ok_some rfl) fun h => Bool.noConfusion h))
  | x :: y :: z :: t =>
    have fin : ∀ (n : Nat) (t : List UInt8), Ok (bd (m_octet_Take t (n : Int)) fun r4 => bif (!true) then some ((⟨0, 0, []⟩ : Attr), ([] : List UInt8), false) else bif (!r4.2.2) then some ((⟨0, 0, []⟩ : Attr), ([] : List UInt8), false) else some ((⟨x.toNat, y.toNat, r4.1⟩ : Attr), r4.2.1, true)) (· = firstB x y n t) := fun n t => by
      refine ok_bde (octTake_eq _ _) ?_
      unfold firstB
      by_cases h : n ≤ t.length
      · rw [if_pos (by omega), if_pos h]
        exact ok_ifnb (fun h => Bool.noConfusion h) fun _ => ok_ifnb (fun h => Bool.noConfusion h) fun _ => ok_some (by simp)
      · rw [if_neg (by omega), if_neg h]
        exact ok_ifnb (fun h => Bool.noConfusion h) fun _ => ok_ifnb (fun _ => ok_some rfl) fun h => Bool.noConfusion h
    refine ok_bde (get1c x _) (ok_bde (get1c y _) (ok_jn' (ok_if (fun h => ?_) fun h => ?_)))
    · have h : ¬ b16 (x.toNat : Int) = 0 := h
      match t with
      | [] => rw [firstA_n h]; exact ok_bde (get_no [z] 2 (by omega) (by simp)) (ok_bde (octTake_eq _ _) (ok_ifnb (fun _ => ok_some rfl) fun h => Bool.noConfusion h))
      | u :: t => rw [firstA_1 h]; exact ok_bde (get2c z u t) (fin _ t)
    · have h : b16 (x.toNat : Int) = 0 := Decidable.not_not.1 h
      rw [firstA_0 h]
      exact ok_bde (get1c z t) (fin _ t)
theorem firstB_len (x y : UInt8) (n : Nat) (t : List UInt8) : (firstB x y n t).2.1.length ≤ t.length := by
  unfold firstB
  split
  · simp
  · exact Nat.zero_le _
theorem first_len : ∀ (l : List UInt8), (firstA l).2.2 = true → (firstA l).2.1.length < l.length
  | [], h => by cases h
  | [_], h => by cases h
  | [_, _], h => by cases h
  | x :: y :: z :: t, h => by
    by_cases hb : b16 (x.toNat : Int) = 0
    · rw [firstA_0 hb]
      have := firstB_len x y z.toNat t
      simp only [List.length_cons]
      omega
    · match t, h with
      | [], h => rw [firstA_n hb] at h; cases h
      | u :: t, h =>
        rw [firstA_1 hb]
        have := firstB_len x y (z.toNat * 256 + u.toNat) t
        simp only [List.length_cons]
        omega
/-- A path that may be. -/
def PathOk (p : Path) : Prop := (∀ x ∈ p.As, 1 ≤ x ∧ x ≤ 4294967295) ∧ (0 ≤ p.Origin ∧ p.Origin ≤ 2) ∧ p.As.length ≤ 255 ∧ (1 ≤ p.Hop ∧ p.Hop ≤ 4294967295) ∧ 0 ≤ p.Otc ∧ p.Otc ≤ 4294967295
theorem t_attrSane (p : Path) (hl : p.As.length ≤ 9223372036854775807) : Ok (m_attr_Sane p) fun b => b = true ↔ PathOk p := by
  unfold m_attr_Sane
  have no : ∀ {A : Prop}, ¬ A → Ok (some false : Option Bool) (fun b => b = true ↔ A) := fun h => ok_some ⟨fun k => Bool.noConfusion k, fun k => absurd k h⟩
  refine ok_idx p.As.length (fun j => ∀ i (h : i < p.As.length), i < j → 1 ≤ p.As[i] ∧ p.As[i] ≤ 4294967295) hl (fun _ _ h => absurd h (Nat.not_lt_zero _)) (fun i hi hI nx hnx => ?_) (fun hI nx => ?_)
  · rw [s_attr_Sane1]
    have hm := List.getElem_mem hi
    refine ok_if (fun _ => ok_ix (by omega) (by omega) fun hlt => ok_if (fun h1 => no fun k => ?_) fun h1 => ok_if (fun h2 => no fun k => ?_) fun h2 => hnx fun j hj hji => ?_) fun h => absurd (Int.ofNat_lt.2 hi) h
    · have := k.1 _ hm; simp only [Int.toNat_natCast] at h1; omega
    · have := k.1 _ hm; simp only [Int.toNat_natCast] at h2; omega
    · simp only [Int.toNat_natCast] at h1 h2
      rcases Nat.lt_succ_iff_lt_or_eq.1 hji with g | rfl
      · exact hI j hj g
      · exact ⟨by omega, by omega⟩
  · rw [s_attr_Sane1]
    have hall : ∀ x ∈ p.As, 1 ≤ x ∧ x ≤ 4294967295 := fun x hx => by
      obtain ⟨i, h, rfl⟩ := List.getElem_of_mem hx
      exact hI i h h
    refine ok_if (fun h => by omega) fun _ => ok_if (fun h1 => ok_if (fun h2 => ok_if (fun h3 => ok_if (fun h4 => ok_if (fun h5 => ok_if (fun h6 => ok_some ?_) fun h => no fun k => ?_) fun h => no fun k => ?_) fun h => no fun k => ?_) fun h => no fun k => ?_) fun h => no fun k => ?_) fun h => no fun k => ?_
    · rw [decide_eq_true_eq]
      exact ⟨fun h7 => ⟨hall, ⟨h1, h2⟩, by omega, ⟨h4, h5⟩, h6, h7⟩, fun k => k.2.2.2.2.2⟩
    all_goals (obtain ⟨_, _, _, _, _, _⟩ := k; omega)
theorem lo_eq (v : Int) : IntKind.i64.wrap ((BitVec.ofInt IntKind.i64.bits v &&& BitVec.ofInt IntKind.i64.bits (4294967295 : Int)).toNat : Int) = v % 4294967296 := by
  have h := and_mask v 32 (by omega)
  rw [show ((2 : Int) ^ 32 - 1) = 4294967295 by decide, show ((2 : Int) ^ 32) = 4294967296 by decide] at h
  exact h
/-- What is left under a mask. -/
def lowCut (a n : Int) : Int := a % 4294967296 - a % 4294967296 % (2 : Int) ^ (32 - n).toNat
theorem cut_rng (a n : Int) : 0 ≤ lowCut a n ∧ lowCut a n < 4294967296 := by
  have h0 := Int.emod_nonneg a (show (4294967296 : Int) ≠ 0 by decide)
  have h1 := Int.emod_lt_of_pos a (show (0 : Int) < 4294967296 by decide)
  have hp : (0 : Int) < 2 ^ (32 - n).toNat := Int.pow_pos (by decide)
  have h2 := Int.emod_nonneg (a % 4294967296) (show (2 : Int) ^ (32 - n).toNat ≠ 0 by omega)
  have h3 : a % 4294967296 % (2 : Int) ^ (32 - n).toNat ≤ a % 4294967296 := by
    have := Int.emod_def (a % 4294967296) ((2 : Int) ^ (32 - n).toNat)
    have hq : 0 ≤ (a % 4294967296) / (2 : Int) ^ (32 - n).toNat := Int.ediv_nonneg h0 (by omega)
    have := Int.mul_nonneg (Int.le_of_lt hp) hq
    omega
  unfold lowCut
  omega
theorem mask_val (a n : Int) (h : 0 ≤ n ∧ n ≤ 32) : m_prefix_Mask a n = some (lowCut a n) := by
  unfold m_prefix_Mask
  have e1 : (if (0 : Int) > n then (0 : Int) else n) = n := if_neg (by omega)
  have e2 : (if (32 : Int) < n then (32 : Int) else n) = n := if_neg (by omega)
  have e3 : IntKind.i64.wrap (32 - n) = 32 - n := w64 (by omega) (by omega)
  have e4 : min (32 - n).toNat IntKind.i64.bits = (32 - n).toNat := Nat.min_eq_left (show (32 - n).toNat ≤ 64 by omega)
  rw [e1, e2, e3, nn_some (by omega), nn_some (by omega), e4, lo_eq]
  have hp : (0 : Int) < 2 ^ (32 - n).toNat := Int.pow_pos (by decide)
  have hr := cut_rng a n
  rw [Int.fdiv_eq_ediv_of_nonneg _ (Int.le_of_lt hp)]
  have hd := Int.emod_def (a % 4294967296) ((2 : Int) ^ (32 - n).toNat)
  have he : a % 4294967296 / (2 : Int) ^ (32 - n).toNat * (2 : Int) ^ (32 - n).toNat = lowCut a n := by
    unfold lowCut
    rw [hd, Int.mul_comm]
    omega
  rw [he, w64 (by omega) (by omega)]
/-- A prefix that may be. -/
def PrefixOk (x : Prefix) : Prop := (0 ≤ x.N ∧ x.N ≤ 32) ∧ lowCut x.A x.N = x.A
theorem t_psane (x : Prefix) : Ok (m_prefix_Sane x) fun b => b = true ↔ PrefixOk x := by
  unfold m_prefix_Sane PrefixOk
  refine ok_if (fun h1 => ok_if (fun h2 => ok_bde (mask_val _ _ ⟨h1, h2⟩) (ok_some ?_)) fun h => ok_some ?_) fun h => ok_some ?_
  · rw [decide_eq_true_eq]
    exact ⟨fun k => ⟨⟨h1, h2⟩, k⟩, fun k => k.2⟩
  · exact ⟨fun k => Bool.noConfusion k, fun k => by omega⟩
  · exact ⟨fun k => Bool.noConfusion k, fun k => by omega⟩
/-- The first of each kind; nothing if one is fatal. -/
def gat : List (Int × Attr) → List Attr → Option (List (Int × Attr))
  | e, [] => some e
  | e, y :: ys => if (mget e y.Typ).isSome = true then gat e ys else if fatalB y = true then none else gat (e ++ [(y.Typ, y)]) ys
theorem set_new {e : List (Int × Attr)} {k : Int} {y : Attr} (h : mget e k = none) : msetL e k y = e ++ [(k, y)] := by
  rw [mget_eq] at h
  induction e with
  | nil => rfl
  | cons p e ih =>
    obtain ⟨a, b⟩ := p
    rw [List.find?_cons] at h
    rw [msetL]
    by_cases hk : a = k
    · rw [decide_eq_true hk] at h; cases h
    · rw [decide_eq_false hk] at h
      rw [if_neg hk, ih h]
      rfl
theorem mget_app {e : List (Int × Attr)} {k t : Int} {y z : Attr} (h : mget (e ++ [(k, y)]) t = some z) : mget e t = some z ∨ z = y := by
  rw [mget_eq, List.find?_append, Option.map_or] at h
  cases he : mget e t with
  | some w => rw [mget_eq] at he; rw [he] at h; exact .inl h
  | none =>
    rw [mget_eq] at he
    rw [he, Option.none_or, List.find?_cons] at h
    by_cases hk : k = t
    · rw [decide_eq_true hk] at h
      cases h
      exact .inr rfl
    · rw [decide_eq_false hk] at h
      cases h
/-- What is fatal. -/
def Fatal (r : Path × Int × Note) : Prop := r.1 = ⟨0, [], 0, 0⟩ ∧ r.2.1 = 2 ∧ r.2.2.Code = 3 ∧ r.2.2.Sub = 2
theorem same_refl (p : Path) (h : p.As.length ≤ 10000) : m_ridgewayref07_SamePath p p = some true := by
  refine ok_true ?_
  unfold m_ridgewayref07_SamePath
  refine ok_if (fun h => absurd rfl h) fun _ => ok_if (fun h => absurd rfl h) fun _ => ok_if (fun h => absurd rfl h) fun _ => ok_if (fun h => absurd rfl h) fun _ => ok_idx p.As.length (fun _ => True) (by omega) trivial (fun i hi _ nx hnx => ?_) (fun _ nx => ?_)
  · rw [s_ridgewayref07_SamePath1]
    exact ok_if (fun _ => ok_ix (by omega) (by omega) fun _ => ok_ix (by omega) (by omega) fun _ => ok_if (fun h => absurd rfl h) fun _ => hnx trivial) fun h => absurd (Int.ofNat_lt.2 hi) h
  · rw [s_ridgewayref07_SamePath1]
    exact ok_if (fun h => by omega) fun _ => ok_some rfl


theorem getN (l : List UInt8) (n : Int) (h : 1 ≤ n ∧ n ≤ 4) : Ok (m_octet_Get l n) fun r => r.2.1.length ≤ l.length ∧ (0 ≤ r.1 ∧ r.1 < (256 : Int) ^ n.toNat) ∧ (r.2.2 = true → r.2.1.length + n.toNat = l.length) ∧ (r.2.2 = false → r.1 = 0) := by
  refine ok_eq (octGet_eq l n h.1 h.2) ?_
  have hp : (0 : Int) < 256 ^ n.toNat := Int.pow_pos (by decide)
  split
  · have := num_lt (l.take n.toNat)
    rw [List.length_take, Nat.min_eq_left (by omega)] at this
    refine ⟨by simp, ⟨by dsimp only; omega, ?_⟩, fun _ => by simp; omega, fun h => Bool.noConfusion h⟩
    dsimp only
    exact_mod_cast this
  · exact ⟨Nat.zero_le _, ⟨Int.le_refl _, hp⟩, fun h => Bool.noConfusion h, fun _ => rfl⟩
theorem p4 : (256 : Int) ^ (4 : Int).toNat = 4294967296 := by decide
theorem p1' : (256 : Int) ^ (1 : Int).toNat = 256 := by decide
theorem t_numG (l : List UInt8) : Ok (m_attr_number l) fun r => r.2 = true → 1 ≤ r.1 ∧ r.1 ≤ 4294967295 := by
  unfold m_attr_number
  refine ok_bd (getN l 4 (by omega)) fun r1 _ h1 => ?_
  rw [p4] at h1
  exact ok_if (fun h => ok_some fun _ => ⟨by dsimp only; omega, by dsimp only; omega⟩) fun _ => ok_some fun k => Bool.noConfusion k
/-- A path that was read. -/
def GoodP (p : Path) : Prop := (∀ x ∈ p.As, 1 ≤ x ∧ x ≤ 4294967295) ∧ (0 ≤ p.Origin ∧ p.Origin ≤ 2) ∧ (1 ≤ p.Hop ∧ p.Hop ≤ 4294967295) ∧ 0 ≤ p.Otc ∧ p.Otc ≤ 4294967295
/-- What is made of a list with no fatal attribute. -/
def After (r : Path × Int × Note) : Prop := (r.2.1 = 0 ∨ r.2.1 = 1) ∧ r.2.2 = ⟨0, 0, []⟩ ∧ r.1.As.length ≤ 10000 ∧ (r.2.1 = 0 → GoodP r.1)
def bad2 : Path × Int × Note := (⟨0, [], 0, 0⟩, 1, ⟨0, 0, []⟩)
theorem after_bad : Ok (some bad2) After := ok_some ⟨.inr rfl, rfl, Nat.zero_le _, fun h => by cases h⟩
theorem judge_ex : ∃ bk : List (Int × Attr) → Option (Path × Int × Note), (∀ l, m_attr_Judge l = loopC (s_attr_Judge1 l) bk BIG ((0 : Int), [])) ∧
    (∀ e : List (Int × Attr), (∀ t y, mget e t = some y → y.Data.length ≤ 10000) → Ok (bk e) After) := by
  refine ⟨_, fun l => by unfold m_attr_Judge; rfl, fun e h => ?_⟩
  have fork : ∀ (t : Int) (F : Attr → Option (Path × Int × Note)) (A : Option (Path × Int × Note)), (∀ y : Attr, y.Data.length ≤ 10000 → Ok (F y) After) → Ok A After → Ok (bif mhas e t then bd (mget e t) F else A) After := fun t F A hF hA => by
    rw [mhas_get]
    cases h1 : mget e t with
    | none => exact hA
    | some y =>
      rw [bd_some]
      exact hF y (h t y h1)
  have ok0 : ∀ {p : Path}, p.As.length ≤ 10000 → GoodP p → Ok (some (p, (0 : Int), (⟨0, 0, []⟩ : Note))) After := fun hp hg => ok_some ⟨.inl rfl, rfl, hp, fun _ => hg⟩
  have o35 : ∀ (i1 : Bool × Int) (i2 : Bool × List Int) (r15 : Int × Bool), i2.2.length ≤ 10000 → (∀ x ∈ i2.2, 1 ≤ x ∧ x ≤ 4294967295) → (0 ≤ i1.2 ∧ i1.2 ≤ 2) → (1 ≤ r15.1 ∧ r15.1 ≤ 4294967295) → Ok (bif mhas e (35 : Int) then
                          bd (mget e (35 : Int)) fun y17 =>
                            bif decide (¬ (IntKind.i64.wrap ((BitVec.ofInt IntKind.i64.bits y17.Flags &&& BitVec.ofInt IntKind.i64.bits (192 : Int)).toNat : Int)) = (192 : Int)) then
                              some ((Path.mk (0 : Int) ([]) (0 : Int) (0 : Int)), (1 : Int), (Note.mk (0 : Int) (0 : Int) ([])))
                            else
                              bd (m_attr_number y17.Data) fun r18 =>
                              bif (!r18.2) then
                                some ((Path.mk (0 : Int) ([]) (0 : Int) (0 : Int)), (1 : Int), (Note.mk (0 : Int) (0 : Int) ([])))
                              else
                                some ((Path.mk i1.2 i2.2 r15.1 r18.1), (0 : Int), (Note.mk (0 : Int) (0 : Int) ([])))
                          else
                            some ((Path.mk i1.2 i2.2 r15.1 (0 : Int)), (0 : Int), (Note.mk (0 : Int) (0 : Int) ([])))) After := fun i1 i2 r15 h2 hx hi hr =>
    fork 35 _ _ (fun y hy => ok_if (fun _ => after_bad) fun _ => ok_bd (t_numG _) fun r18 _ h18 => ok_ifnb (fun _ => after_bad) fun q => ok0 h2 ⟨hx, hi, hr, by have := h18 q; dsimp only; omega, by have := h18 q; dsimp only; omega⟩) (ok0 h2 ⟨hx, hi, hr, Int.le_refl _, show (0 : Int) ≤ 4294967295 by decide⟩)
  refine fork 1 _ _ (fun y hy => ok_if (fun _ => after_bad) fun _ => ok_jn (fun j => j.1 = true → 0 ≤ j.2 ∧ j.2 ≤ 2) (fun k hk => ok_if (fun _ => hk _ fun h => Bool.noConfusion h) fun hl => ok_ix (by omega) (by omega) fun _ => ok_if (fun _ => hk _ fun h => Bool.noConfusion h) fun hg => ok_ix (by omega) (by omega) fun _ => hk _ fun _ => by dsimp only; rw [w64 (by omega) (by omega)]; omega) fun i1 hi1 => ok_ifnb (fun _ => after_bad) fun qi1 => ?_) after_bad
  refine fork 2 _ _ (fun y9 hy9 => ok_if (fun _ => after_bad) fun _ => ok_jn (fun j => j.2.length ≤ 10000 ∧ ∀ x ∈ j.2, 1 ≤ x ∧ x ≤ 4294967295) (fun k hk => ?_) fun i2 hi2 => ok_ifnb (fun _ => after_bad) fun _ => ?_) after_bad
  · refine ok_loop (fun st => st.1.length + st.2.length ≤ 10000 ∧ ∀ x ∈ st.2, 1 ≤ x ∧ x ≤ 4294967295) (fun st => st.1.length) ⟨by simpa using hy9, fun x hx => by cases hx⟩ (by dsimp only; omega) fun st hst nx hnx => ?_
    rw [s_attr_Judge2]
    refine ok_if (fun h0 => ok_bd (t_get _ 1 (by omega)) fun r10 _ h10 => ok_bd (t_get _ 1 (by omega)) fun r11 _ h11 => ok_if (fun _ => hk _ ⟨by dsimp only; omega, by first | exact hst.2 | exact hs3.2.2.2⟩) fun q1 => ok_if (fun _ => hk _ ⟨by dsimp only; omega, by first | exact hst.2 | exact hs3.2.2.2⟩) fun q2 => ?_) fun _ => hk _ ⟨by dsimp only; omega, by first | exact hst.2 | exact hs3.2.2.2⟩
    have g10 := h10.2.2 (by omega)
    have g11 := h11.2.2 q2
    refine ok_loop (fun s3 => 0 ≤ s3.2.1 ∧ s3.1.length + s3.2.2.length ≤ 9998 ∧ s3.1.length < st.1.length ∧ ∀ x ∈ s3.2.2, 1 ≤ x ∧ x ≤ 4294967295) (fun s3 => (9223372036854775807 - s3.2.1).toNat) ⟨Int.le_refl _, by dsimp only; omega, by dsimp only; omega, hst.2⟩ (by dsimp only; omega) fun s3 hs3 nx3 hnx3 => ?_
    rw [s_attr_Judge3]
    refine ok_if (fun h3 => ok_bd (t_get _ 4 (by omega)) fun r12 e12 h12 => ok_if (fun _ => hk _ ⟨by dsimp only; omega, by first | exact hst.2 | exact hs3.2.2.2⟩) fun q3 => ?_) fun _ => hnx _ ⟨by dsimp only; omega, hs3.2.2.2⟩ (by dsimp only; omega)
    have g12 := h12.2.2 q3
    obtain ⟨r', er, hr'⟩ := getN s3.1 4 (by omega)
    rw [e12] at er
    cases er
    rw [p4] at hr'
    refine ok_ap (by simp; omega) (by simp; omega) (hnx3 _ ?_ ?_)
    · simp only [List.length_append, List.length_singleton]
      rw [w64 (by omega) (by omega)]
      refine ⟨by omega, by omega, by omega, fun x hx => ?_⟩
      rcases List.mem_append.1 hx with hx | hx
      · exact hs3.2.2.2 x hx
      · rw [List.mem_singleton.1 hx]
        omega
    · dsimp only
      rw [w64 (by omega) (by omega)]
      omega
  · refine fork 3 _ _ (fun y14 hy14 => ok_if (fun _ => after_bad) fun _ => ok_bd (t_numG _) fun r15 _ h15 => ok_ifnb (fun _ => after_bad) fun q15 => fork 4 _ _ (fun y16 hy16 => ok_if (fun _ => after_bad) fun _ => ok_ifn (fun _ => after_bad) fun _ => o35 i1 i2 r15 hi2.1 hi2.2 (hi1 qi1) (h15 q15)) (o35 i1 i2 r15 hi2.1 hi2.2 (hi1 qi1) (h15 q15))) after_bad

theorem t_judge (l : List Attr) (hl : l.length ≤ 100000) (hd : ∀ y ∈ l, y.Data.length ≤ 10000) : Ok (m_attr_Judge l) fun r => Fatal r ∨ After r := by
  obtain ⟨bk, h0, ho⟩ := judge_ex
  rw [h0]
  refine ok_acc' l.length (fun i e => ∀ t y, mget e t = some y → y.Data.length ≤ 10000) (by omega) (fun t y h => by rw [mget_eq] at h; cases h) (fun i e hi hI nx hnx => ?_) (fun e hI nx => ?_)
  · have hy := hd _ (List.getElem_mem hi)
    rw [s_attr_Judge1]
    refine ok_if (fun _ => ok_ix (by dsimp only; omega) (by dsimp only; omega) fun hlt => ?_) fun h => absurd (Int.ofNat_lt.2 hi) h
    simp only [Int.toNat_natCast]
    rw [mhas_get]
    cases hg : mget e l[i].Typ with
    | some z =>
      rw [show (some z).isSome = true from rfl, cond_true]
      exact ok_bde rfl (hnx _ hI)
    | none =>
      rw [show (none : Option Attr).isSome = false from rfl, cond_false]
      refine ok_bde (ms_eq _ _ _) (ok_bde (fatal_eq _) (ok_ifb (fun hf => ?_) fun hf => hnx _ fun t y h => ?_))
      · exact ok_bd (t_attrPut [] _ (by simp) (by omega)) fun r5 _ _ => ok_some (.inl ⟨rfl, rfl, rfl, rfl⟩)
      · rw [set_new hg] at h
        rcases mget_app h with h | rfl
        · exact hI t y h
        · omega
  · rw [s_attr_Judge1]
    exact ok_if (fun h => by dsimp only at h; omega) fun _ => ok_mono (ho e hI) fun r h => .inr h
theorem firstB_data (x y : UInt8) (n : Nat) (t : List UInt8) : (firstB x y n t).1.Data.length ≤ t.length := by
  unfold firstB
  split
  · simp; omega
  · exact Nat.zero_le _
theorem first_data : ∀ (l : List UInt8), (firstA l).1.Data.length ≤ l.length
  | [] => Nat.zero_le _
  | [_] => Nat.zero_le _
  | [_, _] => Nat.zero_le _
  | x :: y :: z :: t => by
    by_cases hb : b16 (x.toNat : Int) = 0
    · rw [firstA_0 hb]
      have := firstB_data x y z.toNat t
      simp only [List.length_cons]
      omega
    · match t with
      | [] => rw [firstA_n hb]; exact Nat.zero_le _
      | u :: t =>
        rw [firstA_1 hb]
        have := firstB_data x y (z.toNat * 256 + u.toNat) t
        simp only [List.length_cons]
        omega
theorem t_all (l : List UInt8) (hl : l.length ≤ 10000) : Ok (m_attr_All l) fun r => r.1.length ≤ l.length ∧ ∀ y ∈ r.1, y.Data.length ≤ 10000 := by
  unfold m_attr_All
  refine ok_loop (fun st => st.1.length + st.2.length ≤ l.length ∧ ∀ y ∈ st.2, y.Data.length ≤ 10000) (fun st => st.1.length) ⟨by simp, fun y h => by cases h⟩ (by dsimp only; omega) fun st hst nx hnx => ?_
  rw [s_attr_All1]
  refine ok_if (fun h => ok_bde (get_first _) (ok_ifnb (fun _ => ok_some ⟨Nat.zero_le _, fun y h => by cases h⟩) fun h2 => ?_)) fun _ => ok_some ⟨by dsimp only; omega, hst.2⟩
  have := first_len _ h2
  have hd := first_data st.1
  refine ok_ap (by simp; omega) (by simp; omega) (hnx _ ⟨by simp; omega, fun y hy => ?_⟩ (by dsimp only; omega))
  rcases List.mem_append.1 hy with hy | hy
  · exact hst.2 y hy
  · rw [List.mem_singleton.1 hy]; omega
theorem lowCut_idem (a n : Int) : lowCut (lowCut a n) n = lowCut a n := by
  have hr := cut_rng a n
  have e : lowCut a n = (2 : Int) ^ (32 - n).toNat * (a % 4294967296 / (2 : Int) ^ (32 - n).toNat) := by
    unfold lowCut
    rw [Int.emod_def (a % 4294967296) ((2 : Int) ^ (32 - n).toNat)]
    omega
  have h1 : lowCut a n % 4294967296 = lowCut a n := Int.emod_eq_of_lt hr.1 hr.2
  have h2 : lowCut a n % (2 : Int) ^ (32 - n).toNat = 0 := by rw [e, Int.mul_emod_right]
  show lowCut a n % 4294967296 - lowCut a n % 4294967296 % (2 : Int) ^ (32 - n).toNat = _
  rw [h1, h2]
  omega
theorem zeroOk : PrefixOk ⟨0, 0⟩ := ⟨⟨by decide, by decide⟩, by decide⟩
theorem t_pget (l : List UInt8) : Ok (m_prefix_Get l) fun r => r.2.2 = true → PrefixOk r.1 ∧ r.2.1.length < l.length := by
  unfold m_prefix_Get m_prefix_size
  have no : ∀ {q : Prefix}, Ok (some (q, ([] : List UInt8), false)) fun r : Prefix × List UInt8 × Bool => r.2.2 = true → PrefixOk r.1 ∧ r.2.1.length < l.length := ok_some fun k => Bool.noConfusion k
  refine ok_bd (getN l 1 (by omega)) fun r1 _ h1 => ok_ifnb (fun _ => no) fun q1 => ok_if (fun _ => no) fun q2 => ?_
  rw [p1'] at h1
  have hl := h1.2.2.1 q1
  have hs : IntKind.i64.wrap ((IntKind.i64.wrap (r1.1 + (7 : Int))).tdiv (8 : Int)) = (r1.1 + 7) / 8 := by
    rw [w64 (x := r1.1 + 7) (by omega) (by omega), Int.tdiv_eq_ediv_of_nonneg (by omega), w64 (by omega) (by omega)]
  rw [hs, bd_some]
  refine ok_if (fun q3 => ok_some fun _ => ⟨zeroOk, by dsimp only; omega⟩) fun q3 => ok_bd (getN r1.2.1 _ (by omega)) fun r3 _ h3 => ok_ifnb (fun _ => no) fun q4 => ?_
  have hl3 := h3.2.2.1 q4
  have hw : IntKind.i64.wrap ((32 : Int) - IntKind.i64.wrap ((8 : Int) * ((r1.1 + 7) / 8))) = 32 - 8 * ((r1.1 + 7) / 8) := by
    rw [w64 (x := 8 * ((r1.1 + 7) / 8)) (by omega) (by omega), w64 (by omega) (by omega)]
  rw [hw, nn_some (by omega), mask_val _ _ (by omega), bd_some]
  exact ok_some fun _ => ⟨⟨by dsimp only; omega, lowCut_idem _ _⟩, by dsimp only; omega⟩
theorem t_pall (l : List UInt8) (hl : l.length ≤ 10000) : Ok (m_prefix_All l) fun r => r.1.length ≤ l.length ∧ ∀ x ∈ r.1, PrefixOk x := by
  unfold m_prefix_All
  refine ok_loop (fun st => st.1.length + st.2.length ≤ l.length ∧ ∀ x ∈ st.2, PrefixOk x) (fun st => st.1.length) ⟨by simp, fun x h => by cases h⟩ (by dsimp only; omega) fun st hst nx hnx => ?_
  rw [s_prefix_All1]
  refine ok_bd (t_pget _) fun r1 _ h1 => ok_ifb (fun q => ?_) fun q => ok_if (fun _ => ok_some ⟨Nat.zero_le _, fun x h => by cases h⟩) fun _ => ok_some ⟨by dsimp only; omega, hst.2⟩
  obtain ⟨g1, g2⟩ := h1 q
  refine ok_ap (by simp; omega) (by simp; omega) (hnx _ ⟨by simp; omega, fun x hx => ?_⟩ (by dsimp only; omega))
  rcases List.mem_append.1 hx with hx | hx
  · exact hst.2 x hx
  · rw [List.mem_singleton.1 hx]; exact g1
theorem t_msgSane (m : Msg) : Ok (m_msg_Sane m) fun _ => True := by
  unfold m_msg_Sane m_msg_wrong m_msg_Least
  have least : ∀ {k : Int → Option Bool}, (∀ n, Ok (k n) fun _ => True) → Ok (bd (bif decide (m.Typ = (1 : Int)) then some (IntKind.i64.wrap ((10 : Int) + (19 : Int))) else bif decide (m.Typ = (2 : Int)) then some (IntKind.i64.wrap ((4 : Int) + (19 : Int))) else bif decide (m.Typ = (3 : Int)) then some (IntKind.i64.wrap ((2 : Int) + (19 : Int))) else bif decide (m.Typ = (4 : Int)) then some (IntKind.i64.wrap ((0 : Int) + (19 : Int))) else some (0 : Int)) k) fun _ => True := fun hk =>
    ok_bd (P := fun _ => True) (ok_if (fun _ => ok_some trivial) fun _ => ok_if (fun _ => ok_some trivial) fun _ => ok_if (fun _ => ok_some trivial) fun _ => ok_if (fun _ => ok_some trivial) fun _ => ok_some trivial) fun x _ _ => hk x
  refine least fun n => ok_if (fun _ => ok_bd (P := fun _ => True) (least fun n2 => ok_if (fun _ => ok_some trivial) fun _ => ok_if (fun _ => ok_some trivial) fun _ => ok_some trivial) fun _ _ _ => ok_ifnb (fun _ => ok_some trivial) fun _ => ok_some trivial) fun _ => ok_some trivial
theorem t_counted (l : List UInt8) : Ok (m_update_counted l) fun r => r.1.length ≤ l.length ∧ r.2.1.length ≤ l.length := by
  unfold m_update_counted
  refine ok_bd (getN l 2 (by omega)) fun r1 _ h1 => ok_ifnb (fun _ => ok_some ⟨Nat.zero_le _, Nat.zero_le _⟩) fun _ => ok_bde (octTake_eq _ _) (ok_some ?_)
  split
  · refine ⟨?_, ?_⟩
    · simp only [List.length_take]; omega
    · simp only [List.length_drop]; omega
  · exact ⟨Nat.zero_le _, Nat.zero_le _⟩
def noP : Path := ⟨0, [], 0, 0⟩
/-- What is got. -/
structure Got (r : News × Note) : Prop where
  bad : ¬ r.2.Code = 0 → r.2.Code = 3 ∧ (r.2.Sub = 1 ∨ r.2.Sub = 2 ∨ r.2.Sub = 10) ∧ r.1 = ⟨[], noP, []⟩
  gone : ∀ x ∈ r.1.Gone, PrefixOk x
  nlri : ∀ x ∈ r.1.Nlri, PrefixOk x
  lens : r.1.Gone.length ≤ 20000 ∧ r.1.Nlri.length ≤ 20000 ∧ r.1.P.As.length ≤ 10000
  path : (r.1.Nlri.length = 0 → r.1.P = noP) ∧ (¬ r.1.Nlri.length = 0 → GoodP r.1.P)
theorem got_bad (k : Int) (d : List UInt8) (h : k = 1 ∨ k = 2 ∨ k = 10) : Got (⟨[], noP, []⟩, ⟨3, k, d⟩) := ⟨fun _ => ⟨rfl, h, rfl⟩, fun x h => (by cases h), fun x h => (by cases h), ⟨by simp, by simp, by simp [noP]⟩, fun _ => rfl, fun h => (h rfl).elim⟩
theorem t_updGet (m : Msg) (hl : m.Body.length ≤ 5000) : Ok (m_update_Get m) Got := by
  unfold m_update_Get
  refine ok_if (fun _ => ok_some (got_bad 1 [] (by omega))) fun _ => ok_bd (t_msgSane m) fun _ _ _ => ok_ifnb (fun _ => ok_some (got_bad 1 [] (by omega))) fun _ => ok_bd (t_counted _) fun r2 _ h2 => ok_bd (t_counted _) fun r3 _ h3 => ok_ifnb (fun _ => ok_some (got_bad 1 [] (by omega))) fun _ => ok_ifnb (fun _ => ok_some (got_bad 1 [] (by omega))) fun _ =>
    ok_bd (t_pall _ (by omega)) fun r4 _ h4 => ok_bd (t_pall _ (by omega)) fun r5 _ h5 => ok_ifnb (fun _ => ok_some (got_bad 10 [] (by omega))) fun _ => ok_ifnb (fun _ => ok_some (got_bad 10 [] (by omega))) fun _ => ok_bd (t_all _ (by omega)) fun r6 _ h6 => ?_
  refine ok_jn (fun j => Fatal (⟨j.2.1, j.2.2.1, j.2.2.2.1, j.2.2.2.2.1⟩, j.1, ⟨j.2.2.2.2.2.1, j.2.2.2.2.2.2.1, j.2.2.2.2.2.2.2⟩) ∨ After (⟨j.2.1, j.2.2.1, j.2.2.2.1, j.2.2.2.2.1⟩, j.1, ⟨j.2.2.2.2.2.1, j.2.2.2.2.2.2.1, j.2.2.2.2.2.2.2⟩)) (fun k hk => ok_ifb (fun _ => ok_bd (t_judge _ (by omega) h6.2) fun r7 _ h7 => hk _ h7) fun _ => hk _ (.inr ⟨.inr rfl, rfl, Nat.zero_le _, fun h => by cases h⟩)) fun j hj => ?_
  refine ok_if (fun q => ok_some ?_) fun q => ?_
  · rcases hj with hj | hj
    · obtain ⟨_, _, h3, h4⟩ := hj
      dsimp only at h3 h4
      rw [h3, h4]
      exact got_bad 2 _ (by omega)
    · exact absurd (by have := hj.2.1; simp only [Note.mk.injEq] at this; exact this.1) q
  · have hA : After (⟨j.2.1, j.2.2.1, j.2.2.2.1, j.2.2.2.2.1⟩, j.1, ⟨j.2.2.2.2.2.1, j.2.2.2.2.2.2.1, j.2.2.2.2.2.2.2⟩) := by
      rcases hj with hj | hj
      · have := hj.2.2.1; dsimp only at this; omega
      · exact hj
    have hlen := hA.2.2.1
    refine ok_if (fun h0 => ok_some ⟨fun h => (h rfl).elim, h4.2, fun x h => (by cases h), ⟨by dsimp only; omega, by simp, by simp⟩, fun _ => rfl, fun h => (h rfl).elim⟩) fun h0 => ok_if (fun h1 => ok_ap (by omega) (by omega) (ok_some ⟨fun h => (h rfl).elim, fun x hx => ?_, fun x h => (by cases h), ⟨by simp only [List.length_append]; omega, by simp, by simp⟩, fun _ => rfl, fun h => (h rfl).elim⟩)) fun h1 => ok_some ⟨fun h => (h rfl).elim, h4.2, h5.2, ⟨by dsimp only; omega, by dsimp only; omega, hlen⟩, fun h => by dsimp only at h; omega, fun _ => hA.2.2.2 (Decidable.not_not.1 h1)⟩
    rcases List.mem_append.1 hx with hx | hx
    · exact h4.2 x hx
    · exact h5.2 x hx
theorem law08_awake : m_ridgewaylaw08_awake = some true := by kernel_rfl
theorem same_nil : m_ridgewayref08_Same ⟨[], noP, []⟩ ⟨[], ⟨0, [], 0, 0⟩, []⟩ = some true := by kernel_rfl
theorem updateGot_true (m : Msg) (hl : m.Body.length ≤ 9223372036854775807) : m_ridgewaylaw08_UpdateGot m = some true := by
  refine ok_true ?_
  unfold m_ridgewaylaw08_UpdateGot
  refine ok_bde law08_awake (ok_if (fun _ => ok_some rfl) fun h1 => ok_bd (t_updGet m (by omega)) fun r2 _ g => ok_if (fun hc => ?_) fun hc => ?_)
  · obtain ⟨b1, b2, b3⟩ := g.bad hc
    rw [b3]
    have go : Ok (bd (m_ridgewayref08_Same ⟨[], noP, []⟩ ⟨[], ⟨0, [], 0, 0⟩, []⟩) fun r => some r) (· = true) := ok_bde same_nil (ok_some rfl)
    exact ok_ifb (fun _ => ok_if (fun _ => ok_if (fun _ => go) fun q1 => ok_if (fun _ => go) fun q2 => ok_if (fun _ => go) fun q3 => by omega) fun h => absurd b1 h) fun h => Bool.noConfusion h
  · have hlens := g.lens
    refine ok_idx r2.1.Gone.length (fun _ => True) (by omega) trivial (fun i hi _ nx hnx => ?_) (fun _ nx => ?_)
    · rw [s_ridgewaylaw08_UpdateGot1]
      refine ok_if (fun _ => ok_ix (by omega) (by omega) fun hlt => ok_bd (t_psane _) fun r _ hr => ok_ifnb (fun h => ?_) fun _ => hnx trivial) fun h => absurd (Int.ofNat_lt.2 hi) h
      rw [hr.2 (g.gone _ (List.getElem_mem _))] at h; cases h
    rw [s_ridgewaylaw08_UpdateGot1]
    refine ok_if (fun h => by omega) fun _ => ok_idx r2.1.Nlri.length (fun _ => True) (by omega) trivial (fun i hi _ nx2 hnx => ?_) (fun _ nx2 => ?_)
    · rw [s_ridgewaylaw08_UpdateGot2]
      refine ok_if (fun _ => ok_ix (by omega) (by omega) fun hlt => ok_bd (t_psane _) fun r _ hr => ok_ifnb (fun h => ?_) fun _ => hnx trivial) fun h => absurd (Int.ofNat_lt.2 hi) h
      rw [hr.2 (g.nlri _ (List.getElem_mem _))] at h; cases h
    rw [s_ridgewaylaw08_UpdateGot2]
    refine ok_if (fun h => by omega) fun _ => ok_jn (fun j => j.length ≤ 255 ∧ ∀ x ∈ j, x ∈ r2.1.P.As) (fun k hk => ok_if (fun h => ok_bde (sl_pre (by omega)) (hk _ ⟨by simp [List.length_take]; omega, fun x hx => List.mem_of_mem_take hx⟩)) fun h => hk _ ⟨by omega, fun x hx => hx⟩) fun j hj => ok_ifb (fun _ => ?_) fun h => Bool.noConfusion h
    have sane : ¬ r2.1.Nlri.length = 0 → Ok (bd (m_attr_Sane ⟨r2.1.P.Origin, j, r2.1.P.Hop, r2.1.P.Otc⟩) fun r => some r) (· = true) := fun hn => by
      obtain ⟨g1, g2, g3, g4⟩ := g.path.2 hn
      exact ok_bd (t_attrSane ⟨r2.1.P.Origin, j, r2.1.P.Hop, r2.1.P.Otc⟩ (by dsimp only; omega)) fun b _ hb => ok_some (hb.2 ⟨fun x hx => g1 x (hj.2 x hx), g2, hj.1, g3, g4.1, g4.2⟩)
    refine ok_if (fun h0 => ?_) fun h0 => ok_if (fun h => sane (by omega)) fun h => by omega
    rw [g.path.1 (by omega)]
    exact ok_bde (same_refl _ (Nat.zero_le _)) (ok_ifb (fun _ => ok_some rfl) fun h => Bool.noConfusion h)
end Go.Proofs.Ytkdodhkiemfpeaa
