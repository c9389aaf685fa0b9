/- What the models come to. -/
import Derived.Test.YtkdodhkiemfpeaaPu0
import Derived.Test.YtkdodhkiemfpeaaMu4
import Derived.Test.YtkdodhkiemfpeaaQ0
import Derived.Test.YtkdodhkiemfpeaaNum
import Derived.KernelRfl
namespace Go.Proofs.Ytkdodhkiemfpeaa
open Go.RowKit
set_option linter.unusedVariables false
set_option linter.unusedSimpArgs false

theorem octTake_eq (l : List UInt8) (n : Int) : m_octet_Take l n = some (if 0 ≤ n ∧ n ≤ l.length then (l.take n.toNat, l.drop n.toNat, true) else ([], [], false)) := by
  unfold m_octet_Take
  by_cases h1 : n < 0
  · rw [decide_eq_true h1, cond_true, if_neg (by omega)]
  rw [decide_eq_false h1, cond_false]
  by_cases h2 : n > (l.length : Int)
  · rw [decide_eq_true h2, cond_true, if_neg (by omega)]
  rw [decide_eq_false h2, cond_false, sl_pre (by omega), bd_some, sl_all (by omega), bd_some, if_pos (by omega)]
theorem octGet_eq (l : List UInt8) (a : Int) (h1 : 1 ≤ a) (h4 : a ≤ 4) : m_octet_Get l a = some (if a ≤ l.length then (((num (l.take a.toNat) : Nat) : Int), l.drop a.toNat, true) else (0, [], false)) := by
  unfold m_octet_Get
  rw [decide_eq_false (by omega), cond_false, decide_eq_false (by omega), cond_false, octTake_eq, bd_some]
  by_cases hk : a ≤ l.length
  · rw [if_pos (by omega), if_pos hk]
    refine loopC_ind (fun st => ∃ j : Nat, j ≤ a.toNat ∧ st = (((num (l.take j) : Nat) : Int), (j : Int))) (fun st => (a - st.2).toNat) ?_ _ _ ⟨0, Nat.zero_le _, by simp [num]⟩ (big_lt (by simp; omega))
    rintro st ⟨j, hj, rfl⟩ nx hnx
    unfold s_octet_Get1
    have hlen : (l.take a.toNat).length = a.toNat := by rw [List.length_take]; omega
    simp only [hlen]
    by_cases hlt : j < a.toNat
    · rw [decide_eq_true (by omega), cond_true, ix_nat (by rw [hlen]; exact hlt), bd_some, List.getElem_take]
      have hb : l[j].toNat < 256 := l[j].toNat_lt
      have hnl : num (l.take j) < 16777216 := by
        have := num_lt (l.take j)
        have : 256 ^ (l.take j).length ≤ 256 ^ 3 := Nat.pow_le_pow_right (by omega) (by rw [List.length_take]; omega)
        omega
      have e1 : IntKind.i64.wrap ((num (l.take j) : Nat) * 2 ^ (min (8 : Int).toNat IntKind.i64.bits) : Int) = (num (l.take j) : Nat) * 256 := by
        rw [show (2 : Int) ^ (min (8 : Int).toNat IntKind.i64.bits) = 256 from rfl, w64 (by omega) (by omega)]
      have e2 : IntKind.i64.wrap (l[j].toNat : Int) = l[j].toNat := w64 (by omega) (by omega)
      have e3 := or_byte (num (l.take j)) l[j].toNat hb hnl
      simp only [bits] at e3
      have e4 := num_step l j (by omega)
      rw [e1, e2, e3, ← e4, w64 (by omega) (by omega)]
      exact hnx _ ⟨j + 1, by omega, by simp⟩ (by simp; omega)
    · obtain rfl : j = a.toNat := by omega
      rw [decide_eq_false (by omega), cond_false]
  · rw [if_neg (by omega), if_neg hk]
    rw [show BIG = (BIG - 1) + 1 from rfl, loopC_succ]
    rfl
theorem u8_fdiv' (v : Int) (j : Nat) (h : j ≤ 3) : toB (IntKind.u8.wrap (v.fdiv (2 ^ (min (8 * j) 64)))) = octAt v j := by
  have : v.fdiv (2 ^ (8 * j)) = v / 2 ^ (8 * j) := by
    rw [Int.fdiv_eq_ediv_of_nonneg]
    exact Int.le_of_lt (Int.pow_pos (by decide))
  rw [Nat.min_eq_left (by omega), this, u8wrap_eq]
  rfl
theorem octPut_eq (l : List UInt8) (v a : Int) (h1 : 1 ≤ a) (h4 : a ≤ 4) (hl : l.length ≤ 140737488355000) : m_octet_Put l v a = some (l ++ putL v a.toNat) := by
  unfold m_octet_Put
  rw [decide_eq_false (by omega), cond_false, decide_eq_false (by omega), cond_false, sl_pre (by omega), bd_some, Int.toNat_natCast, List.take_length]
  refine loopC_ind (fun st => ∃ j : Nat, j ≤ a.toNat ∧ st = (l ++ (putL v a.toNat).take j, (j : Int))) (fun st => (a - st.2).toNat) ?_ _ _ ⟨0, Nat.zero_le _, by simp⟩ (big_lt (by simp; omega))
  rintro st ⟨j, hj, rfl⟩ nx hnx
  unfold s_octet_Put1
  by_cases hlt : j < a.toNat
  · rw [decide_eq_true (by simp only; omega), cond_true]
    have e1 : IntKind.i64.wrap (8 * IntKind.i64.wrap (IntKind.i64.wrap (a - 1) - (j : Int))) = ((8 * (a.toNat - 1 - j) : Nat) : Int) := by
      rw [w64 (x := a - 1) (by omega) (by omega), w64 (x := a - 1 - (j : Int)) (by omega) (by omega), w64 (by omega) (by omega)]
      omega
    simp only [e1]
    rw [nn_some (by omega), Int.toNat_natCast, show IntKind.i64.bits = 64 from rfl, u8_fdiv' v _ (by omega), ap_some (by simp; omega) (by simp; omega), bd_some, w64 (by omega) (by omega), List.append_assoc, ← putL_step v a.toNat j hlt]
    exact hnx _ ⟨j + 1, by omega, by simp⟩ (by simp; omega)
  · obtain rfl : j = a.toNat := by omega
    rw [decide_eq_false (by simp only; omega), cond_false, List.take_of_length_le (by rw [putL_length]; exact Nat.le_refl _)]
end Go.Proofs.Ytkdodhkiemfpeaa
namespace Go.Proofs.Ytkdodhkiemfpeaa
open Go.RowKit
set_option linter.unusedVariables false
set_option linter.unusedSimpArgs false
set_option maxRecDepth 100000
set_option maxHeartbeats 1000000
theorem wrap_rng (x : Int) : -9223372036854775808 ≤ IntKind.i64.wrap x ∧ IntKind.i64.wrap x ≤ 9223372036854775807 := by
  rw [IntKind.wrap_i64]
  omega
def takeR (l : List UInt8) (n : Int) : List UInt8 × List UInt8 × Bool := if 0 ≤ n ∧ n ≤ l.length then (l.take n.toNat, l.drop n.toNat, true) else ([], [], false)
theorem take_eq (l : List UInt8) (n : Int) : m_octet_Take l n = some (takeR l n) := by
  refine (?_ : Ok (m_octet_Take l n) (· = takeR l n)).elim fun x h => by rw [h.1, h.2]
  unfold m_octet_Take takeR
  refine ok_if (fun h => ok_some (by rw [if_neg (by omega)])) fun h => ok_if (fun h2 => ok_some (by rw [if_neg (by omega)])) fun h2 => ok_bde (sl_pre (by omega)) (ok_bde (sl_all (by omega)) (ok_some (by rw [if_pos (by omega)])))
theorem t_get (l : List UInt8) (n : Int) (hl : l.length ≤ 1000000) : Ok (m_octet_Get l n) fun r => r.2.1.length ≤ l.length ∧ (-9223372036854775808 ≤ r.1 ∧ r.1 ≤ 9223372036854775807) ∧ (¬ r.1 = 0 → 1 ≤ n ∧ n ≤ 4 ∧ r.2.1.length + n.toNat = l.length) := by
  unfold m_octet_Get
  refine ok_if (fun h => ok_some ⟨Nat.zero_le _, by simp, fun k => absurd rfl k⟩) fun h => ok_if (fun h2 => ok_some ⟨Nat.zero_le _, by simp, fun k => absurd rfl k⟩) fun h2 => ok_bde (take_eq _ _) ?_
  unfold takeR
  by_cases hn : 0 ≤ n ∧ n ≤ l.length
  · rw [if_pos hn]
    have ht : (l.take n.toNat).length = n.toNat := by rw [List.length_take]; omega
    have hd : (l.drop n.toNat).length = l.length - n.toNat := List.length_drop
    refine ok_acc n.toNat (fun _ b => -9223372036854775808 ≤ b ∧ b ≤ 9223372036854775807) (by omega) (by simp) (fun i b hi hI nx hnx => ?_) (fun b hI nx => ?_)
    · rw [s_octet_Get1]
      exact ok_if (fun _ => ok_ix (by dsimp only; omega) (by dsimp only; omega) fun hlt => hnx _ (wrap_rng _)) fun h => absurd (show (i : Int) < ((l.take n.toNat).length : Int) by omega) h
    · rw [s_octet_Get1]
      exact ok_if (fun h => absurd h (by dsimp only; omega)) fun _ => ok_some ⟨by dsimp only; omega, hI, fun _ => ⟨by omega, by omega, by dsimp only; omega⟩⟩
  · rw [if_neg hn]
    refine ok_acc 0 (fun _ b => b = 0) (by omega) rfl (fun i b hi hI nx hnx => by omega) (fun b hI nx => ?_)
    rw [s_octet_Get1]
    exact ok_if (fun h => absurd h (by simp)) fun _ => ok_some ⟨Nat.zero_le _, by dsimp only; omega, fun k => absurd hI k⟩
theorem t_put (l : List UInt8) (v n : Int) (hl : l.length ≤ 1000000) : Ok (m_octet_Put l v n) fun r => r.length ≤ l.length + 4 := by
  unfold m_octet_Put
  refine ok_if (fun _ => ok_some (by omega)) fun h1 => ok_if (fun _ => ok_some (by omega)) fun h2 => ok_bde (sl_pre (by omega)) ?_
  rw [Int.toNat_natCast, List.take_length]
  refine ok_acc n.toNat (fun i b => b.length = l.length + i) (by omega) rfl (fun i b hi hI nx hnx => ?_) (fun b hI nx => ?_)
  · rw [s_octet_Put1]
    refine ok_if (fun _ => ?_) fun h => absurd (show (i : Int) < n by omega) h
    have hw : 0 ≤ IntKind.i64.wrap ((8 : Int) * (IntKind.i64.wrap ((IntKind.i64.wrap (n - (1 : Int))) - (i : Int)))) := by
      rw [w64 (x := n - 1) (by omega) (by omega), w64 (x := n - 1 - i) (by omega) (by omega), w64 (by omega) (by omega)]
      omega
    dsimp only
    rw [nn_some hw]
    exact ok_ap (by simp; omega) (by simp; omega) (hnx _ (by simp; omega))
  · rw [s_octet_Put1]
    exact ok_if (fun h => absurd h (by dsimp only; omega)) fun _ => ok_some (by dsimp only; omega)
theorem oct_eq (n : Int) : m_attr_octetSized n = some (decide (0 ≤ n ∧ n ≤ 255)) := by
  refine (?_ : Ok (m_attr_octetSized n) (· = decide (0 ≤ n ∧ n ≤ 255))).elim fun x h => by rw [h.1, h.2]
  unfold m_attr_octetSized
  refine ok_if (fun h => ok_some ?_) fun h => ok_some ?_
  · by_cases h2 : n ≤ 255
    · rw [decide_eq_true h2, decide_eq_true (by omega)]
    · rw [decide_eq_false h2, decide_eq_false (by omega)]
  · rw [decide_eq_false (by omega)]
theorem t_attrPut (l : List UInt8) (y : Attr) (hl : l.length ≤ 500000) (hy : y.Data.length ≤ 10000) : Ok (m_attr_Put l y) fun r => r.length ≤ l.length + 12 + y.Data.length := by
  unfold m_attr_Put
  refine ok_bde (oct_eq _) (ok_ifnb (fun _ => ok_some (by omega)) fun h1 => ok_bde (oct_eq _) (ok_ifnb (fun _ => ok_some (by omega)) fun h2 => ok_if (fun h => by omega) fun _ => ok_if (fun h => ?_) fun h => ?_))
  · exact ok_bd (t_put _ _ _ (by omega)) fun r3 _ h3 => ok_bd (t_put _ _ _ (by omega)) fun r4 _ h4 => ok_bd (t_put _ _ _ (by omega)) fun r5 _ h5 => ok_ap (by omega) (by omega) (ok_some (by simp; omega))
  · exact ok_bd (t_put _ _ _ (by omega)) fun r3 _ h3 => ok_bd (t_put _ _ _ (by omega)) fun r4 _ h4 => ok_bd (t_put _ _ _ (by omega)) fun r5 _ h5 => ok_ap (by omega) (by omega) (ok_some (by simp; omega))
def fatalB (y : Attr) : Bool := (m_attr_fatal y).getD false
theorem fatal_eq (y : Attr) : m_attr_fatal y = some (fatalB y) := by
  have h : Ok (m_attr_fatal y) fun _ => True := by
    unfold m_attr_fatal
    exact ok_if (fun _ => ok_if (fun _ => ok_some trivial) fun _ => ok_ifnb (fun _ => ok_some trivial) fun _ => ok_some trivial) fun _ => ok_ifnb (fun _ => ok_some trivial) fun _ => ok_some trivial
  obtain ⟨b, e, _⟩ := h
  unfold fatalB
  rw [e]
  rfl
theorem t_num (l : List UInt8) (hl : l.length ≤ 1000000) : Ok (m_attr_number l) fun _ => True := by
  unfold m_attr_number
  exact ok_bd (t_get l 4 hl) fun r1 _ h1 => ok_if (fun _ => ok_some trivial) fun _ => ok_some trivial
theorem if_cong {R : Type} {b : Bool} {A A' B B' : R} (h1 : A = A') (h2 : b = false → B = B') : (bif b then A else B) = bif b then A' else B' := by
  cases b
  · exact h2 rfl
  · exact h1
theorem if_cong1 {R : Type} {b : Bool} {A A' B B' : R} (h1 : b = true → A = A') (h2 : B = B') : (bif b then A else B) = bif b then A' else B' := by
  cases b
  · exact h2
  · exact h1 rfl
theorem bd_cong {α R : Type} {m m' : Option α} {k k' : α → Option R} (h : m = m') (h2 : ∀ x, k x = k' x) : bd m k = bd m' k' := by
  rw [h, funext h2]
theorem jn_cong {τ R : Type} {i : Nat} {f f' : (τ → Option R) → Option R} {k k' : τ → Option R} (h : ∀ k, f k = f' k) (h2 : ∀ x, k x = k' x) : jn i f k = jn i f' k' := by
  rw [funext h, funext h2]

def c0 (f : Int) : Int := IntKind.i64.wrap ((BitVec.ofInt IntKind.i64.bits f &&& BitVec.ofInt IntKind.i64.bits (239 : Int)).toNat : Int)
def c1 (f : Int) : Int := IntKind.i64.wrap ((BitVec.ofInt IntKind.i64.bits f ||| BitVec.ofInt IntKind.i64.bits (16 : Int)).toNat : Int)
def b16 (f : Int) : Int := IntKind.i64.wrap ((BitVec.ofInt IntKind.i64.bits f &&& BitVec.ofInt IntKind.i64.bits (16 : Int)).toNat : Int)
def n16 (f : Int) : Int := IntKind.i64.wrap ((BitVec.ofInt IntKind.i64.bits f &&& ~~~ BitVec.ofInt IntKind.i64.bits (16 : Int)).toNat : Int)
theorem fl_fin : ∀ f : Fin 256, (0 ≤ c0 (f.val : Int) ∧ c0 (f.val : Int) ≤ 255) ∧ b16 (c0 (f.val : Int)) = 0 ∧ n16 (f.val : Int) = c0 (f.val : Int) ∧ (0 ≤ c1 (c0 (f.val : Int)) ∧ c1 (c0 (f.val : Int)) ≤ 255) ∧ ¬ b16 (c1 (c0 (f.val : Int))) = 0 := by decide
theorem fl_all (f : Int) (h : 0 ≤ f ∧ f ≤ 255) : (0 ≤ c0 f ∧ c0 f ≤ 255) ∧ b16 (c0 f) = 0 ∧ n16 f = c0 f ∧ (0 ≤ c1 (c0 f) ∧ c1 (c0 f) ≤ 255) ∧ ¬ b16 (c1 (c0 f)) = 0 := by
  have := fl_fin ⟨f.toNat, by omega⟩
  rwa [show ((f.toNat : Nat) : Int) = f by omega] at this
/-- The octets of an attribute. -/
def encA (y : Attr) : List UInt8 := putL y.Flags 1 ++ (putL y.Typ 1 ++ (putL (y.Data.length : Int) (if y.Data.length > 255 then 2 else 1) ++ y.Data))
/-- As it comes back. -/
def canon (y : Attr) : Attr := ⟨if y.Data.length > 255 then c1 (c0 y.Flags) else c0 y.Flags, y.Typ, y.Data⟩
structure Canon (y : Attr) : Prop where
  fl : 0 ≤ y.Flags ∧ y.Flags ≤ 255
  ty : 0 ≤ y.Typ ∧ y.Typ ≤ 255
  len : y.Data.length ≤ 65535
  bit : b16 y.Flags = 0 ↔ y.Data.length ≤ 255
theorem canon_ok (y : Attr) (hf : 0 ≤ y.Flags ∧ y.Flags ≤ 255) (ht : 0 ≤ y.Typ ∧ y.Typ ≤ 255) (hl : y.Data.length ≤ 65535) : Canon (canon y) := by
  obtain ⟨h1, h2, h3, h4, h5⟩ := fl_all y.Flags hf
  unfold canon
  by_cases h : y.Data.length > 255
  · rw [if_pos h]
    exact ⟨h4, ht, hl, ⟨fun k => absurd k h5, fun k => by dsimp only at k; omega⟩⟩
  · rw [if_neg h]
    exact ⟨h1, ht, hl, ⟨fun _ => by dsimp only; omega, fun _ => h2⟩⟩
theorem enc_len (y : Attr) : (encA y).length ≤ y.Data.length + 4 := by
  unfold encA
  simp only [List.length_append, putL_length]
  split <;> omega
theorem attrPut_eq (l : List UInt8) (y : Attr) (hb : l.length ≤ 1000000) (hf : 0 ≤ y.Flags ∧ y.Flags ≤ 255) (ht : 0 ≤ y.Typ ∧ y.Typ ≤ 255) (hl : y.Data.length ≤ 65535) : m_attr_Put l y = some (l ++ encA (canon y)) := by
  obtain ⟨h1, h2, h3, h4, h5⟩ := fl_all y.Flags hf
  refine (?_ : Ok (m_attr_Put l y) (· = l ++ encA (canon y))).elim fun x h => by rw [h.1, h.2]
  have p1 : ∀ v : Int, (putL v 1).length = 1 := fun v => putL_length v 1
  have p2 : ∀ v : Int, (putL v 2).length = 2 := fun v => putL_length v 2
  unfold m_attr_Put encA canon
  refine ok_bde (oct_eq _) (ok_ifnb (fun h => absurd (of_decide_eq_false h) (fun k => k ⟨hf.1, hf.2⟩)) fun _ => ok_bde (oct_eq _) (ok_ifnb (fun h => absurd (of_decide_eq_false h) (fun k => k ⟨ht.1, ht.2⟩)) fun _ => ok_if (fun h => by omega) fun _ => ok_if (fun h => ?_) fun h => ?_))
  · rw [if_pos (by omega), if_pos (by dsimp only; omega)]
    refine ok_bde (octPut_eq _ _ 1 (by omega) (by omega) (by omega)) (ok_bde (octPut_eq _ _ 1 (by omega) (by omega) (by simp [putL_length]; omega)) (ok_bde (octPut_eq _ _ 2 (by omega) (by omega) (by simp [putL_length]; omega)) (ok_ap (by simp [putL_length]; omega) (by simp [putL_length]; omega) (ok_some ?_))))
    show l ++ putL (c1 (n16 y.Flags)) 1 ++ putL y.Typ 1 ++ putL (y.Data.length : Int) 2 ++ y.Data = _
    rw [h3]
    simp only [List.append_assoc]
  · rw [if_neg (by omega), if_neg (by dsimp only; omega)]
    refine ok_bde (octPut_eq _ _ 1 (by omega) (by omega) (by omega)) (ok_bde (octPut_eq _ _ 1 (by omega) (by omega) (by simp [putL_length]; omega)) (ok_bde (octPut_eq _ _ 1 (by omega) (by omega) (by simp [putL_length]; omega)) (ok_ap (by simp [putL_length]; omega) (by simp [putL_length]; omega) (ok_some ?_))))
    show l ++ putL (n16 y.Flags) 1 ++ putL y.Typ 1 ++ putL (y.Data.length : Int) 1 ++ y.Data = _
    rw [h3]
    simp only [List.append_assoc]
theorem attrPut_no (l : List UInt8) (y : Attr) (h : ¬ ((0 ≤ y.Flags ∧ y.Flags ≤ 255) ∧ (0 ≤ y.Typ ∧ y.Typ ≤ 255))) : m_attr_Put l y = some l := by
  refine (?_ : Ok (m_attr_Put l y) (· = l)).elim fun x h => by rw [h.1, h.2]
  unfold m_attr_Put
  refine ok_bde (oct_eq _) (ok_ifnb (fun _ => ok_some rfl) fun h1 => ok_bde (oct_eq _) (ok_ifnb (fun _ => ok_some rfl) fun h2 => ?_))
  exact absurd ⟨of_decide_eq_true h1, of_decide_eq_true h2⟩ h
theorem get_put (v : Int) (k : Nat) (t : List UInt8) (a : Int) (ha : a = (k : Int)) (hk : 1 ≤ k ∧ k ≤ 4) (hv : 0 ≤ v ∧ v < (256 : Int) ^ k) : m_octet_Get (putL v k ++ t) a = some (v, t, true) := by
  subst ha
  rw [octGet_eq _ _ (by omega) (by omega), if_pos (by rw [List.length_append, putL_length]; omega)]
  simp only [Int.toNat_natCast]
  rw [List.take_append_of_le_length (by rw [putL_length]; omega), List.take_of_length_le (by rw [putL_length]; omega), List.drop_append_of_le_length (by rw [putL_length]; omega), List.drop_of_length_le (by rw [putL_length]; omega), num_putL, Int.emod_eq_of_lt hv.1 hv.2]
  rfl
theorem attrGet_eq (y : Attr) (t : List UInt8) (c : Canon y) : m_attr_Get (encA y ++ t) = some (y, t, true) := by
  obtain ⟨hf, ht, hl, hb⟩ := c
  refine (?_ : Ok (m_attr_Get (encA y ++ t)) (· = (y, t, true))).elim fun x h => by rw [h.1, h.2]
  have tk : m_octet_Take (y.Data ++ t) (y.Data.length : Int) = some (y.Data, t, true) := by
    rw [octTake_eq, if_pos (by simp only [List.length_append]; omega)]
    simp
  unfold m_attr_Get encA
  simp only [List.append_assoc]
  refine ok_bde (get_put _ 1 _ 1 rfl (by omega) (by omega)) (ok_bde (get_put _ 1 _ 1 rfl (by omega) (by omega)) (ok_jn (fun j => j = if y.Data.length > 255 then 2 else 1) (fun k hk => ok_if (fun h => hk _ ?_) fun h => hk _ ?_) fun j hj => ?_))
  · have : ¬ b16 y.Flags = 0 := h
    rw [if_pos (by omega)]
  · have : b16 y.Flags = 0 := Decidable.not_not.1 h
    rw [if_neg (by omega)]
  · refine ok_bde (x := ((y.Data.length : Int), y.Data ++ t, true)) ?_ (ok_bde tk (ok_ifnb (fun h => Bool.noConfusion h) fun _ => ok_ifnb (fun h => Bool.noConfusion h) fun _ => ok_some rfl))
    rw [hj]
    split
    · exact get_put _ 2 _ 2 rfl (by omega) (by omega)
    · exact get_put _ 1 _ 1 rfl (by omega) (by omega)
theorem enc_pos (y : Attr) : 0 < (encA y).length := by
  unfold encA
  simp only [List.length_append, putL_length]
  omega
theorem attrAll_eq (L : List Attr) (hc : ∀ y ∈ L, Canon y) (hl : L.length ≤ 1000) : m_attr_All (L.flatMap encA) = some (L, true) := by
  refine (?_ : Ok (m_attr_All (L.flatMap encA)) (· = (L, true))).elim fun x h => by rw [h.1, h.2]
  unfold m_attr_All
  refine ok_loop (fun st => ∃ i : Nat, i ≤ L.length ∧ st.1 = (L.drop i).flatMap encA ∧ st.2 = L.take i) (fun st => L.length - st.2.length) ⟨0, Nat.zero_le _, rfl, rfl⟩ (by dsimp only; omega) ?_
  rintro ⟨_, _⟩ ⟨i, hi, rfl, rfl⟩ nx hnx
  rw [s_attr_All1]
  dsimp only at hnx ⊢
  by_cases hlt : i < L.length
  · rw [List.drop_eq_getElem_cons hlt, List.flatMap_cons]
    have := enc_pos L[i]
    refine ok_if (fun _ => ok_bde (attrGet_eq _ _ (hc _ (List.getElem_mem hlt))) (ok_ifnb (fun h => Bool.noConfusion h) fun _ => ok_ap (by simp; omega) (by simp; omega) (hnx _ ⟨i + 1, hlt, rfl, List.take_append_getElem hlt⟩ ?_))) fun h => absurd (by simp only [List.length_append]; omega) h
    simp only [List.length_append, List.length_take, List.length_singleton]
    omega
  · rw [List.drop_of_length_le (by omega), List.take_of_length_le (by omega)]
    exact ok_if (fun h => absurd h (by simp)) fun _ => ok_some rfl
/-- The first of each kind; nothing if one is fatal. -/
def gat : List (Int × Attr) → List Attr → Option (List (Int × Attr))
  | e, [] => some e
  | e, y :: ys => if (mget e y.Typ).isSome = true then gat e ys else if fatalB y = true then none else gat (e ++ [(y.Typ, y)]) ys
theorem set_new {e : List (Int × Attr)} {k : Int} {y : Attr} (h : mget e k = none) : msetL e k y = e ++ [(k, y)] := by
  rw [mget_eq] at h
  induction e with
  | nil => rfl
  | cons p e ih =>
    obtain ⟨a, b⟩ := p
    rw [List.find?_cons] at h
    rw [msetL]
    by_cases hk : a = k
    · rw [decide_eq_true hk] at h; cases h
    · rw [decide_eq_false hk] at h
      rw [if_neg hk, ih h]
      rfl
theorem mget_app {e : List (Int × Attr)} {k t : Int} {y z : Attr} (h : mget (e ++ [(k, y)]) t = some z) : mget e t = some z ∨ z = y := by
  rw [mget_eq, List.find?_append, Option.map_or] at h
  cases he : mget e t with
  | some w => rw [mget_eq] at he; rw [he] at h; exact .inl h
  | none =>
    rw [mget_eq] at he
    rw [he, Option.none_or, List.find?_cons] at h
    by_cases hk : k = t
    · rw [decide_eq_true hk] at h
      cases h
      exact .inr rfl
    · rw [decide_eq_false hk] at h
      cases h
theorem same_refl (p : Path) (h : p.As.length ≤ 10000) : m_ridgewayref07_SamePath p p = some true := by
  refine ok_true ?_
  unfold m_ridgewayref07_SamePath
  refine ok_if (fun h => absurd rfl h) fun _ => ok_if (fun h => absurd rfl h) fun _ => ok_if (fun h => absurd rfl h) fun _ => ok_if (fun h => absurd rfl h) fun _ => ok_idx p.As.length (fun _ => True) (by omega) trivial (fun i hi _ nx hnx => ?_) (fun _ nx => ?_)
  · rw [s_ridgewayref07_SamePath1]
    exact ok_if (fun _ => ok_ix (by omega) (by omega) fun _ => ok_ix (by omega) (by omega) fun _ => ok_if (fun h => absurd rfl h) fun _ => hnx trivial) fun h => absurd (Int.ofNat_lt.2 hi) h
  · rw [s_ridgewayref07_SamePath1]
    exact ok_if (fun h => by omega) fun _ => ok_some rfl

/-- No kind twice. -/
def Once (l : List Attr) : Prop := l.Pairwise fun a b => ¬ a.Typ = b.Typ
theorem gat_once : ∀ (l : List Attr) (e : List (Int × Attr)), Once l → (∀ y ∈ l, mget e y.Typ = none) → gat e l = if l.any fatalB = true then none else some (e ++ l.map fun y => (y.Typ, y))
  | [], e, _, _ => by simp [gat]
  | y :: ys, e, ho, hn => by
    rw [gat, hn y List.mem_cons_self, if_neg (show ¬ (none : Option Attr).isSome = true by decide), List.any_cons]
    cases hf : fatalB y with
    | true => rw [if_pos rfl, Bool.true_or, if_pos rfl]
    | false =>
      rw [if_neg (by decide), Bool.false_or, gat_once ys (e ++ [(y.Typ, y)]) (List.pairwise_cons.1 ho).2 fun z hz => ?_]
      · split
        · rfl
        · rw [List.map_cons, List.append_assoc]; rfl
      · have h1 := hn z (List.mem_cons_of_mem _ hz)
        have h2 := (List.pairwise_cons.1 ho).1 z hz
        rw [mget_eq] at h1 ⊢
        rw [List.find?_append]
        rw [Option.map_eq_none_iff] at h1
        rw [h1, Option.none_or, List.find?_cons, decide_eq_false h2]
        rfl
theorem mget_once (t : Int) : ∀ (l : List Attr), Once l → ∀ z, mget (l.map fun y => (y.Typ, y)) t = some z ↔ z ∈ l ∧ z.Typ = t
  | [], _, z => by simp [mget_eq]
  | y :: ys, ho, z => by
    have ih := mget_once t ys (List.pairwise_cons.1 ho).2 z
    have hn := (List.pairwise_cons.1 ho).1
    rw [mget_eq] at ih
    rw [mget_eq, List.map_cons, List.find?_cons]
    by_cases hk : y.Typ = t
    · rw [decide_eq_true hk]
      constructor
      · intro h
        cases h
        exact ⟨List.mem_cons_self, hk⟩
      · rintro ⟨hz, ht⟩
        rcases List.mem_cons.1 hz with rfl | hz
        · rfl
        · exact absurd (hk.trans ht.symm) (hn z hz)
    · rw [decide_eq_false hk]
      refine ih.trans ⟨fun ⟨h1, h2⟩ => ⟨List.mem_cons_of_mem _ h1, h2⟩, fun ⟨h1, h2⟩ => ?_⟩
      rcases List.mem_cons.1 h1 with rfl | h1
      · exact absurd h2 hk
      · exact ⟨h1, h2⟩
/-- A path that may be. -/
def PathOk (p : Path) : Prop := (∀ x ∈ p.As, 1 ≤ x ∧ x ≤ 4294967295) ∧ (0 ≤ p.Origin ∧ p.Origin ≤ 2) ∧ p.As.length ≤ 255 ∧ (1 ≤ p.Hop ∧ p.Hop ≤ 4294967295) ∧ 0 ≤ p.Otc ∧ p.Otc ≤ 4294967295
theorem t_attrSane (p : Path) (hl : p.As.length ≤ 9223372036854775807) : Ok (m_attr_Sane p) fun b => b = true ↔ PathOk p := by
  unfold m_attr_Sane
  have no : ∀ {A : Prop}, ¬ A → Ok (some false : Option Bool) (fun b => b = true ↔ A) := fun h => ok_some ⟨fun k => Bool.noConfusion k, fun k => absurd k h⟩
  refine ok_idx p.As.length (fun j => ∀ i (h : i < p.As.length), i < j → 1 ≤ p.As[i] ∧ p.As[i] ≤ 4294967295) hl (fun _ _ h => absurd h (Nat.not_lt_zero _)) (fun i hi hI nx hnx => ?_) (fun hI nx => ?_)
  · rw [s_attr_Sane1]
    have hm := List.getElem_mem hi
    refine ok_if (fun _ => ok_ix (by omega) (by omega) fun hlt => ok_if (fun h1 => no fun k => ?_) fun h1 => ok_if (fun h2 => no fun k => ?_) fun h2 => hnx fun j hj hji => ?_) fun h => absurd (Int.ofNat_lt.2 hi) h
    · have := k.1 _ hm; simp only [Int.toNat_natCast] at h1; omega
    · have := k.1 _ hm; simp only [Int.toNat_natCast] at h2; omega
    · simp only [Int.toNat_natCast] at h1 h2
      rcases Nat.lt_succ_iff_lt_or_eq.1 hji with g | rfl
      · exact hI j hj g
      · exact ⟨by omega, by omega⟩
  · rw [s_attr_Sane1]
    have hall : ∀ x ∈ p.As, 1 ≤ x ∧ x ≤ 4294967295 := fun x hx => by
      obtain ⟨i, h, rfl⟩ := List.getElem_of_mem hx
      exact hI i h h
    refine ok_if (fun h => by omega) fun _ => ok_if (fun h1 => ok_if (fun h2 => ok_if (fun h3 => ok_if (fun h4 => ok_if (fun h5 => ok_if (fun h6 => ok_some ?_) fun h => no fun k => ?_) fun h => no fun k => ?_) fun h => no fun k => ?_) fun h => no fun k => ?_) fun h => no fun k => ?_) fun h => no fun k => ?_
    · rw [decide_eq_true_eq]
      exact ⟨fun h7 => ⟨hall, ⟨h1, h2⟩, by omega, ⟨h4, h5⟩, h6, h7⟩, fun k => k.2.2.2.2.2⟩
    all_goals (obtain ⟨_, _, _, _, _, _⟩ := k; omega)
theorem byte0 (v : Int) : toB (IntKind.u8.wrap v) = octAt v 0 := by
  unfold toB octAt
  rw [u8wrap_eq]
  simp
theorem get1c (x : UInt8) (t : List UInt8) : m_octet_Get (x :: t) 1 = some ((x.toNat : Int), t, true) := by
  rw [octGet_eq _ _ (by omega) (by omega), if_pos (by simp; omega)]
  simp [num]
theorem seg_eq (as : List Int) (hl : as.length ≤ 1000) : m_attr_segment as = some (if as.length = 0 then [] else (2 : UInt8) :: octAt (as.length : Int) 0 :: as.flatMap fun x => putL x 4) := by
  refine (?_ : Ok (m_attr_segment as) (· = if as.length = 0 then [] else (2 : UInt8) :: octAt (as.length : Int) 0 :: as.flatMap fun x => putL x 4)).elim fun x h => by rw [h.1, h.2]
  unfold m_attr_segment
  refine ok_if (fun h => ok_some (by rw [if_pos (by omega)])) fun h => ?_
  rw [if_neg (by omega), byte0]
  refine ok_acc as.length (fun i b => b = (2 : UInt8) :: octAt (as.length : Int) 0 :: (as.take i).flatMap (fun x => putL x 4) ∧ b.length ≤ 2 + 4 * i) (by omega) ⟨by simp, by simp⟩ (fun i b hi hI nx hnx => ?_) (fun b hI nx => ?_)
  · obtain ⟨hI, hb⟩ := hI
    rw [s_attr_segment1]
    refine ok_if (fun _ => ok_ix (by omega) (by omega) fun hlt => ok_bde (octPut_eq [] _ 4 (by omega) (by omega) (by simp)) ?_) fun h => absurd (Int.ofNat_lt.2 hi) h
    simp only [Int.toNat_natCast, List.nil_append]
    have hp : (putL as[i] (4 : Int).toNat).length = 4 := putL_length _ _
    refine ok_ap (by rw [hp]; omega) (by rw [hp]; omega) (hnx _ ⟨?_, by rw [List.length_append, hp]; omega⟩)
    rw [hI, ← List.take_append_getElem hi, List.flatMap_append]
    simp
  · rw [s_attr_segment1]
    refine ok_if (fun h => by dsimp only at h; omega) fun _ => ok_some ?_
    have := hI.1
    rwa [List.take_length] at this

theorem ok_out {R : Type} {m : Option R} {r : R} (h : Ok m (· = r)) : m = some r := by
  obtain ⟨x, e, rfl⟩ := h
  exact e
/-- The octets of a path's numbers. -/
def segL (as : List Int) : List UInt8 := if as.length = 0 then [] else (2 : UInt8) :: octAt (as.length : Int) 0 :: as.flatMap fun x => putL x 4
/-- The attributes of a path. -/
def ofL (p : Path) : List Attr := [⟨64, 1, putL p.Origin 1⟩, ⟨64, 2, segL p.As⟩, ⟨64, 3, putL p.Hop 4⟩] ++ (if p.Otc = 0 then [] else [⟨192, 35, putL p.Otc 4⟩])
theorem of_eq (p : Path) (h : PathOk p) : m_attr_Of p = some (ofL p) := by
  have hl := h.2.2.1
  obtain ⟨b, e, hb⟩ := t_attrSane p (by omega)
  have hb := hb.2 h
  subst hb
  refine (?_ : Ok (m_attr_Of p) (· = ofL p)).elim fun x h => by rw [h.1, h.2]
  unfold m_attr_Of ofL
  refine ok_bde e (ok_ifnb (fun h => Bool.noConfusion h) fun h => ok_bde (octPut_eq [] _ 1 (by omega) (by omega) (by simp)) (ok_bde (seg_eq _ (by omega)) (ok_bde (octPut_eq [] _ 4 (by omega) (by omega) (by simp)) ?_)))
  refine ok_if (fun ho => ok_bde (octPut_eq [] _ 4 (by omega) (by omega) (by simp)) (ok_ap (by simp) (by simp) (ok_some ?_))) fun ho => ok_some ?_
  · rw [if_neg ho]; rfl
  · rw [if_pos (Decidable.not_not.1 ho)]; rfl
theorem num_eq (v : Int) (h : 1 ≤ v ∧ v ≤ 4294967295) : m_attr_number (putL v 4) = some (v, true) := by
  refine (?_ : Ok (m_attr_number (putL v 4)) (· = (v, true))).elim fun x h => by rw [h.1, h.2]
  unfold m_attr_number
  have := get_put v 4 [] 4 rfl (by omega) ⟨by omega, by omega⟩
  rw [List.append_nil] at this
  exact ok_bde this (ok_if (fun _ => ok_some rfl) fun k => by dsimp only at k; omega)
theorem fl64 : (IntKind.i64.wrap ((BitVec.ofInt IntKind.i64.bits (64 : Int) &&& BitVec.ofInt IntKind.i64.bits (192 : Int)).toNat : Int)) = 64 := by decide
theorem fl192 : (IntKind.i64.wrap ((BitVec.ofInt IntKind.i64.bits (192 : Int) &&& BitVec.ofInt IntKind.i64.bits (192 : Int)).toNat : Int)) = 192 := by decide
/-- Where these attributes are first, the path comes back. -/
theorem judge_of : ∃ bk : List (Int × Attr) → Option (Path × Int × Note), (∀ l, m_attr_Judge l = loopC (s_attr_Judge1 l) bk BIG ((0 : Int), [])) ∧
    ∀ p, PathOk p → ∀ e f1 f2 f3 f35, mget e 1 = some ⟨f1, 1, putL p.Origin 1⟩ → mget e 2 = some ⟨f2, 2, segL p.As⟩ → mget e 3 = some ⟨f3, 3, putL p.Hop 4⟩ → mget e 4 = none → mget e 35 = (if p.Otc = 0 then none else some ⟨f35, 35, putL p.Otc 4⟩) → IntKind.i64.wrap ((BitVec.ofInt IntKind.i64.bits f1 &&& BitVec.ofInt IntKind.i64.bits (192 : Int)).toNat : Int) = 64 → IntKind.i64.wrap ((BitVec.ofInt IntKind.i64.bits f2 &&& BitVec.ofInt IntKind.i64.bits (192 : Int)).toNat : Int) = 64 → IntKind.i64.wrap ((BitVec.ofInt IntKind.i64.bits f3 &&& BitVec.ofInt IntKind.i64.bits (192 : Int)).toNat : Int) = 64 → IntKind.i64.wrap ((BitVec.ofInt IntKind.i64.bits f35 &&& BitVec.ofInt IntKind.i64.bits (192 : Int)).toNat : Int) = 192 → bk e = some (p, 0, ⟨0, 0, []⟩) := by
  refine ⟨_, fun l => by unfold m_attr_Judge; rfl, fun p hp e f1 f2 f3 f35 h1 h2 h3 h4 h35 q1 q2 q3 q35 => ?_⟩
  obtain ⟨has, hor, hlen, hhop, hotc0, hotc⟩ := hp
  refine ok_out ?_
  have some_ : ∀ {t : Int} {y : Attr} {F : Attr → Option (Path × Int × Note)} {A : Option (Path × Int × Note)}, mget e t = some y → Ok (F y) (· = (p, 0, ⟨0, 0, []⟩)) → Ok (bif mhas e t then bd (mget e t) F else A) (· = (p, 0, ⟨0, 0, []⟩)) := fun h k => by
    rw [mhas_get, h, bd_some]; exact k
  have none_ : ∀ {t : Int} {F : Attr → Option (Path × Int × Note)} {A : Option (Path × Int × Note)}, mget e t = none → Ok A (· = (p, 0, ⟨0, 0, []⟩)) → Ok (bif mhas e t then bd (mget e t) F else A) (· = (p, 0, ⟨0, 0, []⟩)) := fun h k => by
    rw [mhas_get, h]; exact k
  have ho0 : ((octAt p.Origin 0).toNat : Int) = p.Origin := by
    rw [← byte0, toB_of (by rw [u8wrap_eq]; omega), u8wrap_eq]; omega
  have p1 : putL p.Origin 1 = [octAt p.Origin 0] := rfl
  refine some_ h1 (ok_if (fun h => (h q1).elim) fun _ => ok_jn (fun j => j = (true, p.Origin)) (fun k hk => ok_if (fun h => (h (by rw [putL_length]; rfl)).elim) fun _ => ?_) fun i1 hi1 => ?_)
  · rw [p1]
    have hix : ix [octAt p.Origin 0] 0 = some (octAt p.Origin 0) := ix_some (by omega) rfl
    refine ok_bde hix (ok_if (fun h => by omega) fun _ => ok_bde hix (hk _ ?_))
    rw [w64 (by omega) (by omega), ho0]
  subst hi1
  refine ok_ifnb (fun h => Bool.noConfusion h) fun _ => some_ h2 (ok_if (fun h => (h q2).elim) fun _ => ok_jn (fun j => j = (true, p.As)) (fun k hk => ?_) fun i2 hi2 => ?_)
  · dsimp only
    refine ok_loop (fun st => (¬ p.As.length = 0 ∧ st = (segL p.As, [])) ∨ st = ([], p.As)) (fun st => st.1.length) ?_ ?_ ?_
    · by_cases h0 : p.As.length = 0
      · refine .inr ?_
        unfold segL
        rw [if_pos h0, List.length_eq_zero_iff.1 h0]
      · exact .inl ⟨h0, rfl⟩
    · have hfl : (p.As.flatMap fun x => putL x 4).length = 4 * p.As.length := by
        generalize p.As = as
        induction as with
        | nil => rfl
        | cons x xs ih => rw [List.flatMap_cons, List.length_append, ih, putL_length, List.length_cons]; omega
      unfold segL
      split
      · simp
      · simp only [List.length_cons, hfl]; omega
    · rintro st (⟨h0, rfl⟩ | rfl) nx hnx
      · rw [s_attr_Judge2]
        have hs : segL p.As = (2 : UInt8) :: octAt (p.As.length : Int) 0 :: p.As.flatMap fun x => putL x 4 := by unfold segL; rw [if_neg h0]
        rw [hs]
        have ho : ((octAt (p.As.length : Int) 0).toNat : Int) = p.As.length := by
          rw [← byte0, toB_of (by rw [u8wrap_eq]; omega), u8wrap_eq]; omega
        refine ok_if (fun _ => ok_bde (get1c _ _) (ok_bde (get1c _ _) (ok_if (fun h => (h rfl).elim) fun _ => ok_if (fun h => by dsimp only at h; omega) fun _ => ?_))) fun h => (h (by simp; omega)).elim
        dsimp only
        refine ok_loop (fun s => ∃ i : Nat, i ≤ p.As.length ∧ s = ((p.As.drop i).flatMap (fun x => putL x 4), (i : Int), p.As.take i)) (fun s => ((p.As.length : Int) - s.2.1).toNat) ⟨0, Nat.zero_le _, rfl⟩ (by dsimp only; omega) ?_
        rintro _ ⟨i, hi, rfl⟩ nx3 hnx3
        rw [s_attr_Judge3]
        dsimp only at hnx3 ⊢
        rw [ho]
        by_cases hlt : i < p.As.length
        · have hx := has _ (List.getElem_mem hlt)
          rw [List.drop_eq_getElem_cons hlt, List.flatMap_cons]
          have hw : IntKind.i64.wrap ((i : Int) + 1) = ((i + 1 : Nat) : Int) := by rw [w64 (by omega) (by omega)]; rfl
          refine ok_if (fun _ => ok_bde (get_put _ 4 _ 4 rfl (by omega) ⟨by omega, by omega⟩) (ok_if (fun h => by dsimp only at h; omega) fun _ => ok_ap (by simp; omega) (by simp; omega) (hnx3 _ ⟨i + 1, hlt, ?_⟩ (by dsimp only; rw [hw]; omega)))) fun h => by omega
          rw [hw, List.take_append_getElem hlt]
        · rw [List.drop_of_length_le (by omega), List.take_of_length_le (by omega)]
          exact ok_if (fun h => by omega) fun _ => hnx _ (.inr rfl) (by rw [hs]; simp)
      · rw [s_attr_Judge2]
        exact ok_if (fun h => by simp at h) fun _ => hk _ rfl
  subst hi2
  refine ok_ifnb (fun h => Bool.noConfusion h) fun _ => some_ h3 (ok_if (fun h => (h q3).elim) fun _ => ok_bde (num_eq _ hhop) (ok_ifnb (fun h => Bool.noConfusion h) fun _ => none_ h4 ?_))
  by_cases h0 : p.Otc = 0
  · rw [if_pos h0] at h35
    refine none_ h35 (ok_some ?_)
    rw [← h0]
  · rw [if_neg h0] at h35
    exact some_ h35 (ok_if (fun h => (h q35).elim) fun _ => ok_bde (num_eq _ ⟨by omega, hotc⟩) (ok_ifnb (fun h => Bool.noConfusion h) fun _ => ok_some rfl))
theorem judge_some {bk : List (Int × Attr) → Option (Path × Int × Note)} (h0 : ∀ l, m_attr_Judge l = loopC (s_attr_Judge1 l) bk BIG ((0 : Int), [])) (l : List Attr) (hl : l.length ≤ 1000) {e : List (Int × Attr)} {r : Path × Int × Note} (hg : gat [] l = some e) (hb : bk e = some r) : m_attr_Judge l = some r := by
  refine (?_ : Ok (m_attr_Judge l) (· = r)).elim fun x h => by rw [h.1, h.2]
  rw [h0]
  refine ok_acc' l.length (fun i e' => gat e' (l.drop i) = some e) (by omega) hg (fun i e' hi hI nx hnx => ?_) (fun e' hI nx => ?_)
  · rw [List.drop_eq_getElem_cons hi, gat] at hI
    rw [s_attr_Judge1]
    refine ok_if (fun _ => ok_ix (by dsimp only; omega) (by dsimp only; omega) fun hlt => ?_) fun h => absurd (Int.ofNat_lt.2 hi) h
    simp only [Int.toNat_natCast]
    rw [mhas_get]
    cases hg : mget e' l[i].Typ with
    | some z =>
      rw [hg, if_pos (show (some z).isSome = true from rfl)] at hI
      rw [show (some z).isSome = true from rfl, cond_true]
      exact ok_bde rfl (hnx _ hI)
    | none =>
      rw [hg, if_neg (show ¬ (none : Option Attr).isSome = true by decide)] at hI
      rw [show (none : Option Attr).isSome = false from rfl, cond_false]
      refine ok_bde (ms_eq _ _ _) (ok_bde (fatal_eq _) (ok_ifb (fun hf => ?_) fun hf => hnx _ ?_))
      · rw [if_pos hf] at hI; cases hI
      · rw [if_neg (by rw [hf]; decide)] at hI
        rw [set_new hg]
        exact hI
  · rw [List.drop_length, gat] at hI
    cases hI
    rw [s_attr_Judge1]
    exact ok_if (fun h => by dsimp only at h; omega) fun _ => ⟨r, hb, rfl⟩
theorem gat_app : ∀ (l r : List Attr) (e e' : List (Int × Attr)), gat e l = some e' → gat e (l ++ r) = gat e' r
  | [], r, e, e', h => by rw [gat] at h; cases h; rfl
  | y :: ys, r, e, e', h => by
    rw [gat] at h
    rw [List.cons_append, gat]
    split at h
    · rename_i g; rw [if_pos g]; exact gat_app ys r _ _ h
    · rename_i g
      rw [if_neg g]
      split at h
      · cases h
      · rename_i g; rw [if_neg g]; exact gat_app ys r _ _ h
theorem once_of (p : Path) : Once (ofL p) := by
  unfold Once ofL
  split <;> simp
theorem fatal_known (y : Attr) (h : (1 ≤ y.Typ ∧ y.Typ ≤ 7) ∨ y.Typ = 35 ∨ ¬ (IntKind.i64.wrap ((BitVec.ofInt IntKind.i64.bits y.Flags &&& BitVec.ofInt IntKind.i64.bits (128 : Int)).toNat : Int)) = 0) : fatalB y = false := by
  obtain ⟨b, e, hb⟩ : Ok (m_attr_fatal y) (· = false) := by
    unfold m_attr_fatal
    exact ok_if (fun _ => ok_if (fun _ => ok_some rfl) fun _ => ok_ifn (fun _ => ok_some (decide_eq_false (by omega))) fun _ => ok_some rfl) fun _ => ok_ifn (fun _ => ok_some (decide_eq_false (by omega))) fun _ => ok_some rfl
  unfold fatalB
  rw [e, hb]
  rfl
theorem mem_ofL {p : Path} {z : Attr} (h : z ∈ ofL p) : z.Typ = 1 ∨ z.Typ = 2 ∨ z.Typ = 3 ∨ z.Typ = 35 := by
  unfold ofL at h
  split at h <;> simp at h
  · rcases h with rfl | rfl | rfl <;> simp
  · rcases h with rfl | rfl | rfl | rfl <;> simp
theorem lo_eq (v : Int) : IntKind.i64.wrap ((BitVec.ofInt IntKind.i64.bits v &&& BitVec.ofInt IntKind.i64.bits (4294967295 : Int)).toNat : Int) = v % 4294967296 := by
  have h := and_mask v 32 (by omega)
  rw [show ((2 : Int) ^ 32 - 1) = 4294967295 by decide, show ((2 : Int) ^ 32) = 4294967296 by decide] at h
  exact h
/-- What is left under a mask. -/
def lowCut (a n : Int) : Int := a % 4294967296 - a % 4294967296 % (2 : Int) ^ (32 - n).toNat
theorem cut_rng (a n : Int) : 0 ≤ lowCut a n ∧ lowCut a n < 4294967296 := by
  have h0 := Int.emod_nonneg a (show (4294967296 : Int) ≠ 0 by decide)
  have h1 := Int.emod_lt_of_pos a (show (0 : Int) < 4294967296 by decide)
  have hp : (0 : Int) < 2 ^ (32 - n).toNat := Int.pow_pos (by decide)
  have h2 := Int.emod_nonneg (a % 4294967296) (show (2 : Int) ^ (32 - n).toNat ≠ 0 by omega)
  have h3 : a % 4294967296 % (2 : Int) ^ (32 - n).toNat ≤ a % 4294967296 := by
    have := Int.emod_def (a % 4294967296) ((2 : Int) ^ (32 - n).toNat)
    have hq : 0 ≤ (a % 4294967296) / (2 : Int) ^ (32 - n).toNat := Int.ediv_nonneg h0 (by omega)
    have := Int.mul_nonneg (Int.le_of_lt hp) hq
    omega
  unfold lowCut
  omega
theorem mask_val (a n : Int) (h : 0 ≤ n ∧ n ≤ 32) : m_prefix_Mask a n = some (lowCut a n) := by
  unfold m_prefix_Mask
  have e1 : (if (0 : Int) > n then (0 : Int) else n) = n := if_neg (by omega)
  have e2 : (if (32 : Int) < n then (32 : Int) else n) = n := if_neg (by omega)
  have e3 : IntKind.i64.wrap (32 - n) = 32 - n := w64 (by omega) (by omega)
  have e4 : min (32 - n).toNat IntKind.i64.bits = (32 - n).toNat := Nat.min_eq_left (show (32 - n).toNat ≤ 64 by omega)
  rw [e1, e2, e3, nn_some (by omega), nn_some (by omega), e4, lo_eq]
  have hp : (0 : Int) < 2 ^ (32 - n).toNat := Int.pow_pos (by decide)
  have hr := cut_rng a n
  rw [Int.fdiv_eq_ediv_of_nonneg _ (Int.le_of_lt hp)]
  have hd := Int.emod_def (a % 4294967296) ((2 : Int) ^ (32 - n).toNat)
  have he : a % 4294967296 / (2 : Int) ^ (32 - n).toNat * (2 : Int) ^ (32 - n).toNat = lowCut a n := by
    unfold lowCut
    rw [hd, Int.mul_comm]
    omega
  rw [he, w64 (by omega) (by omega)]
/-- A prefix that may be. -/
def PrefixOk (x : Prefix) : Prop := (0 ≤ x.N ∧ x.N ≤ 32) ∧ lowCut x.A x.N = x.A
theorem t_psane (x : Prefix) : Ok (m_prefix_Sane x) fun b => b = true ↔ PrefixOk x := by
  unfold m_prefix_Sane PrefixOk
  refine ok_if (fun h1 => ok_if (fun h2 => ok_bde (mask_val _ _ ⟨h1, h2⟩) (ok_some ?_)) fun h => ok_some ?_) fun h => ok_some ?_
  · rw [decide_eq_true_eq]
    exact ⟨fun k => ⟨⟨h1, h2⟩, k⟩, fun k => k.2⟩
  · exact ⟨fun k => Bool.noConfusion k, fun k => by omega⟩
  · exact ⟨fun k => Bool.noConfusion k, fun k => by omega⟩
theorem lowCut_idem (a n : Int) : lowCut (lowCut a n) n = lowCut a n := by
  have hr := cut_rng a n
  have e : lowCut a n = (2 : Int) ^ (32 - n).toNat * (a % 4294967296 / (2 : Int) ^ (32 - n).toNat) := by
    unfold lowCut
    rw [Int.emod_def (a % 4294967296) ((2 : Int) ^ (32 - n).toNat)]
    omega
  have h1 : lowCut a n % 4294967296 = lowCut a n := Int.emod_eq_of_lt hr.1 hr.2
  have h2 : lowCut a n % (2 : Int) ^ (32 - n).toNat = 0 := by rw [e, Int.mul_emod_right]
  show lowCut a n % 4294967296 - lowCut a n % 4294967296 % (2 : Int) ^ (32 - n).toNat = _
  rw [h1, h2]
  omega

/-- How many octets a prefix's number has. -/
def sizeP (n : Int) : Int := (n + 7) / 8
theorem size_eq (n : Int) (h : 0 ≤ n ∧ n ≤ 255) : m_prefix_size n = some (sizeP n) := by
  unfold m_prefix_size sizeP
  rw [w64 (x := n + 7) (by omega) (by omega), Int.tdiv_eq_ediv_of_nonneg (by omega), w64 (by omega) (by omega)]
/-- The octets of a prefix. -/
def encP (x : Prefix) : List UInt8 := putL x.N 1 ++ putL (x.A / (2 : Int) ^ (32 - 8 * sizeP x.N).toNat) (sizeP x.N).toNat
theorem pfx_val {x : Prefix} (h : PrefixOk x) : (0 ≤ x.A ∧ x.A < 4294967296) ∧ (2 : Int) ^ (32 - x.N).toNat ∣ x.A := by
  obtain ⟨h1, h2⟩ := h
  have hr := cut_rng x.A x.N
  rw [h2] at hr
  refine ⟨hr, ?_⟩
  have e : lowCut x.A x.N = (2 : Int) ^ (32 - x.N).toNat * (x.A % 4294967296 / (2 : Int) ^ (32 - x.N).toNat) := by
    unfold lowCut
    rw [Int.emod_def (x.A % 4294967296) ((2 : Int) ^ (32 - x.N).toNat)]
    omega
  rw [h2] at e
  rw [e]
  exact Int.dvd_mul_right _ _
theorem pow_dvd {a b : Nat} (h : a ≤ b) : (2 : Int) ^ a ∣ 2 ^ b := by
  have := Nat.pow_dvd_pow 2 h
  exact_mod_cast this
theorem pfx_oct {x : Prefix} (h : PrefixOk x) : (0 ≤ sizeP x.N ∧ sizeP x.N ≤ 4) ∧ (2 : Int) ^ (32 - 8 * sizeP x.N).toNat ∣ x.A ∧ 0 ≤ x.A / (2 : Int) ^ (32 - 8 * sizeP x.N).toNat ∧ x.A / (2 : Int) ^ (32 - 8 * sizeP x.N).toNat < (256 : Int) ^ (sizeP x.N).toNat := by
  obtain ⟨hr, hd⟩ := pfx_val h
  have hN := h.1
  have hs : 0 ≤ sizeP x.N ∧ sizeP x.N ≤ 4 := by unfold sizeP; omega
  have hle : (32 - 8 * sizeP x.N).toNat ≤ (32 - x.N).toNat := by unfold sizeP; omega
  have hp : (0 : Int) < 2 ^ (32 - 8 * sizeP x.N).toNat := Int.pow_pos (by decide)
  refine ⟨hs, Int.dvd_trans (pow_dvd hle) hd, Int.ediv_nonneg hr.1 (Int.le_of_lt hp), ?_⟩
  refine Int.ediv_lt_of_lt_mul hp ?_
  have : (256 : Int) ^ (sizeP x.N).toNat * 2 ^ (32 - 8 * sizeP x.N).toNat = 4294967296 := by
    have : sizeP x.N = 0 ∨ sizeP x.N = 1 ∨ sizeP x.N = 2 ∨ sizeP x.N = 3 ∨ sizeP x.N = 4 := by omega
    rcases this with e | e | e | e | e <;> rw [e] <;> decide
  rw [this]
  exact hr.2
theorem prefixPut_eq (l : List UInt8) (x : Prefix) (hl : l.length ≤ 1000000) (h : PrefixOk x) : m_prefix_Put l x = some (l ++ encP x) := by
  refine (?_ : Ok (m_prefix_Put l x) (· = l ++ encP x)).elim fun x h => by rw [h.1, h.2]
  obtain ⟨hs, hd, h0, h1⟩ := pfx_oct h
  have hN := h.1
  obtain ⟨b, e, hb⟩ := t_psane x
  have hb := hb.2 h
  subst hb
  unfold m_prefix_Put encP
  refine ok_bde e (ok_ifnb (fun k => Bool.noConfusion k) fun _ => ok_bde (size_eq _ (by omega)) (ok_bde (octPut_eq _ _ 1 (by omega) (by omega) (by omega)) ?_))
  have hw : IntKind.i64.wrap ((32 : Int) - IntKind.i64.wrap ((8 : Int) * sizeP x.N)) = 32 - 8 * sizeP x.N := by
    rw [w64 (x := 8 * sizeP x.N) (by omega) (by omega), w64 (by omega) (by omega)]
  have hm : min (32 - 8 * sizeP x.N).toNat IntKind.i64.bits = (32 - 8 * sizeP x.N).toNat := Nat.min_eq_left (show _ ≤ 64 by omega)
  have hp : (0 : Int) < 2 ^ (32 - 8 * sizeP x.N).toNat := Int.pow_pos (by decide)
  rw [hw, nn_some (by omega), hm, Int.fdiv_eq_ediv_of_nonneg _ (Int.le_of_lt hp)]
  by_cases hz : sizeP x.N = 0
  · have : m_octet_Put (l ++ putL x.N (1 : Int).toNat) (x.A / (2 : Int) ^ (32 - 8 * sizeP x.N).toNat) (sizeP x.N) = some (l ++ putL x.N (1 : Int).toNat) := by
      unfold m_octet_Put
      rw [decide_eq_true (by omega), cond_true]
    refine ok_bde this (ok_some ?_)
    rw [hz]
    simp [putL]
  · refine ok_bde (octPut_eq _ _ _ (by omega) (by omega) (by simp [putL_length]; omega)) (ok_some ?_)
    rw [List.append_assoc]
    rfl
theorem encP_pos (x : Prefix) : 0 < (encP x).length := by
  unfold encP
  simp only [List.length_append, putL_length]
  omega
theorem encP_len {x : Prefix} (h : PrefixOk x) : (encP x).length ≤ 5 := by
  have := (pfx_oct h).1
  unfold encP
  simp only [List.length_append, putL_length]
  omega
theorem prefixGet_eq (x : Prefix) (t : List UInt8) (h : PrefixOk x) : m_prefix_Get (encP x ++ t) = some (x, t, true) := by
  refine (?_ : Ok (m_prefix_Get (encP x ++ t)) (· = (x, t, true))).elim fun x h => by rw [h.1, h.2]
  obtain ⟨hs, hd, h0, h1⟩ := pfx_oct h
  obtain ⟨hr, _⟩ := pfx_val h
  have hN := h.1
  have hp : (0 : Int) < 2 ^ (32 - 8 * sizeP x.N).toNat := Int.pow_pos (by decide)
  unfold m_prefix_Get encP
  rw [List.append_assoc]
  refine ok_bde (get_put _ 1 _ 1 rfl (by omega) (by omega)) (ok_ifnb (fun k => Bool.noConfusion k) fun _ => ok_if (fun k => by dsimp only at k; omega) fun _ => ok_bde (size_eq _ (by dsimp only; omega)) (ok_if (fun hz => ok_some ?_) fun hz => ?_))
  · dsimp only at hz
    have hN0 : x.N = 0 := by unfold sizeP at hz; omega
    have hA := h.2
    rw [hN0] at hA
    have hA0 : x.A = 0 := by
      unfold lowCut at hA
      rw [show (2 : Int) ^ ((32 : Int) - 0).toNat = 4294967296 by decide] at hA
      omega
    obtain ⟨a, n⟩ := x
    dsimp only at hN0 hA0
    subst hN0 hA0
    rfl
  · dsimp only at hz ⊢
    have hw : IntKind.i64.wrap ((32 : Int) - IntKind.i64.wrap ((8 : Int) * sizeP x.N)) = 32 - 8 * sizeP x.N := by
      rw [w64 (x := 8 * sizeP x.N) (by omega) (by omega), w64 (by omega) (by omega)]
    have hm : min (32 - 8 * sizeP x.N).toNat IntKind.i64.bits = (32 - 8 * sizeP x.N).toNat := Nat.min_eq_left (show _ ≤ 64 by omega)
    refine ok_bde (get_put _ (sizeP x.N).toNat _ _ (by omega) (by omega) ⟨h0, h1⟩) (ok_ifnb (fun k => Bool.noConfusion k) fun _ => ?_)
    rw [hw, nn_some (by omega), hm, Int.ediv_mul_cancel hd, w64 (by omega) (by omega), mask_val _ _ hN, h.2, bd_some]
    exact ok_some rfl
theorem prefixAll_eq (L : List Prefix) (hc : ∀ x ∈ L, PrefixOk x) (hl : L.length ≤ 10000) : m_prefix_All (L.flatMap encP) = some (L, true) := by
  refine (?_ : Ok (m_prefix_All (L.flatMap encP)) (· = (L, true))).elim fun x h => by rw [h.1, h.2]
  unfold m_prefix_All
  refine ok_loop (fun st => ∃ i : Nat, i ≤ L.length ∧ st.1 = (L.drop i).flatMap encP ∧ st.2 = L.take i) (fun st => L.length - st.2.length) ⟨0, Nat.zero_le _, rfl, rfl⟩ (by dsimp only; omega) ?_
  rintro ⟨_, _⟩ ⟨i, hi, rfl, rfl⟩ nx hnx
  rw [s_prefix_All1]
  dsimp only at hnx ⊢
  by_cases hlt : i < L.length
  · rw [List.drop_eq_getElem_cons hlt, List.flatMap_cons]
    refine ok_bde (prefixGet_eq _ _ (hc _ (List.getElem_mem hlt))) (ok_ifb (fun _ => ok_ap (by simp; omega) (by simp; omega) (hnx _ ⟨i + 1, hlt, rfl, List.take_append_getElem hlt⟩ ?_)) fun h => Bool.noConfusion h)
    simp only [List.length_append, List.length_take, List.length_singleton]
    omega
  · rw [List.drop_of_length_le (by omega), List.take_of_length_le (by omega)]
    have : m_prefix_Get [] = some (⟨0, 0⟩, [], false) := by
      unfold m_prefix_Get
      rw [octGet_eq [] 1 (by omega) (by omega), bd_some, if_neg (by simp)]
      rfl
    exact ok_bde this (ok_ifb (fun h => Bool.noConfusion h) fun _ => ok_if (fun h => absurd h (by simp)) fun _ => ok_some rfl)
theorem prefixes_eq (L : List Prefix) (hc : ∀ x ∈ L, PrefixOk x) (hl : L.length ≤ 10000) : m_update_prefixes L = some (L.flatMap encP) := by
  refine (?_ : Ok (m_update_prefixes L) (· = L.flatMap encP)).elim fun x h => by rw [h.1, h.2]
  unfold m_update_prefixes
  refine ok_acc L.length (fun i b => b = (L.take i).flatMap encP ∧ b.length ≤ 5 * i) (by omega) ⟨rfl, Nat.zero_le _⟩ (fun i b hi hI nx hnx => ?_) (fun b hI nx => ?_)
  · obtain ⟨hI, hb⟩ := hI
    have hx := hc _ (List.getElem_mem hi)
    have hxl := encP_len hx
    rw [s_update_prefixes1]
    refine ok_if (fun _ => ok_ix (by dsimp only; omega) (by dsimp only; omega) fun hlt => ?_) fun h => absurd (Int.ofNat_lt.2 hi) h
    simp only [Int.toNat_natCast]
    refine ok_bde (prefixPut_eq [] _ (by simp) hx) ?_
    rw [List.nil_append]
    refine ok_ap (by omega) (by omega) (hnx _ ⟨?_, by rw [List.length_append]; omega⟩)
    rw [hI, ← List.take_append_getElem hi, List.flatMap_append]
    simp
  · rw [s_update_prefixes1]
    refine ok_if (fun h => by dsimp only at h; omega) fun _ => ok_some ?_
    have := hI.1
    rwa [List.take_length] at this

theorem canon_fl (y : Attr) : (y.Flags = 64 → IntKind.i64.wrap ((BitVec.ofInt IntKind.i64.bits (canon y).Flags &&& BitVec.ofInt IntKind.i64.bits (192 : Int)).toNat : Int) = 64) ∧ (y.Flags = 192 → IntKind.i64.wrap ((BitVec.ofInt IntKind.i64.bits (canon y).Flags &&& BitVec.ofInt IntKind.i64.bits (192 : Int)).toNat : Int) = 192) := by
  have a1 : IntKind.i64.wrap ((BitVec.ofInt IntKind.i64.bits (c1 (c0 64)) &&& BitVec.ofInt IntKind.i64.bits (192 : Int)).toNat : Int) = 64 := by decide
  have a2 : IntKind.i64.wrap ((BitVec.ofInt IntKind.i64.bits (c0 64) &&& BitVec.ofInt IntKind.i64.bits (192 : Int)).toNat : Int) = 64 := by decide
  have a3 : IntKind.i64.wrap ((BitVec.ofInt IntKind.i64.bits (c1 (c0 192)) &&& BitVec.ofInt IntKind.i64.bits (192 : Int)).toNat : Int) = 192 := by decide
  have a4 : IntKind.i64.wrap ((BitVec.ofInt IntKind.i64.bits (c0 192) &&& BitVec.ofInt IntKind.i64.bits (192 : Int)).toNat : Int) = 192 := by decide
  unfold canon
  dsimp only
  split
  · exact ⟨fun h => by rw [h]; exact a1, fun h => by rw [h]; exact a3⟩
  · exact ⟨fun h => by rw [h]; exact a2, fun h => by rw [h]; exact a4⟩
theorem seg_len (as : List Int) (h : as.length ≤ 255) : (segL as).length ≤ 1022 := by
  have hfl : (as.flatMap fun x => putL x 4).length = 4 * as.length := by
    generalize as = l
    induction l with
    | nil => rfl
    | cons x xs ih => rw [List.flatMap_cons, List.length_append, ih, putL_length, List.length_cons]; omega
  unfold segL
  split
  · simp
  · simp only [List.length_cons, hfl]; omega
theorem ofL_ok {p : Path} (hp : PathOk p) {y : Attr} (h : y ∈ ofL p) : (0 ≤ y.Flags ∧ y.Flags ≤ 255) ∧ (0 ≤ y.Typ ∧ y.Typ ≤ 255) ∧ y.Data.length ≤ 1022 := by
  have hs := seg_len p.As hp.2.2.1
  unfold ofL at h
  split at h <;> simp at h
  · rcases h with rfl | rfl | rfl <;> simp [putL_length, hs]
  · rcases h with rfl | rfl | rfl | rfl <;> simp [putL_length, hs]
theorem ofL_len (p : Path) : (ofL p).length ≤ 4 := by
  unfold ofL
  split <;> simp
/-- What is said of a path. -/
def saidL (p : Path) : List Attr := (ofL p).map canon
theorem judge_said (p : Path) (hp : PathOk p) : m_attr_Judge (saidL p) = some (p, 0, ⟨0, 0, []⟩) := by
  obtain ⟨bk, h0, hof⟩ := judge_of
  have hoL : Once (saidL p) := List.pairwise_map.2 (once_of p)
  have hmem : ∀ z ∈ saidL p, ∃ y ∈ ofL p, z = canon y := fun z hz => by
    obtain ⟨y, hy, e⟩ := List.mem_map.1 hz
    exact ⟨y, hy, e.symm⟩
  have hfat : (saidL p).any fatalB = false := by
    rw [List.any_eq_false]
    intro z hz
    rw [Bool.not_eq_true]
    obtain ⟨y, hy, rfl⟩ := hmem z hz
    have := mem_ofL hy
    exact fatal_known _ (by show (1 ≤ y.Typ ∧ y.Typ ≤ 7) ∨ y.Typ = 35 ∨ _; omega)
  have hg : gat [] (saidL p) = some ((saidL p).map fun y => (y.Typ, y)) := by
    rw [gat_once _ [] hoL fun y _ => by simp [mget_eq], hfat]
    rfl
  have hmg := fun t z => mget_once t (saidL p) hoL z
  have hin : ∀ {y : Attr}, y ∈ ofL p → mget ((saidL p).map fun y => (y.Typ, y)) y.Typ = some (canon y) := fun hy => (hmg _ _).2 ⟨List.mem_map_of_mem hy, rfl⟩
  have hno : ∀ t, (∀ y ∈ ofL p, ¬ y.Typ = t) → mget ((saidL p).map fun y => (y.Typ, y)) t = none := fun t h => by
    cases hm : mget ((saidL p).map fun y => (y.Typ, y)) t with
    | none => rfl
    | some z =>
      obtain ⟨q1, q2⟩ := (hmg t z).1 hm
      obtain ⟨y, hy, rfl⟩ := hmem z q1
      exact absurd q2 (h y hy)
  have hlen := ofL_len p
  refine judge_some h0 _ (by unfold saidL; rw [List.length_map]; omega) hg (hof p hp _ (canon ⟨64, 1, putL p.Origin 1⟩).Flags (canon ⟨64, 2, segL p.As⟩).Flags (canon ⟨64, 3, putL p.Hop 4⟩).Flags (canon ⟨192, 35, putL p.Otc 4⟩).Flags
    (hin (y := ⟨64, 1, putL p.Origin 1⟩) (by simp [ofL])) (hin (y := ⟨64, 2, segL p.As⟩) (by simp [ofL])) (hin (y := ⟨64, 3, putL p.Hop 4⟩) (by simp [ofL])) (hno 4 fun z hz => by have := mem_ofL hz; omega) ?_ ((canon_fl _).1 rfl) ((canon_fl _).1 rfl) ((canon_fl _).1 rfl) ((canon_fl _).2 rfl))
  by_cases ho : p.Otc = 0
  · rw [if_pos ho]
    refine hno 35 fun z hz => ?_
    unfold ofL at hz
    rw [if_pos ho] at hz
    simp at hz
    rcases hz with rfl | rfl | rfl <;> simp
  · rw [if_neg ho]
    exact hin (y := ⟨192, 35, putL p.Otc 4⟩) (by simp [ofL, ho])
theorem attrs_eq (p : Path) (hp : PathOk p) : m_update_attributes p = some ((saidL p).flatMap encA) := by
  refine (?_ : Ok (m_update_attributes p) (· = (saidL p).flatMap encA)).elim fun x h => by rw [h.1, h.2]
  have hlen := ofL_len p
  unfold m_update_attributes
  refine ok_bde (of_eq p hp) (ok_acc (ofL p).length (fun i b => b = (((ofL p).take i).map canon).flatMap encA ∧ b.length ≤ 2000 * i) (by omega) ⟨by simp, by simp⟩ (fun i b hi hI nx hnx => ?_) (fun b hI nx => ?_))
  · obtain ⟨hI, hb⟩ := hI
    obtain ⟨hf, ht, hd⟩ := ofL_ok hp (List.getElem_mem hi)
    have hel := enc_len (canon (ofL p)[i])
    have hcd : (canon (ofL p)[i]).Data = (ofL p)[i].Data := rfl
    rw [hcd] at hel
    rw [s_update_attributes1]
    refine ok_if (fun _ => ok_ix (by dsimp only; omega) (by dsimp only; omega) fun hlt => ?_) fun h => absurd (Int.ofNat_lt.2 hi) h
    simp only [Int.toNat_natCast]
    refine ok_bde (attrPut_eq b _ (by omega) hf ht (by omega)) (hnx _ ⟨?_, by rw [List.length_append]; omega⟩)
    rw [hI, ← List.take_append_getElem hi, List.map_append, List.flatMap_append]
    simp
  · rw [s_update_attributes1]
    refine ok_if (fun h => by dsimp only at h; omega) fun _ => ok_some ?_
    have := hI.1
    rwa [List.take_length] at this
theorem said_canon {p : Path} (hp : PathOk p) : ∀ y ∈ saidL p, Canon y := fun z hz => by
  obtain ⟨y, hy, rfl⟩ := List.mem_map.1 hz
  obtain ⟨hf, ht, hd⟩ := ofL_ok hp hy
  exact canon_ok y hf ht (by omega)
theorem said_len {p : Path} (hp : PathOk p) : ((saidL p).flatMap encA).length ≤ 5000 := by
  have hb : ∀ l : List Attr, (∀ y ∈ l, y.Data.length ≤ 1022) → (l.flatMap encA).length ≤ 1026 * l.length := fun l => by
    induction l with
    | nil => intro _; simp
    | cons x xs ih =>
      intro h
      have h1 := enc_len x
      have h2 := h x List.mem_cons_self
      have := ih fun y hy => h y (List.mem_cons_of_mem _ hy)
      rw [List.flatMap_cons, List.length_append, List.length_cons]
      omega
  have hlen := ofL_len p
  have := hb (saidL p) fun z hz => by
    obtain ⟨y, hy, rfl⟩ := List.mem_map.1 hz
    exact (ofL_ok hp hy).2.2
  have hl2 : (saidL p).length = (ofL p).length := List.length_map _
  omega
end Go.Proofs.Ytkdodhkiemfpeaa
namespace Go.Proofs.Ytkdodhkiemfpeaa
open Go.RowKit
set_option linter.unusedVariables false
set_option linter.unusedSimpArgs false
set_option maxRecDepth 100000
set_option maxHeartbeats 1000000

/-- News that may be. -/
structure NewsOk (n : News) : Prop where
  gone : ∀ x ∈ n.Gone, PrefixOk x
  nlri : ∀ x ∈ n.Nlri, PrefixOk x
  path : ¬ n.Nlri.length = 0 → PathOk n.P
  none : n.Nlri.length = 0 → n.P = ⟨0, [], 0, 0⟩
theorem t_uSane (n : News) (hg : n.Gone.length ≤ 1000) (hn : n.Nlri.length ≤ 1000) (hp : n.P.As.length ≤ 1000) : Ok (m_update_Sane n) fun b => b = true ↔ NewsOk n := by
  unfold m_update_Sane
  have no : ∀ {A : Prop}, ¬ A → Ok (some false : Option Bool) (fun b => b = true ↔ A) := fun h => ok_some ⟨fun k => Bool.noConfusion k, fun k => absurd k h⟩
  refine ok_idx n.Gone.length (fun m => ∀ i (h : i < n.Gone.length), i < m → PrefixOk n.Gone[i]) (by omega) (fun _ _ h => absurd h (Nat.not_lt_zero _)) (fun i hi hI nx hnx => ?_) (fun hI nx => ?_)
  · rw [s_update_Sane1]
    refine ok_if (fun _ => ok_ix (by omega) (by omega) fun hlt => ?_) fun h => absurd (Int.ofNat_lt.2 hi) h
    simp only [Int.toNat_natCast]
    refine ok_bd (t_psane _) fun r _ hr => ok_ifnb (fun h => no fun k => by rw [hr.2 (k.gone _ (List.getElem_mem hi))] at h; cases h) fun h => hnx fun m hm hmi => ?_
    rcases Nat.lt_succ_iff_lt_or_eq.1 hmi with g | rfl
    · exact hI m hm g
    · exact hr.1 h
  rw [s_update_Sane1]
  have hG : ∀ x ∈ n.Gone, PrefixOk x := fun x hx => by
    obtain ⟨i, hi, rfl⟩ := List.getElem_of_mem hx
    exact hI i hi hi
  refine ok_if (fun h => by omega) fun _ => ok_idx n.Nlri.length (fun m => ∀ i (h : i < n.Nlri.length), i < m → PrefixOk n.Nlri[i]) (by omega) (fun _ _ h => absurd h (Nat.not_lt_zero _)) (fun i hi hJ nx2 hnx => ?_) (fun hJ nx2 => ?_)
  · rw [s_update_Sane2]
    refine ok_if (fun _ => ok_ix (by omega) (by omega) fun hlt => ?_) fun h => absurd (Int.ofNat_lt.2 hi) h
    simp only [Int.toNat_natCast]
    refine ok_bd (t_psane _) fun r _ hr => ok_ifnb (fun h => no fun k => by rw [hr.2 (k.nlri _ (List.getElem_mem hi))] at h; cases h) fun h => hnx fun m hm hmi => ?_
    rcases Nat.lt_succ_iff_lt_or_eq.1 hmi with g | rfl
    · exact hJ m hm g
    · exact hr.1 h
  rw [s_update_Sane2]
  have hN : ∀ x ∈ n.Nlri, PrefixOk x := fun x hx => by
    obtain ⟨i, hi, rfl⟩ := List.getElem_of_mem hx
    exact hJ i hi hi
  refine ok_if (fun h => by omega) fun _ => ok_if (fun h0 => ok_bd (t_attrSane _ (by omega)) fun b _ hb => ok_some ⟨fun h => ⟨hG, hN, fun _ => hb.1 h, fun h => by omega⟩, fun k => hb.2 (k.path (by omega))⟩) fun h0 => ?_
  have hz : n.Nlri.length = 0 := by omega
  refine ok_if (fun p1 => ok_if (fun p2 => ok_if (fun p3 => ok_some ?_) fun p3 => no fun k => p3 (by rw [k.none hz])) fun p2 => no fun k => p2 (by rw [k.none hz]; rfl)) fun p1 => no fun k => p1 (by rw [k.none hz])
  rw [decide_eq_true_eq]
  refine ⟨fun p4 => ⟨hG, hN, fun h => absurd hz h, fun _ => ?_⟩, fun k => by rw [k.none hz]⟩
  have e : n.P = ⟨n.P.Origin, n.P.As, n.P.Hop, n.P.Otc⟩ := rfl
  rw [e, p1, p3, p4, List.length_eq_zero_iff.1 (by omega : n.P.As.length = 0)]
/-- What is said of the news' path. -/
def saidN (n : News) : List Attr := if n.Nlri.length = 0 then [] else saidL n.P
theorem attrs_none : m_update_attributes ⟨0, [], 0, 0⟩ = some [] := by kernel_rfl
theorem attrsN (n : News) (h : NewsOk n) : m_update_attributes n.P = some ((saidN n).flatMap encA) := by
  unfold saidN
  split
  · rename_i hz
    rw [h.none hz]
    exact attrs_none
  · rename_i hz
    exact attrs_eq _ (h.path hz)
theorem msgSane_eq (b : List UInt8) (h4 : 4 ≤ b.length) (hl : b.length ≤ 1000000) : m_msg_Sane ⟨2, b⟩ = some (decide (b.length ≤ 4077)) := by
  refine (?_ : Ok (m_msg_Sane ⟨2, b⟩) (· = decide (b.length ≤ 4077))).elim fun x h => by rw [h.1, h.2]
  unfold m_msg_Sane m_msg_wrong m_msg_Least
  dsimp only
  have hw : IntKind.i64.wrap ((19 : Int) + (b.length : Int)) = 19 + (b.length : Int) := w64 (by omega) (by omega)
  have h23 : IntKind.i64.wrap ((4 : Int) + (19 : Int)) = 23 := w64 (by omega) (by omega)
  rw [hw, h23]
  rw [decide_eq_false (show ¬ (2 : Int) = 1 by decide), decide_eq_true (show (2 : Int) = 2 by decide), decide_eq_false (show ¬ (2 : Int) = 4 by decide)]
  simp only [cond_true, cond_false, bd_some]
  refine ok_if (fun _ => ok_bde (x := false) ?_ (ok_ifnb (fun _ => ok_some (decide_eq_decide.2 (by omega))) fun h => Bool.noConfusion h)) fun h => absurd (by decide) h
  rw [decide_eq_false (by omega)]
  rfl
/-- The octets of news. -/
def encN (n : News) : List UInt8 := putL ((n.Gone.flatMap encP).length : Int) 2 ++ (n.Gone.flatMap encP ++ (putL (((saidN n).flatMap encA).length : Int) 2 ++ ((saidN n).flatMap encA ++ n.Nlri.flatMap encP)))
theorem encPs_len : ∀ {l : List Prefix}, (∀ x ∈ l, PrefixOk x) → (l.flatMap encP).length ≤ 5 * l.length
  | [], _ => by simp
  | x :: xs, h => by
    have h1 := encP_len (h x List.mem_cons_self)
    have := encPs_len (l := xs) fun y hy => h y (List.mem_cons_of_mem _ hy)
    rw [List.flatMap_cons, List.length_append, List.length_cons]
    omega
theorem saidN_len {n : News} (h : NewsOk n) : ((saidN n).flatMap encA).length ≤ 1062 := by
  unfold saidN
  split
  · simp
  · rename_i hz
    have hp := h.path hz
    unfold saidL ofL
    have hs := seg_len n.P.As hp.2.2.1
    have e1 := enc_len (canon ⟨64, 1, putL n.P.Origin 1⟩)
    have e2 := enc_len (canon ⟨64, 2, segL n.P.As⟩)
    have e3 := enc_len (canon ⟨64, 3, putL n.P.Hop 4⟩)
    have e4 := enc_len (canon ⟨192, 35, putL n.P.Otc 4⟩)
    have d1 : (canon ⟨64, 1, putL n.P.Origin 1⟩).Data.length = 1 := putL_length _ _
    have d2 : (canon ⟨64, 2, segL n.P.As⟩).Data.length = (segL n.P.As).length := rfl
    have d3 : (canon ⟨64, 3, putL n.P.Hop 4⟩).Data.length = 4 := putL_length _ _
    have d4 : (canon ⟨192, 35, putL n.P.Otc 4⟩).Data.length = 4 := putL_length _ _
    split <;> simp only [List.append_nil, List.cons_append, List.nil_append, List.map_cons, List.map_nil, List.flatMap_cons, List.flatMap_nil, List.length_append, List.length_nil] <;> omega
theorem uPut_eq (n : News) (hg : n.Gone.length ≤ 40) (hn : n.Nlri.length ≤ 40) (hp : n.P.As.length ≤ 300) (h : NewsOk n) : m_update_Put n = some ⟨2, encN n⟩ ∧ (encN n).length ≤ 2000 ∧ 4 ≤ (encN n).length := by
  obtain ⟨b, e, hb⟩ := t_uSane n (by omega) (by omega) (by omega)
  have hb := hb.2 h
  subst hb
  have l1 := encPs_len h.gone
  have l2 := encPs_len h.nlri
  have l3 := saidN_len h
  have hlen : (encN n).length = 4 + (n.Gone.flatMap encP).length + ((saidN n).flatMap encA).length + (n.Nlri.flatMap encP).length := by
    unfold encN
    simp only [List.length_append, putL_length]
    omega
  refine ⟨?_, by omega, by omega⟩
  refine (?_ : Ok (m_update_Put n) (· = ⟨2, encN n⟩)).elim fun x h => by rw [h.1, h.2]
  unfold m_update_Put
  refine ok_bde e (ok_ifnb (fun k => Bool.noConfusion k) fun _ => ok_bde (prefixes_eq _ h.gone (by omega)) (ok_bde (attrsN n h) (ok_bde (prefixes_eq _ h.nlri (by omega)) (ok_bde (x := encN n) ?_ (ok_bde (msgSane_eq _ (by omega) (by omega)) (ok_ifn (fun k => absurd (by omega) k) fun _ => ok_some rfl))))))
  refine (?_ : Ok (m_update_body _ _ _) (· = encN n)).elim fun x h => by rw [h.1, h.2]
  unfold m_update_body
  refine ok_bde (octPut_eq [] _ 2 (by omega) (by omega) (by simp)) (ok_ap (by simp only [List.length_append, List.length_nil, putL_length]; omega) (by simp only [List.length_append, List.length_nil, putL_length]; omega) (ok_bde (octPut_eq [] _ 2 (by omega) (by omega) (by simp)) (ok_ap (by simp only [List.length_append, List.length_nil, putL_length]; omega) (by simp only [List.length_append, List.length_nil, putL_length]; omega) (ok_ap (by simp only [List.length_append, List.length_nil, putL_length]; omega) (by simp only [List.length_append, List.length_nil, putL_length]; omega) (ok_ap (by simp only [List.length_append, List.length_nil, putL_length]; omega) (by simp only [List.length_append, List.length_nil, putL_length]; omega) (ok_some ?_))))))
  unfold encN
  simp only [List.nil_append, List.append_assoc]
  rfl
theorem counted_eq (v t : List UInt8) (hv : v.length < 65536) : m_update_counted (putL (v.length : Int) 2 ++ (v ++ t)) = some (v, t, true) := by
  refine (?_ : Ok (m_update_counted (putL (v.length : Int) 2 ++ (v ++ t))) (· = (v, t, true))).elim fun x h => by rw [h.1, h.2]
  unfold m_update_counted
  refine ok_bde (get_put _ 2 _ 2 rfl (by omega) ⟨by omega, by omega⟩) (ok_ifnb (fun k => Bool.noConfusion k) fun _ => ok_bde (x := (v, t, true)) ?_ (ok_some rfl))
  dsimp only
  rw [octTake_eq, if_pos (by simp only [List.length_append]; omega)]
  simp
theorem judge_none : m_attr_Judge [] = some (⟨0, [], 0, 0⟩, 1, ⟨0, 0, []⟩) := by kernel_rfl
theorem uGet_eq (n : News) (hg : n.Gone.length ≤ 40) (hn : n.Nlri.length ≤ 40) (h : NewsOk n) (hl : (encN n).length ≤ 2000) (h4 : 4 ≤ (encN n).length) : m_update_Get ⟨2, encN n⟩ = some (n, ⟨0, 0, []⟩) := by
  have l1 := encPs_len h.gone
  have l3 := saidN_len h
  have hsaid : ∀ y ∈ saidN n, Canon y := fun y hy => by
    unfold saidN at hy
    split at hy
    · cases hy
    · rename_i hz
      exact said_canon (h.path hz) y hy
  have hsl : (saidN n).length ≤ 4 := by
    unfold saidN
    split
    · simp
    · unfold saidL; rw [List.length_map]; exact ofL_len _
  refine (?_ : Ok (m_update_Get ⟨2, encN n⟩) (· = (n, ⟨0, 0, []⟩))).elim fun x h => by rw [h.1, h.2]
  unfold m_update_Get
  refine ok_if (fun k => absurd rfl k) fun _ => ok_bde (msgSane_eq _ h4 (by omega)) (ok_ifn (fun k => absurd (by omega) k) fun _ => ?_)
  unfold encN
  refine ok_bde (counted_eq _ _ (by omega)) (ok_bde (counted_eq _ _ (by omega)) (ok_ifnb (fun k => Bool.noConfusion k) fun _ => ok_ifnb (fun k => Bool.noConfusion k) fun _ => ok_bde (prefixAll_eq _ h.gone (by omega)) (ok_bde (prefixAll_eq _ h.nlri (by omega)) (ok_ifnb (fun k => Bool.noConfusion k) fun _ => ok_ifnb (fun k => Bool.noConfusion k) fun _ => ok_bde (attrAll_eq _ hsaid (by omega)) ?_))))
  by_cases hz : n.Nlri.length = 0
  · have hs : saidN n = [] := by unfold saidN; rw [if_pos hz]
    rw [hs]
    refine ok_jn (fun j => j = (1, 0, [], 0, 0, 0, 0, [])) (fun k hk => ok_ifb (fun _ => ok_bde judge_none (hk _ rfl)) fun k => Bool.noConfusion k) fun j hj => ?_
    subst hj
    refine ok_if (fun k => absurd rfl k) fun _ => ok_if (fun _ => ok_some ?_) fun k => absurd (by dsimp only; omega) k
    have hP := h.none hz
    have hN := List.length_eq_zero_iff.1 hz
    obtain ⟨g, p, l⟩ := n
    dsimp only at hP hN ⊢
    rw [hP, hN]
  · have hs : saidN n = saidL n.P := by unfold saidN; rw [if_neg hz]
    rw [hs]
    refine ok_jn (fun j => j = (0, n.P.Origin, n.P.As, n.P.Hop, n.P.Otc, 0, 0, [])) (fun k hk => ok_ifb (fun _ => ok_bde (judge_said _ (h.path hz)) (hk _ rfl)) fun k => Bool.noConfusion k) fun j hj => ?_
    subst hj
    exact ok_if (fun k => absurd rfl k) fun _ => ok_if (fun k => by dsimp only at k; omega) fun _ => ok_if (fun k => absurd rfl k) fun _ => ok_some rfl
theorem sameP_refl (l : List Prefix) (hl : l.length ≤ 10000) : m_ridgewayref02_Same l l = some true := by
  refine ok_true ?_
  unfold m_ridgewayref02_Same
  refine ok_if (fun h => absurd rfl h) fun _ => ok_idx l.length (fun _ => True) (by omega) trivial (fun i hi _ nx hnx => ?_) (fun _ nx => ?_)
  · rw [s_ridgewayref02_Same1]
    exact ok_if (fun _ => ok_ix (by omega) (by omega) fun _ => ok_ix (by omega) (by omega) fun _ => ok_ifnb (fun h => by simp at h) fun _ => hnx trivial) fun h => absurd (Int.ofNat_lt.2 hi) h
  · rw [s_ridgewayref02_Same1]
    exact ok_if (fun h => by omega) fun _ => ok_some rfl
theorem law08_awake : m_ridgewaylaw08_awake = some true := by kernel_rfl
end Go.Proofs.Ytkdodhkiemfpeaa
namespace Go.Proofs.Ytkdodhkiemfpeaa
open Go.RowKit
set_option linter.unusedVariables false
set_option linter.unusedSimpArgs false
set_option maxRecDepth 100000
set_option maxHeartbeats 1000000
def noA : Attr × List UInt8 × Bool := (⟨0, 0, []⟩, [], false)
def firstB (x y : UInt8) (n : Nat) (t : List UInt8) : Attr × List UInt8 × Bool := if n ≤ t.length then (⟨x.toNat, y.toNat, t.take n⟩, t.drop n, true) else noA
/-- The first attribute of octets, as both read it. -/
def firstA : List UInt8 → Attr × List UInt8 × Bool
  | x :: y :: z :: t => if b16 (x.toNat : Int) = 0 then firstB x y z.toNat t else (match t with | [] => noA | u :: t => firstB x y (z.toNat * 256 + u.toNat) t)
  | _ => noA
theorem firstA_0 {x y z : UInt8} {t : List UInt8} (h : b16 (x.toNat : Int) = 0) : firstA (x :: y :: z :: t) = firstB x y z.toNat t := by
  show (if b16 (x.toNat : Int) = 0 then _ else _) = _
  rw [if_pos h]
theorem firstA_1 {x y z u : UInt8} {t : List UInt8} (h : ¬ b16 (x.toNat : Int) = 0) : firstA (x :: y :: z :: u :: t) = firstB x y (z.toNat * 256 + u.toNat) t := by
  show (if b16 (x.toNat : Int) = 0 then _ else _) = _
  rw [if_neg h]
theorem firstA_n {x y z : UInt8} (h : ¬ b16 (x.toNat : Int) = 0) : firstA [x, y, z] = noA := by
  show (if b16 (x.toNat : Int) = 0 then _ else _) = _
  rw [if_neg h]
theorem get2c (x y : UInt8) (t : List UInt8) : m_octet_Get (x :: y :: t) 2 = some (((x.toNat * 256 + y.toNat : Nat) : Int), t, true) := by
  rw [octGet_eq _ _ (by omega) (by omega), if_pos (by simp; omega)]
  simp [num]
theorem get_no (l : List UInt8) (n : Int) (h : 1 ≤ n ∧ n ≤ 4) (h2 : (l.length : Int) < n) : m_octet_Get l n = some (0, [], false) := by
  rw [octGet_eq _ _ h.1 h.2, if_neg (by omega)]
theorem get_first (l : List UInt8) : m_attr_Get l = some (firstA l) := by
  refine (?_ : Ok (m_attr_Get l) (· = firstA l)).elim fun x h => by rw [h.1, h.2]
  unfold m_attr_Get
  match l with
  | [] =>
    refine ok_bde (get_no [] 1 (by omega) (by simp)) (ok_bde (get_no [] 1 (by omega) (by simp)) (ok_jn' ?_))
    exact ok_if (fun _ => ok_bde (get_no [] 2 (by omega) (by simp)) (ok_bde (octTake_eq _ _) (ok_ifnb (fun _ => ok_some rfl) fun h => Bool.noConfusion h))) fun _ => ok_bde (get_no [] 1 (by omega) (by simp)) (ok_bde (octTake_eq _ _) (ok_ifnb (fun _ => ok_some rfl) fun h => Bool.noConfusion h))
  | [x] =>
    refine ok_bde (get1c x []) (ok_bde (get_no [] 1 (by omega) (by simp)) (ok_jn' ?_))
    exact ok_if (fun _ => ok_bde (get_no [] 2 (by omega) (by simp)) (ok_bde (octTake_eq _ _) (ok_ifnb (fun _ => ok_some rfl) fun h => Bool.noConfusion h))) fun _ => ok_bde (get_no [] 1 (by omega) (by simp)) (ok_bde (octTake_eq _ _) (ok_ifnb (fun _ => ok_some rfl) fun h => Bool.noConfusion h))
  | [x, y] =>
    refine ok_bde (get1c x [y]) (ok_bde (get1c y []) (ok_jn' ?_))
    exact ok_if (fun _ => ok_bde (get_no [] 2 (by omega) (by simp)) (ok_bde (octTake_eq _ _) (ok_ifnb (fun _ => ok_some rfl) fun h => Bool.noConfusion h))) fun _ => ok_bde (get_no [] 1 (by omega) (by simp)) (ok_bde (octTake_eq _ _) (ok_ifnb (fun _ => ok_some rfl) fun h => Bool.noConfusion h))
  | x :: y :: z :: t =>
    have fin : ∀ (n : Nat) (t : List UInt8), Ok (bd (m_octet_Take t (n : Int)) fun r4 => bif (!true) then some ((⟨0, 0, []⟩ : Attr), ([] : List UInt8), false) else bif (!r4.2.2) then some ((⟨0, 0, []⟩ : Attr), ([] : List UInt8), false) else some ((⟨x.toNat, y.toNat, r4.1⟩ : Attr), r4.2.1, true)) (· = firstB x y n t) := fun n t => by
      refine ok_bde (octTake_eq _ _) ?_
      unfold firstB
      by_cases h : n ≤ t.length
      · rw [if_pos (by omega), if_pos h]
        exact ok_ifnb (fun h => Bool.noConfusion h) fun _ => ok_ifnb (fun h => Bool.noConfusion h) fun _ => ok_some (by simp)
      · rw [if_neg (by omega), if_neg h]
        exact ok_ifnb (fun h => Bool.noConfusion h) fun _ => ok_ifnb (fun _ => ok_some rfl) fun h => Bool.noConfusion h
    refine ok_bde (get1c x _) (ok_bde (get1c y _) (ok_jn' (ok_if (fun h => ?_) fun h => ?_)))
    · have h : ¬ b16 (x.toNat : Int) = 0 := h
      match t with
      | [] => rw [firstA_n h]; exact ok_bde (get_no [z] 2 (by omega) (by simp)) (ok_bde (octTake_eq _ _) (ok_ifnb (fun _ => ok_some rfl) fun h => Bool.noConfusion h))
      | u :: t => rw [firstA_1 h]; exact ok_bde (get2c z u t) (fin _ t)
    · have h : b16 (x.toNat : Int) = 0 := Decidable.not_not.1 h
      rw [firstA_0 h]
      exact ok_bde (get1c z t) (fin _ t)
theorem firstB_len (x y : UInt8) (n : Nat) (t : List UInt8) : (firstB x y n t).2.1.length ≤ t.length := by
  unfold firstB
  split
  · simp
  · exact Nat.zero_le _
theorem first_len : ∀ (l : List UInt8), (firstA l).2.2 = true → (firstA l).2.1.length < l.length
  | [], h => by cases h
  | [_], h => by cases h
  | [_, _], h => by cases h
  | x :: y :: z :: t, h => by
    by_cases hb : b16 (x.toNat : Int) = 0
    · rw [firstA_0 hb]
      have := firstB_len x y z.toNat t
      simp only [List.length_cons]
      omega
    · match t, h with
      | [], h => rw [firstA_n hb] at h; cases h
      | u :: t, h =>
        rw [firstA_1 hb]
        have := firstB_len x y (z.toNat * 256 + u.toNat) t
        simp only [List.length_cons]
        omega
/-- What is fatal. -/
def Fatal (r : Path × Int × Note) : Prop := r.1 = ⟨0, [], 0, 0⟩ ∧ r.2.1 = 2 ∧ r.2.2.Code = 3 ∧ r.2.2.Sub = 2
theorem getN (l : List UInt8) (n : Int) (h : 1 ≤ n ∧ n ≤ 4) : Ok (m_octet_Get l n) fun r => r.2.1.length ≤ l.length ∧ (0 ≤ r.1 ∧ r.1 < (256 : Int) ^ n.toNat) ∧ (r.2.2 = true → r.2.1.length + n.toNat = l.length) ∧ (r.2.2 = false → r.1 = 0) := by
  refine ok_eq (octGet_eq l n h.1 h.2) ?_
  have hp : (0 : Int) < 256 ^ n.toNat := Int.pow_pos (by decide)
  split
  · have := num_lt (l.take n.toNat)
    rw [List.length_take, Nat.min_eq_left (by omega)] at this
    refine ⟨by simp, ⟨by dsimp only; omega, ?_⟩, fun _ => by simp; omega, fun h => Bool.noConfusion h⟩
    dsimp only
    exact_mod_cast this
  · exact ⟨Nat.zero_le _, ⟨Int.le_refl _, hp⟩, fun h => Bool.noConfusion h, fun _ => rfl⟩
theorem p4 : (256 : Int) ^ (4 : Int).toNat = 4294967296 := by decide
theorem p1' : (256 : Int) ^ (1 : Int).toNat = 256 := by decide
theorem t_numG (l : List UInt8) : Ok (m_attr_number l) fun r => r.2 = true → 1 ≤ r.1 ∧ r.1 ≤ 4294967295 := by
  unfold m_attr_number
  refine ok_bd (getN l 4 (by omega)) fun r1 _ h1 => ?_
  rw [p4] at h1
  exact ok_if (fun h => ok_some fun _ => ⟨by dsimp only; omega, by dsimp only; omega⟩) fun _ => ok_some fun k => Bool.noConfusion k
/-- A path that was read. -/
def GoodP (p : Path) : Prop := (∀ x ∈ p.As, 1 ≤ x ∧ x ≤ 4294967295) ∧ (0 ≤ p.Origin ∧ p.Origin ≤ 2) ∧ (1 ≤ p.Hop ∧ p.Hop ≤ 4294967295) ∧ 0 ≤ p.Otc ∧ p.Otc ≤ 4294967295
/-- What is made of a list with no fatal attribute. -/
def After (r : Path × Int × Note) : Prop := (r.2.1 = 0 ∨ r.2.1 = 1) ∧ r.2.2 = ⟨0, 0, []⟩ ∧ r.1.As.length ≤ 10000 ∧ (r.2.1 = 0 → GoodP r.1)
def bad2 : Path × Int × Note := (⟨0, [], 0, 0⟩, 1, ⟨0, 0, []⟩)
theorem after_bad : Ok (some bad2) After := ok_some ⟨.inr rfl, rfl, Nat.zero_le _, fun h => by cases h⟩
theorem judge_ex : ∃ bk : List (Int × Attr) → Option (Path × Int × Note), (∀ l, m_attr_Judge l = loopC (s_attr_Judge1 l) bk BIG ((0 : Int), [])) ∧
    (∀ e : List (Int × Attr), (∀ t y, mget e t = some y → y.Data.length ≤ 10000) → Ok (bk e) After) := by
  refine ⟨_, fun l => by unfold m_attr_Judge; rfl, fun e h => ?_⟩
  have fork : ∀ (t : Int) (F : Attr → Option (Path × Int × Note)) (A : Option (Path × Int × Note)), (∀ y : Attr, y.Data.length ≤ 10000 → Ok (F y) After) → Ok A After → Ok (bif mhas e t then bd (mget e t) F else A) After := fun t F A hF hA => by
    rw [mhas_get]
    cases h1 : mget e t with
    | none => exact hA
    | some y =>
      rw [bd_some]
      exact hF y (h t y h1)
  have ok0 : ∀ {p : Path}, p.As.length ≤ 10000 → GoodP p → Ok (some (p, (0 : Int), (⟨0, 0, []⟩ : Note))) After := fun hp hg => ok_some ⟨.inl rfl, rfl, hp, fun _ => hg⟩
  have o35 : ∀ (i1 : Bool × Int) (i2 : Bool × List Int) (r15 : Int × Bool), i2.2.length ≤ 10000 → (∀ x ∈ i2.2, 1 ≤ x ∧ x ≤ 4294967295) → (0 ≤ i1.2 ∧ i1.2 ≤ 2) → (1 ≤ r15.1 ∧ r15.1 ≤ 4294967295) → Ok (bif mhas e (35 : Int) then
                          bd (mget e (35 : Int)) fun y17 =>
                            bif decide (¬ (IntKind.i64.wrap ((BitVec.ofInt IntKind.i64.bits y17.Flags &&& BitVec.ofInt IntKind.i64.bits (192 : Int)).toNat : Int)) = (192 : Int)) then
                              some ((Path.mk (0 : Int) ([]) (0 : Int) (0 : Int)), (1 : Int), (Note.mk (0 : Int) (0 : Int) ([])))
                            else
                              bd (m_attr_number y17.Data) fun r18 =>
                              bif (!r18.2) then
                                some ((Path.mk (0 : Int) ([]) (0 : Int) (0 : Int)), (1 : Int), (Note.mk (0 : Int) (0 : Int) ([])))
                              else
                                some ((Path.mk i1.2 i2.2 r15.1 r18.1), (0 : Int), (Note.mk (0 : Int) (0 : Int) ([])))
                          else
                            some ((Path.mk i1.2 i2.2 r15.1 (0 : Int)), (0 : Int), (Note.mk (0 : Int) (0 : Int) ([])))) After := fun i1 i2 r15 h2 hx hi hr =>
    fork 35 _ _ (fun y hy => ok_if (fun _ => after_bad) fun _ => ok_bd (t_numG _) fun r18 _ h18 => ok_ifnb (fun _ => after_bad) fun q => ok0 h2 ⟨hx, hi, hr, by have := h18 q; dsimp only; omega, by have := h18 q; dsimp only; omega⟩) (ok0 h2 ⟨hx, hi, hr, Int.le_refl _, show (0 : Int) ≤ 4294967295 by decide⟩)
  refine fork 1 _ _ (fun y hy => ok_if (fun _ => after_bad) fun _ => ok_jn (fun j => j.1 = true → 0 ≤ j.2 ∧ j.2 ≤ 2) (fun k hk => ok_if (fun _ => hk _ fun h => Bool.noConfusion h) fun hl => ok_ix (by omega) (by omega) fun _ => ok_if (fun _ => hk _ fun h => Bool.noConfusion h) fun hg => ok_ix (by omega) (by omega) fun _ => hk _ fun _ => by dsimp only; rw [w64 (by omega) (by omega)]; omega) fun i1 hi1 => ok_ifnb (fun _ => after_bad) fun qi1 => ?_) after_bad
  refine fork 2 _ _ (fun y9 hy9 => ok_if (fun _ => after_bad) fun _ => ok_jn (fun j => j.2.length ≤ 10000 ∧ ∀ x ∈ j.2, 1 ≤ x ∧ x ≤ 4294967295) (fun k hk => ?_) fun i2 hi2 => ok_ifnb (fun _ => after_bad) fun _ => ?_) after_bad
  · refine ok_loop (fun st => st.1.length + st.2.length ≤ 10000 ∧ ∀ x ∈ st.2, 1 ≤ x ∧ x ≤ 4294967295) (fun st => st.1.length) ⟨by simpa using hy9, fun x hx => by cases hx⟩ (by dsimp only; omega) fun st hst nx hnx => ?_
    rw [s_attr_Judge2]
    refine ok_if (fun h0 => ok_bd (t_get _ 1 (by omega)) fun r10 _ h10 => ok_bd (t_get _ 1 (by omega)) fun r11 _ h11 => ok_if (fun _ => hk _ ⟨by dsimp only; omega, by first | exact hst.2 | exact hs3.2.2.2⟩) fun q1 => ok_if (fun _ => hk _ ⟨by dsimp only; omega, by first | exact hst.2 | exact hs3.2.2.2⟩) fun q2 => ?_) fun _ => hk _ ⟨by dsimp only; omega, by first | exact hst.2 | exact hs3.2.2.2⟩
    have g10 := h10.2.2 (by omega)
    have g11 := h11.2.2 q2
    refine ok_loop (fun s3 => 0 ≤ s3.2.1 ∧ s3.1.length + s3.2.2.length ≤ 9998 ∧ s3.1.length < st.1.length ∧ ∀ x ∈ s3.2.2, 1 ≤ x ∧ x ≤ 4294967295) (fun s3 => (9223372036854775807 - s3.2.1).toNat) ⟨Int.le_refl _, by dsimp only; omega, by dsimp only; omega, hst.2⟩ (by dsimp only; omega) fun s3 hs3 nx3 hnx3 => ?_
    rw [s_attr_Judge3]
    refine ok_if (fun h3 => ok_bd (t_get _ 4 (by omega)) fun r12 e12 h12 => ok_if (fun _ => hk _ ⟨by dsimp only; omega, by first | exact hst.2 | exact hs3.2.2.2⟩) fun q3 => ?_) fun _ => hnx _ ⟨by dsimp only; omega, hs3.2.2.2⟩ (by dsimp only; omega)
    have g12 := h12.2.2 q3
    obtain ⟨r', er, hr'⟩ := getN s3.1 4 (by omega)
    rw [e12] at er
    cases er
    rw [p4] at hr'
    refine ok_ap (by simp; omega) (by simp; omega) (hnx3 _ ?_ ?_)
    · simp only [List.length_append, List.length_singleton]
      rw [w64 (by omega) (by omega)]
      refine ⟨by omega, by omega, by omega, fun x hx => ?_⟩
      rcases List.mem_append.1 hx with hx | hx
      · exact hs3.2.2.2 x hx
      · rw [List.mem_singleton.1 hx]
        omega
    · dsimp only
      rw [w64 (by omega) (by omega)]
      omega
  · refine fork 3 _ _ (fun y14 hy14 => ok_if (fun _ => after_bad) fun _ => ok_bd (t_numG _) fun r15 _ h15 => ok_ifnb (fun _ => after_bad) fun q15 => fork 4 _ _ (fun y16 hy16 => ok_if (fun _ => after_bad) fun _ => ok_ifn (fun _ => after_bad) fun _ => o35 i1 i2 r15 hi2.1 hi2.2 (hi1 qi1) (h15 q15)) (o35 i1 i2 r15 hi2.1 hi2.2 (hi1 qi1) (h15 q15))) after_bad

theorem t_judge (l : List Attr) (hl : l.length ≤ 100000) (hd : ∀ y ∈ l, y.Data.length ≤ 10000) : Ok (m_attr_Judge l) fun r => Fatal r ∨ After r := by
  obtain ⟨bk, h0, ho⟩ := judge_ex
  rw [h0]
  refine ok_acc' l.length (fun i e => ∀ t y, mget e t = some y → y.Data.length ≤ 10000) (by omega) (fun t y h => by rw [mget_eq] at h; cases h) (fun i e hi hI nx hnx => ?_) (fun e hI nx => ?_)
  · have hy := hd _ (List.getElem_mem hi)
    rw [s_attr_Judge1]
    refine ok_if (fun _ => ok_ix (by dsimp only; omega) (by dsimp only; omega) fun hlt => ?_) fun h => absurd (Int.ofNat_lt.2 hi) h
    simp only [Int.toNat_natCast]
    rw [mhas_get]
    cases hg : mget e l[i].Typ with
    | some z =>
      rw [show (some z).isSome = true from rfl, cond_true]
      exact ok_bde rfl (hnx _ hI)
    | none =>
      rw [show (none : Option Attr).isSome = false from rfl, cond_false]
      refine ok_bde (ms_eq _ _ _) (ok_bde (fatal_eq _) (ok_ifb (fun hf => ?_) fun hf => hnx _ fun t y h => ?_))
      · exact ok_bd (t_attrPut [] _ (by simp) (by omega)) fun r5 _ _ => ok_some (.inl ⟨rfl, rfl, rfl, rfl⟩)
      · rw [set_new hg] at h
        rcases mget_app h with h | rfl
        · exact hI t y h
        · omega
  · rw [s_attr_Judge1]
    exact ok_if (fun h => by dsimp only at h; omega) fun _ => ok_mono (ho e hI) fun r h => .inr h
theorem firstB_data (x y : UInt8) (n : Nat) (t : List UInt8) : (firstB x y n t).1.Data.length ≤ t.length := by
  unfold firstB
  split
  · simp; omega
  · exact Nat.zero_le _
theorem first_data : ∀ (l : List UInt8), (firstA l).1.Data.length ≤ l.length
  | [] => Nat.zero_le _
  | [_] => Nat.zero_le _
  | [_, _] => Nat.zero_le _
  | x :: y :: z :: t => by
    by_cases hb : b16 (x.toNat : Int) = 0
    · rw [firstA_0 hb]
      have := firstB_data x y z.toNat t
      simp only [List.length_cons]
      omega
    · match t with
      | [] => rw [firstA_n hb]; exact Nat.zero_le _
      | u :: t =>
        rw [firstA_1 hb]
        have := firstB_data x y (z.toNat * 256 + u.toNat) t
        simp only [List.length_cons]
        omega
theorem t_all (l : List UInt8) (hl : l.length ≤ 10000) : Ok (m_attr_All l) fun r => r.1.length ≤ l.length ∧ ∀ y ∈ r.1, y.Data.length ≤ 10000 := by
  unfold m_attr_All
  refine ok_loop (fun st => st.1.length + st.2.length ≤ l.length ∧ ∀ y ∈ st.2, y.Data.length ≤ 10000) (fun st => st.1.length) ⟨by simp, fun y h => by cases h⟩ (by dsimp only; omega) fun st hst nx hnx => ?_
  rw [s_attr_All1]
  refine ok_if (fun h => ok_bde (get_first _) (ok_ifnb (fun _ => ok_some ⟨Nat.zero_le _, fun y h => by cases h⟩) fun h2 => ?_)) fun _ => ok_some ⟨by dsimp only; omega, hst.2⟩
  have := first_len _ h2
  have hd := first_data st.1
  refine ok_ap (by simp; omega) (by simp; omega) (hnx _ ⟨by simp; omega, fun y hy => ?_⟩ (by dsimp only; omega))
  rcases List.mem_append.1 hy with hy | hy
  · exact hst.2 y hy
  · rw [List.mem_singleton.1 hy]; omega

def pOk (x : Prefix) : Bool := (m_prefix_Sane x).getD false
theorem pOk_eq (x : Prefix) : m_prefix_Sane x = some (pOk x) ∧ (pOk x = true ↔ PrefixOk x) := by
  obtain ⟨b, e, h⟩ := t_psane x
  unfold pOk
  rw [e]
  exact ⟨rfl, h⟩
theorem filt_ok (l : List Prefix) : ∀ x ∈ l.filter pOk, PrefixOk x := fun x hx => (pOk_eq x).2.1 (List.mem_filter.1 hx).2
theorem filt_app (l : List Prefix) (x : Prefix) : (l ++ [x]).filter pOk = if pOk x = true then l.filter pOk ++ [x] else l.filter pOk := by
  rw [List.filter_append]
  split <;> simp [*]
theorem filt_len (l : List Prefix) : (l.filter pOk).length ≤ l.length := List.length_filter_le _ _
theorem note_same (n : Note) : m_ridgewayref03_SameNote n n = some true := by
  refine (?_ : Ok (m_ridgewayref03_SameNote n n) (· = true)).elim fun x h => by rw [h.1, h.2]
  unfold m_ridgewayref03_SameNote
  exact ok_if (fun _ => ok_if (fun _ => ok_some (by simp)) fun h => absurd rfl h) fun h => absurd rfl h
/-- What is got where the octets say these. -/
def gotOf (g l : List Prefix) (ok : Bool) (r : Path × Int × Note) : News × Note :=
  if ok = true ∧ ¬ r.2.2.Code = 0 then (⟨[], ⟨0, [], 0, 0⟩, []⟩, r.2.2)
  else if l.length = 0 then (⟨g, ⟨0, [], 0, 0⟩, []⟩, ⟨0, 0, []⟩)
  else if ok = true ∧ r.2.1 = 0 then (⟨g, r.1, l⟩, ⟨0, 0, []⟩) else (⟨g ++ l, ⟨0, [], 0, 0⟩, []⟩, ⟨0, 0, []⟩)
theorem getOf_eq (g l : List Prefix) (a : List UInt8) (hg : ∀ x ∈ g, PrefixOk x) (hl : ∀ x ∈ l, PrefixOk x) (cg : g.length ≤ 40) (cl : l.length ≤ 40) (ca : a.length ≤ 600) {L : List Attr} {ok : Bool} {r : Path × Int × Note} (e1 : m_attr_All a = some (L, ok)) (e2 : m_attr_Judge L = some r) :
    m_update_Get ⟨2, putL ((g.flatMap encP).length : Int) 2 ++ (g.flatMap encP ++ (putL (a.length : Int) 2 ++ (a ++ l.flatMap encP)))⟩ = some (gotOf g l ok r) := by
  have l1 := encPs_len hg
  have l2 := encPs_len hl
  have hb : (putL ((g.flatMap encP).length : Int) 2 ++ (g.flatMap encP ++ (putL (a.length : Int) 2 ++ (a ++ l.flatMap encP)))).length = 4 + (g.flatMap encP).length + a.length + (l.flatMap encP).length := by
    simp only [List.length_append, putL_length]
    omega
  refine (?_ : Ok (m_update_Get ⟨2, _⟩) (· = gotOf g l ok r)).elim fun x h => by rw [h.1, h.2]
  unfold m_update_Get
  refine ok_if (fun k => absurd rfl k) fun _ => ok_bde (msgSane_eq _ (by omega) (by omega)) (ok_ifn (fun k => absurd (by omega) k) fun _ => ?_)
  refine ok_bde (counted_eq _ _ (by omega)) (ok_bde (counted_eq _ _ (by omega)) (ok_ifnb (fun k => Bool.noConfusion k) fun _ => ok_ifnb (fun k => Bool.noConfusion k) fun _ => ok_bde (prefixAll_eq _ hg (by omega)) (ok_bde (prefixAll_eq _ hl (by omega)) (ok_ifnb (fun k => Bool.noConfusion k) fun _ => ok_ifnb (fun k => Bool.noConfusion k) fun _ => ok_bde e1 ?_))))
  unfold gotOf
  cases ok with
  | true =>
    refine ok_jn (fun j => j = (r.2.1, r.1.Origin, r.1.As, r.1.Hop, r.1.Otc, r.2.2.Code, r.2.2.Sub, r.2.2.Data)) (fun k hk => ok_ifb (fun _ => ok_bde e2 (hk _ rfl)) fun k => Bool.noConfusion k) fun j hj => ?_
    subst hj
    refine ok_if (fun q => ok_some (by rw [if_pos ⟨rfl, q⟩])) fun q => ?_
    rw [if_neg fun h => q h.2]
    refine ok_if (fun h0 => ok_some (by rw [if_pos (by dsimp only at h0; omega)])) fun h0 => ?_
    rw [if_neg (by dsimp only at h0; omega)]
    refine ok_if (fun h1 => ok_ap (by dsimp only; omega) (by dsimp only; omega) (ok_some (by rw [if_neg fun h => h1 h.2]))) fun h1 => ok_some (by rw [if_pos ⟨rfl, Decidable.not_not.1 h1⟩])
  | false =>
    refine ok_jn (fun j => j = (1, 0, [], 0, 0, 0, 0, [])) (fun k hk => ok_ifb (fun h => Bool.noConfusion h) fun _ => hk _ rfl) fun j hj => ?_
    subst hj
    refine ok_if (fun q => absurd rfl q) fun q => ?_
    rw [if_neg fun h => by cases h.1]
    refine ok_if (fun h0 => ok_some (by rw [if_pos (by dsimp only at h0; omega)])) fun h0 => ?_
    rw [if_neg (by dsimp only at h0; omega)]
    refine ok_if (fun h1 => ok_ap (by dsimp only; omega) (by dsimp only; omega) (ok_some (by rw [if_neg fun h => by cases h.1]))) fun h1 => absurd (by decide) h1
theorem updateSpoilt_true (g l : List Prefix) (a : List UInt8) (hg : g.length ≤ 9223372036854775807) (hl : l.length ≤ 9223372036854775807) (ha : a.length ≤ 9223372036854775807) : m_ridgewaylaw08_UpdateSpoilt g l a = some true := by
  refine ok_true ?_
  unfold m_ridgewaylaw08_UpdateSpoilt
  refine ok_bde law08_awake (ok_if (fun _ => ok_some rfl) fun h1 => ok_if (fun _ => ok_some rfl) fun h2 => ok_if (fun _ => ok_some rfl) fun h3 => ?_)
  have cg := filt_len g
  have cl := filt_len l
  have lg := encPs_len (filt_ok g)
  have ll := encPs_len (filt_ok l)
  refine ok_loop (fun st => ∃ i : Nat, i ≤ g.length ∧ st = (((g.take i).filter pOk).flatMap encP, (g.take i).filter pOk, (i : Int))) (fun st => ((g.length : Int) - st.2.2).toNat) ⟨0, Nat.zero_le _, rfl⟩ (by dsimp only; omega) ?_
  rintro _ ⟨i, hi, rfl⟩ nx hnx
  rw [s_ridgewaylaw08_UpdateSpoilt1]
  dsimp only at hnx ⊢
  have ci := filt_len (g.take i)
  have li := encPs_len (filt_ok (g.take i))
  rw [List.length_take] at ci
  by_cases hlt : i < g.length
  · have hw : IntKind.i64.wrap ((i : Int) + 1) = ((i + 1 : Nat) : Int) := by rw [w64 (by omega) (by omega)]; rfl
    obtain ⟨es, hs⟩ := pOk_eq g[i]
    have x1 : ∀ {k : Prefix → Option Bool}, Ok (k g[i]) (· = true) → Ok (bd (ix g (i : Int)) k) (· = true) := fun hk => ok_ix (by omega) (by omega) fun _ => by simp only [Int.toNat_natCast]; exact hk
    have hf := filt_app (g.take i) g[i]
    rw [List.take_append_getElem hlt] at hf
    refine ok_if (fun _ => x1 (ok_bde es (ok_ifb (fun q => x1 (ok_bde (prefixPut_eq _ _ (by omega) (hs.1 q)) (x1 (ok_ap (by simp; omega) (by simp; omega) (hnx _ ⟨i + 1, hlt, ?_⟩ (by dsimp only; rw [hw]; omega)))))) fun q => hnx _ ⟨i + 1, hlt, ?_⟩ (by dsimp only; rw [hw]; omega)))) fun h => by omega
    · rw [hf, if_pos q, hw, List.flatMap_append]
      simp
    · rw [hf, if_neg (by rw [q]; decide), hw]
  have hie : i = g.length := by omega
  subst hie
  rw [List.take_length]
  generalize hG : g.filter pOk = G at cg lg
  have hGo : ∀ x ∈ G, PrefixOk x := by rw [← hG]; exact filt_ok g
  refine ok_if (fun h => by omega) fun _ => ok_bde (octPut_eq [] _ 2 (by omega) (by omega) (by simp)) (ok_ap (by simp [putL_length]) (by simp [putL_length]) (ok_ap (by simp only [List.length_append, List.length_nil, putL_length]; omega) (by simp only [List.length_append, List.length_nil, putL_length]; omega) (ok_bde (octPut_eq [] _ 2 (by omega) (by omega) (by simp)) (ok_ap (by simp only [List.length_append, List.length_nil, putL_length]; omega) (by simp only [List.length_append, List.length_nil, putL_length]; omega) (ok_ap (by simp only [List.length_append, List.length_nil, putL_length]; omega) (by simp only [List.length_append, List.length_nil, putL_length]; omega) ?_)))))
  generalize hB : (([] : List UInt8) ++ ([] ++ putL ((G.flatMap encP).length : Int) (2 : Int).toNat) ++ G.flatMap encP ++ ([] ++ putL (a.length : Int) (2 : Int).toNat) ++ a) = B
  have hBl : B.length = 4 + (G.flatMap encP).length + a.length := by
    rw [← hB]
    simp only [List.length_append, List.length_nil, putL_length]
    omega
  refine ok_loop (fun st => ∃ i : Nat, i ≤ l.length ∧ st = (G ++ (l.take i).filter pOk, B ++ ((l.take i).filter pOk).flatMap encP, (i : Int))) (fun st => ((l.length : Int) - st.2.2).toNat) ⟨0, Nat.zero_le _, by simp⟩ (by dsimp only; omega) ?_
  rintro _ ⟨i, hi, rfl⟩ nx2 hnx2
  rw [s_ridgewaylaw08_UpdateSpoilt2]
  dsimp only at hnx2 ⊢
  have ci := filt_len (l.take i)
  have li := encPs_len (filt_ok (l.take i))
  rw [List.length_take] at ci
  by_cases hlt : i < l.length
  · have hw : IntKind.i64.wrap ((i : Int) + 1) = ((i + 1 : Nat) : Int) := by rw [w64 (by omega) (by omega)]; rfl
    obtain ⟨es, hs⟩ := pOk_eq l[i]
    have x1 : ∀ {k : Prefix → Option Bool}, Ok (k l[i]) (· = true) → Ok (bd (ix l (i : Int)) k) (· = true) := fun hk => ok_ix (by omega) (by omega) fun _ => by simp only [Int.toNat_natCast]; exact hk
    have hf := filt_app (l.take i) l[i]
    rw [List.take_append_getElem hlt] at hf
    refine ok_if (fun _ => x1 (ok_bde es (ok_ifb (fun q => x1 (ok_bde (prefixPut_eq _ _ (by rw [List.length_append]; omega) (hs.1 q)) (x1 (ok_ap (by simp only [List.length_append, List.length_singleton]; omega) (by simp only [List.length_append, List.length_singleton]; omega) (hnx2 _ ⟨i + 1, hlt, ?_⟩ (by dsimp only; rw [hw]; omega)))))) fun q => hnx2 _ ⟨i + 1, hlt, ?_⟩ (by dsimp only; rw [hw]; omega)))) fun h => by omega
    · rw [hf, if_pos q, hw, List.flatMap_append]
      simp
    · rw [hf, if_neg (by rw [q]; decide), hw]
  have hie : i = l.length := by omega
  subst hie
  rw [List.take_length]
  generalize hN : l.filter pOk = N at cl ll
  have hNo : ∀ x ∈ N, PrefixOk x := by rw [← hN]; exact filt_ok l
  have hBN : B ++ N.flatMap encP = putL ((G.flatMap encP).length : Int) 2 ++ (G.flatMap encP ++ (putL (a.length : Int) 2 ++ (a ++ N.flatMap encP))) := by
    rw [← hB]
    simp only [List.nil_append, List.append_assoc]
    rfl
  refine ok_if (fun h => by omega) fun _ => ok_bd (t_all a (by omega)) fun r20 e20 h20 => ok_bd (t_judge r20.1 (by omega) h20.2) fun r21 e21 h21 => ?_
  rw [hBN]
  refine ok_bde (getOf_eq G N a hGo hNo (by omega) (by omega) (by omega) e20 e21) ?_
  have s1 := sameP_refl G (by omega)
  have s2 := sameP_refl N (by omega)
  have s3 := sameP_refl (G ++ N) (by rw [List.length_append]; omega)
  have allN : ∀ (c : Int), c = 0 → Ok (bif decide (¬ (0 : Int) = (0 : Int)) then some false else bif true then bd (m_ridgewayref02_Same (G ++ N) (G ++ N)) fun r31 => bif r31 then some (decide ((([] : List Prefix).length : Int) = (0 : Int))) else some false else some false) (· = true) := fun _ _ => ok_if (fun h => absurd rfl h) fun _ => ok_ifb (fun _ => ok_bde s3 (ok_ifb (fun _ => ok_some rfl) fun h => Bool.noConfusion h)) fun h => Bool.noConfusion h
  have hz : N.length = 0 → G ++ N = G := fun h => by rw [List.length_eq_zero_iff.1 h, List.append_nil]
  unfold gotOf
  cases hok : r20.2 with
  | false =>
    refine ok_ifb (fun h => Bool.noConfusion h) fun _ => ?_
    rw [if_neg fun h => by cases h.1]
    by_cases h0 : N.length = 0
    · rw [if_pos h0]
      refine ok_if (fun h => absurd rfl h) fun _ => ok_ifb (fun _ => ?_) fun h => Bool.noConfusion h
      rw [hz h0]
      exact ok_bde s1 (ok_ifb (fun _ => ok_some rfl) fun h => Bool.noConfusion h)
    · rw [if_neg h0, if_neg fun h => by cases h.1]
      exact allN 0 rfl
  | true =>
    refine ok_ifb (fun _ => ?_) fun h => Bool.noConfusion h
    rcases h21 with h21 | h21
    · obtain ⟨f1, f2, f3, f4⟩ := h21
      rw [if_pos ⟨rfl, by omega⟩]
      exact ok_if (fun _ => ok_ifb (fun _ => ok_bde (note_same _) (ok_ifb (fun _ => ok_some rfl) fun h => Bool.noConfusion h)) fun h => Bool.noConfusion h) fun h => absurd f2 h
    · obtain ⟨f1, f2, f3, f4⟩ := h21
      have hc0 : r21.2.2.Code = 0 := by rw [f2]
      rw [if_neg fun h => h.2 hc0]
      refine ok_if (fun h => by omega) fun _ => ?_
      by_cases h0 : N.length = 0
      · rw [if_pos h0]
        refine ok_if (fun h => absurd rfl h) fun _ => ok_if (fun _ => ok_if (fun h => by simp only [List.length_append] at h; omega) fun _ => ?_) fun _ => ?_
        all_goals
          refine ok_ifb (fun _ => ?_) fun h => Bool.noConfusion h
          rw [hz h0]
          exact ok_bde s1 (ok_ifb (fun _ => ok_some rfl) fun h => Bool.noConfusion h)
      · rw [if_neg h0]
        by_cases hk : r21.2.1 = 0
        · rw [if_pos ⟨rfl, hk⟩]
          have t1 : (G ++ N).take ((G.length : Int)).toNat = G := by simp
          have t2 : (G ++ N).drop ((G.length : Int)).toNat = N := by simp
          refine ok_if (fun h => absurd rfl h) fun _ => ok_if (fun _ => ok_if (fun _ => ok_ifb (fun _ => ok_bde (sl_pre (by rw [List.length_append]; omega)) ?_) fun h => Bool.noConfusion h) fun h => absurd (by simp only [List.length_append]; omega) h) fun h => absurd hk h
          rw [t1]
          refine ok_bde s1 (ok_ifb (fun _ => ok_bde (sl_all (by rw [List.length_append]; omega)) ?_) fun h => Bool.noConfusion h)
          rw [t2]
          exact ok_bde s2 (ok_ifb (fun _ => ok_bde (same_refl _ f3) (ok_some rfl)) fun h => Bool.noConfusion h)
        · rw [if_neg fun h => hk h.2]
          refine ok_if (fun h => absurd rfl h) fun _ => ok_if (fun h => absurd h hk) fun _ => ok_ifb (fun _ => ok_bde s3 (ok_ifb (fun _ => ok_some rfl) fun h => Bool.noConfusion h)) fun h => Bool.noConfusion h
end Go.Proofs.Ytkdodhkiemfpeaa
