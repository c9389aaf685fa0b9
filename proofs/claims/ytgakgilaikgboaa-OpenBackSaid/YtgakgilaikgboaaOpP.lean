/- Opening: what is got, by cases; what is put is got back. -/
import Derived.Test.YtgakgilaikgboaaOp5
namespace Go.Proofs.Ytgakgilaikgboaa
open Go.RowKit
set_option maxHeartbeats 2000000
set_option linter.unusedSimpArgs false
set_option linter.unusedVariables false

def okP (a r : Int) : Prop := a ≤ 4294967295 ∧ -1 ≤ r ∧ r ≤ 255
theorem takeS_ok {a r c : Int} {b : List UInt8} (h : okP a r) : okP (takeS a r c b).1 (takeS a r c b).2.1 := by
  unfold takeS
  by_cases h1 : (c = 65 ∧ b.length ≠ 4) ∨ (c = 9 ∧ b.length ≠ 1)
  · rw [if_pos h1]; exact h
  rw [if_neg h1]
  by_cases h2 : c = 65 ∧ a < 0
  · rw [if_pos h2]
    have h3 : b.length = 4 := by omega
    have := num_lt b
    rw [h3] at this
    unfold okP at h ⊢
    simp only
    omega
  rw [if_neg h2]
  by_cases h3 : c = 9 ∧ r < 0
  · rw [if_pos h3]
    have := (b.headD 0).toNat_lt
    unfold okP at h ⊢
    simp only
    omega
  rw [if_neg h3]
  split <;> exact h
theorem eachS_ok {f : Int → Int → Int → List UInt8 → Int × Int × Option Int} (hf : ∀ {a r c b}, okP a r → okP (f a r c b).1 (f a r c b).2.1) : ∀ (n : Nat) (l : List UInt8) (a r : Int), l.length ≤ n → okP a r → okP (eachS f a r l).1 (eachS f a r l).2.1 := by
  intro n
  induction n with
  | zero =>
    intro l a r hl h
    obtain rfl : l = [] := List.length_eq_zero_iff.1 (by omega)
    rw [eachS]
    exact h
  | succ n ih =>
    intro l a r hl h
    rcases l with _ | ⟨k, _ | ⟨c, t⟩⟩
    · rw [eachS]; exact h
    · rw [eachS]; exact h
    · rw [eachS]
      split
      · have hp := @hf a r k.toNat (t.take c.toNat) h
        generalize f a r k.toNat (t.take c.toNat) = q at hp ⊢
        obtain ⟨a', r', _ | e⟩ := q
        · exact ih _ _ _ (by simp at hl ⊢; omega) hp
        · exact hp
      · exact h
theorem parS_ok {a r c : Int} {b : List UInt8} (h : okP a r) : okP (parS a r c b).1 (parS a r c b).2.1 := by
  unfold parS
  split
  · exact eachS_ok takeS_ok _ _ _ _ (Nat.le_refl _) h
  · exact h
theorem readS_ok (l : List UInt8) : okP (readS l).1 (readS l).2.1 :=
  eachS_ok parS_ok _ _ _ _ (Nat.le_refl _) ⟨by omega, by omega, by omega⟩
theorem faultS_cases (a asn two hold id : Int) : (faultS a asn two hold id).1 = 2 ∨ (faultS a asn two hold id = (0, 0, []) ∧ 0 < a ∧ a = asn ∧ two = shortI a ∧ holdB hold = true ∧ id ≠ 0) := by
  unfold faultS
  by_cases h1 : a < 0
  · rw [if_pos h1]; exact .inl rfl
  rw [if_neg h1]
  by_cases h2 : a = 0 ∨ ¬ a = asn ∨ ¬ two = shortI a
  · rw [if_pos h2]; exact .inl rfl
  rw [if_neg h2]
  by_cases h3 : holdB hold = false
  · rw [if_pos h3]; exact .inl rfl
  rw [if_neg h3]
  by_cases h4 : id = 0
  · rw [if_pos h4]; exact .inl rfl
  rw [if_neg h4]
  refine .inr ⟨rfl, by omega, by omega, ?_, by simpa using h3, h4⟩
  have : ¬ ¬ two = shortI a := fun h => h2 (.inr (.inr h))
  exact Decidable.not_not.1 this
theorem getO_cases (t : Int) (b : List UInt8) (asn : Int) : (∃ s d, getO t b asn = (zH, 2, s, d)) ∨
    (∃ hold id r : Int, getO t b asn = (⟨asn, hold, id, r⟩, 0, 0, []) ∧ t = 1 ∧ fitB t (b.length + 19) = true ∧ 0 < asn ∧ asn ≤ 4294967295 ∧ holdB hold = true ∧ 0 < id ∧ id ≤ 4294967295 ∧ -1 ≤ r ∧ r ≤ 255) := by
  unfold getO
  by_cases h1 : ¬ t = 1 ∨ fitB t (b.length + 19) = false
  · rw [if_pos h1]; exact .inl ⟨_, _, rfl⟩
  rw [if_neg h1]
  by_cases h2 : ¬ b.headD 0 = 4
  · rw [if_pos h2]; exact .inl ⟨_, _, rfl⟩
  rw [if_neg h2]
  by_cases h3 : ¬ ((b.drop 9).headD 0).toNat = (b.drop 10).length
  · rw [if_pos h3]; exact .inl ⟨_, _, rfl⟩
  rw [if_neg h3]
  have hp := readS_ok (b.drop 10)
  generalize readS (b.drop 10) = q at hp ⊢
  obtain ⟨a, r, _ | e⟩ := q
  · simp only
    have hid := num_lt ((b.drop 5).take 4)
    have hl : 256 ^ ((b.drop 5).take 4).length ≤ 256 ^ 4 := Nat.pow_le_pow_right (by omega) (by rw [List.length_take]; omega)
    generalize num ((b.drop 5).take 4) = id at hid ⊢
    rcases faultS_cases a asn (num ((b.drop 1).take 2)) (num ((b.drop 3).take 2)) id with h | ⟨h, g1, rfl, g3, g4, g5⟩
    · rw [if_neg (by omega)]
      generalize faultS a asn (num ((b.drop 1).take 2)) (num ((b.drop 3).take 2)) id = z at h ⊢
      obtain ⟨z1, z2, z3⟩ := z
      simp only at h
      subst h
      exact .inl ⟨_, _, rfl⟩
    · rw [h, if_pos rfl]
      unfold okP at hp
      simp only at hp
      refine .inr ⟨_, _, _, rfl, Decidable.not_not.1 fun h => h1 (.inl h), ?_, g1, hp.1, g4, by omega, by omega, hp.2.1, hp.2.2⟩
      cases hf : fitB t (b.length + 19)
      · exact absurd (.inr hf) h1
      · rfl
  · exact .inl ⟨_, _, rfl⟩

theorem putL4 (v : Int) : putL v 4 = [octAt v 3, octAt v 2, octAt v 1, octAt v 0] := by simp [putL, List.range_succ]
theorem putL2 (v : Int) : putL v 2 = [octAt v 1, octAt v 0] := by simp [putL, List.range_succ]
theorem take4 (v : Int) (h0 : 0 ≤ v) (h : v < 4294967296) : ((num [octAt v 3, octAt v 2, octAt v 1, octAt v 0] : Nat) : Int) = v := by
  rw [← putL4, num_putL]
  exact Int.emod_eq_of_lt h0 h
theorem take2 (v : Int) (h0 : 0 ≤ v) (h : v < 65536) : ((num [octAt v 1, octAt v 0] : Nat) : Int) = v := by
  rw [← putL2, num_putL]
  exact Int.emod_eq_of_lt h0 h
theorem take1 (v : Int) (h0 : 0 ≤ v) (h : v < 256) : ((octAt v 0).toNat : Int) = v := by
  unfold octAt
  rw [UInt8.toNat_ofNat']
  omega
theorem readS_tail (h : Hl) (hb : hlB h = true) : readS (tailO h) = (h.asn, h.role, none) := by
  obtain ⟨asn, hold, id, role⟩ := h
  unfold hlB numB holdB at hb
  simp only [Bool.and_eq_true, Bool.or_eq_true, decide_eq_true_eq] at hb
  have e1 := take4 asn (by omega) (by omega)
  unfold readS tailO
  simp only
  rw [putL4]
  by_cases hr : 0 ≤ role
  · rw [if_pos hr]
    have e2 := take1 role hr (by omega)
    simp [eachS, parS, takeS, e1, e2]
  · rw [if_neg hr]
    have : role = -1 := by omega
    subst this
    simp [eachS, parS, takeS, e1]
def hdO (h : Hl) (x0 x3 x4 x5 x6 x7 x8 x9 : UInt8) (t : List UInt8) : List UInt8 :=
  x0 :: octAt (shortI h.asn) 1 :: octAt (shortI h.asn) 0 :: x3 :: x4 :: x5 :: x6 :: x7 :: x8 :: x9 :: t
def endO (h : Hl) (asn : Int) (x3 x4 x5 x6 x7 x8 : UInt8) : Hl × Int × Int × List UInt8 :=
  if (faultS h.asn asn (shortI h.asn) (num [x3, x4]) (num [x5, x6, x7, x8])).1 = 0 then (⟨h.asn, num [x3, x4], num [x5, x6, x7, x8], h.role⟩, 0, 0, []) else (zH, faultS h.asn asn (shortI h.asn) (num [x3, x4]) (num [x5, x6, x7, x8]))
theorem fit1 (n : Int) : fitB 1 n = (decide (29 ≤ n) && decide (n ≤ 4096)) := by
  simp [fitB, leastI]
theorem short_lt {a : Int} (h : 0 ≤ a) : 0 ≤ shortI a ∧ shortI a < 65536 := by
  unfold shortI
  split <;> omega
theorem getO_hd (h : Hl) (hb : hlB h = true) (asn : Int) (x0 x3 x4 x5 x6 x7 x8 x9 : UInt8) (t : List UInt8) (hx : x9.toNat = t.length) :
    getO 1 (hdO h x0 x3 x4 x5 x6 x7 x8 x9 t) asn = if ¬ x0 = 4 then (zH, 2, 1, [0, 4]) else match (readS t) with
      | (_, _, some e) => (zH, 2, e, [])
      | (a, r, none) => if (faultS a asn (shortI h.asn) (num [x3, x4]) (num [x5, x6, x7, x8])).1 = 0 then (⟨a, num [x3, x4], num [x5, x6, x7, x8], r⟩, 0, 0, []) else (zH, faultS a asn (shortI h.asn) (num [x3, x4]) (num [x5, x6, x7, x8])) := by
  have hl := x9.toNat_lt
  have hs : 0 ≤ shortI h.asn ∧ shortI h.asn < 65536 := by
    unfold hlB numB at hb
    simp only [Bool.and_eq_true, Bool.or_eq_true, decide_eq_true_eq] at hb
    exact short_lt (by omega)
  have e2 := take2 (shortI h.asn) hs.1 hs.2
  have hf : fitB 1 (((hdO h x0 x3 x4 x5 x6 x7 x8 x9 t).length : Int) + 19) = true := by
    rw [fit1]
    unfold hdO
    simp only [List.length_cons, Bool.and_eq_true, decide_eq_true_eq]
    constructor <;> omega
  unfold getO
  rw [if_neg (by rw [hf]; simp)]
  unfold hdO
  simp only [List.headD_cons, List.drop_succ_cons, List.drop_zero, List.take_succ_cons, List.take_zero, e2, hx]
  split
  · rfl
  rw [if_neg (by simp)]
  rcases readS t with ⟨a, r, _ | e⟩
  · rfl
  · rfl
theorem tail_len (h : Hl) : (tailO h).length = if 0 ≤ h.role then 13 else 8 := by
  unfold tailO
  rw [putL4]
  split <;> simp_all
theorem oct_len {n : Nat} (h : n < 256) : (octAt (n : Int) 0).toNat = n := by
  have := take1 (n : Int) (by omega) (by omega)
  omega
theorem body_hd (h : Hl) : bodyO h = hdO h 4 (octAt h.hold 1) (octAt h.hold 0) (octAt h.id 3) (octAt h.id 2) (octAt h.id 1) (octAt h.id 0) (octAt (tailO h).length 0) (tailO h) := by
  unfold bodyO hdO
  rw [putL2, putL2, putL4]
  rfl
theorem getO_tail (h : Hl) (hb : hlB h = true) (asn : Int) (x0 x3 x4 x5 x6 x7 x8 : UInt8) :
    getO 1 (hdO h x0 x3 x4 x5 x6 x7 x8 (octAt (tailO h).length 0) (tailO h)) asn = if ¬ x0 = 4 then (zH, 2, 1, [0, 4]) else endO h asn x3 x4 x5 x6 x7 x8 := by
  rw [getO_hd h hb asn x0 x3 x4 x5 x6 x7 x8 _ _ (oct_len (by rw [tail_len]; split <;> omega)), readS_tail h hb]
  rfl
theorem getO_body (h : Hl) (hb : hlB h = true) (asn : Int) : getO 1 (bodyO h) asn = if asn = h.asn then (h, 0, 0, []) else (zH, 2, 2, []) := by
  rw [body_hd, getO_tail h hb, if_neg (by simp)]
  obtain ⟨a, hold, id, r⟩ := h
  unfold hlB numB at hb
  simp only [Bool.and_eq_true, decide_eq_true_eq] at hb
  have hh := hb.1.1.2
  unfold holdB at hh
  simp only [Bool.and_eq_true, Bool.or_eq_true, decide_eq_true_eq] at hh
  unfold endO
  rw [take2 hold (by omega) (by omega), take4 id (by omega) (by omega)]
  have g1 : ¬ a < 0 := by omega
  have g2 : ¬ a = 0 := by omega
  have g3 : ¬ id = 0 := by omega
  have g4 : holdB hold = true := hb.1.1.2
  by_cases he : asn = a
  · subst he
    simp [faultS, g1, g2, g3, g4]
  · have he' : ¬ a = asn := fun h => he h.symm
    simp [faultS, g1, g2, g3, g4, he, he']
theorem body_len (h : Hl) : (bodyO h).length = if 0 ≤ h.role then 23 else 18 := by
  rw [body_hd]
  unfold hdO
  simp only [List.length_cons, tail_len]
  split <;> rfl
theorem body_fit (h : Hl) : fitB 1 ((bodyO h).length + 19) = true := by
  rw [fit1, body_len]
  split <;> decide
end Go.Proofs.Ytgakgilaikgboaa
