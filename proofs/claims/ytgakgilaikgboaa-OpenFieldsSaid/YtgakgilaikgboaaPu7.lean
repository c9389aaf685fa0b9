/- Opening: what is put. -/
import Derived.Test.YtgakgilaikgboaaPu6
namespace Go.Proofs.Ytgakgilaikgboaa
open Go.RowKit
set_option linter.unusedVariables false
set_option linter.unusedSimpArgs false
set_option maxRecDepth 100000
set_option maxHeartbeats 1000000

theorem bd_bif {α β : Type} (c : Bool) (A B : Option α) (k : α → Option β) : bd (bif c then A else B) k = bif c then bd A k else bd B k := by cases c <;> rfl
theorem bif_dec {α : Type} {p : Prop} [Decidable p] {A B x : α} (h1 : p → A = x) (h2 : ¬p → B = x) : (bif decide p then A else B) = x := by
  by_cases h : p
  · rw [decide_eq_true h]; exact h1 h
  · rw [decide_eq_false h]; exact h2 h
theorem some_dec {p q : Prop} [Decidable p] [Decidable q] (h : p ↔ q) : some (decide p) = some (decide q) := by
  congr 1
  exact decide_eq_decide.2 h
theorem some_fal {q : Prop} [Decidable q] (h : ¬q) : some false = some (decide q) := by rw [decide_eq_false h]
theorem some_tru {q : Prop} [Decidable q] (h : q) : some true = some (decide q) := by rw [decide_eq_true h]

def openOk (h : Hello) : Prop := (1 ≤ h.As ∧ h.As ≤ 4294967295) ∧ (1 ≤ h.Id ∧ h.Id ≤ 4294967295) ∧ (h.Hold = 0 ∨ 3 ≤ h.Hold ∧ h.Hold ≤ 65535) ∧ -1 ≤ h.Role ∧ h.Role ≤ 4
instance (h : Hello) : Decidable (openOk h) := by unfold openOk; infer_instance
theorem openNumber_eq (n : Int) : m_open_number n = some (decide (1 ≤ n ∧ n ≤ 4294967295)) := by
  unfold m_open_number
  refine bif_dec (fun h => some_dec ?_) (fun h => some_fal ?_) <;> omega
theorem openHolds_eq (n : Int) : m_open_holds n = some (decide (n = 0 ∨ 3 ≤ n ∧ n ≤ 65535)) := by
  unfold m_open_holds
  refine bif_dec (fun h => some_tru ?_) (fun h => bif_dec (fun h => some_dec ?_) (fun h => some_fal ?_)) <;> omega
theorem openSane_eq (h : Hello) : m_open_Sane h = some (decide (openOk h)) := by
  unfold m_open_Sane openOk
  rw [openNumber_eq, bd_some]
  refine bif_dec (fun h1 => ?_) (fun h1 => some_fal fun g => h1 g.1)
  rw [openNumber_eq, bd_some]
  refine bif_dec (fun h2 => ?_) (fun h2 => some_fal fun g => h2 g.2.1)
  rw [openHolds_eq, bd_some]
  refine bif_dec (fun h3 => ?_) (fun h3 => some_fal fun g => h3 g.2.2.1)
  refine bif_dec (fun h4 => some_dec ?_) (fun h4 => some_fal fun g => h4 g.2.2.2.1)
  exact ⟨fun g => ⟨h1, h2, h3, h4, g⟩, fun g => g.2.2.2.2⟩

/-- What stands behind the ten octets. -/
def capsOf (h : Hello) : List UInt8 := capA h.As ++ if h.Role = -1 then [] else capR h.Role
def shortOf (a : Int) : Int := if a > 65535 then 23456 else a
theorem openShort_eq (a : Int) : m_open_short a = some (shortOf a) := by
  unfold m_open_short shortOf
  refine bif_dec (fun h => ?_) (fun h => ?_)
  · rw [if_pos h]
  · rw [if_neg h]
theorem capsOf_length (h : Hello) : (capsOf h).length = if h.Role = -1 then 8 else 13 := by
  unfold capsOf capA capR
  rw [List.length_append, List.length_append, putL_length]
  by_cases g : h.Role = -1
  · rw [if_pos g, if_pos g]; rfl
  · rw [if_neg g, if_neg g]
    rw [List.length_append, putL_length]; rfl
def openBody (h : Hello) : List UInt8 :=
  octAt 4 0 :: octAt (shortOf h.As) 1 :: octAt (shortOf h.As) 0 :: octAt h.Hold 1 :: octAt h.Hold 0 :: octAt h.Id 3 :: octAt h.Id 2 :: octAt h.Id 1 :: octAt h.Id 0 :: octAt ((capsOf h).length : Int) 0 :: capsOf h
theorem labelled_eq (k : Int) (b : List UInt8) (h : b.length ≤ 1000) : m_open_labelled k b = some (toB (IntKind.u8.wrap k) :: toB (IntKind.u8.wrap (b.length : Int)) :: b) := by
  unfold m_open_labelled
  rw [ap_some (by simp; omega) (by simp; omega), bd_some]
  rfl
theorem openPut_no (h : Hello) (g : ¬openOk h) : m_open_Put h = some ⟨0, []⟩ := by
  unfold m_open_Put
  rw [openSane_eq, bd_some, decide_eq_false g]
  rfl
theorem put_caps (h : Hello) (k : List UInt8 → Option Msg) :
    (bd (m_octet_Put ([] : List UInt8) h.As (4 : Int)) fun r2 =>
    bd (m_open_labelled (65 : Int) r2) fun r3 =>
    bd (m_open_labelled (2 : Int) r3) fun r4 =>
    jn 1 (fun (k1 : ((List UInt8)) → Option Msg) =>
      bif decide (¬ h.Role = (-1 : Int)) then
        bd (m_octet_Put ([] : List UInt8) h.Role (1 : Int)) fun r5 =>
        bd (m_open_labelled (9 : Int) r5) fun r6 =>
        bd (m_open_labelled (2 : Int) r6) fun r7 =>
        bd (ap 1 r4 r7) fun y8 =>
        k1 y8
      else
        k1 r4) k) = k (capsOf h) := by
  rw [octPut_eq _ _ _ (by decide) (by decide) (by simp), bd_some, List.nil_append, labelled_eq _ _ (by rw [putL_length]; decide), bd_some, labelled_eq _ _ (by simp [putL_length]), bd_some, jn_eq]
  unfold capsOf capA capR
  refine bif_dec (fun g => ?_) (fun g => ?_)
  · rw [octPut_eq _ _ _ (by decide) (by decide) (by simp), bd_some, List.nil_append, labelled_eq _ _ (by rw [putL_length]; decide), bd_some, labelled_eq _ _ (by simp [putL_length]), bd_some]
    rw [ap_some (by simp [putL_length]) (by simp [putL_length]), bd_some, if_neg g]
    rfl
  · rw [if_pos (by omega), List.append_nil]
    rfl
theorem openPut_eq (h : Hello) (g : openOk h) : m_open_Put h = some ⟨1, openBody h⟩ := by
  have hl := capsOf_length h
  have hl' : (capsOf h).length ≤ 13 := by
    rw [hl]
    split <;> decide
  unfold m_open_Put
  rw [openSane_eq, bd_some, decide_eq_true g]
  rw [Bool.not_true, cond_false, put_caps h]
  rw [octPut_eq _ _ _ (by decide) (by decide) (by simp), bd_some, openShort_eq, bd_some]
  rw [octPut_eq _ _ _ (by decide) (by decide) (by simp [putL_length]), bd_some]
  rw [octPut_eq _ _ _ (by decide) (by decide) (by simp [putL_length]), bd_some]
  rw [octPut_eq _ _ _ (by decide) (by decide) (by simp [putL_length]), bd_some]
  rw [octPut_eq _ _ _ (by decide) (by decide) (by simp [putL_length]), bd_some]
  rw [ap_some (by simp [putL_length]; omega) (by simp [putL_length]; omega), bd_some]
  rfl
theorem msgLeast1 : m_msg_Least 1 = some 29 := rfl
theorem msgWrong1 (n : Int) (h : 29 ≤ n) : m_msg_wrong 1 n = some false := by
  unfold m_msg_wrong
  rw [msgLeast1, bd_some, decide_eq_false (by omega), cond_false]
  rfl
theorem msgSane1 (b : List UInt8) (h : 10 ≤ b.length ∧ b.length ≤ 4077) : m_msg_Sane ⟨1, b⟩ = some true := by
  unfold m_msg_Sane
  dsimp only
  rw [w64 (x := (19 : Int) + b.length) (by omega) (by omega)]
  rw [msgLeast1, bd_some, decide_eq_true (by decide), cond_true, msgWrong1 _ (by omega), bd_some, Bool.not_false, cond_true, decide_eq_true (by omega)]

/-- A message of ten octets and what is said behind them. -/
def ten (v s1 s0 h1 h0 i3 i2 i1 i0 n : UInt8) (p : List UInt8) : List UInt8 := v :: s1 :: s0 :: h1 :: h0 :: i3 :: i2 :: i1 :: i0 :: n :: p
theorem openGet_v (v s1 s0 h1 h0 i3 i2 i1 i0 n : UInt8) (p : List UInt8) (as : Int) (hl : p.length ≤ 4000) (hv : ¬ (v.toNat : Int) = 4) :
    m_open_Get ⟨1, ten v s1 s0 h1 h0 i3 i2 i1 i0 n p⟩ as = some (⟨0, 0, 0, 0⟩, ⟨2, 1, [0, 4]⟩) := by
  unfold m_open_Get
  rw [msgSane1 _ (by simp [ten]; omega)]
  dsimp only
  rw [decide_eq_false (by decide), cond_false, bd_some, Bool.not_true, cond_false]
  unfold ten
  rw [octGet1c, bd_some]
  dsimp only
  rw [octGet2c, bd_some]
  dsimp only
  rw [octGet2c, bd_some]
  dsimp only
  rw [octGet4c, bd_some]
  dsimp only
  rw [octGet1c, bd_some]
  dsimp only
  rw [decide_eq_true hv, cond_true, octPut_eq _ _ _ (by decide) (by decide) (by simp), bd_some]
  rfl
theorem openGet_read (s1 s0 h1 h0 i3 i2 i1 i0 n : UInt8) (p : List UInt8) (as : Int) (hl : p.length ≤ 4000) (hn : (n.toNat : Int) = p.length) (x : OpenSaid) (hr : m_open_read p = some (x, ⟨0, 0, []⟩)) (c : Note)
    (hf : m_open_fault x as ((s1.toNat * 256 + s0.toNat : Nat) : Int) ((h1.toNat * 256 + h0.toNat : Nat) : Int) ((num [i3, i2, i1, i0] : Nat) : Int) = some c) (hc : ¬ c.Code = 0) :
    m_open_Get ⟨1, ten 4 s1 s0 h1 h0 i3 i2 i1 i0 n p⟩ as = some (⟨0, 0, 0, 0⟩, c) := by
  unfold m_open_Get
  rw [msgSane1 _ (by simp [ten]; omega)]
  dsimp only
  rw [decide_eq_false (by decide), cond_false, bd_some, Bool.not_true, cond_false]
  unfold ten
  rw [octGet1c, bd_some]
  dsimp only
  rw [octGet2c, bd_some]
  dsimp only
  rw [octGet2c, bd_some]
  dsimp only
  rw [octGet4c, bd_some]
  dsimp only
  rw [octGet1c, bd_some]
  dsimp only
  rw [decide_eq_false (by decide), cond_false, decide_eq_false (by omega), cond_false, hr, bd_some, jn_eq]
  dsimp only
  rw [decide_eq_true rfl, cond_true, hf, bd_some, decide_eq_true hc, cond_true]
theorem fault_hold (x : OpenSaid) (hx : 1 ≤ x.as_) (hold id : Int) (hh : ¬ (hold = 0 ∨ 3 ≤ hold ∧ hold ≤ 65535)) : m_open_fault x x.as_ (shortOf x.as_) hold id = some ⟨2, 6, []⟩ := by
  unfold m_open_fault
  rw [decide_eq_false (by omega), cond_false, decide_eq_false (by omega), cond_false, decide_eq_false (by omega), cond_false, openShort_eq, bd_some, decide_eq_false (by omega), cond_false, openHolds_eq, bd_some, decide_eq_false hh]
  rfl
theorem fault_id (x : OpenSaid) (hx : 1 ≤ x.as_) (hold : Int) (hh : hold = 0 ∨ 3 ≤ hold ∧ hold ≤ 65535) : m_open_fault x x.as_ (shortOf x.as_) hold 0 = some ⟨2, 3, []⟩ := by
  unfold m_open_fault
  rw [decide_eq_false (by omega), cond_false, decide_eq_false (by omega), cond_false, decide_eq_false (by omega), cond_false, openShort_eq, bd_some, decide_eq_false (by omega), cond_false, openHolds_eq, bd_some, decide_eq_true hh]
  rfl
theorem openGet_ok (s1 s0 h1 h0 i3 i2 i1 i0 n : UInt8) (p : List UInt8) (as : Int) (hl : p.length ≤ 4000) (hn : (n.toNat : Int) = p.length) (x : OpenSaid) (hr : m_open_read p = some (x, ⟨0, 0, []⟩)) (c : Note)
    (hf : m_open_fault x as ((s1.toNat * 256 + s0.toNat : Nat) : Int) ((h1.toNat * 256 + h0.toNat : Nat) : Int) ((num [i3, i2, i1, i0] : Nat) : Int) = some c) (hc : c.Code = 0) :
    m_open_Get ⟨1, ten 4 s1 s0 h1 h0 i3 i2 i1 i0 n p⟩ as = some (⟨x.as_, ((h1.toNat * 256 + h0.toNat : Nat) : Int), ((num [i3, i2, i1, i0] : Nat) : Int), x.role⟩, ⟨0, 0, []⟩) := by
  unfold m_open_Get
  rw [msgSane1 _ (by simp [ten]; omega)]
  dsimp only
  rw [decide_eq_false (by decide), cond_false, bd_some, Bool.not_true, cond_false]
  unfold ten
  rw [octGet1c, bd_some]
  dsimp only
  rw [octGet2c, bd_some]
  dsimp only
  rw [octGet2c, bd_some]
  dsimp only
  rw [octGet4c, bd_some]
  dsimp only
  rw [octGet1c, bd_some]
  dsimp only
  rw [decide_eq_false (by decide), cond_false, decide_eq_false (by omega), cond_false, hr, bd_some, jn_eq]
  dsimp only
  rw [decide_eq_true rfl, cond_true, hf, bd_some, decide_eq_false (by omega), cond_false]
theorem fault_no (x : OpenSaid) (hx : 1 ≤ x.as_) (hold id : Int) (hh : hold = 0 ∨ 3 ≤ hold ∧ hold ≤ 65535) (hi : ¬ id = 0) : m_open_fault x x.as_ (shortOf x.as_) hold id = some ⟨0, 0, []⟩ := by
  unfold m_open_fault
  rw [decide_eq_false (by omega), cond_false, decide_eq_false (by omega), cond_false, decide_eq_false (by omega), cond_false, openShort_eq, bd_some, decide_eq_false (by omega), cond_false, openHolds_eq, bd_some, decide_eq_true hh, Bool.not_true, cond_false, decide_eq_false hi]
  rfl
theorem octAt2 (v : Int) (h : 0 ≤ v ∧ v < 65536) : (((octAt v 1).toNat * 256 + (octAt v 0).toNat : Nat) : Int) = v := by
  have := num_putL v 2
  rw [putL2] at this
  simp only [num, List.foldl_cons, List.foldl_nil, Nat.zero_mul, Nat.zero_add] at this
  rw [this]
  omega
theorem shortOf_lt (v : Int) (h : 0 ≤ v) : 0 ≤ shortOf v ∧ shortOf v < 65536 := by
  unfold shortOf
  split <;> omega
end Go.Proofs.Ytgakgilaikgboaa
