/- What the models come to. -/
import Derived.Test.YtibploaibljcmaaDoorPu0
import Derived.Test.YtibploaibljcmaaDoorMv5
import Derived.Test.YtibploaibljcmaaDoorQ0
namespace Go.Proofs.YtibploaibljcmaaDoor
open Go.RowKit
set_option linter.unusedVariables false
set_option linter.unusedSimpArgs false

theorem octTake_eq (l : List UInt8) (n : Int) : m_octet_Take l n = some (if 0 ≤ n ∧ n ≤ l.length then (l.take n.toNat, l.drop n.toNat, true) else ([], [], false)) := by
  unfold m_octet_Take
  by_cases h1 : n < 0
  · rw [decide_eq_true h1, cond_true, if_neg (by omega)]
  rw [decide_eq_false h1, cond_false]
  by_cases h2 : n > (l.length : Int)
  · rw [decide_eq_true h2, cond_true, if_neg (by omega)]
  rw [decide_eq_false h2, cond_false, sl_pre (by omega), bd_some, sl_all (by omega), bd_some, if_pos (by omega)]
theorem octGet_eq (l : List UInt8) (a : Int) (h1 : 1 ≤ a) (h4 : a ≤ 4) : m_octet_Get l a = some (if a ≤ l.length then (((num (l.take a.toNat) : Nat) : Int), l.drop a.toNat, true) else (0, [], false)) := by
  unfold m_octet_Get
  rw [decide_eq_false (by omega), cond_false, decide_eq_false (by omega), cond_false, octTake_eq, bd_some]
  by_cases hk : a ≤ l.length
  · rw [if_pos (by omega), if_pos hk]
    refine loopC_ind (fun st => ∃ j : Nat, j ≤ a.toNat ∧ st = (((num (l.take j) : Nat) : Int), (j : Int))) (fun st => (a - st.2).toNat) ?_ _ _ ⟨0, Nat.zero_le _, by simp [num]⟩ (big_lt (by simp; omega))
    rintro st ⟨j, hj, rfl⟩ nx hnx
    unfold s_octet_Get1
    have hlen : (l.take a.toNat).length = a.toNat := by rw [List.length_take]; omega
    simp only [hlen]
    by_cases hlt : j < a.toNat
    · rw [decide_eq_true (by omega), cond_true, ix_nat (by rw [hlen]; exact hlt), bd_some, List.getElem_take]
      have hb : l[j].toNat < 256 := l[j].toNat_lt
      have hnl : num (l.take j) < 16777216 := by
        have := num_lt (l.take j)
        have : 256 ^ (l.take j).length ≤ 256 ^ 3 := Nat.pow_le_pow_right (by omega) (by rw [List.length_take]; omega)
        omega
      have e1 : IntKind.i64.wrap ((num (l.take j) : Nat) * 2 ^ (min (8 : Int).toNat IntKind.i64.bits) : Int) = (num (l.take j) : Nat) * 256 := by
        rw [show (2 : Int) ^ (min (8 : Int).toNat IntKind.i64.bits) = 256 from rfl, w64 (by omega) (by omega)]
      have e2 : IntKind.i64.wrap (l[j].toNat : Int) = l[j].toNat := w64 (by omega) (by omega)
      have e3 := or_byte (num (l.take j)) l[j].toNat hb hnl
      simp only [bits] at e3
      have e4 := num_step l j (by omega)
      rw [e1, e2, e3, ← e4, w64 (by omega) (by omega)]
      exact hnx _ ⟨j + 1, by omega, by simp⟩ (by simp; omega)
    · obtain rfl : j = a.toNat := by omega
      rw [decide_eq_false (by omega), cond_false]
  · rw [if_neg (by omega), if_neg hk]
    rw [show BIG = (BIG - 1) + 1 from rfl, loopC_succ]
    rfl
theorem u8_fdiv' (v : Int) (j : Nat) (h : j ≤ 3) : toB (IntKind.u8.wrap (v.fdiv (2 ^ (min (8 * j) 64)))) = octAt v j := by
  have : v.fdiv (2 ^ (8 * j)) = v / 2 ^ (8 * j) := by
    rw [Int.fdiv_eq_ediv_of_nonneg]
    exact Int.le_of_lt (Int.pow_pos (by decide))
  rw [Nat.min_eq_left (by omega), this, u8wrap_eq]
  rfl
theorem octPut_eq (l : List UInt8) (v a : Int) (h1 : 1 ≤ a) (h4 : a ≤ 4) (hl : l.length ≤ 140737488355000) : m_octet_Put l v a = some (l ++ putL v a.toNat) := by
  unfold m_octet_Put
  rw [decide_eq_false (by omega), cond_false, decide_eq_false (by omega), cond_false, sl_pre (by omega), bd_some, Int.toNat_natCast, List.take_length]
  refine loopC_ind (fun st => ∃ j : Nat, j ≤ a.toNat ∧ st = (l ++ (putL v a.toNat).take j, (j : Int))) (fun st => (a - st.2).toNat) ?_ _ _ ⟨0, Nat.zero_le _, by simp⟩ (big_lt (by simp; omega))
  rintro st ⟨j, hj, rfl⟩ nx hnx
  unfold s_octet_Put1
  by_cases hlt : j < a.toNat
  · rw [decide_eq_true (by simp only; omega), cond_true]
    have e1 : IntKind.i64.wrap (8 * IntKind.i64.wrap (IntKind.i64.wrap (a - 1) - (j : Int))) = ((8 * (a.toNat - 1 - j) : Nat) : Int) := by
      rw [w64 (x := a - 1) (by omega) (by omega), w64 (x := a - 1 - (j : Int)) (by omega) (by omega), w64 (by omega) (by omega)]
      omega
    simp only [e1]
    rw [nn_some (by omega), Int.toNat_natCast, show IntKind.i64.bits = 64 from rfl, u8_fdiv' v _ (by omega), ap_some (by simp; omega) (by simp; omega), bd_some, w64 (by omega) (by omega), List.append_assoc, ← putL_step v a.toNat j hlt]
    exact hnx _ ⟨j + 1, by omega, by simp⟩ (by simp; omega)
  · obtain rfl : j = a.toNat := by omega
    rw [decide_eq_false (by simp only; omega), cond_false, List.take_of_length_le (by rw [putL_length]; exact Nat.le_refl _)]
end Go.Proofs.YtibploaibljcmaaDoor
namespace Go.Proofs.YtibploaibljcmaaDoor
open Go.RowKit
set_option linter.unusedVariables false
set_option linter.unusedSimpArgs false
set_option maxRecDepth 100000
set_option maxHeartbeats 1000000

theorem loopC_more {σ ε R : Type} {step : σ → (σ → Option R) → (ε → Option R) → Option R} {bk : ε → Option R} {s : σ} (k : Nat) (h : k < 1000000) : loopC step bk (BIG - k) s = step s (fun s' => loopC step bk (BIG - (k + 1)) s') bk := by
  rw [show BIG - k = (BIG - (k + 1)) + 1 by unfold BIG; omega, loopC_succ]
theorem loopC_first {σ ε R : Type} {step : σ → (σ → Option R) → (ε → Option R) → Option R} {bk : ε → Option R} {s : σ} : loopC step bk BIG s = step s (fun s' => loopC step bk (BIG - 1) s') bk := by
  have := @loopC_more σ ε R step bk s 0 (by omega)
  rwa [Nat.sub_zero] at this
theorem octGet1c (x : UInt8) (t : List UInt8) : m_octet_Get (x :: t) 1 = some ((x.toNat : Int), t, true) := by
  rw [octGet_eq _ _ (by decide) (by decide), if_pos (by simp; omega)]
  simp [num]
theorem octGet2c (x y : UInt8) (t : List UInt8) : m_octet_Get (x :: y :: t) 2 = some (((x.toNat * 256 + y.toNat : Nat) : Int), t, true) := by
  rw [octGet_eq _ _ (by decide) (by decide), if_pos (by simp; omega)]
  simp [num]
theorem octGet4c (x y z u : UInt8) (t : List UInt8) : m_octet_Get (x :: y :: z :: u :: t) 4 = some (((num [x, y, z, u] : Nat) : Int), t, true) := by
  rw [octGet_eq _ _ (by decide) (by decide), if_pos (by simp; omega)]
  simp
theorem num4 (v : Int) (h : 0 ≤ v ∧ v < 4294967296) : ((num (putL v 4) : Nat) : Int) = v := by
  rw [num_putL]
  omega
theorem putL4 (v : Int) : putL v 4 = [octAt v 3, octAt v 2, octAt v 1, octAt v 0] := rfl
theorem putL2 (v : Int) : putL v 2 = [octAt v 1, octAt v 0] := rfl
theorem putL1 (v : Int) : putL v 1 = [octAt v 0] := rfl
theorem octTake_all (l t : List UInt8) (n : Int) (h : n = l.length) : m_octet_Take (l ++ t) n = some (l, t, true) := by
  rw [octTake_eq, if_pos (by rw [List.length_append]; omega), h, Int.toNat_natCast, List.take_left, List.drop_left]
theorem octAt0 (v : Int) (h : 0 ≤ v ∧ v < 256) : ((octAt v 0).toNat : Int) = v := by
  have := num_putL v 1
  rw [putL1] at this
  simp only [num, List.foldl_cons, List.foldl_nil, Nat.zero_mul, Nat.zero_add] at this
  rw [this]
  omega

/-- What is said of an AS. -/
def capA (v : Int) : List UInt8 := [2, 6, 65, 4] ++ putL v 4
def capR (v : Int) : List UInt8 := [2, 3, 9, 1] ++ putL v 1
/-- One parameter with the AS. -/
theorem read_A (k101 : Int × Int × Int × Int → Option (OpenSaid × Note)) (v r : Int) (hv : 0 ≤ v ∧ v < 4294967296) (t : List UInt8) (nx : List UInt8 × Int × Int → Option (OpenSaid × Note)) (bk : Int × Int → Option (OpenSaid × Note)) :
    s_open_read1 k101 (capA v ++ t, -1, r) nx bk = nx (t, v, r) := by
  rw [s_open_read1, capA]
  rw [putL4]
  simp only [List.cons_append, List.nil_append, List.length_cons, octGet1c, bd_some]
  rw [decide_eq_true (by omega), cond_true, show (65 :: 4 :: octAt v 3 :: octAt v 2 :: octAt v 1 :: octAt v 0 :: t : List UInt8) = [65, 4, octAt v 3, octAt v 2, octAt v 1, octAt v 0] ++ t from rfl, octTake_all _ _ _ (by simp), bd_some]
  simp -implicitDefEqProofs only [Bool.not_true, cond_false, jn_eq]
  rw [decide_eq_false (by decide), cond_false, loopC_first]
  rw [s_open_read2]
  simp only [List.length_cons, List.length_nil, octGet1c, bd_some]
  rw [decide_eq_true (by decide), cond_true, show ([octAt v 3, octAt v 2, octAt v 1, octAt v 0] : List UInt8) = [octAt v 3, octAt v 2, octAt v 1, octAt v 0] ++ [] from rfl, octTake_all _ _ _ (by simp), bd_some]
  simp -implicitDefEqProofs only [Bool.not_true, cond_false, jn_eq, List.length_cons, List.length_nil]
  rw [decide_eq_true (by decide), cond_true, decide_eq_false (by decide), cond_false, decide_eq_false (by decide), cond_false, cond_false, cond_true, decide_eq_true (by decide), cond_true, octGet4c, bd_some]
  rw [← putL4, num4 v hv]
  rw [decide_eq_false (by decide), cond_false, loopC_more 1 (by decide), s_open_read2]
  simp only [List.length_nil]
  rw [decide_eq_false (by decide), cond_false]
  rfl
theorem read_R (k101 : Int × Int × Int × Int → Option (OpenSaid × Note)) (v a : Int) (hv : 0 ≤ v ∧ v < 256) (t : List UInt8) (nx : List UInt8 × Int × Int → Option (OpenSaid × Note)) (bk : Int × Int → Option (OpenSaid × Note)) :
    s_open_read1 k101 (capR v ++ t, a, -1) nx bk = nx (t, a, v) := by
  rw [s_open_read1, capR]
  rw [putL1]
  simp only [List.cons_append, List.nil_append, List.length_cons, octGet1c, bd_some]
  rw [decide_eq_true (by omega), cond_true, show (9 :: 1 :: octAt v 0 :: t : List UInt8) = [9, 1, octAt v 0] ++ t from rfl, octTake_all _ _ _ (by simp), bd_some]
  simp -implicitDefEqProofs only [Bool.not_true, cond_false, jn_eq]
  rw [decide_eq_false (by decide), cond_false, loopC_first]
  rw [s_open_read2]
  simp only [List.length_cons, List.length_nil, octGet1c, bd_some]
  rw [decide_eq_true (by decide), cond_true, show ([octAt v 0] : List UInt8) = [octAt v 0] ++ [] from rfl, octTake_all _ _ _ (by simp), bd_some]
  simp -implicitDefEqProofs only [Bool.not_true, cond_false, jn_eq, List.length_cons, List.length_nil]
  rw [decide_eq_false (by decide), cond_false, decide_eq_true (by decide), cond_true, decide_eq_false (by decide), cond_false, cond_false, cond_true, decide_eq_true (by decide), cond_true, show ix [octAt v 0] 0 = some (octAt v 0) by rw [ix_eq]; rfl, bd_some]
  rw [w64 (by omega) (by have := (octAt v 0).toNat_lt; omega), octAt0 v hv, decide_eq_false (by decide), cond_false, loopC_more 1 (by decide), s_open_read2]
  simp only [List.length_nil]
  rw [decide_eq_false (by decide), cond_false]
  rfl
theorem read_eq (v r : Int) (hv : 0 ≤ v ∧ v < 4294967296) (hr : -1 ≤ r ∧ r < 256) : m_open_read (capA v ++ if r = -1 then [] else capR r) = some (⟨v, r⟩, ⟨0, 0, []⟩) := by
  unfold m_open_read
  rw [jn_eq, loopC_first, read_A _ v _ hv, loopC_more 1 (by decide)]
  by_cases h : r = -1
  · rw [if_pos h]
    rw [s_open_read1]
    simp only [List.length_nil]
    rw [decide_eq_false (by decide), cond_false, h]
  · rw [if_neg h, show capR r = capR r ++ [] by simp, read_R _ r _ (by omega), loopC_more 2 (by decide)]
    rw [s_open_read1]
    simp only [List.length_nil]
    rw [decide_eq_false (by decide), cond_false]
end Go.Proofs.YtibploaibljcmaaDoor
namespace Go.Proofs.YtibploaibljcmaaDoor
open Go.RowKit
set_option linter.unusedVariables false
set_option linter.unusedSimpArgs false
set_option maxRecDepth 100000
set_option maxHeartbeats 1000000

theorem bd_bif {α β : Type} (c : Bool) (A B : Option α) (k : α → Option β) : bd (bif c then A else B) k = bif c then bd A k else bd B k := by cases c <;> rfl
theorem bif_dec {α : Type} {p : Prop} [Decidable p] {A B x : α} (h1 : p → A = x) (h2 : ¬p → B = x) : (bif decide p then A else B) = x := by
  by_cases h : p
  · rw [decide_eq_true h]; exact h1 h
  · rw [decide_eq_false h]; exact h2 h
theorem some_dec {p q : Prop} [Decidable p] [Decidable q] (h : p ↔ q) : some (decide p) = some (decide q) := by
  congr 1
  exact decide_eq_decide.2 h
theorem some_fal {q : Prop} [Decidable q] (h : ¬q) : some false = some (decide q) := by rw [decide_eq_false h]
theorem some_tru {q : Prop} [Decidable q] (h : q) : some true = some (decide q) := by rw [decide_eq_true h]

def openOk (h : Hello) : Prop := (1 ≤ h.As ∧ h.As ≤ 4294967295) ∧ (1 ≤ h.Id ∧ h.Id ≤ 4294967295) ∧ (h.Hold = 0 ∨ 3 ≤ h.Hold ∧ h.Hold ≤ 65535) ∧ -1 ≤ h.Role ∧ h.Role ≤ 4
instance (h : Hello) : Decidable (openOk h) := by unfold openOk; infer_instance
theorem openNumber_eq (n : Int) : m_open_number n = some (decide (1 ≤ n ∧ n ≤ 4294967295)) := by
  unfold m_open_number
  refine bif_dec (fun h => some_dec ?_) (fun h => some_fal ?_) <;> omega
theorem openHolds_eq (n : Int) : m_open_holds n = some (decide (n = 0 ∨ 3 ≤ n ∧ n ≤ 65535)) := by
  unfold m_open_holds
  refine bif_dec (fun h => some_tru ?_) (fun h => bif_dec (fun h => some_dec ?_) (fun h => some_fal ?_)) <;> omega
theorem openSane_eq (h : Hello) : m_open_Sane h = some (decide (openOk h)) := by
  unfold m_open_Sane openOk
  rw [openNumber_eq, bd_some]
  refine bif_dec (fun h1 => ?_) (fun h1 => some_fal fun g => h1 g.1)
  rw [openNumber_eq, bd_some]
  refine bif_dec (fun h2 => ?_) (fun h2 => some_fal fun g => h2 g.2.1)
  rw [openHolds_eq, bd_some]
  refine bif_dec (fun h3 => ?_) (fun h3 => some_fal fun g => h3 g.2.2.1)
  refine bif_dec (fun h4 => some_dec ?_) (fun h4 => some_fal fun g => h4 g.2.2.2.1)
  exact ⟨fun g => ⟨h1, h2, h3, h4, g⟩, fun g => g.2.2.2.2⟩

/-- What stands behind the ten octets. -/
def capsOf (h : Hello) : List UInt8 := capA h.As ++ if h.Role = -1 then [] else capR h.Role
def shortOf (a : Int) : Int := if a > 65535 then 23456 else a
theorem openShort_eq (a : Int) : m_open_short a = some (shortOf a) := by
  unfold m_open_short shortOf
  refine bif_dec (fun h => ?_) (fun h => ?_)
  · rw [if_pos h]
  · rw [if_neg h]
theorem capsOf_length (h : Hello) : (capsOf h).length = if h.Role = -1 then 8 else 13 := by
  unfold capsOf capA capR
  rw [List.length_append, List.length_append, putL_length]
  by_cases g : h.Role = -1
  · rw [if_pos g, if_pos g]; rfl
  · rw [if_neg g, if_neg g]
    rw [List.length_append, putL_length]; rfl
def openBody (h : Hello) : List UInt8 :=
  octAt 4 0 :: octAt (shortOf h.As) 1 :: octAt (shortOf h.As) 0 :: octAt h.Hold 1 :: octAt h.Hold 0 :: octAt h.Id 3 :: octAt h.Id 2 :: octAt h.Id 1 :: octAt h.Id 0 :: octAt ((capsOf h).length : Int) 0 :: capsOf h
theorem labelled_eq (k : Int) (b : List UInt8) (h : b.length ≤ 1000) : m_open_labelled k b = some (toB (IntKind.u8.wrap k) :: toB (IntKind.u8.wrap (b.length : Int)) :: b) := by
  unfold m_open_labelled
  rw [ap_some (by simp; omega) (by simp; omega), bd_some]
  rfl
theorem openPut_no (h : Hello) (g : ¬openOk h) : m_open_Put h = some ⟨0, []⟩ := by
  unfold m_open_Put
  rw [openSane_eq, bd_some, decide_eq_false g]
  rfl
theorem put_caps (h : Hello) (k : List UInt8 → Option Msg) :
    (bd (m_octet_Put ([] : List UInt8) h.As (4 : Int)) fun r2 =>
    bd (m_open_labelled (65 : Int) r2) fun r3 =>
    bd (m_open_labelled (2 : Int) r3) fun r4 =>
    jn 1 (fun (k1 : ((List UInt8)) → Option Msg) =>
      bif decide (¬ h.Role = (-1 : Int)) then
        bd (m_octet_Put ([] : List UInt8) h.Role (1 : Int)) fun r5 =>
        bd (m_open_labelled (9 : Int) r5) fun r6 =>
        bd (m_open_labelled (2 : Int) r6) fun r7 =>
        bd (ap 1 r4 r7) fun y8 =>
        k1 y8
      else
        k1 r4) k) = k (capsOf h) := by
  rw [octPut_eq _ _ _ (by decide) (by decide) (by simp), bd_some, List.nil_append, labelled_eq _ _ (by rw [putL_length]; decide), bd_some, labelled_eq _ _ (by simp [putL_length]), bd_some, jn_eq]
  unfold capsOf capA capR
  refine bif_dec (fun g => ?_) (fun g => ?_)
  · rw [octPut_eq _ _ _ (by decide) (by decide) (by simp), bd_some, List.nil_append, labelled_eq _ _ (by rw [putL_length]; decide), bd_some, labelled_eq _ _ (by simp [putL_length]), bd_some]
    rw [ap_some (by simp [putL_length]) (by simp [putL_length]), bd_some, if_neg g]
    rfl
  · rw [if_pos (by omega), List.append_nil]
    rfl
theorem openPut_eq (h : Hello) (g : openOk h) : m_open_Put h = some ⟨1, openBody h⟩ := by
  have hl := capsOf_length h
  have hl' : (capsOf h).length ≤ 13 := by
    rw [hl]
    split <;> decide
  unfold m_open_Put
  rw [openSane_eq, bd_some, decide_eq_true g]
  rw [Bool.not_true, cond_false, put_caps h]
  rw [octPut_eq _ _ _ (by decide) (by decide) (by simp), bd_some, openShort_eq, bd_some]
  rw [octPut_eq _ _ _ (by decide) (by decide) (by simp [putL_length]), bd_some]
  rw [octPut_eq _ _ _ (by decide) (by decide) (by simp [putL_length]), bd_some]
  rw [octPut_eq _ _ _ (by decide) (by decide) (by simp [putL_length]), bd_some]
  rw [octPut_eq _ _ _ (by decide) (by decide) (by simp [putL_length]), bd_some]
  rw [ap_some (by simp [putL_length]; omega) (by simp [putL_length]; omega), bd_some]
  rfl
theorem msgLeast1 : m_msg_Least 1 = some 29 := rfl
theorem msgWrong1 (n : Int) (h : 29 ≤ n) : m_msg_wrong 1 n = some false := by
  unfold m_msg_wrong
  rw [msgLeast1, bd_some, decide_eq_false (by omega), cond_false]
  rfl
theorem msgSane1 (b : List UInt8) (h : 10 ≤ b.length ∧ b.length ≤ 4077) : m_msg_Sane ⟨1, b⟩ = some true := by
  unfold m_msg_Sane
  dsimp only
  rw [w64 (x := (19 : Int) + b.length) (by omega) (by omega)]
  rw [msgLeast1, bd_some, decide_eq_true (by decide), cond_true, msgWrong1 _ (by omega), bd_some, Bool.not_false, cond_true, decide_eq_true (by omega)]

/-- A message of ten octets and what is said behind them. -/
def ten (v s1 s0 h1 h0 i3 i2 i1 i0 n : UInt8) (p : List UInt8) : List UInt8 := v :: s1 :: s0 :: h1 :: h0 :: i3 :: i2 :: i1 :: i0 :: n :: p
theorem openGet_v (v s1 s0 h1 h0 i3 i2 i1 i0 n : UInt8) (p : List UInt8) (as : Int) (hl : p.length ≤ 4000) (hv : ¬ (v.toNat : Int) = 4) :
    m_open_Get ⟨1, ten v s1 s0 h1 h0 i3 i2 i1 i0 n p⟩ as = some (⟨0, 0, 0, 0⟩, ⟨2, 1, [0, 4]⟩) := by
  unfold m_open_Get
  rw [msgSane1 _ (by simp [ten]; omega)]
  dsimp only
  rw [decide_eq_false (by decide), cond_false, bd_some, Bool.not_true, cond_false]
  unfold ten
  rw [octGet1c, bd_some]
  dsimp only
  rw [octGet2c, bd_some]
  dsimp only
  rw [octGet2c, bd_some]
  dsimp only
  rw [octGet4c, bd_some]
  dsimp only
  rw [octGet1c, bd_some]
  dsimp only
  rw [decide_eq_true hv, cond_true, octPut_eq _ _ _ (by decide) (by decide) (by simp), bd_some]
  rfl
theorem openGet_read (s1 s0 h1 h0 i3 i2 i1 i0 n : UInt8) (p : List UInt8) (as : Int) (hl : p.length ≤ 4000) (hn : (n.toNat : Int) = p.length) (x : OpenSaid) (hr : m_open_read p = some (x, ⟨0, 0, []⟩)) (c : Note)
    (hf : m_open_fault x as ((s1.toNat * 256 + s0.toNat : Nat) : Int) ((h1.toNat * 256 + h0.toNat : Nat) : Int) ((num [i3, i2, i1, i0] : Nat) : Int) = some c) (hc : ¬ c.Code = 0) :
    m_open_Get ⟨1, ten 4 s1 s0 h1 h0 i3 i2 i1 i0 n p⟩ as = some (⟨0, 0, 0, 0⟩, c) := by
  unfold m_open_Get
  rw [msgSane1 _ (by simp [ten]; omega)]
  dsimp only
  rw [decide_eq_false (by decide), cond_false, bd_some, Bool.not_true, cond_false]
  unfold ten
  rw [octGet1c, bd_some]
  dsimp only
  rw [octGet2c, bd_some]
  dsimp only
  rw [octGet2c, bd_some]
  dsimp only
  rw [octGet4c, bd_some]
  dsimp only
  rw [octGet1c, bd_some]
  dsimp only
  rw [decide_eq_false (by decide), cond_false, decide_eq_false (by omega), cond_false, hr, bd_some, jn_eq]
  dsimp only
  rw [decide_eq_true rfl, cond_true, hf, bd_some, decide_eq_true hc, cond_true]
theorem fault_hold (x : OpenSaid) (hx : 1 ≤ x.as_) (hold id : Int) (hh : ¬ (hold = 0 ∨ 3 ≤ hold ∧ hold ≤ 65535)) : m_open_fault x x.as_ (shortOf x.as_) hold id = some ⟨2, 6, []⟩ := by
  unfold m_open_fault
  rw [decide_eq_false (by omega), cond_false, decide_eq_false (by omega), cond_false, decide_eq_false (by omega), cond_false, openShort_eq, bd_some, decide_eq_false (by omega), cond_false, openHolds_eq, bd_some, decide_eq_false hh]
  rfl
theorem fault_id (x : OpenSaid) (hx : 1 ≤ x.as_) (hold : Int) (hh : hold = 0 ∨ 3 ≤ hold ∧ hold ≤ 65535) : m_open_fault x x.as_ (shortOf x.as_) hold 0 = some ⟨2, 3, []⟩ := by
  unfold m_open_fault
  rw [decide_eq_false (by omega), cond_false, decide_eq_false (by omega), cond_false, decide_eq_false (by omega), cond_false, openShort_eq, bd_some, decide_eq_false (by omega), cond_false, openHolds_eq, bd_some, decide_eq_true hh]
  rfl
theorem openGet_ok (s1 s0 h1 h0 i3 i2 i1 i0 n : UInt8) (p : List UInt8) (as : Int) (hl : p.length ≤ 4000) (hn : (n.toNat : Int) = p.length) (x : OpenSaid) (hr : m_open_read p = some (x, ⟨0, 0, []⟩)) (c : Note)
    (hf : m_open_fault x as ((s1.toNat * 256 + s0.toNat : Nat) : Int) ((h1.toNat * 256 + h0.toNat : Nat) : Int) ((num [i3, i2, i1, i0] : Nat) : Int) = some c) (hc : c.Code = 0) :
    m_open_Get ⟨1, ten 4 s1 s0 h1 h0 i3 i2 i1 i0 n p⟩ as = some (⟨x.as_, ((h1.toNat * 256 + h0.toNat : Nat) : Int), ((num [i3, i2, i1, i0] : Nat) : Int), x.role⟩, ⟨0, 0, []⟩) := by
  unfold m_open_Get
  rw [msgSane1 _ (by simp [ten]; omega)]
  dsimp only
  rw [decide_eq_false (by decide), cond_false, bd_some, Bool.not_true, cond_false]
  unfold ten
  rw [octGet1c, bd_some]
  dsimp only
  rw [octGet2c, bd_some]
  dsimp only
  rw [octGet2c, bd_some]
  dsimp only
  rw [octGet4c, bd_some]
  dsimp only
  rw [octGet1c, bd_some]
  dsimp only
  rw [decide_eq_false (by decide), cond_false, decide_eq_false (by omega), cond_false, hr, bd_some, jn_eq]
  dsimp only
  rw [decide_eq_true rfl, cond_true, hf, bd_some, decide_eq_false (by omega), cond_false]
theorem fault_no (x : OpenSaid) (hx : 1 ≤ x.as_) (hold id : Int) (hh : hold = 0 ∨ 3 ≤ hold ∧ hold ≤ 65535) (hi : ¬ id = 0) : m_open_fault x x.as_ (shortOf x.as_) hold id = some ⟨0, 0, []⟩ := by
  unfold m_open_fault
  rw [decide_eq_false (by omega), cond_false, decide_eq_false (by omega), cond_false, decide_eq_false (by omega), cond_false, openShort_eq, bd_some, decide_eq_false (by omega), cond_false, openHolds_eq, bd_some, decide_eq_true hh, Bool.not_true, cond_false, decide_eq_false hi]
  rfl
theorem octAt2 (v : Int) (h : 0 ≤ v ∧ v < 65536) : (((octAt v 1).toNat * 256 + (octAt v 0).toNat : Nat) : Int) = v := by
  have := num_putL v 2
  rw [putL2] at this
  simp only [num, List.foldl_cons, List.foldl_nil, Nat.zero_mul, Nat.zero_add] at this
  rw [this]
  omega
theorem shortOf_lt (v : Int) (h : 0 ≤ v) : 0 ≤ shortOf v ∧ shortOf v < 65536 := by
  unfold shortOf
  split <;> omega
end Go.Proofs.YtibploaibljcmaaDoor
namespace Go.Proofs.YtibploaibljcmaaDoor
open Go.RowKit
set_option linter.unusedVariables false
set_option linter.unusedSimpArgs false
set_option maxRecDepth 100000
set_option maxHeartbeats 1000000

theorem t_mask (a n : Int) : Ok (m_prefix_Mask a n) fun _ => True := by
  unfold m_prefix_Mask
  have h : 0 ≤ IntKind.i64.wrap ((32 : Int) - (if (32 : Int) < (if (0 : Int) > n then (0 : Int) else n) then (32 : Int) else (if (0 : Int) > n then (0 : Int) else n))) := by
    rw [w64] <;> (split <;> split <;> omega)
  rw [nn_some h, nn_some h]
  exact ok_some trivial
theorem t_prefix (x : Prefix) : Ok (m_prefix_Sane x) fun _ => True := by
  unfold m_prefix_Sane
  refine ok_if (fun _ => ok_if (fun _ => ok_bd (t_mask _ _) fun _ _ _ => ok_some trivial) fun _ => ok_some trivial) fun _ => ok_some trivial
theorem t_number (n : Int) : Ok (m_conf_saneNumber n) fun b => b = true → 1 ≤ n ∧ n ≤ 4294967295 := by
  unfold m_conf_saneNumber
  exact ok_if (fun h => ok_some fun k => ⟨h, of_decide_eq_true k⟩) fun _ => ok_some fun k => Bool.noConfusion k
def HoldOk (n : Int) : Prop := n = 0 ∨ 3 ≤ n ∧ n ≤ 65535
theorem t_hold (n : Int) : Ok (m_conf_saneHold n) fun b => b = true → HoldOk n := by
  unfold m_conf_saneHold
  exact ok_if (fun h => ok_some fun _ => .inl h) fun _ => ok_if (fun h => ok_some fun k => .inr ⟨h, of_decide_eq_true k⟩) fun _ => ok_some fun k => Bool.noConfusion k
theorem t_cap (n : Int) : Ok (m_conf_saneCap n) fun _ => True := by
  unfold m_conf_saneCap
  exact ok_if (fun h => ok_some trivial) fun _ => ok_some trivial
/-- A rule that may be. -/
def RuleOk (b : Bool) (x : Rule) : Prop :=
  (b = true → (x.Act = 0 ∧ x.N = 0) ∨ (x.Act = 2 ∧ 1 ≤ x.N ∧ x.N < 400)) ∧ (b = false → x.Act = 0 ∨ x.Act = 1 ∨ (x.Act = 3 ∧ 1 ≤ x.N ∧ x.N ≤ 8))
theorem t_match (x : Rule) (b : Bool) : Ok (m_policy_saneMatch x b) fun _ => True := by
  unfold m_policy_saneMatch
  repeat' first | exact ok_some trivial | refine ok_if (fun _ => ?_) (fun _ => ?_) | refine ok_ifb (fun _ => ?_) (fun _ => ?_) | refine ok_bd (t_prefix _) fun _ _ _ => ?_
theorem t_act (x : Rule) (b : Bool) : Ok (m_policy_saneAct x b) fun r => r = true → RuleOk b x := by
  unfold m_policy_saneAct RuleOk
  cases b
  all_goals
    simp only [Bool.not_true, Bool.not_false, cond_true, cond_false]
    repeat' first | (refine ok_if (fun _ => ?_) (fun _ => ?_)) | refine ok_some fun k => ?_
    all_goals first | (cases k; done) | (simp only [decide_eq_true_eq] at k; refine ⟨fun h => ?_, fun h => ?_⟩ <;> first | (cases h; done) | omega)
theorem t_rule (x : Rule) (b : Bool) : Ok (m_policy_Sane x b) fun r => r = true → RuleOk b x := by
  unfold m_policy_Sane
  exact ok_bd (t_match _ _) fun _ _ _ => ok_ifb (fun _ => ok_bd (t_act _ _) fun _ _ h => ok_some h) fun _ => ok_some fun k => Bool.noConfusion k
theorem t_rules (l : List Rule) (b : Bool) (hl : l.length ≤ 9223372036854775807) : Ok (m_conf_saneRules l b) fun r => r = true → ∀ x ∈ l, RuleOk b x := by
  unfold m_conf_saneRules
  refine ok_if (fun _ => ok_some fun k => Bool.noConfusion k) fun _ => ok_idx l.length (fun j => ∀ i (h : i < l.length), i < j → RuleOk b l[i]) hl (fun _ _ h => absurd h (Nat.not_lt_zero _)) (fun i hi hI nx hnx => ?_) (fun hI nx => ?_)
  · rw [s_conf_saneRules1]
    refine ok_if (fun _ => ok_ix (by omega) (by omega) fun hlt => ok_bd (t_rule _ _) fun r _ hr => ok_ifnb (fun _ => ok_some fun k => Bool.noConfusion k) fun h => hnx fun j hj hji => ?_) fun h => absurd (Int.ofNat_lt.2 hi) h
    simp only [Int.toNat_natCast] at hr
    rcases Nat.lt_succ_iff_lt_or_eq.1 hji with g | rfl
    · exact hI j hj g
    · exact hr h
  · rw [s_conf_saneRules1]
    refine ok_if (fun h => by omega) fun _ => ok_some fun _ x hx => ?_
    obtain ⟨i, hi, rfl⟩ := List.getElem_of_mem hx
    exact hI i hi hi
theorem t_containsP (l : List Prefix) (x : Prefix) (hl : l.length ≤ 9223372036854775807) : Ok (m_slices_Contains___api_Prefix_api_Prefix l x) fun _ => True := by
  unfold m_slices_Contains___api_Prefix_api_Prefix m_slices_Index___api_Prefix_api_Prefix
  refine ok_bd (P := fun _ => True) (ok_idx l.length (fun _ => True) hl trivial (fun i hi _ nx hnx => ?_) (fun _ nx => ?_)) fun _ _ _ => ok_some trivial
  · rw [s_slices_Index___api_Prefix_api_Prefix1]
    exact ok_if (fun _ => ok_ix (by omega) (by omega) fun hlt => ok_ifb (fun _ => ok_some trivial) fun _ => hnx trivial) fun h => absurd (Int.ofNat_lt.2 hi) h
  · rw [s_slices_Index___api_Prefix_api_Prefix1]
    exact ok_if (fun h => by omega) fun _ => ok_some trivial
theorem t_own (l : List Prefix) (hl : l.length ≤ 9223372036854775807) : Ok (m_conf_saneOwn l) fun _ => True := by
  unfold m_conf_saneOwn
  refine ok_if (fun _ => ok_some trivial) fun _ => ok_idx l.length (fun _ => True) hl trivial (fun i hi _ nx hnx => ?_) (fun _ nx => ?_)
  · rw [s_conf_saneOwn1]
    refine ok_if (fun _ => ok_ix (by omega) (by omega) fun hlt => ok_bd (t_prefix _) fun _ _ _ => ok_ifnb (fun _ => ok_some trivial) fun _ => ok_bde (sl_pre (by omega)) (ok_bd (t_containsP _ _ (by rw [List.length_take]; omega)) fun _ _ _ => ok_ifb (fun _ => ok_some trivial) fun _ => hnx trivial)) fun h => absurd (Int.ofNat_lt.2 hi) h
  · rw [s_conf_saneOwn1]
    exact ok_if (fun h => by omega) fun _ => ok_some trivial
theorem t_taken (a : Int) (l : List Side) (n : Int) (hl : l.length ≤ 9223372036854775807) : Ok (m_conf_taken a l n) fun _ => True := by
  unfold m_conf_taken
  refine ok_if (fun _ => ok_some trivial) fun _ => ok_jn (fun _ => True) (fun k' hk => ok_idx l.length (fun _ => True) hl trivial (fun i hi _ nx hnx => ?_) (fun _ nx => ?_)) fun _ _ => ok_some trivial
  · rw [s_conf_taken1]
    exact ok_if (fun _ => ok_ix (by omega) (by omega) fun hlt => ok_if (fun _ => hk _ trivial) fun _ => hnx trivial) fun h => absurd (Int.ofNat_lt.2 hi) h
  · rw [s_conf_taken1]
    exact ok_if (fun h => by omega) fun _ => hk _ trivial
/-- Lists that are few. -/
structure FewC (c : Conf) : Prop where
  own : c.Own.length ≤ 1000
  sides : c.Sides.length ≤ 1000
  ins : ∀ s ∈ c.Sides, s.In.length ≤ 1000
  outs : ∀ s ∈ c.Sides, s.Out.length ≤ 1000
/-- A side that may be. -/
def SideOk (s : Side) : Prop := (1 ≤ s.As ∧ s.As ≤ 4294967295) ∧ (1 ≤ s.Rel ∧ s.Rel ≤ 3) ∧ (∀ x ∈ s.In, RuleOk true x) ∧ ∀ x ∈ s.Out, RuleOk false x
/-- A configuration that may be. -/
def ConfOk (c : Conf) : Prop := (1 ≤ c.As ∧ c.As ≤ 4294967295) ∧ (1 ≤ c.Id ∧ c.Id ≤ 4294967295) ∧ HoldOk c.Hold ∧ c.Sides.length ≤ 8 ∧ ∀ i (h : i < c.Sides.length), SideOk c.Sides[i]
theorem t_sides (c : Conf) (f : FewC c) : Ok (m_conf_saneSides c) fun b => b = true → c.Sides.length ≤ 8 ∧ ∀ i (h : i < c.Sides.length), SideOk c.Sides[i] := by
  have hs := f.sides
  unfold m_conf_saneSides
  refine ok_if (fun _ => ok_some fun k => Bool.noConfusion k) fun h8 => ok_idx c.Sides.length (fun j => ∀ i (h : i < c.Sides.length), i < j → SideOk c.Sides[i]) (by omega) (fun _ _ h => absurd h (Nat.not_lt_zero _)) (fun i hi hI nx hnx => ?_) (fun hI nx => ?_)
  · have hi1 := f.ins _ (List.getElem_mem hi)
    have ho1 := f.outs _ (List.getElem_mem hi)
    rw [s_conf_saneSides1]
    refine ok_if (fun _ => ok_ix (by omega) (by omega) fun hlt => ?_) fun h => absurd (Int.ofNat_lt.2 hi) h
    simp only [Int.toNat_natCast]
    refine ok_bd (t_number _) fun r1 _ h1 => ok_ifnb (fun _ => ok_some fun k => Bool.noConfusion k) fun q1 => ok_bde (sl_pre (by omega)) (ok_bd (t_taken _ _ _ (by rw [List.length_take]; omega)) fun _ _ _ => ok_ifb (fun _ => ok_some fun k => Bool.noConfusion k) fun _ =>
      ok_if (fun _ => ok_some fun k => Bool.noConfusion k) fun q2 => ok_if (fun _ => ok_some fun k => Bool.noConfusion k) fun q3 => ok_bd (t_rules _ _ (by omega)) fun r4 _ h4 => ok_ifnb (fun _ => ok_some fun k => Bool.noConfusion k) fun q4 =>
      ok_bd (t_rules _ _ (by omega)) fun r5 _ h5 => ok_ifnb (fun _ => ok_some fun k => Bool.noConfusion k) fun q5 => hnx fun j hj hji => ?_)
    rcases Nat.lt_succ_iff_lt_or_eq.1 hji with g | rfl
    · exact hI j hj g
    · exact ⟨h1 q1, ⟨by omega, by omega⟩, h4 q4, h5 q5⟩
  · rw [s_conf_saneSides1]
    exact ok_if (fun h => by omega) fun _ => ok_some fun _ => ⟨by omega, fun i h => hI i h h⟩
theorem t_sane (c : Conf) (f : FewC c) : Ok (m_conf_Sane c) fun b => b = true → ConfOk c := by
  unfold m_conf_Sane
  have := f.own
  exact ok_bd (t_number _) fun r1 _ h1 => ok_ifb (fun q1 => ok_bd (t_number _) fun r2 _ h2 => ok_ifb (fun q2 => ok_bd (t_hold _) fun r3 _ h3 => ok_ifb (fun q3 => ok_bd (t_cap _) fun _ _ _ => ok_ifb (fun _ => ok_bd (t_own _ (by omega)) fun _ _ _ => ok_ifb (fun _ =>
    ok_bd (t_sides c f) fun r6 _ h6 => ok_some fun q6 => ⟨h1 q1, h2 q2, h3 q3, h6 q6⟩) fun _ => ok_some fun k => Bool.noConfusion k) fun _ => ok_some fun k => Bool.noConfusion k) fun _ => ok_some fun k => Bool.noConfusion k) fun _ => ok_some fun k => Bool.noConfusion k) fun _ => ok_some fun k => Bool.noConfusion k
end Go.Proofs.YtibploaibljcmaaDoor
namespace Go.Proofs.YtibploaibljcmaaDoor
open Go.RowKit
set_option linter.unusedVariables false
set_option linter.unusedSimpArgs false
set_option maxRecDepth 100000
set_option maxHeartbeats 1000000

theorem ok_out' {R : Type} {m : Option R} {r : R} (h : Ok m (· = r)) : m = some r := by
  obtain ⟨x, h1, h2⟩ := h
  rw [h1, h2]
theorem law17_awake : m_ridgewaylaw17_awake = some true := by kernel_rfl
def zS : Sess := ⟨0, 0, 0, 0⟩
/-- A session that may be. -/
def SessOk (s : Sess) : Prop :=
  (s.State = 0 ∧ s.Hold = 0 ∧ s.Left = 0 ∧ s.Keep = 0) ∨ (s.State = 1 ∧ s.Hold = 0 ∧ s.Keep = 0 ∧ 1 ≤ s.Left ∧ s.Left ≤ 240) ∨
  ((s.State = 2 ∨ s.State = 3) ∧ s.Hold = 0 ∧ s.Left = 0 ∧ s.Keep = 0) ∨
  ((s.State = 2 ∨ s.State = 3) ∧ (3 ≤ s.Hold ∧ s.Hold ≤ 65535) ∧ (1 ≤ s.Left ∧ s.Left ≤ s.Hold) ∧ 1 ≤ s.Keep ∧ s.Keep ≤ s.Hold / 3)
instance (s : Sess) : Decidable (SessOk s) := by unfold SessOk; infer_instance
theorem third_eq (n : Int) (h : 0 ≤ n ∧ n ≤ 65535) : m_session_third n = some (n / 3) := by
  unfold m_session_third
  rw [Int.tdiv_eq_ediv_of_nonneg h.1, w64 (by omega) (by omega)]
theorem sessSane_eq (s : Sess) : m_session_Sane s = some (decide (SessOk s)) := by
  refine ok_out' ?_
  unfold m_session_Sane
  have no : ¬ SessOk s → Ok (some false) (· = decide (SessOk s)) := fun h => ok_some (decide_eq_false h).symm
  refine ok_if (fun h0 => ok_some ?_) fun h0 => ok_if (fun h1 => ?_) fun h1 => ?_
  · rw [Bool.eq_iff_iff]
    simp only [Bool.and_eq_true, decide_eq_true_eq]
    unfold SessOk
    omega
  · refine ok_if (fun h2 => ok_if (fun h3 => ok_if (fun h4 => ok_some (decide_eq_decide.2 ?_)) fun h4 => no ?_) fun h3 => no ?_) fun h2 => no ?_ <;> unfold SessOk <;> omega
  · refine ok_jn (fun j => j = decide (s.State = 2 ∨ s.State = 3)) (fun k hk => ok_if (fun h2 => hk _ (decide_eq_true (.inl h2)).symm) fun h2 => hk _ (decide_eq_decide.2 (by omega))) fun j hj => ?_
    subst hj
    refine ok_if (fun h2 => ok_if (fun h3 => ok_if (fun h4 => ok_some (decide_eq_decide.2 ?_)) fun h4 => no ?_) fun h3 => ok_if (fun h4 => ok_if (fun h5 => ok_if (fun h6 => ok_if (fun h7 => ok_if (fun h8 => ok_bde (third_eq _ ⟨by omega, by omega⟩) (ok_some (decide_eq_decide.2 ?_))) fun h8 => no ?_) fun h7 => no ?_) fun h6 => no ?_) fun h5 => no ?_) fun h4 => no ?_) fun h2 => no ?_ <;> unfold SessOk <;> omega
def saneR (s : Sess) : Sess := if SessOk s then s else zS
theorem sane_eq (s : Sess) : m_session_sane s = some (saneR s) := by
  refine ok_out' ?_
  unfold m_session_sane
  refine ok_bde (sessSane_eq s) (ok_ifn (fun h => ok_some ?_) fun h => ok_some ?_)
  · unfold saneR; rw [if_neg h]; rfl
  · unfold saneR; rw [if_pos h]
theorem zOk : SessOk zS := .inl ⟨rfl, rfl, rfl, rfl⟩
theorem saneR_ok (s : Sess) : SessOk (saneR s) := by
  unfold saneR
  split
  · assumption
  · exact zOk
theorem saneR_id {s : Sess} (h : SessOk s) : saneR s = s := if_pos h
theorem state0 {s : Sess} (h : SessOk s) (h0 : s.State = 0) : s = zS := by
  obtain ⟨a, b, c, d⟩ := s
  unfold SessOk at h
  dsimp only at h h0
  have : b = 0 ∧ c = 0 ∧ d = 0 := by omega
  obtain ⟨rfl, rfl, rfl⟩ := this
  subst h0
  rfl
/-- A message that may be. -/
def MsgOk (m : Msg) : Prop := ((m.Typ = 1 ∧ 10 ≤ m.Body.length) ∨ (m.Typ = 2 ∧ 4 ≤ m.Body.length) ∨ (m.Typ = 3 ∧ 2 ≤ m.Body.length) ∨ (m.Typ = 4 ∧ m.Body.length = 0)) ∧ m.Body.length ≤ 4077
instance (m : Msg) : Decidable (MsgOk m) := by unfold MsgOk; infer_instance
theorem msgSane_eq (m : Msg) (hl : m.Body.length ≤ 100000) : m_msg_Sane m = some (decide (MsgOk m)) := by
  refine ok_out' ?_
  unfold m_msg_Sane
  rw [w64 (x := (19 : Int) + (m.Body.length : Int)) (by omega) (by omega)]
  have hL : m_msg_Least m.Typ = some (if m.Typ = 1 then 29 else if m.Typ = 2 then 23 else if m.Typ = 3 then 21 else if m.Typ = 4 then 19 else 0) := by
    refine ok_out' ?_
    unfold m_msg_Least
    refine ok_if (fun h => ok_some ?_) fun h => ok_if (fun h => ok_some ?_) fun h => ok_if (fun h => ok_some ?_) fun h => ok_if (fun h => ok_some ?_) fun h => ok_some ?_ <;> simp only [*, if_true, if_false] <;> first | rfl | decide
  have no : ¬ MsgOk m → Ok (some false) (· = decide (MsgOk m)) := fun h => ok_some (decide_eq_false h).symm
  refine ok_bde hL (ok_if (fun h0 => ?_) fun h0 => no ?_)
  · have hW : m_msg_wrong m.Typ (19 + (m.Body.length : Int)) = some (decide (19 + (m.Body.length : Int) < (if m.Typ = 1 then 29 else if m.Typ = 2 then 23 else if m.Typ = 3 then 21 else if m.Typ = 4 then 19 else 0) ∨ (m.Typ = 4 ∧ ¬ m.Body.length = 0))) := by
      refine ok_out' ?_
      unfold m_msg_wrong
      refine ok_bde hL (ok_if (fun h => ok_some ?_) fun h => ok_if (fun h4 => ok_some (decide_eq_decide.2 ?_)) fun h4 => ok_some ?_)
      · exact (decide_eq_true (.inl h)).symm
      · omega
      · exact (decide_eq_false (by omega)).symm
    refine ok_bde hW (ok_ifn (fun h1 => ok_some (decide_eq_decide.2 ?_)) fun h1 => no ?_)
    · unfold MsgOk
      repeat' split at h1
      all_goals omega
    · unfold MsgOk
      repeat' split at h1
      all_goals omega
  · unfold MsgOk
    repeat' split at h0
    all_goals omega
/-- A note that may be, and its message. -/
def NoteOk (n : Note) : Prop := (1 ≤ n.Code ∧ n.Code ≤ 255) ∧ (0 ≤ n.Sub ∧ n.Sub ≤ 255) ∧ n.Data.length ≤ 4075
instance (n : Note) : Decidable (NoteOk n) := by unfold NoteOk; infer_instance
theorem noteSane_eq (n : Note) : m_note_Sane n = some (decide (NoteOk n)) := by
  refine ok_out' ?_
  unfold m_note_Sane
  have no : ¬ NoteOk n → Ok (some false) (· = decide (NoteOk n)) := fun h => ok_some (decide_eq_false h).symm
  refine ok_if (fun h1 => ok_if (fun h2 => ok_if (fun h3 => ok_if (fun h4 => ok_some (decide_eq_decide.2 ?_)) fun h => no ?_) fun h => no ?_) fun h => no ?_) fun h => no ?_ <;> unfold NoteOk <;> omega
def noteM (n : Note) : Msg := ⟨3, [toB (IntKind.u8.wrap n.Code), toB (IntKind.u8.wrap n.Sub)] ++ n.Data⟩
theorem notePut_eq {n : Note} (h : NoteOk n) : m_note_Put n = some (noteM n) := by
  refine ok_out' ?_
  have hl := h.2.2
  unfold m_note_Put
  exact ok_bde (noteSane_eq n) (ok_ifn (fun k => absurd h k) fun _ => ok_ap (by simp only [List.length_cons, List.length_nil]; omega) (by simp only [List.length_cons, List.length_nil]; omega) (ok_some rfl))
theorem noteM_ok {n : Note} (h : NoteOk n) : MsgOk (noteM n) := by
  have := h.2.2
  refine ⟨.inr (.inr (.inl ⟨rfl, ?_⟩)), ?_⟩ <;> unfold noteM <;> simp only [List.length_append, List.length_cons, List.length_nil] <;> omega
/-- What is told where a session ends. -/
def endL (s : Sess) (n : Note) : List Msg := if SessOk s ∧ ¬ s.State = 0 ∧ NoteOk n then [noteM n] else []
theorem stop_eq (s : Sess) (n : Note) : m_session_Stop s n = some (zS, endL s n) := by
  refine ok_out' ?_
  unfold m_session_Stop endL
  refine ok_bde (sane_eq s) (ok_if (fun h => ok_some ?_) fun h => ok_bde (noteSane_eq n) (ok_ifn (fun k => ok_some ?_) fun k => ok_bde (notePut_eq k) (ok_some ?_)))
  · rw [if_neg]; · rfl
    rintro ⟨h1, h2, _⟩
    rw [saneR_id h1] at h
    exact h2 h
  · rw [if_neg]; · rfl
    exact fun q => k q.2.2
  · rw [if_pos]; · rfl
    by_cases g : SessOk s
    · rw [saneR_id g] at h; exact ⟨g, h, k⟩
    · exact absurd (by unfold saneR; rw [if_neg g]; rfl) h
def alive1 : Msg := ⟨4, []⟩
end Go.Proofs.YtibploaibljcmaaDoor
namespace Go.Proofs.YtibploaibljcmaaDoor
open Go.RowKit
set_option linter.unusedVariables false
set_option linter.unusedSimpArgs false
set_option maxRecDepth 100000
set_option maxHeartbeats 1000000

theorem t_g (l : List UInt8) (a : Int) (h1 : 1 ≤ a) (h4 : a ≤ 4) : Ok (m_octet_Get l a) fun r => r.2.1.length ≤ l.length ∧ (0 < l.length → r.2.1.length < l.length) := by
  rw [octGet_eq l a h1 h4]
  refine ok_some ?_
  split
  · simp only [List.length_drop]; omega
  · simp
theorem t_t (l : List UInt8) (n : Int) : Ok (m_octet_Take l n) fun r => r.2.1.length ≤ l.length ∧ r.1.length ≤ l.length := by
  rw [octTake_eq]
  refine ok_some ?_
  split
  · simp only [List.length_drop, List.length_take]; omega
  · simp
/-- A note that nothing is wrong, or one of code 2. -/
def RN (c s : Int) : Prop := (c = 0 ∨ c = 2) ∧ 0 ≤ s ∧ s ≤ 255
theorem rn00 : RN 0 0 := ⟨.inl rfl, by decide, by decide⟩
theorem rn20 : RN 2 0 := ⟨.inr rfl, by decide, by decide⟩
theorem ok_ine {R : Type} {Q : R → Prop} {p : Prop} {_ : Decidable p} {A B : Option R} (h1 : ¬ p → Ok A Q) (h2 : p → Ok B Q) : Ok (bif decide (¬ p) then A else B) Q := ok_if h1 fun h => h2 (Decidable.not_not.1 h)
theorem t_readIn {Q : OpenSaid × Note → Prop} (k : (Int × Int × Int × Int) → Option (OpenSaid × Note)) (hk : ∀ j, RN j.1 j.2.1 → Ok (k j) Q) (bk : Int × Int → Option (OpenSaid × Note)) (hbk : ∀ e, Ok (bk e) Q) (l : List UInt8) (a b : Int) (hl : l.length ≤ 10000) :
    Ok (loopC (s_open_read2 k) bk BIG (l, a, b)) Q := by
  refine ok_loop (fun st => st.1.length ≤ 10000) (fun st => st.1.length) hl (by dsimp only; omega) ?_
  rintro ⟨l, a, b⟩ hl nx hnx
  dsimp only at hl hnx
  rw [s_open_read2]
  dsimp only
  refine ok_if (fun h0 => ok_bd (t_g _ 1 (by decide) (by decide)) fun r4 _ h4 => ok_bd (t_g _ 1 (by decide) (by decide)) fun r5 _ h5 => ok_bd (t_t _ _) fun r6 _ h6 => ok_ifnb (fun _ => hk _ rn20) fun _ => ok_ifnb (fun _ => hk _ rn20) fun _ => ok_jn (fun i => RN i.1 i.2.1) (fun k109 hk9 => ?_) fun i hi => ok_ine (fun q => hk _ hi) fun q => hnx _ (by dsimp only; omega) (by dsimp only; omega)) fun _ => hbk _
  have z : ∀ x y : Int, Ok (k109 (0, 0, x, y)) Q := fun x y => hk9 _ rn00
  have two : ∀ s x y : Int, 0 ≤ s ∧ s ≤ 255 → Ok (k109 (2, s, x, y)) Q := fun s x y h => hk9 _ ⟨.inr rfl, h.1, h.2⟩
  refine ok_jn (fun j => j = false → r4.1 = 9 → r6.1.length = 1) (fun k1 hk1 => ?_) fun j hj => ok_ifb (fun _ => two _ _ _ (by decide)) fun hjf => ?_
  · refine ok_if (fun q => ok_if (fun q2 => hk1 _ fun h => Bool.noConfusion h) fun q2 => ok_if (fun q3 => hk1 _ fun h _ => ?_) fun q3 => hk1 _ fun _ h => absurd h q3) fun q => ok_if (fun q3 => hk1 _ fun h _ => ?_) fun q3 => hk1 _ fun _ h => absurd h q3 <;> (have := of_decide_eq_false h; omega)
  · have one : r4.1 = 9 → ∀ {K : UInt8 → Option (OpenSaid × Note)}, (∀ y, Ok (K y) Q) → Ok (bd (ix r6.1 0) K) Q := fun h9 K hK => by
      have := hj hjf h9
      exact ok_ix (by decide) (by omega) fun _ => hK _
    refine ok_if (fun _ => ok_if (fun _ => ok_bd (t_g _ 4 (by decide) (by decide)) fun r7 _ _ => z _ _) fun _ => ok_if (fun h9 => ok_if (fun _ => one h9 fun _ => z _ _) fun _ => ok_if (fun h9 => one h9 fun y => ok_ine (fun _ => two _ _ _ (by decide)) fun _ => z _ _) fun _ => z _ _) fun _ => ok_if (fun h9 => one h9 fun y => ok_ine (fun _ => two _ _ _ (by decide)) fun _ => z _ _) fun _ => z _ _)
      fun _ => ok_if (fun h9 => ok_if (fun _ => one h9 fun _ => z _ _) fun _ => ok_if (fun h9 => one h9 fun y => ok_ine (fun _ => two _ _ _ (by decide)) fun _ => z _ _) fun _ => z _ _) fun _ => ok_if (fun h9 => one h9 fun y => ok_ine (fun _ => two _ _ _ (by decide)) fun _ => z _ _) fun _ => z _ _
theorem t_openRead (l : List UInt8) (hl : l.length ≤ 10000) : Ok (m_open_read l) fun r => RN r.2.Code r.2.Sub ∧ r.2.Data = [] := by
  unfold m_open_read
  refine ok_jn (fun i => RN i.1 i.2.1) (fun k hk => ?_) fun i hi => ok_some ⟨hi, rfl⟩
  refine ok_loop (fun st => st.1.length ≤ 10000) (fun st => st.1.length) hl (by dsimp only; omega) ?_
  rintro ⟨l, a, b⟩ hl nx hnx
  dsimp only at hl hnx
  rw [s_open_read1]
  dsimp only
  refine ok_if (fun h0 => ok_bd (t_g _ 1 (by decide) (by decide)) fun r1 _ h1 => ok_bd (t_g _ 1 (by decide) (by decide)) fun r2 _ h2 => ok_bd (t_t _ _) fun r3 _ h3 => ok_ifnb (fun _ => hk _ rn20) fun _ => ok_ifnb (fun _ => hk _ rn20) fun _ => ok_jn (fun i => RN i.1 i.2.1) (fun k6 hk6 => ?_) fun i hi => ok_ine (fun q => hk _ hi) fun q => hnx _ (by dsimp only; omega) (by dsimp only; omega)) fun _ => hk _ rn00
  refine ok_ine (fun _ => hk6 _ ⟨.inr rfl, (by show (0 : Int) ≤ 4; decide), (by show (4 : Int) ≤ 255; decide)⟩) fun _ => ok_jn (fun i => RN i.1 i.2.1) (fun k7 hk7 => ?_) fun i hi => hk6 _ hi
  exact t_readIn k7 hk7 _ (fun e => hk7 _ rn00) _ _ _ (by omega)
theorem t_fault (x : OpenSaid) (a b hold id : Int) : Ok (m_open_fault x a b hold id) fun n => (n.Code = 0 → HoldOk hold) ∧ RN n.Code n.Sub ∧ n.Data.length ≤ 4 := by
  unfold m_open_fault
  have bad : ∀ s : Int, 0 ≤ s ∧ s ≤ 255 → ∀ d : List UInt8, d.length ≤ 4 → Ok (some (Note.mk 2 s d)) fun n => (n.Code = 0 → HoldOk hold) ∧ RN n.Code n.Sub ∧ n.Data.length ≤ 4 := fun s hs d hd => ok_some ⟨fun h => absurd h (by simp), ⟨.inr rfl, hs.1, hs.2⟩, hd⟩
  refine ok_if (fun _ => bad _ (by decide) _ (by decide)) fun _ => ok_if (fun _ => bad _ (by decide) _ (by decide)) fun _ => ok_ine (fun _ => bad _ (by decide) _ (by decide)) fun _ => ok_bde (openShort_eq _) (ok_ine (fun _ => bad _ (by decide) _ (by decide)) fun _ => ok_bde (openHolds_eq _) (ok_ifn (fun _ => bad _ (by decide) _ (by decide)) fun hh => ok_if (fun _ => bad _ (by decide) _ (by decide)) fun _ => ok_some ⟨fun _ => hh, ⟨.inl rfl, by decide, by decide⟩, by decide⟩))
theorem rn_ok {c s : Int} {d : List UInt8} (h : RN c s) (h0 : ¬ c = 0) (hd : d.length ≤ 4) : NoteOk ⟨c, s, d⟩ := by
  unfold RN at h
  unfold NoteOk
  dsimp only
  omega
theorem t_openGet (m : Msg) (a : Int) (hl : m.Body.length ≤ 5000) : Ok (m_open_Get m a) fun r => (r.2.Code = 0 → HoldOk r.1.Hold) ∧ (¬ r.2.Code = 0 → NoteOk r.2) := by
  unfold m_open_Get
  have bad : ∀ (x : Hello) (s : Int), 0 ≤ s ∧ s ≤ 255 → ∀ d : List UInt8, d.length ≤ 4 → Ok (some (x, Note.mk 2 s d)) fun r : Hello × Note => (r.2.Code = 0 → HoldOk r.1.Hold) ∧ (¬ r.2.Code = 0 → NoteOk r.2) := fun x s hs d hd => ok_some ⟨fun h => absurd h (by simp), fun h => rn_ok ⟨.inr rfl, hs.1, hs.2⟩ h hd⟩
  refine ok_ine (fun _ => bad _ _ (by decide) _ (by decide)) fun _ => ok_bde (msgSane_eq m (by omega)) (ok_ifn (fun _ => bad _ _ (by decide) _ (by decide)) fun hm => ?_)
  refine ok_bd (t_g _ 1 (by decide) (by decide)) fun r2 _ h2 => ok_bd (t_g _ 2 (by decide) (by decide)) fun r3 _ h3 => ok_bd (t_g _ 2 (by decide) (by decide)) fun r4 _ h4 => ok_bd (t_g _ 4 (by decide) (by decide)) fun r5 _ h5 => ok_bd (t_g _ 1 (by decide) (by decide)) fun r6 _ h6 => ?_
  refine ok_ine (fun _ => ok_bde (octPut_eq _ _ _ (by decide) (by decide) (by simp)) (bad _ _ (by decide) _ (by rw [List.nil_append, putL_length]; decide))) fun _ => ok_ine (fun _ => bad _ _ (by decide) _ (by decide)) fun _ => ok_bd (t_openRead _ (by omega)) fun r8 _ h8 => ?_
  refine ok_jn (fun j => (j.1 = 0 → HoldOk r4.1) ∧ (¬ j.1 = 0 → NoteOk ⟨j.1, j.2.1, j.2.2⟩)) (fun k hk => ok_if (fun q => ok_bd (t_fault _ _ _ _ _) fun r9 _ h9 => hk _ ⟨h9.1, fun h => rn_ok h9.2.1 h h9.2.2⟩) fun q => hk _ ⟨fun h => absurd h q, fun h => rn_ok h8.1 h (by rw [h8.2]; exact Nat.zero_le _)⟩) fun j hj => ok_ine (fun q => ok_some ⟨fun h => absurd h q, fun h => hj.2 h⟩) fun q => ok_some ⟨fun _ => hj.1 q, fun h => absurd rfl h⟩
def pairsB (a b : Int) : Bool := (a == 0 && b == 3) || (a == 1 && b == 2) || (a == 3 && b == 0) || (a == 2 && b == 1) || (a == 4 && b == 4)
theorem pairs_eq (a b : Int) : m_role_Pairs a b = some (pairsB a b) := by
  refine ok_out' ?_
  unfold m_role_Pairs
  have hit : ∀ x y : Int, (decide (x = a) = true ∧ decide (y = b) = true ∧ ((x = 0 ∧ y = 3) ∨ (x = 1 ∧ y = 2) ∨ (x = 3 ∧ y = 0) ∨ (x = 2 ∧ y = 1) ∨ (x = 4 ∧ y = 4))) → true = pairsB a b := fun x y h => by
    obtain ⟨h1, h2, h3⟩ := h
    have h1 := of_decide_eq_true h1
    have h2 := of_decide_eq_true h2
    subst h1 h2
    rcases h3 with ⟨rfl, rfl⟩ | ⟨rfl, rfl⟩ | ⟨rfl, rfl⟩ | ⟨rfl, rfl⟩ | ⟨rfl, rfl⟩ <;> rfl
  refine ok_idx 5 (fun i => (0 < i → ¬ (a = 0 ∧ b = 3)) ∧ (1 < i → ¬ (a = 1 ∧ b = 2)) ∧ (2 < i → ¬ (a = 3 ∧ b = 0)) ∧ (3 < i → ¬ (a = 2 ∧ b = 1)) ∧ (4 < i → ¬ (a = 4 ∧ b = 4))) (by omega) (by omega) (fun i hi hI nx hnx => ?_) (fun hI nx => ?_)
  · rw [s_role_Pairs1]
    refine ok_if (fun _ => ?_) fun h => by omega
    refine ok_if (fun h => ok_if (fun g => ok_if (fun g2 => ok_some ?_) fun g2 => hnx (by omega)) fun g => hnx (by omega)) fun h => ok_if (fun h => ok_if (fun g => ok_if (fun g2 => ok_some ?_) fun g2 => hnx (by omega)) fun g => hnx (by omega)) fun h => ok_if (fun h => ok_if (fun g => ok_if (fun g2 => ok_some ?_) fun g2 => hnx (by omega)) fun g => hnx (by omega)) fun h => ok_if (fun h => ok_if (fun g => ok_if (fun g2 => ok_some ?_) fun g2 => hnx (by omega)) fun g => hnx (by omega)) fun h => ok_if (fun h => ok_if (fun g => ok_if (fun g2 => ok_some ?_) fun g2 => hnx (by omega)) fun g => hnx (by omega)) fun h => by omega
    all_goals subst g g2; rfl
  · rw [s_role_Pairs1]
    refine ok_if (fun h => by omega) fun _ => ok_some ?_
    obtain ⟨h1, h2, h3, h4, h5⟩ := hI
    symm
    unfold pairsB
    rw [← Bool.not_eq_true]
    simp only [Bool.or_eq_true, Bool.and_eq_true, beq_iff_eq]
    omega
theorem mine_eq (r : Int) : m_role_Mine r = some (if r = 1 then 0 else if r = 2 then 4 else if r = 3 then 3 else -1) := by
  refine ok_out' ?_
  unfold m_role_Mine
  exact ok_if (fun h => ok_some (by rw [if_pos h])) fun h1 => ok_if (fun h => ok_some (by rw [if_neg h1, if_pos h])) fun h2 => ok_if (fun h => ok_some (by rw [if_neg h1, if_neg h2, if_pos h])) fun h3 => ok_some (by rw [if_neg h1, if_neg h2, if_neg h3])
def minI (a b : Int) : Int := if b < a then b else a
theorem minI_ok {a b : Int} (ha : HoldOk a) (hb : HoldOk b) : HoldOk (minI a b) := by
  unfold minI
  split <;> assumption
def Waits (s : Sess) (m : Msg) : Prop := (s.State = 1 ∧ m.Typ = 1) ∨ (s.State = 2 ∧ m.Typ = 4) ∨ (s.State = 3 ∧ (m.Typ = 4 ∨ m.Typ = 2))
/-- What a message does. -/
inductive TakeR (s : Sess) (m : Msg) (th : Prop) : Sess × List Msg × Bool → Prop where
  | none (h : ¬ (th ∧ MsgOk m)) : TakeR s m th (saneR s, [], false)
  | notice (h : m.Typ = 3) : TakeR s m th (zS, [], false)
  | idle (h : (saneR s).State = 0) : TakeR s m th (saneR s, [], false)
  | ended (n : Note) (ok : SessOk s) (h0 : ¬ s.State = 0) (hm : ¬ m.Typ = 3) (hn : NoteOk n) (h : (n.Code = 5 ∧ n.Sub = s.State ∧ ¬ Waits s m) ∨ (s.State = 1 ∧ m.Typ = 1)) : TakeR s m th (zS, [noteM n], false)
  | conf (hd : Int) (ok : SessOk s) (h : s.State = 1 ∧ m.Typ = 1) (hh : HoldOk hd) : TakeR s m th (⟨2, hd, hd, hd / 3⟩, [alive1], false)
  | up (ok : SessOk s) (hm : ¬ m.Typ = 3) (h : (s.State = 2 ∧ m.Typ = 4) ∨ (s.State = 3 ∧ ¬ m.Typ = 1)) : TakeR s m th (⟨3, s.Hold, s.Hold, s.Keep⟩, [], decide (s.State = 3 ∧ m.Typ = 2))
theorem there_eq {c : Conf} {b : Bool} (hc : m_conf_Sane c = some b) (k : Int) : m_session_there c k = some (decide (b = true ∧ 0 ≤ k ∧ k < c.Sides.length)) := by
  refine ok_out' ?_
  unfold m_session_there
  refine ok_if (fun h => ok_if (fun h2 => ok_bde hc (ok_some ?_)) fun h2 => ok_some ?_) fun h => ok_some ?_
  · cases b with
    | true => exact (decide_eq_true ⟨rfl, h, h2⟩).symm
    | false => exact (decide_eq_false fun q => by cases q.1).symm
  · exact (decide_eq_false fun q => h2 q.2.2).symm
  · exact (decide_eq_false fun q => h q.2.1).symm
theorem end_eq {t : SessionTurn} {n : Note} (ok : SessOk t.s) (h0 : ¬ t.s.State = 0) (hn : NoteOk n) : m_session_turn__end t n = some (zS, [noteM n], false) := by
  refine ok_out' ?_
  unfold m_session_turn__end
  refine ok_bde (stop_eq _ _) (ok_some ?_)
  unfold endL
  rw [if_pos ⟨ok, h0, hn⟩]
theorem take_ok (s : Sess) (c : Conf) (k : Int) (m : Msg) {b : Bool} (hc : m_conf_Sane c = some b) (hb : b = true → ConfOk c) (hl : m.Body.length ≤ 5000) :
    Ok (m_session_Take s c k m) (TakeR s m (b = true ∧ 0 ≤ k ∧ k < c.Sides.length)) := by
  unfold m_session_Take
  refine ok_bde (sane_eq s) (ok_bde (there_eq hc k) (ok_ifn (fun h => ok_some (.none fun q => h q.1)) fun hth => ok_bde (msgSane_eq m (by omega)) (ok_ifn (fun h => ok_some (.none fun q => h q.2)) fun hm => ok_if (fun h => ok_some (.notice h)) fun h3 => ?_)))
  have co := hb hth.1
  have ixk : ∀ {K : Side → Option (Sess × List Msg × Bool)} {Q : Sess × List Msg × Bool → Prop}, (∀ y, Ok (K y) Q) → Ok (bd (ix c.Sides k) K) Q := fun hK => ok_ix hth.2.1 hth.2.2 fun _ => hK _
  by_cases ok : SessOk s
  · rw [saneR_id ok]
    refine ok_if (fun h0 => ixk fun y => ok_bde (x := (s, [], false)) rfl (ok_some ?_)) fun h0 => ?_
    · have := TakeR.idle (s := s) (m := m) (th := b = true ∧ 0 ≤ k ∧ k < c.Sides.length) (by rw [saneR_id ok]; exact h0)
      rw [saneR_id ok] at this
      exact this
    have st : s.State = 1 ∨ s.State = 2 ∨ s.State = 3 := by unfold SessOk at ok; omega
    refine ok_if (fun h1 => ixk fun y => ok_bd (P := TakeR s m (b = true ∧ 0 ≤ k ∧ k < c.Sides.length)) ?_ fun r _ hr => ok_some hr) fun h1 => ok_if (fun h2 => ixk fun y => ok_bd (P := TakeR s m (b = true ∧ 0 ≤ k ∧ k < c.Sides.length)) ?_ fun r _ hr => ok_some hr) fun h2 => ok_if (fun h4 => ixk fun y => ok_bd (P := TakeR s m (b = true ∧ 0 ≤ k ∧ k < c.Sides.length)) ?_ fun r _ hr => ok_some hr) fun h4 => by omega
    · unfold m_session_turn__sent
      dsimp only
      refine ok_ine (fun q => ok_bde (end_eq (t := ⟨s, c, y, m⟩) (n := ⟨5, 1, []⟩) ok h0 (by decide)) (ok_some (.ended _ ok h0 h3 (by decide) (.inl ⟨rfl, h1.symm, by unfold Waits; omega⟩)))) fun q => ok_bd (t_openGet m _ hl) fun r _ hr => ok_ine (fun q2 => ok_bde (end_eq (t := ⟨s, c, y, m⟩) (n := r.2) ok h0 (hr.2 q2)) (ok_some (.ended _ ok h0 h3 (hr.2 q2) (.inr ⟨h1, q⟩)))) fun q2 => ?_
      have hh := minI_ok co.2.2.1 (hr.1 q2)
      have h65 : 0 ≤ minI c.Hold r.1.Hold ∧ minI c.Hold r.1.Hold ≤ 65535 := by unfold HoldOk at hh; omega
      refine ok_if (fun _ => ok_bde (mine_eq _) (ok_bde (pairs_eq _ _) (ok_ifnb (fun _ => ok_bde (end_eq (t := ⟨s, c, y, m⟩) (n := ⟨2, 11, []⟩) ok h0 (by decide)) (ok_some (.ended _ ok h0 h3 (by decide) (.inr ⟨h1, q⟩)))) fun _ => ok_bde (third_eq (minI c.Hold r.1.Hold) h65) (ok_bde (x := [alive1]) rfl (ok_some (.conf _ ok ⟨h1, q⟩ hh)))))) fun _ => ok_bde (third_eq (minI c.Hold r.1.Hold) h65) (ok_bde (x := [alive1]) rfl (ok_some (.conf _ ok ⟨h1, q⟩ hh)))
    · unfold m_session_turn__confirm
      dsimp only
      refine ok_ine (fun q => ok_bde (end_eq (t := ⟨s, c, y, m⟩) (n := ⟨5, 2, []⟩) ok h0 (by decide)) (ok_some (.ended _ ok h0 h3 (by decide) (.inl ⟨rfl, h2.symm, by unfold Waits; omega⟩)))) fun q => ok_some ?_
      have := TakeR.up (s := s) (m := m) (th := b = true ∧ 0 ≤ k ∧ k < c.Sides.length) ok h3 (.inl ⟨h2, q⟩)
      rw [decide_eq_false (show ¬ (s.State = 3 ∧ m.Typ = 2) by omega)] at this
      exact this
    · unfold m_session_turn__up
      dsimp only
      refine ok_if (fun q => ok_bde (end_eq (t := ⟨s, c, y, m⟩) (n := ⟨5, 3, []⟩) ok h0 (by decide)) (ok_some (.ended _ ok h0 h3 (by decide) (.inl ⟨rfl, h4.symm, by unfold Waits; omega⟩)))) fun q => ok_some ?_
      have := TakeR.up (s := s) (m := m) (th := b = true ∧ 0 ≤ k ∧ k < c.Sides.length) ok h3 (.inr ⟨h4, q⟩)
      rw [decide_eq_decide.2 (show (s.State = 3 ∧ m.Typ = 2) ↔ m.Typ = 2 by omega)] at this
      rw [h4]
      exact this
  · have e : saneR s = zS := if_neg ok
    have := TakeR.idle (s := s) (m := m) (th := b = true ∧ 0 ≤ k ∧ k < c.Sides.length) (by rw [e]; rfl)
    rw [e] at this ⊢
    exact ok_if (fun _ => ixk fun y => ok_bde (x := (zS, [], false)) rfl (ok_some this)) fun h => absurd rfl h
def mineR (r : Int) : Int := if r = 1 then 0 else if r = 2 then 4 else if r = 3 then 3 else -1
theorem start_ok (s : Sess) (c : Conf) (k : Int) {b : Bool} (hc : m_conf_Sane c = some b) (hb : b = true → ConfOk c) :
    Ok (m_session_Start s c k) fun r => (r = (saneR s, []) ∧ ¬ ((saneR s).State = 0 ∧ b = true ∧ 0 ≤ k ∧ k < c.Sides.length)) ∨ ((saneR s).State = 0 ∧ ∃ y, c.Sides[k.toNat]? = some y ∧ openOk ⟨c.As, c.Hold, c.Id, mineR y.Rel⟩ ∧ r = (⟨1, 0, 240, 0⟩, [⟨1, openBody ⟨c.As, c.Hold, c.Id, mineR y.Rel⟩⟩])) := by
  unfold m_session_Start
  refine ok_bde (sane_eq s) (ok_ine (fun h => ok_some (.inl ⟨rfl, fun q => h q.1⟩)) fun h0 => ok_bde (there_eq hc k) (ok_ifn (fun h => ok_some (.inl ⟨rfl, fun q => h q.2⟩)) fun hth => ?_))
  have co := hb hth.1
  have hlt : k.toNat < c.Sides.length := by omega
  have so := co.2.2.2.2 _ hlt
  have oo : openOk ⟨c.As, c.Hold, c.Id, mineR c.Sides[k.toNat].Rel⟩ := by
    refine ⟨co.1, co.2.1, co.2.2.1, ?_⟩
    have := so.2.1
    show -1 ≤ mineR _ ∧ mineR _ ≤ 4
    unfold mineR
    repeat' split
    all_goals omega
  have hh : m_session_Hello c k = some ⟨c.As, c.Hold, c.Id, mineR c.Sides[k.toNat].Rel⟩ := by
    refine ok_out' ?_
    unfold m_session_Hello
    exact ok_bde (there_eq hc k) (ok_ifn (fun h => absurd hth h) fun _ => ok_ix hth.2.1 hth.2.2 fun _ => ok_bde (mine_eq _) (ok_some rfl))
  exact ok_bde hh (ok_bde (openPut_eq _ oo) (ok_some (.inr ⟨h0, _, List.getElem?_eq_getElem hlt, oo, rfl⟩)))
theorem openM_ok (h : Hello) : MsgOk ⟨1, openBody h⟩ := by
  have : (openBody h).length = (capsOf h).length + 10 := rfl
  have h2 := capsOf_length h
  have : (capsOf h).length = 8 ∨ (capsOf h).length = 13 := by
    rw [h2]; split
    · exact .inl rfl
    · exact .inr rfl
  refine ⟨.inl ⟨rfl, ?_⟩, ?_⟩ <;> dsimp only <;> omega
theorem alive_ok : MsgOk alive1 := by decide
end Go.Proofs.YtibploaibljcmaaDoor
namespace Go.Proofs.YtibploaibljcmaaDoor
open Go.RowKit
set_option linter.unusedVariables false
set_option linter.unusedSimpArgs false
set_option maxRecDepth 100000
set_option maxHeartbeats 2000000

theorem noteGet_eq {n : Note} (h : NoteOk n) : m_note_Get (noteM n) = some (n, true) := by
  refine ok_out' ?_
  have hl := h.2.2
  have b : ∀ x : Int, 0 ≤ x ∧ x ≤ 255 → IntKind.i64.wrap ((toB (IntKind.u8.wrap x)).toNat : Int) = x := fun x hx => by
    have h1 : IntKind.u8.wrap x = x := by rw [u8wrap_eq]; omega
    have h2 := toB_toNat x (by omega)
    rw [h1, h2, w64 (by omega) (by omega)]
    omega
  unfold m_note_Get noteM
  have e1 := b n.Code (by have := h.1; omega)
  have e2 := b n.Sub h.2.1
  refine ok_ine (fun q => absurd rfl q) fun _ => ok_if (fun q => absurd q (by simp only [List.length_append, List.length_cons, List.length_nil]; omega)) fun _ => ok_ix (by decide) (by simp only [List.length_append, List.length_cons, List.length_nil]; omega) fun _ => ok_ix (by decide) (by simp only [List.length_append, List.length_cons, List.length_nil]; omega) fun _ => ok_bde (sl_all (by simp only [List.length_append, List.length_cons, List.length_nil]; omega)) ?_
  have e3 : Note.mk (IntKind.i64.wrap ((toB (IntKind.u8.wrap n.Code)).toNat : Int)) (IntKind.i64.wrap ((toB (IntKind.u8.wrap n.Sub)).toNat : Int)) n.Data = n := by rw [e1, e2]
  refine ok_bde (x := true) ?_ (ok_ifnb (fun q => Bool.noConfusion q) fun _ => ok_some ?_)
  · show m_note_Sane (Note.mk (IntKind.i64.wrap ((toB (IntKind.u8.wrap n.Code)).toNat : Int)) (IntKind.i64.wrap ((toB (IntKind.u8.wrap n.Sub)).toNat : Int)) n.Data) = some true
    rw [e3, noteSane_eq, decide_eq_true h]
  · show (Note.mk (IntKind.i64.wrap ((toB (IntKind.u8.wrap n.Code)).toNat : Int)) (IntKind.i64.wrap ((toB (IntKind.u8.wrap n.Sub)).toNat : Int)) n.Data, true) = (n, true)
    rw [e3]
theorem ix1 {α : Type} (x : α) : ix [x] 0 = some x := by rw [ix_eq]; rfl
/-- What is put is got. -/
theorem openGet_put (h : Hello) (g : openOk h) : m_open_Get ⟨1, openBody h⟩ h.As = some (h, ⟨0, 0, []⟩) := by
  have hl : (capsOf h).length ≤ 13 := by
    rw [capsOf_length]
    split <;> decide
  have hn : (((octAt ((capsOf h).length : Int) 0).toNat : Nat) : Int) = (capsOf h).length := octAt0 _ (by omega)
  have hr := read_eq h.As h.Role (by have := g.1; omega) (by have := g.2.2.2; omega)
  have hs := octAt2 (shortOf h.As) (shortOf_lt _ (by have := g.1; omega))
  have hid := octAt2 h.Hold (by have := g.2.2.1; omega)
  have h4 := num4 h.Id (by have := g.2.1; omega)
  rw [putL4] at h4
  have e4 : octAt 4 0 = 4 := by decide
  have := openGet_ok (octAt (shortOf h.As) 1) (octAt (shortOf h.As) 0) (octAt h.Hold 1) (octAt h.Hold 0) (octAt h.Id 3) (octAt h.Id 2) (octAt h.Id 1) (octAt h.Id 0) (octAt ((capsOf h).length : Int) 0) (capsOf h) h.As (by omega) hn ⟨h.As, h.Role⟩ hr ⟨0, 0, []⟩ (by
    rw [hs, hid, h4]
    exact fault_no ⟨h.As, h.Role⟩ g.1.1 _ _ g.2.2.1 (by have := g.2.1; omega)) rfl
  rw [hid, h4] at this
  unfold openBody
  rw [e4]
  exact this
theorem step_one {s : Sess} {c : Conf} {k : Int} {m : Msg} {r : Sess × List Msg × Bool} (h : m_session_Take s c k m = some r) (hl : r.2.1.length ≤ 1000) : m_ridgewaylaw17_step s c k [m] = some (r.1, r.2.1) := by
  refine ok_out' ?_
  unfold m_ridgewaylaw17_step
  refine ok_loop (fun st => st = ([], (0 : Int), s.State, s.Hold, s.Left, s.Keep) ∨ st = (r.2.1, (1 : Int), r.1.State, r.1.Hold, r.1.Left, r.1.Keep)) (fun st => (1 - st.2.1).toNat) (.inl rfl) (by dsimp only; omega) ?_
  rintro _ (rfl | rfl) nx hnx
  · rw [s_ridgewaylaw17_step1]
    refine ok_if (fun _ => ok_bde (ix1 m) (ok_bde h (ok_ap (by simp only [List.length_nil]; omega) (by simp only [List.length_nil]; omega) (hnx _ (.inr ?_) (by dsimp only; rw [show IntKind.i64.wrap ((0 : Int) + 1) = 1 by decide]; omega))))) fun q => absurd (by simp) q
    rw [show IntKind.i64.wrap ((0 : Int) + 1) = 1 by decide]
    rfl
  · rw [s_ridgewaylaw17_step1]
    exact ok_if (fun q => absurd q (by simp)) fun _ => ok_some rfl
theorem step_none (s : Sess) (c : Conf) (k : Int) : m_ridgewaylaw17_step s c k [] = some (s, []) := by
  refine ok_out' ?_
  unfold m_ridgewaylaw17_step
  refine ok_loop (fun st => st = ([], (0 : Int), s.State, s.Hold, s.Left, s.Keep)) (fun st => 0) rfl (by omega) ?_
  rintro _ rfl nx hnx
  rw [s_ridgewaylaw17_step1]
  exact ok_if (fun q => absurd q (by simp)) fun _ => ok_some rfl
def sentS : Sess := ⟨1, 0, 240, 0⟩
def confS (hd : Int) : Sess := ⟨2, hd, hd, hd / 3⟩
def upS (hd : Int) : Sess := ⟨3, hd, hd, hd / 3⟩
theorem confS_ok {hd : Int} (h : HoldOk hd) : SessOk (confS hd) := by
  unfold HoldOk at h
  unfold SessOk confS
  dsimp only
  omega
section
variable {c : Conf} {y : Side} {hc : m_conf_Sane c = some true} (hco : ConfOk c) (hy : c.Sides = [y])
theorem there0 (hc : m_conf_Sane c = some true) (hy : c.Sides = [y]) : m_session_there c 0 = some true := by
  rw [there_eq hc, hy]
  rfl
/-- The other one's Open. -/
theorem take_open (hc : m_conf_Sane c = some true) (hco : ConfOk c) (hy : c.Sides = [y]) (H : Hello) (g : openOk H) (hr : 0 ≤ H.Role) (ha : y.As = H.As) :
    m_session_Take sentS c 0 ⟨1, openBody H⟩ = some (if pairsB (mineR y.Rel) H.Role = true then (confS (minI c.Hold H.Hold), [alive1], false) else (zS, [noteM ⟨2, 11, []⟩], false)) := by
  refine ok_out' ?_
  have so : SessOk sentS := by decide
  have mo := openM_ok H
  have hh := minI_ok hco.2.2.1 (show HoldOk H.Hold from g.2.2.1)
  have h65 : 0 ≤ minI c.Hold H.Hold ∧ minI c.Hold H.Hold ≤ 65535 := by unfold HoldOk at hh; omega
  unfold m_session_Take
  refine ok_bde (sane_eq sentS) ?_
  rw [saneR_id so]
  refine ok_bde (there0 hc hy) (ok_ifnb (fun q => Bool.noConfusion q) fun _ => ok_bde (msgSane_eq _ (by have := mo.2; omega)) (ok_ifn (fun q => absurd mo q) fun _ => ok_if (fun q => absurd q (by simp)) fun _ => ok_if (fun q => absurd q (by decide)) fun _ => ok_if (fun _ => ?_) fun q => absurd rfl q))
  have hix : ix c.Sides 0 = some y := by rw [hy, ix1]
  refine ok_bde hix (ok_bd (P := (· = (if pairsB (mineR y.Rel) H.Role = true then (confS (minI c.Hold H.Hold), [alive1], false) else (zS, [noteM ⟨2, 11, []⟩], false)))) ?_ fun r _ hr => ok_some hr)
  unfold m_session_turn__sent
  dsimp only
  refine ok_ine (fun q => absurd rfl q) fun _ => ?_
  rw [ha]
  refine ok_bde (openGet_put H g) (ok_ine (fun q => absurd rfl q) fun _ => ok_if (fun _ => ok_bde (mine_eq _) (ok_bde (pairs_eq _ _) (ok_ifnb (fun hp => ok_bde (end_eq (t := ⟨sentS, c, y, ⟨1, openBody H⟩⟩) (n := ⟨2, 11, []⟩) so (show ¬ (1 : Int) = 0 by decide) (by decide)) (ok_some ?_)) fun hp => ok_bde (third_eq (minI c.Hold H.Hold) h65) (ok_bde (x := [alive1]) rfl (ok_some ?_))))) fun q => absurd hr q)
  · rw [if_neg (show ¬ pairsB (mineR y.Rel) H.Role = true by rw [show pairsB (mineR y.Rel) H.Role = false from hp]; decide)]
  · rw [if_pos (show pairsB (mineR y.Rel) H.Role = true from hp)]
    rfl
theorem take_alive (hc : m_conf_Sane c = some true) (hy : c.Sides = [y]) {hd : Int} (hh : HoldOk hd) : m_session_Take (confS hd) c 0 alive1 = some (upS hd, [], false) := by
  refine ok_out' ?_
  have so := confS_ok hh
  unfold m_session_Take
  refine ok_bde (sane_eq _) ?_
  rw [saneR_id so]
  have hix : ix c.Sides 0 = some y := by rw [hy, ix1]
  exact ok_bde (there0 hc hy) (ok_ifnb (fun q => Bool.noConfusion q) fun _ => ok_bde (msgSane_eq alive1 (Nat.zero_le _)) (ok_ifn (fun q => absurd alive_ok q) fun _ => ok_if (fun q => absurd q (by decide)) fun _ => ok_if (fun q => absurd q (by simp [confS])) fun _ => ok_if (fun q => absurd q (by simp [confS])) fun _ => ok_if (fun _ => ok_bde hix (ok_bde (x := (upS hd, [], false)) rfl (ok_some rfl))) fun q => absurd rfl q))
theorem take_note (hc : m_conf_Sane c = some true) (hy : c.Sides = [y]) {n : Note} (hn : NoteOk n) : m_session_Take zS c 0 (noteM n) = some (zS, [], false) := by
  refine ok_out' ?_
  have mo := noteM_ok hn
  unfold m_session_Take
  refine ok_bde (sane_eq _) ?_
  rw [saneR_id zOk]
  exact ok_bde (there0 hc hy) (ok_ifnb (fun q => Bool.noConfusion q) fun _ => ok_bde (msgSane_eq _ (by have := mo.2; omega)) (ok_ifn (fun q => absurd mo q) fun _ => ok_if (fun _ => ok_some rfl) fun q => absurd rfl q))
theorem start_meet (hc : m_conf_Sane c = some true) (hco : ConfOk c) (hy : c.Sides = [y]) : m_session_Start ⟨0, 0, 0, 0⟩ c 0 = some (sentS, [⟨1, openBody ⟨c.As, c.Hold, c.Id, mineR y.Rel⟩⟩]) ∧ openOk ⟨c.As, c.Hold, c.Id, mineR y.Rel⟩ := by
  obtain ⟨r, hr, h⟩ := start_ok ⟨0, 0, 0, 0⟩ c 0 hc fun _ => hco
  rcases h with ⟨_, h⟩ | ⟨_, z, hz, ho, e⟩
  · exact absurd ⟨rfl, rfl, by decide, by rw [hy]; simp⟩ h
  · rw [hy] at hz
    obtain rfl : y = z := by simpa using hz
    rw [hr, e]
    exact ⟨rfl, ho⟩
end
theorem pairs_rel {a b : Int} (ha : 1 ≤ a ∧ a ≤ 3) (hb : 1 ≤ b ∧ b ≤ 3) : pairsB (mineR a) (mineR b) = true ↔ a + b = 4 := by
  have h1 : a = 1 ∨ a = 2 ∨ a = 3 := by omega
  have h2 : b = 1 ∨ b = 2 ∨ b = 3 := by omega
  rcases h1 with rfl | rfl | rfl <;> rcases h2 with rfl | rfl | rfl <;> decide
theorem few_node (a b r h : Int) : FewC ⟨a, a, h, 9, [], [⟨b, r, [], []⟩]⟩ := by
  refine ⟨Nat.zero_le _, by simp, fun s hs => ?_, fun s hs => ?_⟩ <;> (rw [List.mem_singleton.1 hs]; exact Nat.zero_le _)
theorem sessionMeet_true (x y rel back h g : Int) : m_ridgewaylaw17_SessionMeet x y rel back h g = some true := by
  refine ok_true ?_
  unfold m_ridgewaylaw17_SessionMeet
  refine ok_bde law17_awake ?_
  generalize IntKind.i64.wrap ((1 : Int) + (IntKind.i64.wrap ((BitVec.ofInt IntKind.i64.bits x &&& BitVec.ofInt IntKind.i64.bits (65535 : Int)).toNat : Int))) = X
  generalize IntKind.i64.wrap ((70000 : Int) + (IntKind.i64.wrap ((BitVec.ofInt IntKind.i64.bits y &&& BitVec.ofInt IntKind.i64.bits (65535 : Int)).toNat : Int))) = Y
  refine ok_bde (x := ⟨X, X, h, 9, [], [⟨Y, _, [], []⟩]⟩) rfl (ok_bde (ix1 _) (ok_bde (x := ⟨Y, Y, g, 9, [], [⟨X, _, [], []⟩]⟩) rfl ?_))
  generalize hA : Conf.mk X X h 9 [] [Side.mk Y _ [] []] = A
  generalize hB : Conf.mk Y Y g 9 [] [Side.mk X _ [] []] = B
  obtain ⟨y1, ea⟩ : ∃ r, A = ⟨X, X, h, 9, [], [⟨Y, r, [], []⟩]⟩ := ⟨_, hA.symm⟩
  obtain ⟨y2, eb⟩ : ∃ r, B = ⟨Y, Y, g, 9, [], [⟨X, r, [], []⟩]⟩ := ⟨_, hB.symm⟩
  clear hA hB
  subst ea eb
  obtain ⟨b1, c1, k1⟩ := t_sane _ (few_node X Y y1 h)
  obtain ⟨b2, c2, k2⟩ := t_sane _ (few_node Y X y2 g)
  refine ok_bde c1 (ok_ifnb (fun _ => ok_some rfl) fun q1 => ok_bde c2 (ok_ifnb (fun _ => ok_some rfl) fun q2 => ?_))
  subst q1 q2
  have k1 := k1 rfl
  have k2 := k2 rfl
  obtain ⟨s1, o1⟩ := start_meet c1 k1 rfl
  obtain ⟨s2, o2⟩ := start_meet c2 k2 rfl
  have r1 : 1 ≤ y1 ∧ y1 ≤ 3 := (k1.2.2.2.2 0 (by simp)).2.1
  have r2 : 1 ≤ y2 ∧ y2 ≤ 3 := (k2.2.2.2.2 0 (by simp)).2.1
  have m0 : ∀ r : Int, 1 ≤ r ∧ r ≤ 3 → 0 ≤ mineR r := fun r hr => by
    unfold mineR
    repeat' split
    all_goals omega
  have t1 := take_open c1 k1 rfl _ o2 (m0 _ r2) rfl
  have t2 := take_open c2 k2 rfl _ o1 (m0 _ r1) rfl
  dsimp only at t1 t2
  refine ok_bde s1 (ok_bde s2 ?_)
  have hw : IntKind.i64.wrap (y1 + y2) = y1 + y2 := w64 (by omega) (by omega)
  by_cases hp : y1 + y2 = 4
  · rw [if_pos ((pairs_rel r1 r2).2 hp)] at t1
    rw [if_pos ((pairs_rel r2 r1).2 (by omega))] at t2
    have hh1 : HoldOk (minI h g) := minI_ok k1.2.2.1 k2.2.2.1
    have hh2 : HoldOk (minI g h) := minI_ok k2.2.2.1 k1.2.2.1
    have a1 := take_alive c1 rfl hh1
    have a2 := take_alive c2 rfl hh2
    refine ok_bde (step_one t1 (by simp)) (ok_bde (step_one t2 (by simp)) (ok_bde (step_one a1 (by simp)) (ok_bde (step_one a2 (by simp)) (ok_bde (ix1 _) (ok_bde (ix1 _) (ok_ine (fun q => absurd (by rw [hw]; exact hp) q) fun _ => ok_ifb (fun _ => ok_if (fun _ => ok_if (fun _ => ok_if (fun _ => ok_if (fun _ => ok_if (fun _ => ok_some rfl) fun q => absurd rfl q) fun q => absurd ?_ q) fun q => absurd rfl q) fun q => absurd rfl q) fun q => absurd rfl q) fun q => Bool.noConfusion q))))))
    show minI g h = minI h g
    unfold minI
    split <;> split <;> omega
  · rw [if_neg fun z => hp ((pairs_rel r1 r2).1 z)] at t1
    rw [if_neg fun z => hp (by have := (pairs_rel r2 r1).1 z; omega)] at t2
    have n1 := take_note (n := ⟨2, 11, []⟩) c1 rfl (by decide)
    have n2 := take_note (n := ⟨2, 11, []⟩) c2 rfl (by decide)
    exact ok_bde (step_one t1 (by simp)) (ok_bde (step_one t2 (by simp)) (ok_bde (step_one n1 (by simp)) (ok_bde (step_one n2 (by simp)) (ok_bde (ix1 _) (ok_bde (ix1 _) (ok_ine (fun _ => ok_ine (fun q => absurd rfl q) fun _ => ok_bde (ix1 _) (ok_bde (noteGet_eq (by decide)) (ok_ifb (fun _ => ok_ifb (fun _ => ok_if (fun _ => ok_if (fun _ => ok_if (fun _ => ok_if (fun _ => ok_if (fun _ => ok_bde (ix1 _) (ok_some (decide_eq_true rfl))) fun q => absurd rfl q) fun q => absurd rfl q) fun q => absurd rfl q) fun q => absurd rfl q) fun q => absurd rfl q) fun q => Bool.noConfusion q) fun q => Bool.noConfusion q))) fun q => absurd (by rw [← hw]; exact q) hp))))))
end Go.Proofs.YtibploaibljcmaaDoor
