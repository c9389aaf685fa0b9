/- What the models come to. -/
import Derived.Test.YtgakgilaikgboaaPu0
import Derived.Test.YtgakgilaikgboaaMt5
import Derived.Test.YtgakgilaikgboaaQ0
import Derived.KernelRfl
namespace Go.Proofs.Ytgakgilaikgboaa
open Go.RowKit
set_option linter.unusedVariables false
set_option linter.unusedSimpArgs false

theorem octTake_eq (l : List UInt8) (n : Int) : m_octet_Take l n = some (if 0 ≤ n ∧ n ≤ l.length then (l.take n.toNat, l.drop n.toNat, true) else ([], [], false)) := by
  unfold m_octet_Take
  by_cases h1 : n < 0
  · rw [decide_eq_true h1, cond_true, if_neg (by omega)]
  rw [decide_eq_false h1, cond_false]
  by_cases h2 : n > (l.length : Int)
  · rw [decide_eq_true h2, cond_true, if_neg (by omega)]
  rw [decide_eq_false h2, cond_false, sl_pre (by omega), bd_some, sl_all (by omega), bd_some, if_pos (by omega)]
theorem octGet_eq (l : List UInt8) (a : Int) (h1 : 1 ≤ a) (h4 : a ≤ 4) : m_octet_Get l a = some (if a ≤ l.length then (((num (l.take a.toNat) : Nat) : Int), l.drop a.toNat, true) else (0, [], false)) := by
  unfold m_octet_Get
  rw [decide_eq_false (by omega), cond_false, decide_eq_false (by omega), cond_false, octTake_eq, bd_some]
  by_cases hk : a ≤ l.length
  · rw [if_pos (by omega), if_pos hk]
    refine loopC_ind (fun st => ∃ j : Nat, j ≤ a.toNat ∧ st = (((num (l.take j) : Nat) : Int), (j : Int))) (fun st => (a - st.2).toNat) ?_ _ _ ⟨0, Nat.zero_le _, by simp [num]⟩ (big_lt (by simp; omega))
    rintro st ⟨j, hj, rfl⟩ nx hnx
    unfold s_octet_Get1
    have hlen : (l.take a.toNat).length = a.toNat := by rw [List.length_take]; omega
    simp only [hlen]
    by_cases hlt : j < a.toNat
    · rw [decide_eq_true (by omega), cond_true, ix_nat (by rw [hlen]; exact hlt), bd_some, List.getElem_take]
      have hb : l[j].toNat < 256 := l[j].toNat_lt
      have hnl : num (l.take j) < 16777216 := by
        have := num_lt (l.take j)
        have : 256 ^ (l.take j).length ≤ 256 ^ 3 := Nat.pow_le_pow_right (by omega) (by rw [List.length_take]; omega)
        omega
      have e1 : IntKind.i64.wrap ((num (l.take j) : Nat) * 2 ^ (min (8 : Int).toNat IntKind.i64.bits) : Int) = (num (l.take j) : Nat) * 256 := by
        rw [show (2 : Int) ^ (min (8 : Int).toNat IntKind.i64.bits) = 256 from rfl, w64 (by omega) (by omega)]
      have e2 : IntKind.i64.wrap (l[j].toNat : Int) = l[j].toNat := w64 (by omega) (by omega)
      have e3 := or_byte (num (l.take j)) l[j].toNat hb hnl
      simp only [bits] at e3
      have e4 := num_step l j (by omega)
      rw [e1, e2, e3, ← e4, w64 (by omega) (by omega)]
      exact hnx _ ⟨j + 1, by omega, by simp⟩ (by simp; omega)
    · obtain rfl : j = a.toNat := by omega
      rw [decide_eq_false (by omega), cond_false]
  · rw [if_neg (by omega), if_neg hk]
    rw [show BIG = (BIG - 1) + 1 from rfl, loopC_succ]
    rfl
theorem u8_fdiv' (v : Int) (j : Nat) (h : j ≤ 3) : toB (IntKind.u8.wrap (v.fdiv (2 ^ (min (8 * j) 64)))) = octAt v j := by
  have : v.fdiv (2 ^ (8 * j)) = v / 2 ^ (8 * j) := by
    rw [Int.fdiv_eq_ediv_of_nonneg]
    exact Int.le_of_lt (Int.pow_pos (by decide))
  rw [Nat.min_eq_left (by omega), this, u8wrap_eq]
  rfl
theorem octPut_eq (l : List UInt8) (v a : Int) (h1 : 1 ≤ a) (h4 : a ≤ 4) (hl : l.length ≤ 140737488355000) : m_octet_Put l v a = some (l ++ putL v a.toNat) := by
  unfold m_octet_Put
  rw [decide_eq_false (by omega), cond_false, decide_eq_false (by omega), cond_false, sl_pre (by omega), bd_some, Int.toNat_natCast, List.take_length]
  refine loopC_ind (fun st => ∃ j : Nat, j ≤ a.toNat ∧ st = (l ++ (putL v a.toNat).take j, (j : Int))) (fun st => (a - st.2).toNat) ?_ _ _ ⟨0, Nat.zero_le _, by simp⟩ (big_lt (by simp; omega))
  rintro st ⟨j, hj, rfl⟩ nx hnx
  unfold s_octet_Put1
  by_cases hlt : j < a.toNat
  · rw [decide_eq_true (by simp only; omega), cond_true]
    have e1 : IntKind.i64.wrap (8 * IntKind.i64.wrap (IntKind.i64.wrap (a - 1) - (j : Int))) = ((8 * (a.toNat - 1 - j) : Nat) : Int) := by
      rw [w64 (x := a - 1) (by omega) (by omega), w64 (x := a - 1 - (j : Int)) (by omega) (by omega), w64 (by omega) (by omega)]
      omega
    simp only [e1]
    rw [nn_some (by omega), Int.toNat_natCast, show IntKind.i64.bits = 64 from rfl, u8_fdiv' v _ (by omega), ap_some (by simp; omega) (by simp; omega), bd_some, w64 (by omega) (by omega), List.append_assoc, ← putL_step v a.toNat j hlt]
    exact hnx _ ⟨j + 1, by omega, by simp⟩ (by simp; omega)
  · obtain rfl : j = a.toNat := by omega
    rw [decide_eq_false (by simp only; omega), cond_false, List.take_of_length_le (by rw [putL_length]; exact Nat.le_refl _)]
end Go.Proofs.Ytgakgilaikgboaa
namespace Go.Proofs.Ytgakgilaikgboaa
open Go.RowKit
set_option linter.unusedVariables false
set_option linter.unusedSimpArgs false
set_option maxRecDepth 100000
set_option maxHeartbeats 1000000

theorem wrap_rng (x : Int) : -9223372036854775808 ≤ IntKind.i64.wrap x ∧ IntKind.i64.wrap x ≤ 9223372036854775807 := by
  rw [IntKind.wrap_i64]
  omega
def takeR (l : List UInt8) (n : Int) : List UInt8 × List UInt8 × Bool := if 0 ≤ n ∧ n ≤ l.length then (l.take n.toNat, l.drop n.toNat, true) else ([], [], false)
theorem take_eq (l : List UInt8) (n : Int) : m_octet_Take l n = some (takeR l n) := by
  refine (?_ : Ok (m_octet_Take l n) (· = takeR l n)).elim fun x h => by rw [h.1, h.2]
  unfold m_octet_Take takeR
  refine ok_if (fun h => ok_some (by rw [if_neg (by omega)])) fun h => ok_if (fun h2 => ok_some (by rw [if_neg (by omega)])) fun h2 => ok_bde (sl_pre (by omega)) (ok_bde (sl_all (by omega)) (ok_some (by rw [if_pos (by omega)])))
theorem t_get (l : List UInt8) (n : Int) (hl : l.length ≤ 1000000) : Ok (m_octet_Get l n) fun r => r.2.1.length ≤ l.length ∧ (-9223372036854775808 ≤ r.1 ∧ r.1 ≤ 9223372036854775807) ∧ (¬ r.1 = 0 → 1 ≤ n ∧ n ≤ 4 ∧ r.2.1.length + n.toNat = l.length) := by
  unfold m_octet_Get
  refine ok_if (fun h => ok_some ⟨Nat.zero_le _, by simp, fun k => absurd rfl k⟩) fun h => ok_if (fun h2 => ok_some ⟨Nat.zero_le _, by simp, fun k => absurd rfl k⟩) fun h2 => ok_bde (take_eq _ _) ?_
  unfold takeR
  by_cases hn : 0 ≤ n ∧ n ≤ l.length
  · rw [if_pos hn]
    have ht : (l.take n.toNat).length = n.toNat := by rw [List.length_take]; omega
    have hd : (l.drop n.toNat).length = l.length - n.toNat := List.length_drop
    refine ok_acc n.toNat (fun _ b => -9223372036854775808 ≤ b ∧ b ≤ 9223372036854775807) (by omega) (by simp) (fun i b hi hI nx hnx => ?_) (fun b hI nx => ?_)
    · rw [s_octet_Get1]
      exact ok_if (fun _ => ok_ix (by dsimp only; omega) (by dsimp only; omega) fun hlt => hnx _ (wrap_rng _)) fun h => absurd (show (i : Int) < ((l.take n.toNat).length : Int) by omega) h
    · rw [s_octet_Get1]
      exact ok_if (fun h => absurd h (by dsimp only; omega)) fun _ => ok_some ⟨by dsimp only; omega, hI, fun _ => ⟨by omega, by omega, by dsimp only; omega⟩⟩
  · rw [if_neg hn]
    refine ok_acc 0 (fun _ b => b = 0) (by omega) rfl (fun i b hi hI nx hnx => by omega) (fun b hI nx => ?_)
    rw [s_octet_Get1]
    exact ok_if (fun h => absurd h (by simp)) fun _ => ok_some ⟨Nat.zero_le _, by dsimp only; omega, fun k => absurd hI k⟩
theorem t_put (l : List UInt8) (v n : Int) (hl : l.length ≤ 1000000) : Ok (m_octet_Put l v n) fun r => r.length ≤ l.length + 4 := by
  unfold m_octet_Put
  refine ok_if (fun _ => ok_some (by omega)) fun h1 => ok_if (fun _ => ok_some (by omega)) fun h2 => ok_bde (sl_pre (by omega)) ?_
  rw [Int.toNat_natCast, List.take_length]
  refine ok_acc n.toNat (fun i b => b.length = l.length + i) (by omega) rfl (fun i b hi hI nx hnx => ?_) (fun b hI nx => ?_)
  · rw [s_octet_Put1]
    refine ok_if (fun _ => ?_) fun h => absurd (show (i : Int) < n by omega) h
    have hw : 0 ≤ IntKind.i64.wrap ((8 : Int) * (IntKind.i64.wrap ((IntKind.i64.wrap (n - (1 : Int))) - (i : Int)))) := by
      rw [w64 (x := n - 1) (by omega) (by omega), w64 (x := n - 1 - i) (by omega) (by omega), w64 (by omega) (by omega)]
      omega
    dsimp only
    rw [nn_some hw]
    exact ok_ap (by simp; omega) (by simp; omega) (hnx _ (by simp; omega))
  · rw [s_octet_Put1]
    exact ok_if (fun h => absurd h (by dsimp only; omega)) fun _ => ok_some (by dsimp only; omega)
theorem oct_eq (n : Int) : m_attr_octetSized n = some (decide (0 ≤ n ∧ n ≤ 255)) := by
  refine (?_ : Ok (m_attr_octetSized n) (· = decide (0 ≤ n ∧ n ≤ 255))).elim fun x h => by rw [h.1, h.2]
  unfold m_attr_octetSized
  refine ok_if (fun h => ok_some ?_) fun h => ok_some ?_
  · by_cases h2 : n ≤ 255
    · rw [decide_eq_true h2, decide_eq_true (by omega)]
    · rw [decide_eq_false h2, decide_eq_false (by omega)]
  · rw [decide_eq_false (by omega)]
theorem t_attrPut (l : List UInt8) (y : Attr) (hl : l.length ≤ 500000) (hy : y.Data.length ≤ 10000) : Ok (m_attr_Put l y) fun r => r.length ≤ l.length + 12 + y.Data.length := by
  unfold m_attr_Put
  refine ok_bde (oct_eq _) (ok_ifnb (fun _ => ok_some (by omega)) fun h1 => ok_bde (oct_eq _) (ok_ifnb (fun _ => ok_some (by omega)) fun h2 => ok_if (fun h => by omega) fun _ => ok_if (fun h => ?_) fun h => ?_))
  · exact ok_bd (t_put _ _ _ (by omega)) fun r3 _ h3 => ok_bd (t_put _ _ _ (by omega)) fun r4 _ h4 => ok_bd (t_put _ _ _ (by omega)) fun r5 _ h5 => ok_ap (by omega) (by omega) (ok_some (by simp; omega))
  · exact ok_bd (t_put _ _ _ (by omega)) fun r3 _ h3 => ok_bd (t_put _ _ _ (by omega)) fun r4 _ h4 => ok_bd (t_put _ _ _ (by omega)) fun r5 _ h5 => ok_ap (by omega) (by omega) (ok_some (by simp; omega))
def fatalB (y : Attr) : Bool := (m_attr_fatal y).getD false
theorem fatal_eq (y : Attr) : m_attr_fatal y = some (fatalB y) := by
  have h : Ok (m_attr_fatal y) fun _ => True := by
    unfold m_attr_fatal
    exact ok_if (fun _ => ok_if (fun _ => ok_some trivial) fun _ => ok_ifnb (fun _ => ok_some trivial) fun _ => ok_some trivial) fun _ => ok_ifnb (fun _ => ok_some trivial) fun _ => ok_some trivial
  obtain ⟨b, e, _⟩ := h
  unfold fatalB
  rw [e]
  rfl
theorem t_num (l : List UInt8) (hl : l.length ≤ 1000000) : Ok (m_attr_number l) fun _ => True := by
  unfold m_attr_number
  exact ok_bd (t_get l 4 hl) fun r1 _ h1 => ok_if (fun _ => ok_some trivial) fun _ => ok_some trivial
theorem if_cong {R : Type} {b : Bool} {A A' B B' : R} (h1 : A = A') (h2 : b = false → B = B') : (bif b then A else B) = bif b then A' else B' := by
  cases b
  · exact h2 rfl
  · exact h1
theorem if_cong1 {R : Type} {b : Bool} {A A' B B' : R} (h1 : b = true → A = A') (h2 : B = B') : (bif b then A else B) = bif b then A' else B' := by
  cases b
  · exact h2
  · exact h1 rfl
theorem bd_cong {α R : Type} {m m' : Option α} {k k' : α → Option R} (h : m = m') (h2 : ∀ x, k x = k' x) : bd m k = bd m' k' := by
  rw [h, funext h2]
theorem jn_cong {τ R : Type} {i : Nat} {f f' : (τ → Option R) → Option R} {k k' : τ → Option R} (h : ∀ k, f k = f' k) (h2 : ∀ x, k x = k' x) : jn i f k = jn i f' k' := by
  rw [funext h, funext h2]
/-- What a flag says, and what else an attribute holds. -/
def view (y : Attr) : Int × List UInt8 := (IntKind.i64.wrap ((BitVec.ofInt IntKind.i64.bits y.Flags &&& BitVec.ofInt IntKind.i64.bits (192 : Int)).toNat : Int), y.Data)
/-- What is made of a list with no fatal attribute. -/
def After (r : Path × Int × Note) : Prop := (r.2.1 = 0 ∨ r.2.1 = 1) ∧ r.2.2 = ⟨0, 0, []⟩ ∧ r.1.As.length ≤ 10000
def bad2 : Path × Int × Note := (⟨0, [], 0, 0⟩, 1, ⟨0, 0, []⟩)
theorem after_bad : Ok (some bad2) After := ok_some ⟨.inr rfl, rfl, Nat.zero_le _⟩
theorem judge_ex : ∃ bk : List (Int × Attr) → Option (Path × Int × Note), (∀ l, m_attr_Judge l = loopC (s_attr_Judge1 l) bk BIG ((0 : Int), [])) ∧
    (∀ e e' : List (Int × Attr), (∀ t, (mget e t).map view = (mget e' t).map view) → bk e = bk e') ∧
    (∀ e : List (Int × Attr), (∀ t y, mget e t = some y → y.Data.length ≤ 10000) → Ok (bk e) After) := by
  refine ⟨_, fun l => by unfold m_attr_Judge; rfl, fun e e' h => ?_, fun e h => ?_⟩
  · have key : ∀ t, (∃ y y', mget e t = some y ∧ mget e' t = some y' ∧ mhas e t = true ∧ mhas e' t = true ∧ (IntKind.i64.wrap ((BitVec.ofInt IntKind.i64.bits y.Flags &&& BitVec.ofInt IntKind.i64.bits (192 : Int)).toNat : Int)) = (IntKind.i64.wrap ((BitVec.ofInt IntKind.i64.bits y'.Flags &&& BitVec.ofInt IntKind.i64.bits (192 : Int)).toNat : Int)) ∧ y.Data = y'.Data) ∨ (mhas e t = false ∧ mhas e' t = false) := fun t => by
      have ht := h t
      rw [mhas_get, mhas_get]
      cases h1 : mget e t with
      | none =>
        cases h2 : mget e' t with
        | none => exact .inr ⟨rfl, rfl⟩
        | some y' => rw [h1, h2] at ht; cases ht
      | some y =>
        cases h2 : mget e' t with
        | none => rw [h1, h2] at ht; cases ht
        | some y' =>
          rw [h1, h2] at ht
          simp only [Option.map_some, Option.some.injEq, view, Prod.mk.injEq] at ht
          exact .inl ⟨y, y', rfl, rfl, rfl, rfl, ht.1, ht.2⟩
    have cg : ∀ (t : Int) (F F' : Attr → Option (Path × Int × Note)) (A : Option (Path × Int × Note)), (∀ y y' : Attr, (IntKind.i64.wrap ((BitVec.ofInt IntKind.i64.bits y.Flags &&& BitVec.ofInt IntKind.i64.bits (192 : Int)).toNat : Int)) = (IntKind.i64.wrap ((BitVec.ofInt IntKind.i64.bits y'.Flags &&& BitVec.ofInt IntKind.i64.bits (192 : Int)).toNat : Int)) → y.Data = y'.Data → F y = F' y') →
        (bif mhas e t then bd (mget e t) F else A) = (bif mhas e' t then bd (mget e' t) F' else A) := fun t F F' A hF => by
      rcases key t with ⟨y, y', h1, h2, h3, h4, h5, h6⟩ | ⟨h1, h2⟩
      · rw [h1, h2, h3, h4, cond_true, cond_true, bd_some, bd_some, hF y y' h5 h6]
      · rw [h1, h2, cond_false, cond_false]
    refine cg 1 _ _ _ fun y y' h1 h2 => ?_
    rw [h1, h2]
    refine if_cong rfl fun _ => jn_cong (fun _ => rfl) fun i1 => if_cong rfl fun _ => cg 2 _ _ _ fun y9 y9' h1 h2 => ?_
    rw [h1, h2]
    refine if_cong rfl fun _ => jn_cong (fun _ => rfl) fun i2 => if_cong rfl fun _ => cg 3 _ _ _ fun y14 y14' h1 h2 => ?_
    rw [h1, h2]
    refine if_cong rfl fun _ => bd_cong rfl fun r15 => if_cong rfl fun _ => ?_
    rcases key 4 with ⟨y, y', k1, k2, k3, k4, k5, k6⟩ | ⟨k1, k2⟩
    · rw [k1, k2, k3, k4, cond_true, cond_true, bd_some, bd_some, k5, k6]
      refine if_cong rfl fun _ => if_cong rfl fun _ => cg 35 _ _ _ fun y17 y17' h1 h2 => ?_
      rw [h1, h2]
    · rw [k1, k2, cond_false, cond_false]
      refine cg 35 _ _ _ fun y17 y17' h1 h2 => ?_
      rw [h1, h2]
  · have fork : ∀ (t : Int) (F : Attr → Option (Path × Int × Note)) (A : Option (Path × Int × Note)), (∀ y : Attr, y.Data.length ≤ 10000 → Ok (F y) After) → Ok A After → Ok (bif mhas e t then bd (mget e t) F else A) After := fun t F A hF hA => by
      rw [mhas_get]
      cases h1 : mget e t with
      | none => exact hA
      | some y =>
        rw [bd_some]
        exact hF y (h t y h1)
    have ok0 : ∀ {p : Path}, p.As.length ≤ 10000 → Ok (some (p, (0 : Int), (⟨0, 0, []⟩ : Note))) After := fun hp => ok_some ⟨.inl rfl, rfl, hp⟩
    have o35 : ∀ (i1 : Bool × Int) (i2 : Bool × List Int) (r15 : Int × Bool), i2.2.length ≤ 10000 → Ok (bif mhas e (35 : Int) then
                            bd (mget e (35 : Int)) fun y17 =>
                              bif decide (¬ (IntKind.i64.wrap ((BitVec.ofInt IntKind.i64.bits y17.Flags &&& BitVec.ofInt IntKind.i64.bits (192 : Int)).toNat : Int)) = (192 : Int)) then
                                some ((Path.mk (0 : Int) ([]) (0 : Int) (0 : Int)), (1 : Int), (Note.mk (0 : Int) (0 : Int) ([])))
                              else
                                bd (m_attr_number y17.Data) fun r18 =>
                                bif (!r18.2) then
                                  some ((Path.mk (0 : Int) ([]) (0 : Int) (0 : Int)), (1 : Int), (Note.mk (0 : Int) (0 : Int) ([])))
                                else
                                  some ((Path.mk i1.2 i2.2 r15.1 r18.1), (0 : Int), (Note.mk (0 : Int) (0 : Int) ([])))
                            else
                              some ((Path.mk i1.2 i2.2 r15.1 (0 : Int)), (0 : Int), (Note.mk (0 : Int) (0 : Int) ([])))) After := fun i1 i2 r15 h2 =>
      fork 35 _ _ (fun y hy => ok_if (fun _ => after_bad) fun _ => ok_bd (t_num _ (by omega)) fun _ _ _ => ok_ifnb (fun _ => after_bad) fun _ => ok0 h2) (ok0 h2)
    refine fork 1 _ _ (fun y hy => ok_if (fun _ => after_bad) fun _ => ok_jn (fun _ => True) (fun k hk => ok_if (fun _ => hk _ trivial) fun hl => ok_ix (by omega) (by omega) fun _ => ok_if (fun _ => hk _ trivial) fun _ => ok_ix (by omega) (by omega) fun _ => hk _ trivial) fun i1 _ => ok_ifnb (fun _ => after_bad) fun _ => ?_) after_bad
    refine fork 2 _ _ (fun y9 hy9 => ok_if (fun _ => after_bad) fun _ => ok_jn (fun j => j.2.length ≤ 10000) (fun k hk => ?_) fun i2 hi2 => ok_ifnb (fun _ => after_bad) fun _ => ?_) after_bad
    · refine ok_loop (fun st => st.1.length + st.2.length ≤ 10000) (fun st => st.1.length) (by simpa using hy9) (by dsimp only; omega) fun st hst nx hnx => ?_
      rw [s_attr_Judge2]
      refine ok_if (fun h0 => ok_bd (t_get _ 1 (by omega)) fun r10 _ h10 => ok_bd (t_get _ 1 (by omega)) fun r11 _ h11 => ok_if (fun _ => hk _ (by dsimp only; omega)) fun q1 => ok_if (fun _ => hk _ (by dsimp only; omega)) fun q2 => ?_) fun _ => hk _ (by dsimp only; omega)
      have g10 := h10.2.2 (by omega)
      have g11 := h11.2.2 q2
      refine ok_loop (fun s3 => 0 ≤ s3.2.1 ∧ s3.1.length + s3.2.2.length ≤ 9998 ∧ s3.1.length < st.1.length) (fun s3 => (9223372036854775807 - s3.2.1).toNat) ⟨Int.le_refl _, by dsimp only; omega, by dsimp only; omega⟩ (by dsimp only; omega) fun s3 hs3 nx3 hnx3 => ?_
      rw [s_attr_Judge3]
      refine ok_if (fun h3 => ok_bd (t_get _ 4 (by omega)) fun r12 _ h12 => ok_if (fun _ => hk _ (by dsimp only; omega)) fun q3 => ?_) fun _ => hnx _ (by dsimp only; omega) (by dsimp only; omega)
      have g12 := h12.2.2 q3
      refine ok_ap (by simp; omega) (by simp; omega) (hnx3 _ ?_ ?_)
      · simp only [List.length_append, List.length_singleton]
        rw [w64 (by omega) (by omega)]
        omega
      · dsimp only
        rw [w64 (by omega) (by omega)]
        omega
    · refine fork 3 _ _ (fun y14 hy14 => ok_if (fun _ => after_bad) fun _ => ok_bd (t_num _ (by omega)) fun r15 _ _ => ok_ifnb (fun _ => after_bad) fun _ => fork 4 _ _ (fun y16 hy16 => ok_if (fun _ => after_bad) fun _ => ok_ifn (fun _ => after_bad) fun _ => o35 i1 i2 r15 hi2) (o35 i1 i2 r15 hi2)) after_bad
theorem law07_awake : m_ridgewaylaw07_awake = some true := by kernel_rfl
end Go.Proofs.Ytgakgilaikgboaa
namespace Go.Proofs.Ytgakgilaikgboaa
open Go.RowKit
set_option linter.unusedVariables false
set_option linter.unusedSimpArgs false
set_option maxRecDepth 100000
set_option maxHeartbeats 1000000

/-- The first of each kind; nothing if one is fatal. -/
def gat : List (Int × Attr) → List Attr → Option (List (Int × Attr))
  | e, [] => some e
  | e, y :: ys => if (mget e y.Typ).isSome = true then gat e ys else if fatalB y = true then none else gat (e ++ [(y.Typ, y)]) ys
theorem set_new {e : List (Int × Attr)} {k : Int} {y : Attr} (h : mget e k = none) : msetL e k y = e ++ [(k, y)] := by
  rw [mget_eq] at h
  induction e with
  | nil => rfl
  | cons p e ih =>
    obtain ⟨a, b⟩ := p
    rw [List.find?_cons] at h
    rw [msetL]
    by_cases hk : a = k
    · rw [decide_eq_true hk] at h; cases h
    · rw [decide_eq_false hk] at h
      rw [if_neg hk, ih h]
      rfl
theorem mget_app {e : List (Int × Attr)} {k t : Int} {y z : Attr} (h : mget (e ++ [(k, y)]) t = some z) : mget e t = some z ∨ z = y := by
  rw [mget_eq, List.find?_append, Option.map_or] at h
  cases he : mget e t with
  | some w => rw [mget_eq] at he; rw [he] at h; exact .inl h
  | none =>
    rw [mget_eq] at he
    rw [he, Option.none_or, List.find?_cons] at h
    by_cases hk : k = t
    · rw [decide_eq_true hk] at h
      cases h
      exact .inr rfl
    · rw [decide_eq_false hk] at h
      cases h
/-- Lists that are few. -/
structure FewA (l : List Attr) : Prop where
  len : l.length ≤ 20
  data : ∀ y ∈ l, y.Data.length ≤ 2000
/-- What is fatal. -/
def Fatal (r : Path × Int × Note) : Prop := r.1 = ⟨0, [], 0, 0⟩ ∧ r.2.1 = 2 ∧ r.2.2.Code = 3 ∧ r.2.2.Sub = 2
theorem t_judge {bk : List (Int × Attr) → Option (Path × Int × Note)} (h0 : ∀ l, m_attr_Judge l = loopC (s_attr_Judge1 l) bk BIG ((0 : Int), []))
    (ho : ∀ e : List (Int × Attr), (∀ t y, mget e t = some y → y.Data.length ≤ 10000) → Ok (bk e) After) (l : List Attr) (f : FewA l) :
    Ok (m_attr_Judge l) fun r => (gat [] l = none → Fatal r) ∧ ∀ e, gat [] l = some e → bk e = some r ∧ After r := by
  have hl := f.len
  rw [h0]
  refine ok_acc' l.length (fun i e => gat e (l.drop i) = gat [] l ∧ ∀ t y, mget e t = some y → y.Data.length ≤ 10000) (by omega) ⟨rfl, fun t y h => by rw [mget_eq] at h; cases h⟩ (fun i e hi hI nx hnx => ?_) (fun e hI nx => ?_)
  · obtain ⟨hI, hd⟩ := hI
    have hy := f.data _ (List.getElem_mem hi)
    rw [List.drop_eq_getElem_cons hi, gat] at hI
    rw [s_attr_Judge1]
    refine ok_if (fun _ => ok_ix (by dsimp only; omega) (by dsimp only; omega) fun hlt => ?_) fun h => absurd (Int.ofNat_lt.2 hi) h
    simp only [Int.toNat_natCast]
    rw [mhas_get]
    cases hg : mget e l[i].Typ with
    | some z =>
      rw [hg, if_pos (show (some z).isSome = true from rfl)] at hI
      rw [show (some z).isSome = true from rfl, cond_true]
      exact ok_bde rfl (hnx _ ⟨hI, hd⟩)
    | none =>
      rw [hg, if_neg (show ¬ (none : Option Attr).isSome = true by decide)] at hI
      rw [show (none : Option Attr).isSome = false from rfl, cond_false]
      refine ok_bde (ms_eq _ _ _) (ok_bde (fatal_eq _) (ok_ifb (fun hf => ?_) fun hf => hnx _ ⟨?_, fun t y h => ?_⟩))
      · rw [if_pos hf] at hI
        exact ok_bd (t_attrPut [] _ (by simp) (by omega)) fun r5 _ _ => ok_some ⟨fun _ => ⟨rfl, rfl, rfl, rfl⟩, fun e' he => by rw [← hI] at he; cases he⟩
      · rw [if_neg (by rw [hf]; decide)] at hI
        rw [set_new hg]
        exact hI
      · rw [set_new hg] at h
        rcases mget_app h with h | rfl
        · exact hd t y h
        · omega
  · obtain ⟨hI, hd⟩ := hI
    rw [List.drop_length, gat] at hI
    rw [s_attr_Judge1]
    refine ok_if (fun h => by dsimp only at h; omega) fun _ => ?_
    obtain ⟨r, e1, e2⟩ := ho e hd
    refine ⟨r, e1, fun h => ?_, fun e' he => ?_⟩
    · rw [← hI] at h; cases h
    · rw [← hI] at he
      cases he
      exact ⟨e1, e2⟩
theorem same_refl (p : Path) (h : p.As.length ≤ 10000) : m_ridgewayref07_SamePath p p = some true := by
  refine ok_true ?_
  unfold m_ridgewayref07_SamePath
  refine ok_if (fun h => absurd rfl h) fun _ => ok_if (fun h => absurd rfl h) fun _ => ok_if (fun h => absurd rfl h) fun _ => ok_if (fun h => absurd rfl h) fun _ => ok_idx p.As.length (fun _ => True) (by omega) trivial (fun i hi _ nx hnx => ?_) (fun _ nx => ?_)
  · rw [s_ridgewayref07_SamePath1]
    exact ok_if (fun _ => ok_ix (by omega) (by omega) fun _ => ok_ix (by omega) (by omega) fun _ => ok_if (fun h => absurd rfl h) fun _ => hnx trivial) fun h => absurd (Int.ofNat_lt.2 hi) h
  · rw [s_ridgewayref07_SamePath1]
    exact ok_if (fun h => by omega) fun _ => ok_some rfl

/-- No kind twice. -/
def Once (l : List Attr) : Prop := l.Pairwise fun a b => ¬ a.Typ = b.Typ
theorem gat_once : ∀ (l : List Attr) (e : List (Int × Attr)), Once l → (∀ y ∈ l, mget e y.Typ = none) → gat e l = if l.any fatalB = true then none else some (e ++ l.map fun y => (y.Typ, y))
  | [], e, _, _ => by simp [gat]
  | y :: ys, e, ho, hn => by
    rw [gat, hn y List.mem_cons_self, if_neg (show ¬ (none : Option Attr).isSome = true by decide), List.any_cons]
    cases hf : fatalB y with
    | true => rw [if_pos rfl, Bool.true_or, if_pos rfl]
    | false =>
      rw [if_neg (by decide), Bool.false_or, gat_once ys (e ++ [(y.Typ, y)]) (List.pairwise_cons.1 ho).2 fun z hz => ?_]
      · split
        · rfl
        · rw [List.map_cons, List.append_assoc]; rfl
      · have h1 := hn z (List.mem_cons_of_mem _ hz)
        have h2 := (List.pairwise_cons.1 ho).1 z hz
        rw [mget_eq] at h1 ⊢
        rw [List.find?_append]
        rw [Option.map_eq_none_iff] at h1
        rw [h1, Option.none_or, List.find?_cons, decide_eq_false h2]
        rfl
theorem mget_once (t : Int) : ∀ (l : List Attr), Once l → ∀ z, mget (l.map fun y => (y.Typ, y)) t = some z ↔ z ∈ l ∧ z.Typ = t
  | [], _, z => by simp [mget_eq]
  | y :: ys, ho, z => by
    have ih := mget_once t ys (List.pairwise_cons.1 ho).2 z
    have hn := (List.pairwise_cons.1 ho).1
    rw [mget_eq] at ih
    rw [mget_eq, List.map_cons, List.find?_cons]
    by_cases hk : y.Typ = t
    · rw [decide_eq_true hk]
      constructor
      · intro h
        cases h
        exact ⟨List.mem_cons_self, hk⟩
      · rintro ⟨hz, ht⟩
        rcases List.mem_cons.1 hz with rfl | hz
        · rfl
        · exact absurd (hk.trans ht.symm) (hn z hz)
    · rw [decide_eq_false hk]
      refine ih.trans ⟨fun ⟨h1, h2⟩ => ⟨List.mem_cons_of_mem _ h1, h2⟩, fun ⟨h1, h2⟩ => ?_⟩
      rcases List.mem_cons.1 h1 with rfl | h1
      · exact absurd h2 hk
      · exact ⟨h1, h2⟩
end Go.Proofs.Ytgakgilaikgboaa
namespace Go.Proofs.Ytgakgilaikgboaa
open Go.RowKit
set_option linter.unusedVariables false
set_option linter.unusedSimpArgs false
set_option maxRecDepth 100000
set_option maxHeartbeats 1000000

def c0 (f : Int) : Int := IntKind.i64.wrap ((BitVec.ofInt IntKind.i64.bits f &&& BitVec.ofInt IntKind.i64.bits (239 : Int)).toNat : Int)
def c1 (f : Int) : Int := IntKind.i64.wrap ((BitVec.ofInt IntKind.i64.bits f ||| BitVec.ofInt IntKind.i64.bits (16 : Int)).toNat : Int)
def b16 (f : Int) : Int := IntKind.i64.wrap ((BitVec.ofInt IntKind.i64.bits f &&& BitVec.ofInt IntKind.i64.bits (16 : Int)).toNat : Int)
def n16 (f : Int) : Int := IntKind.i64.wrap ((BitVec.ofInt IntKind.i64.bits f &&& ~~~ BitVec.ofInt IntKind.i64.bits (16 : Int)).toNat : Int)
theorem fl_fin : ∀ f : Fin 256, (0 ≤ c0 (f.val : Int) ∧ c0 (f.val : Int) ≤ 255) ∧ b16 (c0 (f.val : Int)) = 0 ∧ n16 (f.val : Int) = c0 (f.val : Int) ∧ (0 ≤ c1 (c0 (f.val : Int)) ∧ c1 (c0 (f.val : Int)) ≤ 255) ∧ ¬ b16 (c1 (c0 (f.val : Int))) = 0 := by decide
theorem fl_all (f : Int) (h : 0 ≤ f ∧ f ≤ 255) : (0 ≤ c0 f ∧ c0 f ≤ 255) ∧ b16 (c0 f) = 0 ∧ n16 f = c0 f ∧ (0 ≤ c1 (c0 f) ∧ c1 (c0 f) ≤ 255) ∧ ¬ b16 (c1 (c0 f)) = 0 := by
  have := fl_fin ⟨f.toNat, by omega⟩
  rwa [show ((f.toNat : Nat) : Int) = f by omega] at this
/-- The octets of an attribute. -/
def encA (y : Attr) : List UInt8 := putL y.Flags 1 ++ (putL y.Typ 1 ++ (putL (y.Data.length : Int) (if y.Data.length > 255 then 2 else 1) ++ y.Data))
/-- As it comes back. -/
def canon (y : Attr) : Attr := ⟨if y.Data.length > 255 then c1 (c0 y.Flags) else c0 y.Flags, y.Typ, y.Data⟩
structure Canon (y : Attr) : Prop where
  fl : 0 ≤ y.Flags ∧ y.Flags ≤ 255
  ty : 0 ≤ y.Typ ∧ y.Typ ≤ 255
  len : y.Data.length ≤ 65535
  bit : b16 y.Flags = 0 ↔ y.Data.length ≤ 255
theorem canon_ok (y : Attr) (hf : 0 ≤ y.Flags ∧ y.Flags ≤ 255) (ht : 0 ≤ y.Typ ∧ y.Typ ≤ 255) (hl : y.Data.length ≤ 65535) : Canon (canon y) := by
  obtain ⟨h1, h2, h3, h4, h5⟩ := fl_all y.Flags hf
  unfold canon
  by_cases h : y.Data.length > 255
  · rw [if_pos h]
    exact ⟨h4, ht, hl, ⟨fun k => absurd k h5, fun k => by dsimp only at k; omega⟩⟩
  · rw [if_neg h]
    exact ⟨h1, ht, hl, ⟨fun _ => by dsimp only; omega, fun _ => h2⟩⟩
theorem enc_len (y : Attr) : (encA y).length ≤ y.Data.length + 4 := by
  unfold encA
  simp only [List.length_append, putL_length]
  split <;> omega
theorem attrPut_eq (l : List UInt8) (y : Attr) (hb : l.length ≤ 1000000) (hf : 0 ≤ y.Flags ∧ y.Flags ≤ 255) (ht : 0 ≤ y.Typ ∧ y.Typ ≤ 255) (hl : y.Data.length ≤ 65535) : m_attr_Put l y = some (l ++ encA (canon y)) := by
  obtain ⟨h1, h2, h3, h4, h5⟩ := fl_all y.Flags hf
  refine (?_ : Ok (m_attr_Put l y) (· = l ++ encA (canon y))).elim fun x h => by rw [h.1, h.2]
  have p1 : ∀ v : Int, (putL v 1).length = 1 := fun v => putL_length v 1
  have p2 : ∀ v : Int, (putL v 2).length = 2 := fun v => putL_length v 2
  unfold m_attr_Put encA canon
  refine ok_bde (oct_eq _) (ok_ifnb (fun h => absurd (of_decide_eq_false h) (fun k => k ⟨hf.1, hf.2⟩)) fun _ => ok_bde (oct_eq _) (ok_ifnb (fun h => absurd (of_decide_eq_false h) (fun k => k ⟨ht.1, ht.2⟩)) fun _ => ok_if (fun h => by omega) fun _ => ok_if (fun h => ?_) fun h => ?_))
  · rw [if_pos (by omega), if_pos (by dsimp only; omega)]
    refine ok_bde (octPut_eq _ _ 1 (by omega) (by omega) (by omega)) (ok_bde (octPut_eq _ _ 1 (by omega) (by omega) (by simp [putL_length]; omega)) (ok_bde (octPut_eq _ _ 2 (by omega) (by omega) (by simp [putL_length]; omega)) (ok_ap (by simp [putL_length]; omega) (by simp [putL_length]; omega) (ok_some ?_))))
    show l ++ putL (c1 (n16 y.Flags)) 1 ++ putL y.Typ 1 ++ putL (y.Data.length : Int) 2 ++ y.Data = _
    rw [h3]
    simp only [List.append_assoc]
  · rw [if_neg (by omega), if_neg (by dsimp only; omega)]
    refine ok_bde (octPut_eq _ _ 1 (by omega) (by omega) (by omega)) (ok_bde (octPut_eq _ _ 1 (by omega) (by omega) (by simp [putL_length]; omega)) (ok_bde (octPut_eq _ _ 1 (by omega) (by omega) (by simp [putL_length]; omega)) (ok_ap (by simp [putL_length]; omega) (by simp [putL_length]; omega) (ok_some ?_))))
    show l ++ putL (n16 y.Flags) 1 ++ putL y.Typ 1 ++ putL (y.Data.length : Int) 1 ++ y.Data = _
    rw [h3]
    simp only [List.append_assoc]
theorem attrPut_no (l : List UInt8) (y : Attr) (h : ¬ ((0 ≤ y.Flags ∧ y.Flags ≤ 255) ∧ (0 ≤ y.Typ ∧ y.Typ ≤ 255))) : m_attr_Put l y = some l := by
  refine (?_ : Ok (m_attr_Put l y) (· = l)).elim fun x h => by rw [h.1, h.2]
  unfold m_attr_Put
  refine ok_bde (oct_eq _) (ok_ifnb (fun _ => ok_some rfl) fun h1 => ok_bde (oct_eq _) (ok_ifnb (fun _ => ok_some rfl) fun h2 => ?_))
  exact absurd ⟨of_decide_eq_true h1, of_decide_eq_true h2⟩ h
theorem get_put (v : Int) (k : Nat) (t : List UInt8) (a : Int) (ha : a = (k : Int)) (hk : 1 ≤ k ∧ k ≤ 4) (hv : 0 ≤ v ∧ v < (256 : Int) ^ k) : m_octet_Get (putL v k ++ t) a = some (v, t, true) := by
  subst ha
  rw [octGet_eq _ _ (by omega) (by omega), if_pos (by rw [List.length_append, putL_length]; omega)]
  simp only [Int.toNat_natCast]
  rw [List.take_append_of_le_length (by rw [putL_length]; omega), List.take_of_length_le (by rw [putL_length]; omega), List.drop_append_of_le_length (by rw [putL_length]; omega), List.drop_of_length_le (by rw [putL_length]; omega), num_putL, Int.emod_eq_of_lt hv.1 hv.2]
  rfl
theorem attrGet_eq (y : Attr) (t : List UInt8) (c : Canon y) : m_attr_Get (encA y ++ t) = some (y, t, true) := by
  obtain ⟨hf, ht, hl, hb⟩ := c
  refine (?_ : Ok (m_attr_Get (encA y ++ t)) (· = (y, t, true))).elim fun x h => by rw [h.1, h.2]
  have tk : m_octet_Take (y.Data ++ t) (y.Data.length : Int) = some (y.Data, t, true) := by
    rw [octTake_eq, if_pos (by simp only [List.length_append]; omega)]
    simp
  unfold m_attr_Get encA
  simp only [List.append_assoc]
  refine ok_bde (get_put _ 1 _ 1 rfl (by omega) (by omega)) (ok_bde (get_put _ 1 _ 1 rfl (by omega) (by omega)) (ok_jn (fun j => j = if y.Data.length > 255 then 2 else 1) (fun k hk => ok_if (fun h => hk _ ?_) fun h => hk _ ?_) fun j hj => ?_))
  · have : ¬ b16 y.Flags = 0 := h
    rw [if_pos (by omega)]
  · have : b16 y.Flags = 0 := Decidable.not_not.1 h
    rw [if_neg (by omega)]
  · refine ok_bde (x := ((y.Data.length : Int), y.Data ++ t, true)) ?_ (ok_bde tk (ok_ifnb (fun h => Bool.noConfusion h) fun _ => ok_ifnb (fun h => Bool.noConfusion h) fun _ => ok_some rfl))
    rw [hj]
    split
    · exact get_put _ 2 _ 2 rfl (by omega) (by omega)
    · exact get_put _ 1 _ 1 rfl (by omega) (by omega)
theorem enc_pos (y : Attr) : 0 < (encA y).length := by
  unfold encA
  simp only [List.length_append, putL_length]
  omega
theorem attrAll_eq (L : List Attr) (hc : ∀ y ∈ L, Canon y) (hl : L.length ≤ 1000) : m_attr_All (L.flatMap encA) = some (L, true) := by
  refine (?_ : Ok (m_attr_All (L.flatMap encA)) (· = (L, true))).elim fun x h => by rw [h.1, h.2]
  unfold m_attr_All
  refine ok_loop (fun st => ∃ i : Nat, i ≤ L.length ∧ st.1 = (L.drop i).flatMap encA ∧ st.2 = L.take i) (fun st => L.length - st.2.length) ⟨0, Nat.zero_le _, rfl, rfl⟩ (by dsimp only; omega) ?_
  rintro ⟨_, _⟩ ⟨i, hi, rfl, rfl⟩ nx hnx
  rw [s_attr_All1]
  dsimp only at hnx ⊢
  by_cases hlt : i < L.length
  · rw [List.drop_eq_getElem_cons hlt, List.flatMap_cons]
    have := enc_pos L[i]
    refine ok_if (fun _ => ok_bde (attrGet_eq _ _ (hc _ (List.getElem_mem hlt))) (ok_ifnb (fun h => Bool.noConfusion h) fun _ => ok_ap (by simp; omega) (by simp; omega) (hnx _ ⟨i + 1, hlt, rfl, List.take_append_getElem hlt⟩ ?_))) fun h => absurd (by simp only [List.length_append]; omega) h
    simp only [List.length_append, List.length_take, List.length_singleton]
    omega
  · rw [List.drop_of_length_le (by omega), List.take_of_length_le (by omega)]
    exact ok_if (fun h => absurd h (by simp)) fun _ => ok_some rfl
end Go.Proofs.Ytgakgilaikgboaa
namespace Go.Proofs.Ytgakgilaikgboaa
open Go.RowKit
set_option linter.unusedVariables false
set_option linter.unusedSimpArgs false
set_option maxRecDepth 100000
set_option maxHeartbeats 1000000
/-- A path that may be. -/
def PathOk (p : Path) : Prop := (∀ x ∈ p.As, 1 ≤ x ∧ x ≤ 4294967295) ∧ (0 ≤ p.Origin ∧ p.Origin ≤ 2) ∧ p.As.length ≤ 255 ∧ (1 ≤ p.Hop ∧ p.Hop ≤ 4294967295) ∧ 0 ≤ p.Otc ∧ p.Otc ≤ 4294967295
theorem t_attrSane (p : Path) (hl : p.As.length ≤ 9223372036854775807) : Ok (m_attr_Sane p) fun b => b = true ↔ PathOk p := by
  unfold m_attr_Sane
  have no : ∀ {A : Prop}, ¬ A → Ok (some false : Option Bool) (fun b => b = true ↔ A) := fun h => ok_some ⟨fun k => Bool.noConfusion k, fun k => absurd k h⟩
  refine ok_idx p.As.length (fun j => ∀ i (h : i < p.As.length), i < j → 1 ≤ p.As[i] ∧ p.As[i] ≤ 4294967295) hl (fun _ _ h => absurd h (Nat.not_lt_zero _)) (fun i hi hI nx hnx => ?_) (fun hI nx => ?_)
  · rw [s_attr_Sane1]
    have hm := List.getElem_mem hi
    refine ok_if (fun _ => ok_ix (by omega) (by omega) fun hlt => ok_if (fun h1 => no fun k => ?_) fun h1 => ok_if (fun h2 => no fun k => ?_) fun h2 => hnx fun j hj hji => ?_) fun h => absurd (Int.ofNat_lt.2 hi) h
    · have := k.1 _ hm; simp only [Int.toNat_natCast] at h1; omega
    · have := k.1 _ hm; simp only [Int.toNat_natCast] at h2; omega
    · simp only [Int.toNat_natCast] at h1 h2
      rcases Nat.lt_succ_iff_lt_or_eq.1 hji with g | rfl
      · exact hI j hj g
      · exact ⟨by omega, by omega⟩
  · rw [s_attr_Sane1]
    have hall : ∀ x ∈ p.As, 1 ≤ x ∧ x ≤ 4294967295 := fun x hx => by
      obtain ⟨i, h, rfl⟩ := List.getElem_of_mem hx
      exact hI i h h
    refine ok_if (fun h => by omega) fun _ => ok_if (fun h1 => ok_if (fun h2 => ok_if (fun h3 => ok_if (fun h4 => ok_if (fun h5 => ok_if (fun h6 => ok_some ?_) fun h => no fun k => ?_) fun h => no fun k => ?_) fun h => no fun k => ?_) fun h => no fun k => ?_) fun h => no fun k => ?_) fun h => no fun k => ?_
    · rw [decide_eq_true_eq]
      exact ⟨fun h7 => ⟨hall, ⟨h1, h2⟩, by omega, ⟨h4, h5⟩, h6, h7⟩, fun k => k.2.2.2.2.2⟩
    all_goals (obtain ⟨_, _, _, _, _, _⟩ := k; omega)
theorem byte0 (v : Int) : toB (IntKind.u8.wrap v) = octAt v 0 := by
  unfold toB octAt
  rw [u8wrap_eq]
  simp
theorem get1c (x : UInt8) (t : List UInt8) : m_octet_Get (x :: t) 1 = some ((x.toNat : Int), t, true) := by
  rw [octGet_eq _ _ (by omega) (by omega), if_pos (by simp; omega)]
  simp [num]
theorem seg_eq (as : List Int) (hl : as.length ≤ 1000) : m_attr_segment as = some (if as.length = 0 then [] else (2 : UInt8) :: octAt (as.length : Int) 0 :: as.flatMap fun x => putL x 4) := by
  refine (?_ : Ok (m_attr_segment as) (· = if as.length = 0 then [] else (2 : UInt8) :: octAt (as.length : Int) 0 :: as.flatMap fun x => putL x 4)).elim fun x h => by rw [h.1, h.2]
  unfold m_attr_segment
  refine ok_if (fun h => ok_some (by rw [if_pos (by omega)])) fun h => ?_
  rw [if_neg (by omega), byte0]
  refine ok_acc as.length (fun i b => b = (2 : UInt8) :: octAt (as.length : Int) 0 :: (as.take i).flatMap (fun x => putL x 4) ∧ b.length ≤ 2 + 4 * i) (by omega) ⟨by simp, by simp⟩ (fun i b hi hI nx hnx => ?_) (fun b hI nx => ?_)
  · obtain ⟨hI, hb⟩ := hI
    rw [s_attr_segment1]
    refine ok_if (fun _ => ok_ix (by omega) (by omega) fun hlt => ok_bde (octPut_eq [] _ 4 (by omega) (by omega) (by simp)) ?_) fun h => absurd (Int.ofNat_lt.2 hi) h
    simp only [Int.toNat_natCast, List.nil_append]
    have hp : (putL as[i] (4 : Int).toNat).length = 4 := putL_length _ _
    refine ok_ap (by rw [hp]; omega) (by rw [hp]; omega) (hnx _ ⟨?_, by rw [List.length_append, hp]; omega⟩)
    rw [hI, ← List.take_append_getElem hi, List.flatMap_append]
    simp
  · rw [s_attr_segment1]
    refine ok_if (fun h => by dsimp only at h; omega) fun _ => ok_some ?_
    have := hI.1
    rwa [List.take_length] at this

theorem ok_out {R : Type} {m : Option R} {r : R} (h : Ok m (· = r)) : m = some r := by
  obtain ⟨x, e, rfl⟩ := h
  exact e
/-- The octets of a path's numbers. -/
def segL (as : List Int) : List UInt8 := if as.length = 0 then [] else (2 : UInt8) :: octAt (as.length : Int) 0 :: as.flatMap fun x => putL x 4
/-- The attributes of a path. -/
def ofL (p : Path) : List Attr := [⟨64, 1, putL p.Origin 1⟩, ⟨64, 2, segL p.As⟩, ⟨64, 3, putL p.Hop 4⟩] ++ (if p.Otc = 0 then [] else [⟨192, 35, putL p.Otc 4⟩])
theorem of_eq (p : Path) (h : PathOk p) : m_attr_Of p = some (ofL p) := by
  have hl := h.2.2.1
  obtain ⟨b, e, hb⟩ := t_attrSane p (by omega)
  have hb := hb.2 h
  subst hb
  refine (?_ : Ok (m_attr_Of p) (· = ofL p)).elim fun x h => by rw [h.1, h.2]
  unfold m_attr_Of ofL
  refine ok_bde e (ok_ifnb (fun h => Bool.noConfusion h) fun h => ok_bde (octPut_eq [] _ 1 (by omega) (by omega) (by simp)) (ok_bde (seg_eq _ (by omega)) (ok_bde (octPut_eq [] _ 4 (by omega) (by omega) (by simp)) ?_)))
  refine ok_if (fun ho => ok_bde (octPut_eq [] _ 4 (by omega) (by omega) (by simp)) (ok_ap (by simp) (by simp) (ok_some ?_))) fun ho => ok_some ?_
  · rw [if_neg ho]; rfl
  · rw [if_pos (Decidable.not_not.1 ho)]; rfl
theorem num_eq (v : Int) (h : 1 ≤ v ∧ v ≤ 4294967295) : m_attr_number (putL v 4) = some (v, true) := by
  refine (?_ : Ok (m_attr_number (putL v 4)) (· = (v, true))).elim fun x h => by rw [h.1, h.2]
  unfold m_attr_number
  have := get_put v 4 [] 4 rfl (by omega) ⟨by omega, by omega⟩
  rw [List.append_nil] at this
  exact ok_bde this (ok_if (fun _ => ok_some rfl) fun k => by dsimp only at k; omega)
theorem fl64 : (IntKind.i64.wrap ((BitVec.ofInt IntKind.i64.bits (64 : Int) &&& BitVec.ofInt IntKind.i64.bits (192 : Int)).toNat : Int)) = 64 := by decide
theorem fl192 : (IntKind.i64.wrap ((BitVec.ofInt IntKind.i64.bits (192 : Int) &&& BitVec.ofInt IntKind.i64.bits (192 : Int)).toNat : Int)) = 192 := by decide
/-- Where these attributes are first, the path comes back. -/
theorem judge_of : ∃ bk : List (Int × Attr) → Option (Path × Int × Note), (∀ l, m_attr_Judge l = loopC (s_attr_Judge1 l) bk BIG ((0 : Int), [])) ∧
    ∀ p, PathOk p → ∀ e, mget e 1 = some ⟨64, 1, putL p.Origin 1⟩ → mget e 2 = some ⟨64, 2, segL p.As⟩ → mget e 3 = some ⟨64, 3, putL p.Hop 4⟩ → mget e 4 = none → mget e 35 = (if p.Otc = 0 then none else some ⟨192, 35, putL p.Otc 4⟩) → bk e = some (p, 0, ⟨0, 0, []⟩) := by
  refine ⟨_, fun l => by unfold m_attr_Judge; rfl, fun p hp e h1 h2 h3 h4 h35 => ?_⟩
  obtain ⟨has, hor, hlen, hhop, hotc0, hotc⟩ := hp
  refine ok_out ?_
  have some_ : ∀ {t : Int} {y : Attr} {F : Attr → Option (Path × Int × Note)} {A : Option (Path × Int × Note)}, mget e t = some y → Ok (F y) (· = (p, 0, ⟨0, 0, []⟩)) → Ok (bif mhas e t then bd (mget e t) F else A) (· = (p, 0, ⟨0, 0, []⟩)) := fun h k => by
    rw [mhas_get, h, bd_some]; exact k
  have none_ : ∀ {t : Int} {F : Attr → Option (Path × Int × Note)} {A : Option (Path × Int × Note)}, mget e t = none → Ok A (· = (p, 0, ⟨0, 0, []⟩)) → Ok (bif mhas e t then bd (mget e t) F else A) (· = (p, 0, ⟨0, 0, []⟩)) := fun h k => by
    rw [mhas_get, h]; exact k
  have ho0 : ((octAt p.Origin 0).toNat : Int) = p.Origin := by
    rw [← byte0, toB_of (by rw [u8wrap_eq]; omega), u8wrap_eq]; omega
  have p1 : putL p.Origin 1 = [octAt p.Origin 0] := rfl
  refine some_ h1 (ok_if (fun h => (h fl64).elim) fun _ => ok_jn (fun j => j = (true, p.Origin)) (fun k hk => ok_if (fun h => (h (by rw [putL_length]; rfl)).elim) fun _ => ?_) fun i1 hi1 => ?_)
  · rw [p1]
    have hix : ix [octAt p.Origin 0] 0 = some (octAt p.Origin 0) := ix_some (by omega) rfl
    refine ok_bde hix (ok_if (fun h => by omega) fun _ => ok_bde hix (hk _ ?_))
    rw [w64 (by omega) (by omega), ho0]
  subst hi1
  refine ok_ifnb (fun h => Bool.noConfusion h) fun _ => some_ h2 (ok_if (fun h => (h fl64).elim) fun _ => ok_jn (fun j => j = (true, p.As)) (fun k hk => ?_) fun i2 hi2 => ?_)
  · dsimp only
    refine ok_loop (fun st => (¬ p.As.length = 0 ∧ st = (segL p.As, [])) ∨ st = ([], p.As)) (fun st => st.1.length) ?_ ?_ ?_
    · by_cases h0 : p.As.length = 0
      · refine .inr ?_
        unfold segL
        rw [if_pos h0, List.length_eq_zero_iff.1 h0]
      · exact .inl ⟨h0, rfl⟩
    · have hfl : (p.As.flatMap fun x => putL x 4).length = 4 * p.As.length := by
        generalize p.As = as
        induction as with
        | nil => rfl
        | cons x xs ih => rw [List.flatMap_cons, List.length_append, ih, putL_length, List.length_cons]; omega
      unfold segL
      split
      · simp
      · simp only [List.length_cons, hfl]; omega
    · rintro st (⟨h0, rfl⟩ | rfl) nx hnx
      · rw [s_attr_Judge2]
        have hs : segL p.As = (2 : UInt8) :: octAt (p.As.length : Int) 0 :: p.As.flatMap fun x => putL x 4 := by unfold segL; rw [if_neg h0]
        rw [hs]
        have ho : ((octAt (p.As.length : Int) 0).toNat : Int) = p.As.length := by
          rw [← byte0, toB_of (by rw [u8wrap_eq]; omega), u8wrap_eq]; omega
        refine ok_if (fun _ => ok_bde (get1c _ _) (ok_bde (get1c _ _) (ok_if (fun h => (h rfl).elim) fun _ => ok_if (fun h => by dsimp only at h; omega) fun _ => ?_))) fun h => (h (by simp; omega)).elim
        dsimp only
        refine ok_loop (fun s => ∃ i : Nat, i ≤ p.As.length ∧ s = ((p.As.drop i).flatMap (fun x => putL x 4), (i : Int), p.As.take i)) (fun s => ((p.As.length : Int) - s.2.1).toNat) ⟨0, Nat.zero_le _, rfl⟩ (by dsimp only; omega) ?_
        rintro _ ⟨i, hi, rfl⟩ nx3 hnx3
        rw [s_attr_Judge3]
        dsimp only at hnx3 ⊢
        rw [ho]
        by_cases hlt : i < p.As.length
        · have hx := has _ (List.getElem_mem hlt)
          rw [List.drop_eq_getElem_cons hlt, List.flatMap_cons]
          have hw : IntKind.i64.wrap ((i : Int) + 1) = ((i + 1 : Nat) : Int) := by rw [w64 (by omega) (by omega)]; rfl
          refine ok_if (fun _ => ok_bde (get_put _ 4 _ 4 rfl (by omega) ⟨by omega, by omega⟩) (ok_if (fun h => by dsimp only at h; omega) fun _ => ok_ap (by simp; omega) (by simp; omega) (hnx3 _ ⟨i + 1, hlt, ?_⟩ (by dsimp only; rw [hw]; omega)))) fun h => by omega
          rw [hw, List.take_append_getElem hlt]
        · rw [List.drop_of_length_le (by omega), List.take_of_length_le (by omega)]
          exact ok_if (fun h => by omega) fun _ => hnx _ (.inr rfl) (by rw [hs]; simp)
      · rw [s_attr_Judge2]
        exact ok_if (fun h => by simp at h) fun _ => hk _ rfl
  subst hi2
  refine ok_ifnb (fun h => Bool.noConfusion h) fun _ => some_ h3 (ok_if (fun h => (h fl64).elim) fun _ => ok_bde (num_eq _ hhop) (ok_ifnb (fun h => Bool.noConfusion h) fun _ => none_ h4 ?_))
  by_cases h0 : p.Otc = 0
  · rw [if_pos h0] at h35
    refine none_ h35 (ok_some ?_)
    rw [← h0]
  · rw [if_neg h0] at h35
    exact some_ h35 (ok_if (fun h => (h fl192).elim) fun _ => ok_bde (num_eq _ ⟨by omega, hotc⟩) (ok_ifnb (fun h => Bool.noConfusion h) fun _ => ok_some rfl))
theorem judge_some {bk : List (Int × Attr) → Option (Path × Int × Note)} (h0 : ∀ l, m_attr_Judge l = loopC (s_attr_Judge1 l) bk BIG ((0 : Int), [])) (l : List Attr) (hl : l.length ≤ 1000) {e : List (Int × Attr)} {r : Path × Int × Note} (hg : gat [] l = some e) (hb : bk e = some r) : m_attr_Judge l = some r := by
  refine (?_ : Ok (m_attr_Judge l) (· = r)).elim fun x h => by rw [h.1, h.2]
  rw [h0]
  refine ok_acc' l.length (fun i e' => gat e' (l.drop i) = some e) (by omega) hg (fun i e' hi hI nx hnx => ?_) (fun e' hI nx => ?_)
  · rw [List.drop_eq_getElem_cons hi, gat] at hI
    rw [s_attr_Judge1]
    refine ok_if (fun _ => ok_ix (by dsimp only; omega) (by dsimp only; omega) fun hlt => ?_) fun h => absurd (Int.ofNat_lt.2 hi) h
    simp only [Int.toNat_natCast]
    rw [mhas_get]
    cases hg : mget e' l[i].Typ with
    | some z =>
      rw [hg, if_pos (show (some z).isSome = true from rfl)] at hI
      rw [show (some z).isSome = true from rfl, cond_true]
      exact ok_bde rfl (hnx _ hI)
    | none =>
      rw [hg, if_neg (show ¬ (none : Option Attr).isSome = true by decide)] at hI
      rw [show (none : Option Attr).isSome = false from rfl, cond_false]
      refine ok_bde (ms_eq _ _ _) (ok_bde (fatal_eq _) (ok_ifb (fun hf => ?_) fun hf => hnx _ ?_))
      · rw [if_pos hf] at hI; cases hI
      · rw [if_neg (by rw [hf]; decide)] at hI
        rw [set_new hg]
        exact hI
  · rw [List.drop_length, gat] at hI
    cases hI
    rw [s_attr_Judge1]
    exact ok_if (fun h => by dsimp only at h; omega) fun _ => ⟨r, hb, rfl⟩
theorem gat_app : ∀ (l r : List Attr) (e e' : List (Int × Attr)), gat e l = some e' → gat e (l ++ r) = gat e' r
  | [], r, e, e', h => by rw [gat] at h; cases h; rfl
  | y :: ys, r, e, e', h => by
    rw [gat] at h
    rw [List.cons_append, gat]
    split at h
    · rename_i g; rw [if_pos g]; exact gat_app ys r _ _ h
    · rename_i g
      rw [if_neg g]
      split at h
      · cases h
      · rename_i g; rw [if_neg g]; exact gat_app ys r _ _ h
theorem once_of (p : Path) : Once (ofL p) := by
  unfold Once ofL
  split <;> simp
theorem fatal_known (y : Attr) (h : (1 ≤ y.Typ ∧ y.Typ ≤ 7) ∨ y.Typ = 35 ∨ ¬ (IntKind.i64.wrap ((BitVec.ofInt IntKind.i64.bits y.Flags &&& BitVec.ofInt IntKind.i64.bits (128 : Int)).toNat : Int)) = 0) : fatalB y = false := by
  obtain ⟨b, e, hb⟩ : Ok (m_attr_fatal y) (· = false) := by
    unfold m_attr_fatal
    exact ok_if (fun _ => ok_if (fun _ => ok_some rfl) fun _ => ok_ifn (fun _ => ok_some (decide_eq_false (by omega))) fun _ => ok_some rfl) fun _ => ok_ifn (fun _ => ok_some (decide_eq_false (by omega))) fun _ => ok_some rfl
  unfold fatalB
  rw [e, hb]
  rfl
theorem mem_ofL {p : Path} {z : Attr} (h : z ∈ ofL p) : z.Typ = 1 ∨ z.Typ = 2 ∨ z.Typ = 3 ∨ z.Typ = 35 := by
  unfold ofL at h
  split at h <;> simp at h
  · rcases h with rfl | rfl | rfl <;> simp
  · rcases h with rfl | rfl | rfl | rfl <;> simp
/-- An attribute that does no harm. -/
def Mild (a : Attr) : Prop := fatalB a = false ∧ ¬ a.Typ = 1 ∧ ¬ a.Typ = 2 ∧ ¬ a.Typ = 3 ∧ ¬ a.Typ = 4 ∧ ¬ a.Typ = 35
theorem says_judge (p : Path) (hp : PathOk p) (pre : List Attr) (hpre : pre = [] ∨ ∃ a, pre = [a] ∧ Mild a) (k : Nat) (d : Attr) (hd : ∃ y ∈ ofL p, y.Typ = d.Typ) : m_attr_Judge (pre ++ ((ofL p).drop k ++ (ofL p).take k) ++ [d]) = some (p, 0, ⟨0, 0, []⟩) := by
  obtain ⟨bk, h0, hof⟩ := judge_of
  generalize hR : (ofL p).drop k ++ (ofL p).take k = R
  have hperm : R.Perm (ofL p) := by
    rw [← hR]
    have := @List.perm_append_comm _ ((ofL p).drop k) ((ofL p).take k)
    rwa [List.take_append_drop] at this
  have hoR : Once R := (hperm.pairwise_iff (fun h => fun e => h e.symm)).2 (once_of p)
  have hmR : ∀ z, z ∈ R ↔ z ∈ ofL p := fun z => hperm.mem_iff
  have hlen : R.length ≤ 4 := by
    rw [hperm.length_eq]
    unfold ofL
    split <;> simp
  have hoL : Once (pre ++ R) := by
    rcases hpre with rfl | ⟨a, rfl, ha⟩
    · exact hoR
    · refine List.pairwise_cons.2 ⟨fun z hz e => ?_, hoR⟩
      have := mem_ofL ((hmR z).1 hz)
      have := ha.2
      omega
  have hfat : (pre ++ R).any fatalB = false := by
    rw [List.any_eq_false]
    intro z hz
    rw [Bool.not_eq_true]
    rcases List.mem_append.1 hz with hz | hz
    · rcases hpre with rfl | ⟨a, rfl, ha⟩
      · cases hz
      · rw [List.mem_singleton.1 hz]; exact ha.1
    · have := mem_ofL ((hmR z).1 hz)
      exact fatal_known z (by omega)
  have hg1 : gat [] (pre ++ R) = some ((pre ++ R).map fun y => (y.Typ, y)) := by
    rw [gat_once _ [] hoL fun y _ => by simp [mget_eq], hfat]
    rfl
  have hmg := fun t z => mget_once t (pre ++ R) hoL z
  have hin : ∀ {z : Attr}, z ∈ ofL p → mget ((pre ++ R).map fun y => (y.Typ, y)) z.Typ = some z := fun hz => (hmg _ _).2 ⟨List.mem_append_right _ ((hmR _).2 hz), rfl⟩
  have hg : gat [] (pre ++ R ++ [d]) = some ((pre ++ R).map fun y => (y.Typ, y)) := by
    rw [gat_app _ _ _ _ hg1]
    obtain ⟨y, hy, hyt⟩ := hd
    rw [gat, ← hyt, hin hy, if_pos (show (some y).isSome = true from rfl), gat]
  have hno : ∀ t, (∀ z ∈ pre ++ R, ¬ z.Typ = t) → mget ((pre ++ R).map fun y => (y.Typ, y)) t = none := fun t h => by
    cases hm : mget ((pre ++ R).map fun y => (y.Typ, y)) t with
    | none => rfl
    | some z =>
      obtain ⟨q1, q2⟩ := (hmg t z).1 hm
      exact absurd q2 (h z q1)
  have hpl : pre.length ≤ 1 := by
    rcases hpre with rfl | ⟨a, rfl, _⟩ <;> simp
  refine judge_some h0 _ (by simp; omega) hg (hof p hp _ (hin (z := ⟨64, 1, putL p.Origin 1⟩) (by simp [ofL])) (hin (z := ⟨64, 2, segL p.As⟩) (by simp [ofL])) (hin (z := ⟨64, 3, putL p.Hop 4⟩) (by simp [ofL])) (hno 4 fun z hz => ?_) ?_)
  · rcases List.mem_append.1 hz with hz | hz
    · rcases hpre with rfl | ⟨a, rfl, ha⟩
      · cases hz
      · rw [List.mem_singleton.1 hz]; exact ha.2.2.2.2.1
    · have := mem_ofL ((hmR z).1 hz)
      omega
  · by_cases ho : p.Otc = 0
    · rw [if_pos ho]
      refine hno 35 fun z hz => ?_
      rcases List.mem_append.1 hz with hz | hz
      · rcases hpre with rfl | ⟨a, rfl, ha⟩
        · cases hz
        · rw [List.mem_singleton.1 hz]; exact ha.2.2.2.2.2
      · have hz := (hmR z).1 hz
        unfold ofL at hz
        rw [if_pos ho] at hz
        simp at hz
        rcases hz with rfl | rfl | rfl <;> simp
    · rw [if_neg ho]
      exact hin (z := ⟨192, 35, putL p.Otc 4⟩) (by simp [ofL, ho])
theorem attrSays_true (p : Path) (i : Int) (a : Attr) (hl : p.As.length ≤ 9223372036854775807) (ha : a.Data.length ≤ 9223372036854775807) : m_ridgewaylaw07_AttrSays p i a = some true := by
  refine ok_true ?_
  unfold m_ridgewaylaw07_AttrSays
  refine ok_bde law07_awake (ok_if (fun _ => ok_some rfl) fun h1 => ok_if (fun _ => ok_some rfl) fun h2 => ?_)
  obtain ⟨b, e, hb⟩ := t_attrSane p hl
  cases b with
  | false =>
    have hof : m_attr_Of p = some [] := by
      unfold m_attr_Of
      rw [e, bd_some]
      rfl
    exact ok_bde hof (ok_bde e (ok_ifnb (fun _ => ok_ifb (fun _ => ok_some rfl) fun h => Bool.noConfusion h) fun h => Bool.noConfusion h))
  | true =>
  have hp := hb.1 rfl
  have h3 : 3 ≤ (ofL p).length := by unfold ofL; simp
  have h4 : (ofL p).length ≤ 4 := by
    unfold ofL
    split <;> simp
  refine ok_bde (of_eq p hp) (ok_bde e (ok_ifnb (fun h => Bool.noConfusion h) fun _ => ok_if (fun h => by omega) fun _ => ok_if (fun h => by omega) fun _ => ?_))
  rw [nz_some (by omega)]
  generalize hk : (IntKind.i64.wrap ((BitVec.ofInt IntKind.i64.bits i &&& BitVec.ofInt IntKind.i64.bits (65535 : Int)).toNat : Int)).tmod ((ofL p).length : Int) = k
  have hk0 : 0 ≤ k := by
    rw [← hk]
    refine Int.tmod_nonneg _ ?_
    have h1 : (BitVec.ofInt IntKind.i64.bits i &&& BitVec.ofInt IntKind.i64.bits (65535 : Int)).toNat ≤ 65535 := by
      rw [BitVec.toNat_and]
      exact Nat.le_trans Nat.and_le_right (by decide)
    rw [w64 (by omega) (by omega)]
    omega
  have hk1 : k < (ofL p).length := by
    rw [← hk]
    exact Int.tmod_lt_of_pos _ (by omega)
  refine ok_bde (sl_all (by omega)) (ok_ap (by simp; omega) (by simp; omega) (ok_bde (sl_pre (by omega)) (ok_ap (by simp; omega) (by simp; omega) ?_)))
  rw [List.nil_append]
  have hx := ix_some hk0 (List.getElem?_eq_getElem (show k.toNat < (ofL p).length by omega))
  have leaf : ∀ pre : List Attr, (pre = [] ∨ ∃ a, pre = [a] ∧ Mild a) → Ok (bd (ix (ofL p) k) fun y9 => bd (ap 40 (pre ++ ((ofL p).drop k.toNat ++ (ofL p).take k.toNat)) ([(Attr.mk (0 : Int) y9.Typ a.Data)])) fun y10 =>
                    bd (m_attr_Judge y10) fun r11 =>
                    bif true then
                      bif decide (r11.2.1 = (0 : Int)) then
                        bif decide (r11.2.2.Code = (0 : Int)) then
                          bd (m_ridgewayref07_SamePath r11.1 p) fun r12 =>
                          some r12
                        else
                          some false
                      else
                        some false
                    else
                      some false) (· = true) := fun pre hpre => by
    have hpl : pre.length ≤ 1 := by
      rcases hpre with rfl | ⟨a, rfl, _⟩ <;> simp
    refine ok_bde hx (ok_ap (by simp; omega) (by simp; omega) (ok_bde (says_judge p hp pre hpre k.toNat _ ⟨_, List.getElem_mem _, rfl⟩) (ok_ifb (fun _ => ok_if (fun _ => ok_if (fun _ => ok_bde (same_refl p (by omega)) (ok_some rfl)) fun h => absurd rfl h) fun h => absurd rfl h) fun h => Bool.noConfusion h)))
  have lp : Mild a → Ok (bd (ap 40 [a] ((ofL p).drop k.toNat ++ (ofL p).take k.toNat)) fun y8 => bd (ix (ofL p) k) fun y9 => bd (ap 40 y8 ([(Attr.mk (0 : Int) y9.Typ a.Data)])) fun y10 =>
                    bd (m_attr_Judge y10) fun r11 =>
                    bif true then
                      bif decide (r11.2.1 = (0 : Int)) then
                        bif decide (r11.2.2.Code = (0 : Int)) then
                          bd (m_ridgewayref07_SamePath r11.1 p) fun r12 =>
                          some r12
                        else
                          some false
                      else
                        some false
                    else
                      some false) (· = true) := fun hm => ok_ap (by simp; omega) (by simp; omega) (leaf [a] (.inr ⟨a, rfl, hm⟩))
  have l0 := leaf [] (.inl rfl)
  rw [List.nil_append] at l0
  have far : (5 ≤ a.Typ ∧ a.Typ ≤ 7) → Mild a := fun h => ⟨fatal_known a (by omega), by omega, by omega, by omega, by omega, by omega⟩
  refine ok_if (fun q1 => ok_if (fun q2 => ok_if (fun q3 => ok_if (fun q4 => lp ⟨fatal_known a (by omega), by omega, by omega, by omega, by omega, by omega⟩) fun q4 => ok_if (fun q5 => lp ⟨fatal_known a (by omega), by omega, by omega, by omega, by omega, by omega⟩) fun q5 => ok_if (fun q5 => ok_if (fun q7 => lp (far ⟨q5, q7⟩)) fun _ => l0) fun _ => l0) fun q3 => ok_if (fun q5 => ok_if (fun q7 => lp (far ⟨q5, q7⟩)) fun _ => l0) fun _ => l0) fun q2 => ok_if (fun q5 => ok_if (fun q7 => lp (far ⟨q5, q7⟩)) fun _ => l0) fun _ => l0) fun q1 => ok_if (fun q5 => ok_if (fun q7 => lp (far ⟨q5, q7⟩)) fun _ => l0) fun _ => l0
end Go.Proofs.Ytgakgilaikgboaa
