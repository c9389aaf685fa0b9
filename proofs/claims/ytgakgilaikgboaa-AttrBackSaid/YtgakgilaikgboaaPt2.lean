/- What the models come to. -/
import Derived.Test.YtgakgilaikgboaaPu0
import Derived.Test.YtgakgilaikgboaaMt2
import Derived.Test.YtgakgilaikgboaaQ0
import Derived.KernelRfl
namespace Go.Proofs.Ytgakgilaikgboaa
open Go.RowKit
set_option linter.unusedVariables false
set_option linter.unusedSimpArgs false

theorem octTake_eq (l : List UInt8) (n : Int) : m_octet_Take l n = some (if 0 ≤ n ∧ n ≤ l.length then (l.take n.toNat, l.drop n.toNat, true) else ([], [], false)) := by
  unfold m_octet_Take
  by_cases h1 : n < 0
  · rw [decide_eq_true h1, cond_true, if_neg (by omega)]
  rw [decide_eq_false h1, cond_false]
  by_cases h2 : n > (l.length : Int)
  · rw [decide_eq_true h2, cond_true, if_neg (by omega)]
  rw [decide_eq_false h2, cond_false, sl_pre (by omega), bd_some, sl_all (by omega), bd_some, if_pos (by omega)]
theorem octGet_eq (l : List UInt8) (a : Int) (h1 : 1 ≤ a) (h4 : a ≤ 4) : m_octet_Get l a = some (if a ≤ l.length then (((num (l.take a.toNat) : Nat) : Int), l.drop a.toNat, true) else (0, [], false)) := by
  unfold m_octet_Get
  rw [decide_eq_false (by omega), cond_false, decide_eq_false (by omega), cond_false, octTake_eq, bd_some]
  by_cases hk : a ≤ l.length
  · rw [if_pos (by omega), if_pos hk]
    refine loopC_ind (fun st => ∃ j : Nat, j ≤ a.toNat ∧ st = (((num (l.take j) : Nat) : Int), (j : Int))) (fun st => (a - st.2).toNat) ?_ _ _ ⟨0, Nat.zero_le _, by simp [num]⟩ (big_lt (by simp; omega))
    rintro st ⟨j, hj, rfl⟩ nx hnx
    unfold s_octet_Get1
    have hlen : (l.take a.toNat).length = a.toNat := by rw [List.length_take]; omega
    simp only [hlen]
    by_cases hlt : j < a.toNat
    · rw [decide_eq_true (by omega), cond_true, ix_nat (by rw [hlen]; exact hlt), bd_some, List.getElem_take]
      have hb : l[j].toNat < 256 := l[j].toNat_lt
      have hnl : num (l.take j) < 16777216 := by
        have := num_lt (l.take j)
        have : 256 ^ (l.take j).length ≤ 256 ^ 3 := Nat.pow_le_pow_right (by omega) (by rw [List.length_take]; omega)
        omega
      have e1 : IntKind.i64.wrap ((num (l.take j) : Nat) * 2 ^ (min (8 : Int).toNat IntKind.i64.bits) : Int) = (num (l.take j) : Nat) * 256 := by
        rw [show (2 : Int) ^ (min (8 : Int).toNat IntKind.i64.bits) = 256 from rfl, w64 (by omega) (by omega)]
      have e2 : IntKind.i64.wrap (l[j].toNat : Int) = l[j].toNat := w64 (by omega) (by omega)
      have e3 := or_byte (num (l.take j)) l[j].toNat hb hnl
      simp only [bits] at e3
      have e4 := num_step l j (by omega)
      rw [e1, e2, e3, ← e4, w64 (by omega) (by omega)]
      exact hnx _ ⟨j + 1, by omega, by simp⟩ (by simp; omega)
    · obtain rfl : j = a.toNat := by omega
      rw [decide_eq_false (by omega), cond_false]
  · rw [if_neg (by omega), if_neg hk]
    rw [show BIG = (BIG - 1) + 1 from rfl, loopC_succ]
    rfl
theorem u8_fdiv' (v : Int) (j : Nat) (h : j ≤ 3) : toB (IntKind.u8.wrap (v.fdiv (2 ^ (min (8 * j) 64)))) = octAt v j := by
  have : v.fdiv (2 ^ (8 * j)) = v / 2 ^ (8 * j) := by
    rw [Int.fdiv_eq_ediv_of_nonneg]
    exact Int.le_of_lt (Int.pow_pos (by decide))
  rw [Nat.min_eq_left (by omega), this, u8wrap_eq]
  rfl
theorem octPut_eq (l : List UInt8) (v a : Int) (h1 : 1 ≤ a) (h4 : a ≤ 4) (hl : l.length ≤ 140737488355000) : m_octet_Put l v a = some (l ++ putL v a.toNat) := by
  unfold m_octet_Put
  rw [decide_eq_false (by omega), cond_false, decide_eq_false (by omega), cond_false, sl_pre (by omega), bd_some, Int.toNat_natCast, List.take_length]
  refine loopC_ind (fun st => ∃ j : Nat, j ≤ a.toNat ∧ st = (l ++ (putL v a.toNat).take j, (j : Int))) (fun st => (a - st.2).toNat) ?_ _ _ ⟨0, Nat.zero_le _, by simp⟩ (big_lt (by simp; omega))
  rintro st ⟨j, hj, rfl⟩ nx hnx
  unfold s_octet_Put1
  by_cases hlt : j < a.toNat
  · rw [decide_eq_true (by simp only; omega), cond_true]
    have e1 : IntKind.i64.wrap (8 * IntKind.i64.wrap (IntKind.i64.wrap (a - 1) - (j : Int))) = ((8 * (a.toNat - 1 - j) : Nat) : Int) := by
      rw [w64 (x := a - 1) (by omega) (by omega), w64 (x := a - 1 - (j : Int)) (by omega) (by omega), w64 (by omega) (by omega)]
      omega
    simp only [e1]
    rw [nn_some (by omega), Int.toNat_natCast, show IntKind.i64.bits = 64 from rfl, u8_fdiv' v _ (by omega), ap_some (by simp; omega) (by simp; omega), bd_some, w64 (by omega) (by omega), List.append_assoc, ← putL_step v a.toNat j hlt]
    exact hnx _ ⟨j + 1, by omega, by simp⟩ (by simp; omega)
  · obtain rfl : j = a.toNat := by omega
    rw [decide_eq_false (by simp only; omega), cond_false, List.take_of_length_le (by rw [putL_length]; exact Nat.le_refl _)]
end Go.Proofs.Ytgakgilaikgboaa
namespace Go.Proofs.Ytgakgilaikgboaa
open Go.RowKit
set_option linter.unusedVariables false
set_option linter.unusedSimpArgs false
set_option maxRecDepth 100000
set_option maxHeartbeats 1000000

theorem wrap_rng (x : Int) : -9223372036854775808 ≤ IntKind.i64.wrap x ∧ IntKind.i64.wrap x ≤ 9223372036854775807 := by
  rw [IntKind.wrap_i64]
  omega
def takeR (l : List UInt8) (n : Int) : List UInt8 × List UInt8 × Bool := if 0 ≤ n ∧ n ≤ l.length then (l.take n.toNat, l.drop n.toNat, true) else ([], [], false)
theorem take_eq (l : List UInt8) (n : Int) : m_octet_Take l n = some (takeR l n) := by
  refine (?_ : Ok (m_octet_Take l n) (· = takeR l n)).elim fun x h => by rw [h.1, h.2]
  unfold m_octet_Take takeR
  refine ok_if (fun h => ok_some (by rw [if_neg (by omega)])) fun h => ok_if (fun h2 => ok_some (by rw [if_neg (by omega)])) fun h2 => ok_bde (sl_pre (by omega)) (ok_bde (sl_all (by omega)) (ok_some (by rw [if_pos (by omega)])))
theorem t_get (l : List UInt8) (n : Int) (hl : l.length ≤ 1000000) : Ok (m_octet_Get l n) fun r => r.2.1.length ≤ l.length ∧ (-9223372036854775808 ≤ r.1 ∧ r.1 ≤ 9223372036854775807) ∧ (¬ r.1 = 0 → 1 ≤ n ∧ n ≤ 4 ∧ r.2.1.length + n.toNat = l.length) := by
  unfold m_octet_Get
  refine ok_if (fun h => ok_some ⟨Nat.zero_le _, by simp, fun k => absurd rfl k⟩) fun h => ok_if (fun h2 => ok_some ⟨Nat.zero_le _, by simp, fun k => absurd rfl k⟩) fun h2 => ok_bde (take_eq _ _) ?_
  unfold takeR
  by_cases hn : 0 ≤ n ∧ n ≤ l.length
  · rw [if_pos hn]
    have ht : (l.take n.toNat).length = n.toNat := by rw [List.length_take]; omega
    have hd : (l.drop n.toNat).length = l.length - n.toNat := List.length_drop
    refine ok_acc n.toNat (fun _ b => -9223372036854775808 ≤ b ∧ b ≤ 9223372036854775807) (by omega) (by simp) (fun i b hi hI nx hnx => ?_) (fun b hI nx => ?_)
    · rw [s_octet_Get1]
      exact ok_if (fun _ => ok_ix (by dsimp only; omega) (by dsimp only; omega) fun hlt => hnx _ (wrap_rng _)) fun h => absurd (show (i : Int) < ((l.take n.toNat).length : Int) by omega) h
    · rw [s_octet_Get1]
      exact ok_if (fun h => absurd h (by dsimp only; omega)) fun _ => ok_some ⟨by dsimp only; omega, hI, fun _ => ⟨by omega, by omega, by dsimp only; omega⟩⟩
  · rw [if_neg hn]
    refine ok_acc 0 (fun _ b => b = 0) (by omega) rfl (fun i b hi hI nx hnx => by omega) (fun b hI nx => ?_)
    rw [s_octet_Get1]
    exact ok_if (fun h => absurd h (by simp)) fun _ => ok_some ⟨Nat.zero_le _, by dsimp only; omega, fun k => absurd hI k⟩
theorem t_put (l : List UInt8) (v n : Int) (hl : l.length ≤ 1000000) : Ok (m_octet_Put l v n) fun r => r.length ≤ l.length + 4 := by
  unfold m_octet_Put
  refine ok_if (fun _ => ok_some (by omega)) fun h1 => ok_if (fun _ => ok_some (by omega)) fun h2 => ok_bde (sl_pre (by omega)) ?_
  rw [Int.toNat_natCast, List.take_length]
  refine ok_acc n.toNat (fun i b => b.length = l.length + i) (by omega) rfl (fun i b hi hI nx hnx => ?_) (fun b hI nx => ?_)
  · rw [s_octet_Put1]
    refine ok_if (fun _ => ?_) fun h => absurd (show (i : Int) < n by omega) h
    have hw : 0 ≤ IntKind.i64.wrap ((8 : Int) * (IntKind.i64.wrap ((IntKind.i64.wrap (n - (1 : Int))) - (i : Int)))) := by
      rw [w64 (x := n - 1) (by omega) (by omega), w64 (x := n - 1 - i) (by omega) (by omega), w64 (by omega) (by omega)]
      omega
    dsimp only
    rw [nn_some hw]
    exact ok_ap (by simp; omega) (by simp; omega) (hnx _ (by simp; omega))
  · rw [s_octet_Put1]
    exact ok_if (fun h => absurd h (by dsimp only; omega)) fun _ => ok_some (by dsimp only; omega)
theorem oct_eq (n : Int) : m_attr_octetSized n = some (decide (0 ≤ n ∧ n ≤ 255)) := by
  refine (?_ : Ok (m_attr_octetSized n) (· = decide (0 ≤ n ∧ n ≤ 255))).elim fun x h => by rw [h.1, h.2]
  unfold m_attr_octetSized
  refine ok_if (fun h => ok_some ?_) fun h => ok_some ?_
  · by_cases h2 : n ≤ 255
    · rw [decide_eq_true h2, decide_eq_true (by omega)]
    · rw [decide_eq_false h2, decide_eq_false (by omega)]
  · rw [decide_eq_false (by omega)]
theorem t_attrPut (l : List UInt8) (y : Attr) (hl : l.length ≤ 500000) (hy : y.Data.length ≤ 10000) : Ok (m_attr_Put l y) fun r => r.length ≤ l.length + 12 + y.Data.length := by
  unfold m_attr_Put
  refine ok_bde (oct_eq _) (ok_ifnb (fun _ => ok_some (by omega)) fun h1 => ok_bde (oct_eq _) (ok_ifnb (fun _ => ok_some (by omega)) fun h2 => ok_if (fun h => by omega) fun _ => ok_if (fun h => ?_) fun h => ?_))
  · exact ok_bd (t_put _ _ _ (by omega)) fun r3 _ h3 => ok_bd (t_put _ _ _ (by omega)) fun r4 _ h4 => ok_bd (t_put _ _ _ (by omega)) fun r5 _ h5 => ok_ap (by omega) (by omega) (ok_some (by simp; omega))
  · exact ok_bd (t_put _ _ _ (by omega)) fun r3 _ h3 => ok_bd (t_put _ _ _ (by omega)) fun r4 _ h4 => ok_bd (t_put _ _ _ (by omega)) fun r5 _ h5 => ok_ap (by omega) (by omega) (ok_some (by simp; omega))
def fatalB (y : Attr) : Bool := (m_attr_fatal y).getD false
theorem fatal_eq (y : Attr) : m_attr_fatal y = some (fatalB y) := by
  have h : Ok (m_attr_fatal y) fun _ => True := by
    unfold m_attr_fatal
    exact ok_if (fun _ => ok_if (fun _ => ok_some trivial) fun _ => ok_ifnb (fun _ => ok_some trivial) fun _ => ok_some trivial) fun _ => ok_ifnb (fun _ => ok_some trivial) fun _ => ok_some trivial
  obtain ⟨b, e, _⟩ := h
  unfold fatalB
  rw [e]
  rfl
theorem t_num (l : List UInt8) (hl : l.length ≤ 1000000) : Ok (m_attr_number l) fun _ => True := by
  unfold m_attr_number
  exact ok_bd (t_get l 4 hl) fun r1 _ h1 => ok_if (fun _ => ok_some trivial) fun _ => ok_some trivial
theorem if_cong {R : Type} {b : Bool} {A A' B B' : R} (h1 : A = A') (h2 : b = false → B = B') : (bif b then A else B) = bif b then A' else B' := by
  cases b
  · exact h2 rfl
  · exact h1
theorem if_cong1 {R : Type} {b : Bool} {A A' B B' : R} (h1 : b = true → A = A') (h2 : B = B') : (bif b then A else B) = bif b then A' else B' := by
  cases b
  · exact h2
  · exact h1 rfl
theorem bd_cong {α R : Type} {m m' : Option α} {k k' : α → Option R} (h : m = m') (h2 : ∀ x, k x = k' x) : bd m k = bd m' k' := by
  rw [h, funext h2]
theorem jn_cong {τ R : Type} {i : Nat} {f f' : (τ → Option R) → Option R} {k k' : τ → Option R} (h : ∀ k, f k = f' k) (h2 : ∀ x, k x = k' x) : jn i f k = jn i f' k' := by
  rw [funext h, funext h2]
/-- What a flag says, and what else an attribute holds. -/
def view (y : Attr) : Int × List UInt8 := (IntKind.i64.wrap ((BitVec.ofInt IntKind.i64.bits y.Flags &&& BitVec.ofInt IntKind.i64.bits (192 : Int)).toNat : Int), y.Data)
/-- What is made of a list with no fatal attribute. -/
def After (r : Path × Int × Note) : Prop := (r.2.1 = 0 ∨ r.2.1 = 1) ∧ r.2.2 = ⟨0, 0, []⟩ ∧ r.1.As.length ≤ 10000
def bad2 : Path × Int × Note := (⟨0, [], 0, 0⟩, 1, ⟨0, 0, []⟩)
theorem after_bad : Ok (some bad2) After := ok_some ⟨.inr rfl, rfl, Nat.zero_le _⟩
theorem judge_ex : ∃ bk : List (Int × Attr) → Option (Path × Int × Note), (∀ l, m_attr_Judge l = loopC (s_attr_Judge1 l) bk BIG ((0 : Int), [])) ∧
    (∀ e e' : List (Int × Attr), (∀ t, (mget e t).map view = (mget e' t).map view) → bk e = bk e') ∧
    (∀ e : List (Int × Attr), (∀ t y, mget e t = some y → y.Data.length ≤ 10000) → Ok (bk e) After) := by
  refine ⟨_, fun l => by unfold m_attr_Judge; rfl, fun e e' h => ?_, fun e h => ?_⟩
  · have key : ∀ t, (∃ y y', mget e t = some y ∧ mget e' t = some y' ∧ mhas e t = true ∧ mhas e' t = true ∧ (IntKind.i64.wrap ((BitVec.ofInt IntKind.i64.bits y.Flags &&& BitVec.ofInt IntKind.i64.bits (192 : Int)).toNat : Int)) = (IntKind.i64.wrap ((BitVec.ofInt IntKind.i64.bits y'.Flags &&& BitVec.ofInt IntKind.i64.bits (192 : Int)).toNat : Int)) ∧ y.Data = y'.Data) ∨ (mhas e t = false ∧ mhas e' t = false) := fun t => by
      have ht := h t
      rw [mhas_get, mhas_get]
      cases h1 : mget e t with
      | none =>
        cases h2 : mget e' t with
        | none => exact .inr ⟨rfl, rfl⟩
        | some y' => rw [h1, h2] at ht; cases ht
      | some y =>
        cases h2 : mget e' t with
        | none => rw [h1, h2] at ht; cases ht
        | some y' =>
          rw [h1, h2] at ht
          simp only [Option.map_some, Option.some.injEq, view, Prod.mk.injEq] at ht
          exact .inl ⟨y, y', rfl, rfl, rfl, rfl, ht.1, ht.2⟩
    have cg : ∀ (t : Int) (F F' : Attr → Option (Path × Int × Note)) (A : Option (Path × Int × Note)), (∀ y y' : Attr, (IntKind.i64.wrap ((BitVec.ofInt IntKind.i64.bits y.Flags &&& BitVec.ofInt IntKind.i64.bits (192 : Int)).toNat : Int)) = (IntKind.i64.wrap ((BitVec.ofInt IntKind.i64.bits y'.Flags &&& BitVec.ofInt IntKind.i64.bits (192 : Int)).toNat : Int)) → y.Data = y'.Data → F y = F' y') →
        (bif mhas e t then bd (mget e t) F else A) = (bif mhas e' t then bd (mget e' t) F' else A) := fun t F F' A hF => by
      rcases key t with ⟨y, y', h1, h2, h3, h4, h5, h6⟩ | ⟨h1, h2⟩
      · rw [h1, h2, h3, h4, cond_true, cond_true, bd_some, bd_some, hF y y' h5 h6]
      · rw [h1, h2, cond_false, cond_false]
    refine cg 1 _ _ _ fun y y' h1 h2 => ?_
    rw [h1, h2]
    refine if_cong rfl fun _ => jn_cong (fun _ => rfl) fun i1 => if_cong rfl fun _ => cg 2 _ _ _ fun y9 y9' h1 h2 => ?_
    rw [h1, h2]
    refine if_cong rfl fun _ => jn_cong (fun _ => rfl) fun i2 => if_cong rfl fun _ => cg 3 _ _ _ fun y14 y14' h1 h2 => ?_
    rw [h1, h2]
    refine if_cong rfl fun _ => bd_cong rfl fun r15 => if_cong rfl fun _ => ?_
    rcases key 4 with ⟨y, y', k1, k2, k3, k4, k5, k6⟩ | ⟨k1, k2⟩
    · rw [k1, k2, k3, k4, cond_true, cond_true, bd_some, bd_some, k5, k6]
      refine if_cong rfl fun _ => if_cong rfl fun _ => cg 35 _ _ _ fun y17 y17' h1 h2 => ?_
      rw [h1, h2]
    · rw [k1, k2, cond_false, cond_false]
      refine cg 35 _ _ _ fun y17 y17' h1 h2 => ?_
      rw [h1, h2]
  · have fork : ∀ (t : Int) (F : Attr → Option (Path × Int × Note)) (A : Option (Path × Int × Note)), (∀ y : Attr, y.Data.length ≤ 10000 → Ok (F y) After) → Ok A After → Ok (bif mhas e t then bd (mget e t) F else A) After := fun t F A hF hA => by
      rw [mhas_get]
      cases h1 : mget e t with
      | none => exact hA
      | some y =>
        rw [bd_some]
        exact hF y (h t y h1)
    have ok0 : ∀ {p : Path}, p.As.length ≤ 10000 → Ok (some (p, (0 : Int), (⟨0, 0, []⟩ : Note))) After := fun hp => ok_some ⟨.inl rfl, rfl, hp⟩
    have o35 : ∀ (i1 : Bool × Int) (i2 : Bool × List Int) (r15 : Int × Bool), i2.2.length ≤ 10000 → Ok (bif mhas e (35 : Int) then
                            bd (mget e (35 : Int)) fun y17 =>
                              bif decide (¬ (IntKind.i64.wrap ((BitVec.ofInt IntKind.i64.bits y17.Flags &&& BitVec.ofInt IntKind.i64.bits (192 : Int)).toNat : Int)) = (192 : Int)) then
                                some ((Path.mk (0 : Int) ([]) (0 : Int) (0 : Int)), (1 : Int), (Note.mk (0 : Int) (0 : Int) ([])))
                              else
                                bd (m_attr_number y17.Data) fun r18 =>
                                bif (!r18.2) then
                                  some ((Path.mk (0 : Int) ([]) (0 : Int) (0 : Int)), (1 : Int), (Note.mk (0 : Int) (0 : Int) ([])))
                                else
                                  some ((Path.mk i1.2 i2.2 r15.1 r18.1), (0 : Int), (Note.mk (0 : Int) (0 : Int) ([])))
                            else
                              some ((Path.mk i1.2 i2.2 r15.1 (0 : Int)), (0 : Int), (Note.mk (0 : Int) (0 : Int) ([])))) After := fun i1 i2 r15 h2 =>
      fork 35 _ _ (fun y hy => ok_if (fun _ => after_bad) fun _ => ok_bd (t_num _ (by omega)) fun _ _ _ => ok_ifnb (fun _ => after_bad) fun _ => ok0 h2) (ok0 h2)
    refine fork 1 _ _ (fun y hy => ok_if (fun _ => after_bad) fun _ => ok_jn (fun _ => True) (fun k hk => ok_if (fun _ => hk _ trivial) fun hl => ok_ix (by omega) (by omega) fun _ => ok_if (fun _ => hk _ trivial) fun _ => ok_ix (by omega) (by omega) fun _ => hk _ trivial) fun i1 _ => ok_ifnb (fun _ => after_bad) fun _ => ?_) after_bad
    refine fork 2 _ _ (fun y9 hy9 => ok_if (fun _ => after_bad) fun _ => ok_jn (fun j => j.2.length ≤ 10000) (fun k hk => ?_) fun i2 hi2 => ok_ifnb (fun _ => after_bad) fun _ => ?_) after_bad
    · refine ok_loop (fun st => st.1.length + st.2.length ≤ 10000) (fun st => st.1.length) (by simpa using hy9) (by dsimp only; omega) fun st hst nx hnx => ?_
      rw [s_attr_Judge2]
      refine ok_if (fun h0 => ok_bd (t_get _ 1 (by omega)) fun r10 _ h10 => ok_bd (t_get _ 1 (by omega)) fun r11 _ h11 => ok_if (fun _ => hk _ (by dsimp only; omega)) fun q1 => ok_if (fun _ => hk _ (by dsimp only; omega)) fun q2 => ?_) fun _ => hk _ (by dsimp only; omega)
      have g10 := h10.2.2 (by omega)
      have g11 := h11.2.2 q2
      refine ok_loop (fun s3 => 0 ≤ s3.2.1 ∧ s3.1.length + s3.2.2.length ≤ 9998 ∧ s3.1.length < st.1.length) (fun s3 => (9223372036854775807 - s3.2.1).toNat) ⟨Int.le_refl _, by dsimp only; omega, by dsimp only; omega⟩ (by dsimp only; omega) fun s3 hs3 nx3 hnx3 => ?_
      rw [s_attr_Judge3]
      refine ok_if (fun h3 => ok_bd (t_get _ 4 (by omega)) fun r12 _ h12 => ok_if (fun _ => hk _ (by dsimp only; omega)) fun q3 => ?_) fun _ => hnx _ (by dsimp only; omega) (by dsimp only; omega)
      have g12 := h12.2.2 q3
      refine ok_ap (by simp; omega) (by simp; omega) (hnx3 _ ?_ ?_)
      · simp only [List.length_append, List.length_singleton]
        rw [w64 (by omega) (by omega)]
        omega
      · dsimp only
        rw [w64 (by omega) (by omega)]
        omega
    · refine fork 3 _ _ (fun y14 hy14 => ok_if (fun _ => after_bad) fun _ => ok_bd (t_num _ (by omega)) fun r15 _ _ => ok_ifnb (fun _ => after_bad) fun _ => fork 4 _ _ (fun y16 hy16 => ok_if (fun _ => after_bad) fun _ => ok_ifn (fun _ => after_bad) fun _ => o35 i1 i2 r15 hi2) (o35 i1 i2 r15 hi2)) after_bad
end Go.Proofs.Ytgakgilaikgboaa
namespace Go.Proofs.Ytgakgilaikgboaa
open Go.RowKit
set_option linter.unusedVariables false
set_option linter.unusedSimpArgs false
set_option maxRecDepth 100000
set_option maxHeartbeats 1000000

/-- The first of each kind; nothing if one is fatal. -/
def gat : List (Int × Attr) → List Attr → Option (List (Int × Attr))
  | e, [] => some e
  | e, y :: ys => if (mget e y.Typ).isSome = true then gat e ys else if fatalB y = true then none else gat (e ++ [(y.Typ, y)]) ys
theorem set_new {e : List (Int × Attr)} {k : Int} {y : Attr} (h : mget e k = none) : msetL e k y = e ++ [(k, y)] := by
  rw [mget_eq] at h
  induction e with
  | nil => rfl
  | cons p e ih =>
    obtain ⟨a, b⟩ := p
    rw [List.find?_cons] at h
    rw [msetL]
    by_cases hk : a = k
    · rw [decide_eq_true hk] at h; cases h
    · rw [decide_eq_false hk] at h
      rw [if_neg hk, ih h]
      rfl
theorem mget_app {e : List (Int × Attr)} {k t : Int} {y z : Attr} (h : mget (e ++ [(k, y)]) t = some z) : mget e t = some z ∨ z = y := by
  rw [mget_eq, List.find?_append, Option.map_or] at h
  cases he : mget e t with
  | some w => rw [mget_eq] at he; rw [he] at h; exact .inl h
  | none =>
    rw [mget_eq] at he
    rw [he, Option.none_or, List.find?_cons] at h
    by_cases hk : k = t
    · rw [decide_eq_true hk] at h
      cases h
      exact .inr rfl
    · rw [decide_eq_false hk] at h
      cases h
/-- Lists that are few. -/
structure FewA (l : List Attr) : Prop where
  len : l.length ≤ 20
  data : ∀ y ∈ l, y.Data.length ≤ 2000
theorem t_fewA (l : List Attr) (hl : l.length ≤ 9223372036854775807) : Ok (m_ridgewayref07_Few l) fun b => b = true → FewA l := by
  unfold m_ridgewayref07_Few
  refine ok_idx l.length (fun j => ∀ i (h : i < l.length), i < j → l[i].Data.length ≤ 2000) hl (fun _ _ h => absurd h (Nat.not_lt_zero _)) (fun i hi hI nx hnx => ?_) (fun hI nx => ?_)
  · rw [s_ridgewayref07_Few1]
    refine ok_if (fun _ => ok_ix (by omega) (by omega) fun hlt => ok_if (fun _ => ok_some fun k => Bool.noConfusion k) fun h1 => hnx fun j hj hji => ?_) fun h => absurd (Int.ofNat_lt.2 hi) h
    simp only [Int.toNat_natCast] at h1
    rcases Nat.lt_succ_iff_lt_or_eq.1 hji with g | rfl
    · exact hI j hj g
    · omega
  · rw [s_ridgewayref07_Few1]
    refine ok_if (fun h => by omega) fun _ => ok_some fun k => ⟨by have := of_decide_eq_true k; omega, fun y hy => ?_⟩
    obtain ⟨i, h, rfl⟩ := List.getElem_of_mem hy
    exact hI i h h
/-- What is fatal. -/
def Fatal (r : Path × Int × Note) : Prop := r.1 = ⟨0, [], 0, 0⟩ ∧ r.2.1 = 2 ∧ r.2.2.Code = 3 ∧ r.2.2.Sub = 2
theorem t_judge {bk : List (Int × Attr) → Option (Path × Int × Note)} (h0 : ∀ l, m_attr_Judge l = loopC (s_attr_Judge1 l) bk BIG ((0 : Int), []))
    (ho : ∀ e : List (Int × Attr), (∀ t y, mget e t = some y → y.Data.length ≤ 10000) → Ok (bk e) After) (l : List Attr) (f : FewA l) :
    Ok (m_attr_Judge l) fun r => (gat [] l = none → Fatal r) ∧ ∀ e, gat [] l = some e → bk e = some r ∧ After r := by
  have hl := f.len
  rw [h0]
  refine ok_acc' l.length (fun i e => gat e (l.drop i) = gat [] l ∧ ∀ t y, mget e t = some y → y.Data.length ≤ 10000) (by omega) ⟨rfl, fun t y h => by rw [mget_eq] at h; cases h⟩ (fun i e hi hI nx hnx => ?_) (fun e hI nx => ?_)
  · obtain ⟨hI, hd⟩ := hI
    have hy := f.data _ (List.getElem_mem hi)
    rw [List.drop_eq_getElem_cons hi, gat] at hI
    rw [s_attr_Judge1]
    refine ok_if (fun _ => ok_ix (by dsimp only; omega) (by dsimp only; omega) fun hlt => ?_) fun h => absurd (Int.ofNat_lt.2 hi) h
    simp only [Int.toNat_natCast]
    rw [mhas_get]
    cases hg : mget e l[i].Typ with
    | some z =>
      rw [hg, if_pos (show (some z).isSome = true from rfl)] at hI
      rw [show (some z).isSome = true from rfl, cond_true]
      exact ok_bde rfl (hnx _ ⟨hI, hd⟩)
    | none =>
      rw [hg, if_neg (show ¬ (none : Option Attr).isSome = true by decide)] at hI
      rw [show (none : Option Attr).isSome = false from rfl, cond_false]
      refine ok_bde (ms_eq _ _ _) (ok_bde (fatal_eq _) (ok_ifb (fun hf => ?_) fun hf => hnx _ ⟨?_, fun t y h => ?_⟩))
      · rw [if_pos hf] at hI
        exact ok_bd (t_attrPut [] _ (by simp) (by omega)) fun r5 _ _ => ok_some ⟨fun _ => ⟨rfl, rfl, rfl, rfl⟩, fun e' he => by rw [← hI] at he; cases he⟩
      · rw [if_neg (by rw [hf]; decide)] at hI
        rw [set_new hg]
        exact hI
      · rw [set_new hg] at h
        rcases mget_app h with h | rfl
        · exact hd t y h
        · omega
  · obtain ⟨hI, hd⟩ := hI
    rw [List.drop_length, gat] at hI
    rw [s_attr_Judge1]
    refine ok_if (fun h => by dsimp only at h; omega) fun _ => ?_
    obtain ⟨r, e1, e2⟩ := ho e hd
    refine ⟨r, e1, fun h => ?_, fun e' he => ?_⟩
    · rw [← hI] at h; cases h
    · rw [← hI] at he
      cases he
      exact ⟨e1, e2⟩
theorem same_refl (p : Path) (h : p.As.length ≤ 10000) : m_ridgewayref07_SamePath p p = some true := by
  refine ok_true ?_
  unfold m_ridgewayref07_SamePath
  refine ok_if (fun h => absurd rfl h) fun _ => ok_if (fun h => absurd rfl h) fun _ => ok_if (fun h => absurd rfl h) fun _ => ok_if (fun h => absurd rfl h) fun _ => ok_idx p.As.length (fun _ => True) (by omega) trivial (fun i hi _ nx hnx => ?_) (fun _ nx => ?_)
  · rw [s_ridgewayref07_SamePath1]
    exact ok_if (fun _ => ok_ix (by omega) (by omega) fun _ => ok_ix (by omega) (by omega) fun _ => ok_if (fun h => absurd rfl h) fun _ => hnx trivial) fun h => absurd (Int.ofNat_lt.2 hi) h
  · rw [s_ridgewayref07_SamePath1]
    exact ok_if (fun h => by omega) fun _ => ok_some rfl
theorem law07_awake : m_ridgewaylaw07_awake = some true := by kernel_rfl
end Go.Proofs.Ytgakgilaikgboaa
namespace Go.Proofs.Ytgakgilaikgboaa
open Go.RowKit
set_option linter.unusedVariables false
set_option linter.unusedSimpArgs false
set_option maxRecDepth 100000
set_option maxHeartbeats 1000000

def c0 (f : Int) : Int := IntKind.i64.wrap ((BitVec.ofInt IntKind.i64.bits f &&& BitVec.ofInt IntKind.i64.bits (239 : Int)).toNat : Int)
def c1 (f : Int) : Int := IntKind.i64.wrap ((BitVec.ofInt IntKind.i64.bits f ||| BitVec.ofInt IntKind.i64.bits (16 : Int)).toNat : Int)
def b16 (f : Int) : Int := IntKind.i64.wrap ((BitVec.ofInt IntKind.i64.bits f &&& BitVec.ofInt IntKind.i64.bits (16 : Int)).toNat : Int)
def n16 (f : Int) : Int := IntKind.i64.wrap ((BitVec.ofInt IntKind.i64.bits f &&& ~~~ BitVec.ofInt IntKind.i64.bits (16 : Int)).toNat : Int)
theorem fl_fin : ∀ f : Fin 256, (0 ≤ c0 (f.val : Int) ∧ c0 (f.val : Int) ≤ 255) ∧ b16 (c0 (f.val : Int)) = 0 ∧ n16 (f.val : Int) = c0 (f.val : Int) ∧ (0 ≤ c1 (c0 (f.val : Int)) ∧ c1 (c0 (f.val : Int)) ≤ 255) ∧ ¬ b16 (c1 (c0 (f.val : Int))) = 0 := by decide
theorem fl_all (f : Int) (h : 0 ≤ f ∧ f ≤ 255) : (0 ≤ c0 f ∧ c0 f ≤ 255) ∧ b16 (c0 f) = 0 ∧ n16 f = c0 f ∧ (0 ≤ c1 (c0 f) ∧ c1 (c0 f) ≤ 255) ∧ ¬ b16 (c1 (c0 f)) = 0 := by
  have := fl_fin ⟨f.toNat, by omega⟩
  rwa [show ((f.toNat : Nat) : Int) = f by omega] at this
/-- The octets of an attribute. -/
def encA (y : Attr) : List UInt8 := putL y.Flags 1 ++ (putL y.Typ 1 ++ (putL (y.Data.length : Int) (if y.Data.length > 255 then 2 else 1) ++ y.Data))
/-- As it comes back. -/
def canon (y : Attr) : Attr := ⟨if y.Data.length > 255 then c1 (c0 y.Flags) else c0 y.Flags, y.Typ, y.Data⟩
structure Canon (y : Attr) : Prop where
  fl : 0 ≤ y.Flags ∧ y.Flags ≤ 255
  ty : 0 ≤ y.Typ ∧ y.Typ ≤ 255
  len : y.Data.length ≤ 65535
  bit : b16 y.Flags = 0 ↔ y.Data.length ≤ 255
theorem canon_ok (y : Attr) (hf : 0 ≤ y.Flags ∧ y.Flags ≤ 255) (ht : 0 ≤ y.Typ ∧ y.Typ ≤ 255) (hl : y.Data.length ≤ 65535) : Canon (canon y) := by
  obtain ⟨h1, h2, h3, h4, h5⟩ := fl_all y.Flags hf
  unfold canon
  by_cases h : y.Data.length > 255
  · rw [if_pos h]
    exact ⟨h4, ht, hl, ⟨fun k => absurd k h5, fun k => by dsimp only at k; omega⟩⟩
  · rw [if_neg h]
    exact ⟨h1, ht, hl, ⟨fun _ => by dsimp only; omega, fun _ => h2⟩⟩
theorem enc_len (y : Attr) : (encA y).length ≤ y.Data.length + 4 := by
  unfold encA
  simp only [List.length_append, putL_length]
  split <;> omega
theorem attrPut_eq (l : List UInt8) (y : Attr) (hb : l.length ≤ 1000000) (hf : 0 ≤ y.Flags ∧ y.Flags ≤ 255) (ht : 0 ≤ y.Typ ∧ y.Typ ≤ 255) (hl : y.Data.length ≤ 65535) : m_attr_Put l y = some (l ++ encA (canon y)) := by
  obtain ⟨h1, h2, h3, h4, h5⟩ := fl_all y.Flags hf
  refine (?_ : Ok (m_attr_Put l y) (· = l ++ encA (canon y))).elim fun x h => by rw [h.1, h.2]
  have p1 : ∀ v : Int, (putL v 1).length = 1 := fun v => putL_length v 1
  have p2 : ∀ v : Int, (putL v 2).length = 2 := fun v => putL_length v 2
  unfold m_attr_Put encA canon
  refine ok_bde (oct_eq _) (ok_ifnb (fun h => absurd (of_decide_eq_false h) (fun k => k ⟨hf.1, hf.2⟩)) fun _ => ok_bde (oct_eq _) (ok_ifnb (fun h => absurd (of_decide_eq_false h) (fun k => k ⟨ht.1, ht.2⟩)) fun _ => ok_if (fun h => by omega) fun _ => ok_if (fun h => ?_) fun h => ?_))
  · rw [if_pos (by omega), if_pos (by dsimp only; omega)]
    refine ok_bde (octPut_eq _ _ 1 (by omega) (by omega) (by omega)) (ok_bde (octPut_eq _ _ 1 (by omega) (by omega) (by simp [putL_length]; omega)) (ok_bde (octPut_eq _ _ 2 (by omega) (by omega) (by simp [putL_length]; omega)) (ok_ap (by simp [putL_length]; omega) (by simp [putL_length]; omega) (ok_some ?_))))
    show l ++ putL (c1 (n16 y.Flags)) 1 ++ putL y.Typ 1 ++ putL (y.Data.length : Int) 2 ++ y.Data = _
    rw [h3]
    simp only [List.append_assoc]
  · rw [if_neg (by omega), if_neg (by dsimp only; omega)]
    refine ok_bde (octPut_eq _ _ 1 (by omega) (by omega) (by omega)) (ok_bde (octPut_eq _ _ 1 (by omega) (by omega) (by simp [putL_length]; omega)) (ok_bde (octPut_eq _ _ 1 (by omega) (by omega) (by simp [putL_length]; omega)) (ok_ap (by simp [putL_length]; omega) (by simp [putL_length]; omega) (ok_some ?_))))
    show l ++ putL (n16 y.Flags) 1 ++ putL y.Typ 1 ++ putL (y.Data.length : Int) 1 ++ y.Data = _
    rw [h3]
    simp only [List.append_assoc]
theorem attrPut_no (l : List UInt8) (y : Attr) (h : ¬ ((0 ≤ y.Flags ∧ y.Flags ≤ 255) ∧ (0 ≤ y.Typ ∧ y.Typ ≤ 255))) : m_attr_Put l y = some l := by
  refine (?_ : Ok (m_attr_Put l y) (· = l)).elim fun x h => by rw [h.1, h.2]
  unfold m_attr_Put
  refine ok_bde (oct_eq _) (ok_ifnb (fun _ => ok_some rfl) fun h1 => ok_bde (oct_eq _) (ok_ifnb (fun _ => ok_some rfl) fun h2 => ?_))
  exact absurd ⟨of_decide_eq_true h1, of_decide_eq_true h2⟩ h
theorem get_put (v : Int) (k : Nat) (t : List UInt8) (a : Int) (ha : a = (k : Int)) (hk : 1 ≤ k ∧ k ≤ 4) (hv : 0 ≤ v ∧ v < (256 : Int) ^ k) : m_octet_Get (putL v k ++ t) a = some (v, t, true) := by
  subst ha
  rw [octGet_eq _ _ (by omega) (by omega), if_pos (by rw [List.length_append, putL_length]; omega)]
  simp only [Int.toNat_natCast]
  rw [List.take_append_of_le_length (by rw [putL_length]; omega), List.take_of_length_le (by rw [putL_length]; omega), List.drop_append_of_le_length (by rw [putL_length]; omega), List.drop_of_length_le (by rw [putL_length]; omega), num_putL, Int.emod_eq_of_lt hv.1 hv.2]
  rfl
theorem attrGet_eq (y : Attr) (t : List UInt8) (c : Canon y) : m_attr_Get (encA y ++ t) = some (y, t, true) := by
  obtain ⟨hf, ht, hl, hb⟩ := c
  refine (?_ : Ok (m_attr_Get (encA y ++ t)) (· = (y, t, true))).elim fun x h => by rw [h.1, h.2]
  have tk : m_octet_Take (y.Data ++ t) (y.Data.length : Int) = some (y.Data, t, true) := by
    rw [octTake_eq, if_pos (by simp only [List.length_append]; omega)]
    simp
  unfold m_attr_Get encA
  simp only [List.append_assoc]
  refine ok_bde (get_put _ 1 _ 1 rfl (by omega) (by omega)) (ok_bde (get_put _ 1 _ 1 rfl (by omega) (by omega)) (ok_jn (fun j => j = if y.Data.length > 255 then 2 else 1) (fun k hk => ok_if (fun h => hk _ ?_) fun h => hk _ ?_) fun j hj => ?_))
  · have : ¬ b16 y.Flags = 0 := h
    rw [if_pos (by omega)]
  · have : b16 y.Flags = 0 := Decidable.not_not.1 h
    rw [if_neg (by omega)]
  · refine ok_bde (x := ((y.Data.length : Int), y.Data ++ t, true)) ?_ (ok_bde tk (ok_ifnb (fun h => Bool.noConfusion h) fun _ => ok_ifnb (fun h => Bool.noConfusion h) fun _ => ok_some rfl))
    rw [hj]
    split
    · exact get_put _ 2 _ 2 rfl (by omega) (by omega)
    · exact get_put _ 1 _ 1 rfl (by omega) (by omega)
theorem enc_pos (y : Attr) : 0 < (encA y).length := by
  unfold encA
  simp only [List.length_append, putL_length]
  omega
theorem attrAll_eq (L : List Attr) (hc : ∀ y ∈ L, Canon y) (hl : L.length ≤ 1000) : m_attr_All (L.flatMap encA) = some (L, true) := by
  refine (?_ : Ok (m_attr_All (L.flatMap encA)) (· = (L, true))).elim fun x h => by rw [h.1, h.2]
  unfold m_attr_All
  refine ok_loop (fun st => ∃ i : Nat, i ≤ L.length ∧ st.1 = (L.drop i).flatMap encA ∧ st.2 = L.take i) (fun st => L.length - st.2.length) ⟨0, Nat.zero_le _, rfl, rfl⟩ (by dsimp only; omega) ?_
  rintro ⟨_, _⟩ ⟨i, hi, rfl, rfl⟩ nx hnx
  rw [s_attr_All1]
  dsimp only at hnx ⊢
  by_cases hlt : i < L.length
  · rw [List.drop_eq_getElem_cons hlt, List.flatMap_cons]
    have := enc_pos L[i]
    refine ok_if (fun _ => ok_bde (attrGet_eq _ _ (hc _ (List.getElem_mem hlt))) (ok_ifnb (fun h => Bool.noConfusion h) fun _ => ok_ap (by simp; omega) (by simp; omega) (hnx _ ⟨i + 1, hlt, rfl, List.take_append_getElem hlt⟩ ?_))) fun h => absurd (by simp only [List.length_append]; omega) h
    simp only [List.length_append, List.length_take, List.length_singleton]
    omega
  · rw [List.drop_of_length_le (by omega), List.take_of_length_le (by omega)]
    exact ok_if (fun h => absurd h (by simp)) fun _ => ok_some rfl
theorem sameA_refl (l : List Attr) (hl : l.length ≤ 1000) : m_ridgewayref07_Same l l = some true := by
  refine ok_true ?_
  unfold m_ridgewayref07_Same
  refine ok_if (fun h => absurd rfl h) fun _ => ok_idx l.length (fun _ => True) (by omega) trivial (fun i hi _ nx hnx => ?_) (fun _ nx => ?_)
  · rw [s_ridgewayref07_Same1]
    have x1 : ∀ {k : Attr → Option Bool}, (∀ hlt, Ok (k (l[i]'hlt)) (· = true)) → Ok (bd (ix l (i : Int)) k) (· = true) := fun hk => ok_ix (by omega) (by omega) fun _ => by simp only [Int.toNat_natCast]; exact hk hi
    exact ok_if (fun _ => x1 fun _ => x1 fun _ => ok_if (fun h => absurd rfl h) fun _ => x1 fun _ => x1 fun _ => ok_if (fun h => absurd rfl h) fun _ => x1 fun _ => x1 fun _ => ok_ifnb (fun h => by simp at h) fun _ => hnx trivial) fun h => absurd (Int.ofNat_lt.2 hi) h
  · rw [s_ridgewayref07_Same1]
    exact ok_if (fun h => by omega) fun _ => ok_some rfl
end Go.Proofs.Ytgakgilaikgboaa
namespace Go.Proofs.Ytgakgilaikgboaa
open Go.RowKit
set_option linter.unusedVariables false
set_option linter.unusedSimpArgs false
set_option maxRecDepth 100000
set_option maxHeartbeats 1000000

theorem attrBack_true (l : List Attr) (hl : l.length ≤ 9223372036854775807) : m_ridgewaylaw07_AttrBack l = some true := by
  refine ok_true ?_
  unfold m_ridgewaylaw07_AttrBack
  refine ok_bde law07_awake (ok_bd (t_fewA l hl) fun b _ hb => ok_ifnb (fun _ => ok_some rfl) fun h => ?_)
  have f := hb h
  have hlen := f.len
  refine ok_loop (fun st => ∃ j : Nat, st.2.2 = (j : Int) ∧ j ≤ l.length ∧ st.1 = st.2.1.flatMap encA ∧ st.1.length ≤ j * 3000 ∧ st.2.1.length ≤ j ∧ ∀ y ∈ st.2.1, Canon y) (fun st => ((l.length : Int) - st.2.2).toNat) ⟨0, rfl, Nat.zero_le _, rfl, by simp, by simp, fun y h => by cases h⟩ (by dsimp only; omega) ?_
  rintro ⟨b, L, _⟩ ⟨j, rfl, hj, hbl, hbs, hLl, hcan⟩ nx hnx
  dsimp only at hbl hbs hLl hcan hnx
  rw [s_ridgewaylaw07_AttrBack1]
  dsimp only
  by_cases hlt : j < l.length
  · have hy := f.data _ (List.getElem_mem hlt)
    have hw : IntKind.i64.wrap ((j : Int) + 1) = ((j + 1 : Nat) : Int) := by rw [w64 (by omega) (by omega)]; rfl
    have x1 : ∀ {k : Attr → Option Bool}, Ok (k l[j]) (· = true) → Ok (bd (ix l (j : Int)) k) (· = true) := fun hk => ok_ix (by omega) (by omega) fun _ => by simp only [Int.toNat_natCast]; exact hk
    have same : Ok (nx (b, L, IntKind.i64.wrap ((j : Int) + 1))) (· = true) := hnx _ ⟨j + 1, hw, hlt, hbl, by dsimp only; omega, by dsimp only; omega, hcan⟩ (by dsimp only; rw [hw]; omega)
    refine ok_if (fun _ => x1 ?_) fun h => absurd (Int.ofNat_lt.2 hlt) h
    by_cases hok : (0 ≤ l[j].Flags ∧ l[j].Flags ≤ 255) ∧ (0 ≤ l[j].Typ ∧ l[j].Typ ≤ 255)
    · obtain ⟨hf, ht⟩ := hok
      refine ok_bde (attrPut_eq b _ (by omega) hf ht (by omega)) (x1 (ok_if (fun h => by omega) fun _ => ok_if (fun h => by omega) fun _ => ok_if (fun h => by omega) fun _ => ok_if (fun h => by omega) fun _ => ?_))
      have hen := enc_len (canon l[j])
      have hcd : (canon l[j]).Data = l[j].Data := rfl
      have go : ∀ z, z = canon l[j] → Ok (bd (ap 40 L [z]) fun y => nx (b ++ encA (canon l[j]), y, IntKind.i64.wrap ((j : Int) + 1))) (· = true) := fun z hz => by
        subst hz
        refine ok_ap (by simp; omega) (by simp; omega) (hnx _ ⟨j + 1, hw, hlt, ?_, ?_, ?_, fun y hy => ?_⟩ (by dsimp only; rw [hw]; omega))
        · dsimp only
          rw [List.flatMap_append, ← hbl]
          simp
        · simp only [List.length_append]
          rw [hcd] at hen
          omega
        · simp only [List.length_append, List.length_singleton]
          omega
        · rcases List.mem_append.1 hy with hy | hy
          · exact hcan y hy
          · rw [List.mem_singleton.1 hy]
            exact canon_ok _ hf ht (by omega)
      refine ok_if (fun h => go _ ?_) fun h => go _ ?_
      · unfold canon
        rw [if_pos (by omega)]
        rfl
      · unfold canon
        rw [if_neg (by omega)]
        rfl
    · refine ok_bde (attrPut_no b _ hok) (x1 ?_)
      have eq : Ok (bif (!(b == b)) then some false else nx (b, L, IntKind.i64.wrap ((j : Int) + 1))) (· = true) := ok_ifnb (fun h => by simp at h) fun _ => same
      exact ok_if (fun _ => eq) fun h1 => ok_if (fun _ => eq) fun h2 => ok_if (fun _ => eq) fun h3 => ok_if (fun _ => eq) fun h4 => absurd ⟨⟨by omega, by omega⟩, ⟨by omega, by omega⟩⟩ hok
  · refine ok_if (fun h => by omega) fun _ => ?_
    rw [hbl]
    exact ok_bde (attrAll_eq L hcan (by omega)) (ok_ifb (fun _ => ok_ifb (fun _ => ok_bde (sameA_refl L (by omega)) (ok_some rfl)) fun h => Bool.noConfusion h) fun h => Bool.noConfusion h)
end Go.Proofs.Ytgakgilaikgboaa
