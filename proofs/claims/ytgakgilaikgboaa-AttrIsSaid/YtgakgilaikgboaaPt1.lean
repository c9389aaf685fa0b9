/- What the models come to. -/
import Derived.Test.YtgakgilaikgboaaPu0
import Derived.Test.YtgakgilaikgboaaMt1
import Derived.Test.YtgakgilaikgboaaQ0
import Derived.KernelRfl
namespace Go.Proofs.Ytgakgilaikgboaa
open Go.RowKit
set_option linter.unusedVariables false
set_option linter.unusedSimpArgs false

theorem octTake_eq (l : List UInt8) (n : Int) : m_octet_Take l n = some (if 0 ≤ n ∧ n ≤ l.length then (l.take n.toNat, l.drop n.toNat, true) else ([], [], false)) := by
  unfold m_octet_Take
  by_cases h1 : n < 0
  · rw [decide_eq_true h1, cond_true, if_neg (by omega)]
  rw [decide_eq_false h1, cond_false]
  by_cases h2 : n > (l.length : Int)
  · rw [decide_eq_true h2, cond_true, if_neg (by omega)]
  rw [decide_eq_false h2, cond_false, sl_pre (by omega), bd_some, sl_all (by omega), bd_some, if_pos (by omega)]
theorem octGet_eq (l : List UInt8) (a : Int) (h1 : 1 ≤ a) (h4 : a ≤ 4) : m_octet_Get l a = some (if a ≤ l.length then (((num (l.take a.toNat) : Nat) : Int), l.drop a.toNat, true) else (0, [], false)) := by
  unfold m_octet_Get
  rw [decide_eq_false (by omega), cond_false, decide_eq_false (by omega), cond_false, octTake_eq, bd_some]
  by_cases hk : a ≤ l.length
  · rw [if_pos (by omega), if_pos hk]
    refine loopC_ind (fun st => ∃ j : Nat, j ≤ a.toNat ∧ st = (((num (l.take j) : Nat) : Int), (j : Int))) (fun st => (a - st.2).toNat) ?_ _ _ ⟨0, Nat.zero_le _, by simp [num]⟩ (big_lt (by simp; omega))
    rintro st ⟨j, hj, rfl⟩ nx hnx
    unfold s_octet_Get1
    have hlen : (l.take a.toNat).length = a.toNat := by rw [List.length_take]; omega
    simp only [hlen]
    by_cases hlt : j < a.toNat
    · rw [decide_eq_true (by omega), cond_true, ix_nat (by rw [hlen]; exact hlt), bd_some, List.getElem_take]
      have hb : l[j].toNat < 256 := l[j].toNat_lt
      have hnl : num (l.take j) < 16777216 := by
        have := num_lt (l.take j)
        have : 256 ^ (l.take j).length ≤ 256 ^ 3 := Nat.pow_le_pow_right (by omega) (by rw [List.length_take]; omega)
        omega
      have e1 : IntKind.i64.wrap ((num (l.take j) : Nat) * 2 ^ (min (8 : Int).toNat IntKind.i64.bits) : Int) = (num (l.take j) : Nat) * 256 := by
        rw [show (2 : Int) ^ (min (8 : Int).toNat IntKind.i64.bits) = 256 from rfl, w64 (by omega) (by omega)]
      have e2 : IntKind.i64.wrap (l[j].toNat : Int) = l[j].toNat := w64 (by omega) (by omega)
      have e3 := or_byte (num (l.take j)) l[j].toNat hb hnl
      simp only [bits] at e3
      have e4 := num_step l j (by omega)
      rw [e1, e2, e3, ← e4, w64 (by omega) (by omega)]
      exact hnx _ ⟨j + 1, by omega, by simp⟩ (by simp; omega)
    · obtain rfl : j = a.toNat := by omega
      rw [decide_eq_false (by omega), cond_false]
  · rw [if_neg (by omega), if_neg hk]
    rw [show BIG = (BIG - 1) + 1 from rfl, loopC_succ]
    rfl
theorem u8_fdiv' (v : Int) (j : Nat) (h : j ≤ 3) : toB (IntKind.u8.wrap (v.fdiv (2 ^ (min (8 * j) 64)))) = octAt v j := by
  have : v.fdiv (2 ^ (8 * j)) = v / 2 ^ (8 * j) := by
    rw [Int.fdiv_eq_ediv_of_nonneg]
    exact Int.le_of_lt (Int.pow_pos (by decide))
  rw [Nat.min_eq_left (by omega), this, u8wrap_eq]
  rfl
theorem octPut_eq (l : List UInt8) (v a : Int) (h1 : 1 ≤ a) (h4 : a ≤ 4) (hl : l.length ≤ 140737488355000) : m_octet_Put l v a = some (l ++ putL v a.toNat) := by
  unfold m_octet_Put
  rw [decide_eq_false (by omega), cond_false, decide_eq_false (by omega), cond_false, sl_pre (by omega), bd_some, Int.toNat_natCast, List.take_length]
  refine loopC_ind (fun st => ∃ j : Nat, j ≤ a.toNat ∧ st = (l ++ (putL v a.toNat).take j, (j : Int))) (fun st => (a - st.2).toNat) ?_ _ _ ⟨0, Nat.zero_le _, by simp⟩ (big_lt (by simp; omega))
  rintro st ⟨j, hj, rfl⟩ nx hnx
  unfold s_octet_Put1
  by_cases hlt : j < a.toNat
  · rw [decide_eq_true (by simp only; omega), cond_true]
    have e1 : IntKind.i64.wrap (8 * IntKind.i64.wrap (IntKind.i64.wrap (a - 1) - (j : Int))) = ((8 * (a.toNat - 1 - j) : Nat) : Int) := by
      rw [w64 (x := a - 1) (by omega) (by omega), w64 (x := a - 1 - (j : Int)) (by omega) (by omega), w64 (by omega) (by omega)]
      omega
    simp only [e1]
    rw [nn_some (by omega), Int.toNat_natCast, show IntKind.i64.bits = 64 from rfl, u8_fdiv' v _ (by omega), ap_some (by simp; omega) (by simp; omega), bd_some, w64 (by omega) (by omega), List.append_assoc, ← putL_step v a.toNat j hlt]
    exact hnx _ ⟨j + 1, by omega, by simp⟩ (by simp; omega)
  · obtain rfl : j = a.toNat := by omega
    rw [decide_eq_false (by simp only; omega), cond_false, List.take_of_length_le (by rw [putL_length]; exact Nat.le_refl _)]
end Go.Proofs.Ytgakgilaikgboaa
namespace Go.Proofs.Ytgakgilaikgboaa
open Go.RowKit
set_option linter.unusedVariables false
set_option linter.unusedSimpArgs false
set_option maxRecDepth 100000
set_option maxHeartbeats 1000000

theorem wrap_rng (x : Int) : -9223372036854775808 ≤ IntKind.i64.wrap x ∧ IntKind.i64.wrap x ≤ 9223372036854775807 := by
  rw [IntKind.wrap_i64]
  omega
def takeR (l : List UInt8) (n : Int) : List UInt8 × List UInt8 × Bool := if 0 ≤ n ∧ n ≤ l.length then (l.take n.toNat, l.drop n.toNat, true) else ([], [], false)
theorem take_eq (l : List UInt8) (n : Int) : m_octet_Take l n = some (takeR l n) := by
  refine (?_ : Ok (m_octet_Take l n) (· = takeR l n)).elim fun x h => by rw [h.1, h.2]
  unfold m_octet_Take takeR
  refine ok_if (fun h => ok_some (by rw [if_neg (by omega)])) fun h => ok_if (fun h2 => ok_some (by rw [if_neg (by omega)])) fun h2 => ok_bde (sl_pre (by omega)) (ok_bde (sl_all (by omega)) (ok_some (by rw [if_pos (by omega)])))
theorem t_get (l : List UInt8) (n : Int) (hl : l.length ≤ 1000000) : Ok (m_octet_Get l n) fun r => r.2.1.length ≤ l.length ∧ (-9223372036854775808 ≤ r.1 ∧ r.1 ≤ 9223372036854775807) ∧ (¬ r.1 = 0 → 1 ≤ n ∧ n ≤ 4 ∧ r.2.1.length + n.toNat = l.length) := by
  unfold m_octet_Get
  refine ok_if (fun h => ok_some ⟨Nat.zero_le _, by simp, fun k => absurd rfl k⟩) fun h => ok_if (fun h2 => ok_some ⟨Nat.zero_le _, by simp, fun k => absurd rfl k⟩) fun h2 => ok_bde (take_eq _ _) ?_
  unfold takeR
  by_cases hn : 0 ≤ n ∧ n ≤ l.length
  · rw [if_pos hn]
    have ht : (l.take n.toNat).length = n.toNat := by rw [List.length_take]; omega
    have hd : (l.drop n.toNat).length = l.length - n.toNat := List.length_drop
    refine ok_acc n.toNat (fun _ b => -9223372036854775808 ≤ b ∧ b ≤ 9223372036854775807) (by omega) (by simp) (fun i b hi hI nx hnx => ?_) (fun b hI nx => ?_)
    · rw [s_octet_Get1]
      exact ok_if (fun _ => ok_ix (by dsimp only; omega) (by dsimp only; omega) fun hlt => hnx _ (wrap_rng _)) fun h => absurd (show (i : Int) < ((l.take n.toNat).length : Int) by omega) h
    · rw [s_octet_Get1]
      exact ok_if (fun h => absurd h (by dsimp only; omega)) fun _ => ok_some ⟨by dsimp only; omega, hI, fun _ => ⟨by omega, by omega, by dsimp only; omega⟩⟩
  · rw [if_neg hn]
    refine ok_acc 0 (fun _ b => b = 0) (by omega) rfl (fun i b hi hI nx hnx => by omega) (fun b hI nx => ?_)
    rw [s_octet_Get1]
    exact ok_if (fun h => absurd h (by simp)) fun _ => ok_some ⟨Nat.zero_le _, by dsimp only; omega, fun k => absurd hI k⟩
theorem t_put (l : List UInt8) (v n : Int) (hl : l.length ≤ 1000000) : Ok (m_octet_Put l v n) fun r => r.length ≤ l.length + 4 := by
  unfold m_octet_Put
  refine ok_if (fun _ => ok_some (by omega)) fun h1 => ok_if (fun _ => ok_some (by omega)) fun h2 => ok_bde (sl_pre (by omega)) ?_
  rw [Int.toNat_natCast, List.take_length]
  refine ok_acc n.toNat (fun i b => b.length = l.length + i) (by omega) rfl (fun i b hi hI nx hnx => ?_) (fun b hI nx => ?_)
  · rw [s_octet_Put1]
    refine ok_if (fun _ => ?_) fun h => absurd (show (i : Int) < n by omega) h
    have hw : 0 ≤ IntKind.i64.wrap ((8 : Int) * (IntKind.i64.wrap ((IntKind.i64.wrap (n - (1 : Int))) - (i : Int)))) := by
      rw [w64 (x := n - 1) (by omega) (by omega), w64 (x := n - 1 - i) (by omega) (by omega), w64 (by omega) (by omega)]
      omega
    dsimp only
    rw [nn_some hw]
    exact ok_ap (by simp; omega) (by simp; omega) (hnx _ (by simp; omega))
  · rw [s_octet_Put1]
    exact ok_if (fun h => absurd h (by dsimp only; omega)) fun _ => ok_some (by dsimp only; omega)
theorem oct_eq (n : Int) : m_attr_octetSized n = some (decide (0 ≤ n ∧ n ≤ 255)) := by
  refine (?_ : Ok (m_attr_octetSized n) (· = decide (0 ≤ n ∧ n ≤ 255))).elim fun x h => by rw [h.1, h.2]
  unfold m_attr_octetSized
  refine ok_if (fun h => ok_some ?_) fun h => ok_some ?_
  · by_cases h2 : n ≤ 255
    · rw [decide_eq_true h2, decide_eq_true (by omega)]
    · rw [decide_eq_false h2, decide_eq_false (by omega)]
  · rw [decide_eq_false (by omega)]
theorem t_attrPut (l : List UInt8) (y : Attr) (hl : l.length ≤ 500000) (hy : y.Data.length ≤ 10000) : Ok (m_attr_Put l y) fun r => r.length ≤ l.length + 12 + y.Data.length := by
  unfold m_attr_Put
  refine ok_bde (oct_eq _) (ok_ifnb (fun _ => ok_some (by omega)) fun h1 => ok_bde (oct_eq _) (ok_ifnb (fun _ => ok_some (by omega)) fun h2 => ok_if (fun h => by omega) fun _ => ok_if (fun h => ?_) fun h => ?_))
  · exact ok_bd (t_put _ _ _ (by omega)) fun r3 _ h3 => ok_bd (t_put _ _ _ (by omega)) fun r4 _ h4 => ok_bd (t_put _ _ _ (by omega)) fun r5 _ h5 => ok_ap (by omega) (by omega) (ok_some (by simp; omega))
  · exact ok_bd (t_put _ _ _ (by omega)) fun r3 _ h3 => ok_bd (t_put _ _ _ (by omega)) fun r4 _ h4 => ok_bd (t_put _ _ _ (by omega)) fun r5 _ h5 => ok_ap (by omega) (by omega) (ok_some (by simp; omega))
def fatalB (y : Attr) : Bool := (m_attr_fatal y).getD false
theorem fatal_eq (y : Attr) : m_attr_fatal y = some (fatalB y) := by
  have h : Ok (m_attr_fatal y) fun _ => True := by
    unfold m_attr_fatal
    exact ok_if (fun _ => ok_if (fun _ => ok_some trivial) fun _ => ok_ifnb (fun _ => ok_some trivial) fun _ => ok_some trivial) fun _ => ok_ifnb (fun _ => ok_some trivial) fun _ => ok_some trivial
  obtain ⟨b, e, _⟩ := h
  unfold fatalB
  rw [e]
  rfl
theorem t_num (l : List UInt8) (hl : l.length ≤ 1000000) : Ok (m_attr_number l) fun _ => True := by
  unfold m_attr_number
  exact ok_bd (t_get l 4 hl) fun r1 _ h1 => ok_if (fun _ => ok_some trivial) fun _ => ok_some trivial
theorem if_cong {R : Type} {b : Bool} {A A' B B' : R} (h1 : A = A') (h2 : b = false → B = B') : (bif b then A else B) = bif b then A' else B' := by
  cases b
  · exact h2 rfl
  · exact h1
theorem if_cong1 {R : Type} {b : Bool} {A A' B B' : R} (h1 : b = true → A = A') (h2 : B = B') : (bif b then A else B) = bif b then A' else B' := by
  cases b
  · exact h2
  · exact h1 rfl
theorem bd_cong {α R : Type} {m m' : Option α} {k k' : α → Option R} (h : m = m') (h2 : ∀ x, k x = k' x) : bd m k = bd m' k' := by
  rw [h, funext h2]
theorem jn_cong {τ R : Type} {i : Nat} {f f' : (τ → Option R) → Option R} {k k' : τ → Option R} (h : ∀ k, f k = f' k) (h2 : ∀ x, k x = k' x) : jn i f k = jn i f' k' := by
  rw [funext h, funext h2]
/-- What a flag says, and what else an attribute holds. -/
def view (y : Attr) : Int × List UInt8 := (IntKind.i64.wrap ((BitVec.ofInt IntKind.i64.bits y.Flags &&& BitVec.ofInt IntKind.i64.bits (192 : Int)).toNat : Int), y.Data)
/-- What is made of a list with no fatal attribute. -/
def After (r : Path × Int × Note) : Prop := (r.2.1 = 0 ∨ r.2.1 = 1) ∧ r.2.2 = ⟨0, 0, []⟩ ∧ r.1.As.length ≤ 10000
def bad2 : Path × Int × Note := (⟨0, [], 0, 0⟩, 1, ⟨0, 0, []⟩)
theorem after_bad : Ok (some bad2) After := ok_some ⟨.inr rfl, rfl, Nat.zero_le _⟩
theorem judge_ex : ∃ bk : List (Int × Attr) → Option (Path × Int × Note), (∀ l, m_attr_Judge l = loopC (s_attr_Judge1 l) bk BIG ((0 : Int), [])) ∧
    (∀ e e' : List (Int × Attr), (∀ t, (mget e t).map view = (mget e' t).map view) → bk e = bk e') ∧
    (∀ e : List (Int × Attr), (∀ t y, mget e t = some y → y.Data.length ≤ 10000) → Ok (bk e) After) := by
  refine ⟨_, fun l => by unfold m_attr_Judge; rfl, fun e e' h => ?_, fun e h => ?_⟩
  · have key : ∀ t, (∃ y y', mget e t = some y ∧ mget e' t = some y' ∧ mhas e t = true ∧ mhas e' t = true ∧ (IntKind.i64.wrap ((BitVec.ofInt IntKind.i64.bits y.Flags &&& BitVec.ofInt IntKind.i64.bits (192 : Int)).toNat : Int)) = (IntKind.i64.wrap ((BitVec.ofInt IntKind.i64.bits y'.Flags &&& BitVec.ofInt IntKind.i64.bits (192 : Int)).toNat : Int)) ∧ y.Data = y'.Data) ∨ (mhas e t = false ∧ mhas e' t = false) := fun t => by
      have ht := h t
      rw [mhas_get, mhas_get]
      cases h1 : mget e t with
      | none =>
        cases h2 : mget e' t with
        | none => exact .inr ⟨rfl, rfl⟩
        | some y' => rw [h1, h2] at ht; cases ht
      | some y =>
        cases h2 : mget e' t with
        | none => rw [h1, h2] at ht; cases ht
        | some y' =>
          rw [h1, h2] at ht
          simp only [Option.map_some, Option.some.injEq, view, Prod.mk.injEq] at ht
          exact .inl ⟨y, y', rfl, rfl, rfl, rfl, ht.1, ht.2⟩
    have cg : ∀ (t : Int) (F F' : Attr → Option (Path × Int × Note)) (A : Option (Path × Int × Note)), (∀ y y' : Attr, (IntKind.i64.wrap ((BitVec.ofInt IntKind.i64.bits y.Flags &&& BitVec.ofInt IntKind.i64.bits (192 : Int)).toNat : Int)) = (IntKind.i64.wrap ((BitVec.ofInt IntKind.i64.bits y'.Flags &&& BitVec.ofInt IntKind.i64.bits (192 : Int)).toNat : Int)) → y.Data = y'.Data → F y = F' y') →
        (bif mhas e t then bd (mget e t) F else A) = (bif mhas e' t then bd (mget e' t) F' else A) := fun t F F' A hF => by
      rcases key t with ⟨y, y', h1, h2, h3, h4, h5, h6⟩ | ⟨h1, h2⟩
      · rw [h1, h2, h3, h4, cond_true, cond_true, bd_some, bd_some, hF y y' h5 h6]
      · rw [h1, h2, cond_false, cond_false]
    refine cg 1 _ _ _ fun y y' h1 h2 => ?_
    rw [h1, h2]
    refine if_cong rfl fun _ => jn_cong (fun _ => rfl) fun i1 => if_cong rfl fun _ => cg 2 _ _ _ fun y9 y9' h1 h2 => ?_
    rw [h1, h2]
    refine if_cong rfl fun _ => jn_cong (fun _ => rfl) fun i2 => if_cong rfl fun _ => cg 3 _ _ _ fun y14 y14' h1 h2 => ?_
    rw [h1, h2]
    refine if_cong rfl fun _ => bd_cong rfl fun r15 => if_cong rfl fun _ => ?_
    rcases key 4 with ⟨y, y', k1, k2, k3, k4, k5, k6⟩ | ⟨k1, k2⟩
    · rw [k1, k2, k3, k4, cond_true, cond_true, bd_some, bd_some, k5, k6]
      refine if_cong rfl fun _ => if_cong rfl fun _ => cg 35 _ _ _ fun y17 y17' h1 h2 => ?_
      rw [h1, h2]
    · rw [k1, k2, cond_false, cond_false]
      refine cg 35 _ _ _ fun y17 y17' h1 h2 => ?_
      rw [h1, h2]
  · have fork : ∀ (t : Int) (F : Attr → Option (Path × Int × Note)) (A : Option (Path × Int × Note)), (∀ y : Attr, y.Data.length ≤ 10000 → Ok (F y) After) → Ok A After → Ok (bif mhas e t then bd (mget e t) F else A) After := fun t F A hF hA => by
      rw [mhas_get]
      cases h1 : mget e t with
      | none => exact hA
      | some y =>
        rw [bd_some]
        exact hF y (h t y h1)
    have ok0 : ∀ {p : Path}, p.As.length ≤ 10000 → Ok (some (p, (0 : Int), (⟨0, 0, []⟩ : Note))) After := fun hp => ok_some ⟨.inl rfl, rfl, hp⟩
    have o35 : ∀ (i1 : Bool × Int) (i2 : Bool × List Int) (r15 : Int × Bool), i2.2.length ≤ 10000 → Ok (bif mhas e (35 : Int) then
                            bd (mget e (35 : Int)) fun y17 =>
                              bif decide (¬ (IntKind.i64.wrap ((BitVec.ofInt IntKind.i64.bits y17.Flags &&& BitVec.ofInt IntKind.i64.bits (192 : Int)).toNat : Int)) = (192 : Int)) then
                                some ((Path.mk (0 : Int) ([]) (0 : Int) (0 : Int)), (1 : Int), (Note.mk (0 : Int) (0 : Int) ([])))
                              else
                                bd (m_attr_number y17.Data) fun r18 =>
                                bif (!r18.2) then
                                  some ((Path.mk (0 : Int) ([]) (0 : Int) (0 : Int)), (1 : Int), (Note.mk (0 : Int) (0 : Int) ([])))
                                else
                                  some ((Path.mk i1.2 i2.2 r15.1 r18.1), (0 : Int), (Note.mk (0 : Int) (0 : Int) ([])))
                            else
                              some ((Path.mk i1.2 i2.2 r15.1 (0 : Int)), (0 : Int), (Note.mk (0 : Int) (0 : Int) ([])))) After := fun i1 i2 r15 h2 =>
      fork 35 _ _ (fun y hy => ok_if (fun _ => after_bad) fun _ => ok_bd (t_num _ (by omega)) fun _ _ _ => ok_ifnb (fun _ => after_bad) fun _ => ok0 h2) (ok0 h2)
    refine fork 1 _ _ (fun y hy => ok_if (fun _ => after_bad) fun _ => ok_jn (fun _ => True) (fun k hk => ok_if (fun _ => hk _ trivial) fun hl => ok_ix (by omega) (by omega) fun _ => ok_if (fun _ => hk _ trivial) fun _ => ok_ix (by omega) (by omega) fun _ => hk _ trivial) fun i1 _ => ok_ifnb (fun _ => after_bad) fun _ => ?_) after_bad
    refine fork 2 _ _ (fun y9 hy9 => ok_if (fun _ => after_bad) fun _ => ok_jn (fun j => j.2.length ≤ 10000) (fun k hk => ?_) fun i2 hi2 => ok_ifnb (fun _ => after_bad) fun _ => ?_) after_bad
    · refine ok_loop (fun st => st.1.length + st.2.length ≤ 10000) (fun st => st.1.length) (by simpa using hy9) (by dsimp only; omega) fun st hst nx hnx => ?_
      rw [s_attr_Judge2]
      refine ok_if (fun h0 => ok_bd (t_get _ 1 (by omega)) fun r10 _ h10 => ok_bd (t_get _ 1 (by omega)) fun r11 _ h11 => ok_if (fun _ => hk _ (by dsimp only; omega)) fun q1 => ok_if (fun _ => hk _ (by dsimp only; omega)) fun q2 => ?_) fun _ => hk _ (by dsimp only; omega)
      have g10 := h10.2.2 (by omega)
      have g11 := h11.2.2 q2
      refine ok_loop (fun s3 => 0 ≤ s3.2.1 ∧ s3.1.length + s3.2.2.length ≤ 9998 ∧ s3.1.length < st.1.length) (fun s3 => (9223372036854775807 - s3.2.1).toNat) ⟨Int.le_refl _, by dsimp only; omega, by dsimp only; omega⟩ (by dsimp only; omega) fun s3 hs3 nx3 hnx3 => ?_
      rw [s_attr_Judge3]
      refine ok_if (fun h3 => ok_bd (t_get _ 4 (by omega)) fun r12 _ h12 => ok_if (fun _ => hk _ (by dsimp only; omega)) fun q3 => ?_) fun _ => hnx _ (by dsimp only; omega) (by dsimp only; omega)
      have g12 := h12.2.2 q3
      refine ok_ap (by simp; omega) (by simp; omega) (hnx3 _ ?_ ?_)
      · simp only [List.length_append, List.length_singleton]
        rw [w64 (by omega) (by omega)]
        omega
      · dsimp only
        rw [w64 (by omega) (by omega)]
        omega
    · refine fork 3 _ _ (fun y14 hy14 => ok_if (fun _ => after_bad) fun _ => ok_bd (t_num _ (by omega)) fun r15 _ _ => ok_ifnb (fun _ => after_bad) fun _ => fork 4 _ _ (fun y16 hy16 => ok_if (fun _ => after_bad) fun _ => ok_ifn (fun _ => after_bad) fun _ => o35 i1 i2 r15 hi2) (o35 i1 i2 r15 hi2)) after_bad
theorem law07_awake : m_ridgewaylaw07_awake = some true := by kernel_rfl
end Go.Proofs.Ytgakgilaikgboaa
namespace Go.Proofs.Ytgakgilaikgboaa
open Go.RowKit
set_option linter.unusedVariables false
set_option linter.unusedSimpArgs false
set_option maxRecDepth 100000
set_option maxHeartbeats 1000000

def c0 (f : Int) : Int := IntKind.i64.wrap ((BitVec.ofInt IntKind.i64.bits f &&& BitVec.ofInt IntKind.i64.bits (239 : Int)).toNat : Int)
def c1 (f : Int) : Int := IntKind.i64.wrap ((BitVec.ofInt IntKind.i64.bits f ||| BitVec.ofInt IntKind.i64.bits (16 : Int)).toNat : Int)
def b16 (f : Int) : Int := IntKind.i64.wrap ((BitVec.ofInt IntKind.i64.bits f &&& BitVec.ofInt IntKind.i64.bits (16 : Int)).toNat : Int)
def n16 (f : Int) : Int := IntKind.i64.wrap ((BitVec.ofInt IntKind.i64.bits f &&& ~~~ BitVec.ofInt IntKind.i64.bits (16 : Int)).toNat : Int)
theorem fl_fin : ∀ f : Fin 256, (0 ≤ c0 (f.val : Int) ∧ c0 (f.val : Int) ≤ 255) ∧ b16 (c0 (f.val : Int)) = 0 ∧ n16 (f.val : Int) = c0 (f.val : Int) ∧ (0 ≤ c1 (c0 (f.val : Int)) ∧ c1 (c0 (f.val : Int)) ≤ 255) ∧ ¬ b16 (c1 (c0 (f.val : Int))) = 0 := by decide
theorem fl_all (f : Int) (h : 0 ≤ f ∧ f ≤ 255) : (0 ≤ c0 f ∧ c0 f ≤ 255) ∧ b16 (c0 f) = 0 ∧ n16 f = c0 f ∧ (0 ≤ c1 (c0 f) ∧ c1 (c0 f) ≤ 255) ∧ ¬ b16 (c1 (c0 f)) = 0 := by
  have := fl_fin ⟨f.toNat, by omega⟩
  rwa [show ((f.toNat : Nat) : Int) = f by omega] at this
/-- The octets of an attribute. -/
def encA (y : Attr) : List UInt8 := putL y.Flags 1 ++ (putL y.Typ 1 ++ (putL (y.Data.length : Int) (if y.Data.length > 255 then 2 else 1) ++ y.Data))
/-- As it comes back. -/
def canon (y : Attr) : Attr := ⟨if y.Data.length > 255 then c1 (c0 y.Flags) else c0 y.Flags, y.Typ, y.Data⟩
structure Canon (y : Attr) : Prop where
  fl : 0 ≤ y.Flags ∧ y.Flags ≤ 255
  ty : 0 ≤ y.Typ ∧ y.Typ ≤ 255
  len : y.Data.length ≤ 65535
  bit : b16 y.Flags = 0 ↔ y.Data.length ≤ 255
theorem canon_ok (y : Attr) (hf : 0 ≤ y.Flags ∧ y.Flags ≤ 255) (ht : 0 ≤ y.Typ ∧ y.Typ ≤ 255) (hl : y.Data.length ≤ 65535) : Canon (canon y) := by
  obtain ⟨h1, h2, h3, h4, h5⟩ := fl_all y.Flags hf
  unfold canon
  by_cases h : y.Data.length > 255
  · rw [if_pos h]
    exact ⟨h4, ht, hl, ⟨fun k => absurd k h5, fun k => by dsimp only at k; omega⟩⟩
  · rw [if_neg h]
    exact ⟨h1, ht, hl, ⟨fun _ => by dsimp only; omega, fun _ => h2⟩⟩
theorem enc_len (y : Attr) : (encA y).length ≤ y.Data.length + 4 := by
  unfold encA
  simp only [List.length_append, putL_length]
  split <;> omega
theorem attrPut_eq (l : List UInt8) (y : Attr) (hb : l.length ≤ 1000000) (hf : 0 ≤ y.Flags ∧ y.Flags ≤ 255) (ht : 0 ≤ y.Typ ∧ y.Typ ≤ 255) (hl : y.Data.length ≤ 65535) : m_attr_Put l y = some (l ++ encA (canon y)) := by
  obtain ⟨h1, h2, h3, h4, h5⟩ := fl_all y.Flags hf
  refine (?_ : Ok (m_attr_Put l y) (· = l ++ encA (canon y))).elim fun x h => by rw [h.1, h.2]
  have p1 : ∀ v : Int, (putL v 1).length = 1 := fun v => putL_length v 1
  have p2 : ∀ v : Int, (putL v 2).length = 2 := fun v => putL_length v 2
  unfold m_attr_Put encA canon
  refine ok_bde (oct_eq _) (ok_ifnb (fun h => absurd (of_decide_eq_false h) (fun k => k ⟨hf.1, hf.2⟩)) fun _ => ok_bde (oct_eq _) (ok_ifnb (fun h => absurd (of_decide_eq_false h) (fun k => k ⟨ht.1, ht.2⟩)) fun _ => ok_if (fun h => by omega) fun _ => ok_if (fun h => ?_) fun h => ?_))
  · rw [if_pos (by omega), if_pos (by dsimp only; omega)]
    refine ok_bde (octPut_eq _ _ 1 (by omega) (by omega) (by omega)) (ok_bde (octPut_eq _ _ 1 (by omega) (by omega) (by simp [putL_length]; omega)) (ok_bde (octPut_eq _ _ 2 (by omega) (by omega) (by simp [putL_length]; omega)) (ok_ap (by simp [putL_length]; omega) (by simp [putL_length]; omega) (ok_some ?_))))
    show l ++ putL (c1 (n16 y.Flags)) 1 ++ putL y.Typ 1 ++ putL (y.Data.length : Int) 2 ++ y.Data = _
    rw [h3]
    simp only [List.append_assoc]
  · rw [if_neg (by omega), if_neg (by dsimp only; omega)]
    refine ok_bde (octPut_eq _ _ 1 (by omega) (by omega) (by omega)) (ok_bde (octPut_eq _ _ 1 (by omega) (by omega) (by simp [putL_length]; omega)) (ok_bde (octPut_eq _ _ 1 (by omega) (by omega) (by simp [putL_length]; omega)) (ok_ap (by simp [putL_length]; omega) (by simp [putL_length]; omega) (ok_some ?_))))
    show l ++ putL (n16 y.Flags) 1 ++ putL y.Typ 1 ++ putL (y.Data.length : Int) 1 ++ y.Data = _
    rw [h3]
    simp only [List.append_assoc]
theorem attrPut_no (l : List UInt8) (y : Attr) (h : ¬ ((0 ≤ y.Flags ∧ y.Flags ≤ 255) ∧ (0 ≤ y.Typ ∧ y.Typ ≤ 255))) : m_attr_Put l y = some l := by
  refine (?_ : Ok (m_attr_Put l y) (· = l)).elim fun x h => by rw [h.1, h.2]
  unfold m_attr_Put
  refine ok_bde (oct_eq _) (ok_ifnb (fun _ => ok_some rfl) fun h1 => ok_bde (oct_eq _) (ok_ifnb (fun _ => ok_some rfl) fun h2 => ?_))
  exact absurd ⟨of_decide_eq_true h1, of_decide_eq_true h2⟩ h
theorem get_put (v : Int) (k : Nat) (t : List UInt8) (a : Int) (ha : a = (k : Int)) (hk : 1 ≤ k ∧ k ≤ 4) (hv : 0 ≤ v ∧ v < (256 : Int) ^ k) : m_octet_Get (putL v k ++ t) a = some (v, t, true) := by
  subst ha
  rw [octGet_eq _ _ (by omega) (by omega), if_pos (by rw [List.length_append, putL_length]; omega)]
  simp only [Int.toNat_natCast]
  rw [List.take_append_of_le_length (by rw [putL_length]; omega), List.take_of_length_le (by rw [putL_length]; omega), List.drop_append_of_le_length (by rw [putL_length]; omega), List.drop_of_length_le (by rw [putL_length]; omega), num_putL, Int.emod_eq_of_lt hv.1 hv.2]
  rfl
theorem attrGet_eq (y : Attr) (t : List UInt8) (c : Canon y) : m_attr_Get (encA y ++ t) = some (y, t, true) := by
  obtain ⟨hf, ht, hl, hb⟩ := c
  refine (?_ : Ok (m_attr_Get (encA y ++ t)) (· = (y, t, true))).elim fun x h => by rw [h.1, h.2]
  have tk : m_octet_Take (y.Data ++ t) (y.Data.length : Int) = some (y.Data, t, true) := by
    rw [octTake_eq, if_pos (by simp only [List.length_append]; omega)]
    simp
  unfold m_attr_Get encA
  simp only [List.append_assoc]
  refine ok_bde (get_put _ 1 _ 1 rfl (by omega) (by omega)) (ok_bde (get_put _ 1 _ 1 rfl (by omega) (by omega)) (ok_jn (fun j => j = if y.Data.length > 255 then 2 else 1) (fun k hk => ok_if (fun h => hk _ ?_) fun h => hk _ ?_) fun j hj => ?_))
  · have : ¬ b16 y.Flags = 0 := h
    rw [if_pos (by omega)]
  · have : b16 y.Flags = 0 := Decidable.not_not.1 h
    rw [if_neg (by omega)]
  · refine ok_bde (x := ((y.Data.length : Int), y.Data ++ t, true)) ?_ (ok_bde tk (ok_ifnb (fun h => Bool.noConfusion h) fun _ => ok_ifnb (fun h => Bool.noConfusion h) fun _ => ok_some rfl))
    rw [hj]
    split
    · exact get_put _ 2 _ 2 rfl (by omega) (by omega)
    · exact get_put _ 1 _ 1 rfl (by omega) (by omega)
theorem enc_pos (y : Attr) : 0 < (encA y).length := by
  unfold encA
  simp only [List.length_append, putL_length]
  omega
theorem attrAll_eq (L : List Attr) (hc : ∀ y ∈ L, Canon y) (hl : L.length ≤ 1000) : m_attr_All (L.flatMap encA) = some (L, true) := by
  refine (?_ : Ok (m_attr_All (L.flatMap encA)) (· = (L, true))).elim fun x h => by rw [h.1, h.2]
  unfold m_attr_All
  refine ok_loop (fun st => ∃ i : Nat, i ≤ L.length ∧ st.1 = (L.drop i).flatMap encA ∧ st.2 = L.take i) (fun st => L.length - st.2.length) ⟨0, Nat.zero_le _, rfl, rfl⟩ (by dsimp only; omega) ?_
  rintro ⟨_, _⟩ ⟨i, hi, rfl, rfl⟩ nx hnx
  rw [s_attr_All1]
  dsimp only at hnx ⊢
  by_cases hlt : i < L.length
  · rw [List.drop_eq_getElem_cons hlt, List.flatMap_cons]
    have := enc_pos L[i]
    refine ok_if (fun _ => ok_bde (attrGet_eq _ _ (hc _ (List.getElem_mem hlt))) (ok_ifnb (fun h => Bool.noConfusion h) fun _ => ok_ap (by simp; omega) (by simp; omega) (hnx _ ⟨i + 1, hlt, rfl, List.take_append_getElem hlt⟩ ?_))) fun h => absurd (by simp only [List.length_append]; omega) h
    simp only [List.length_append, List.length_take, List.length_singleton]
    omega
  · rw [List.drop_of_length_le (by omega), List.take_of_length_le (by omega)]
    exact ok_if (fun h => absurd h (by simp)) fun _ => ok_some rfl
theorem sameA_refl (l : List Attr) (hl : l.length ≤ 1000000) : m_ridgewayref07_Same l l = some true := by
  refine ok_true ?_
  unfold m_ridgewayref07_Same
  refine ok_if (fun h => absurd rfl h) fun _ => ok_idx l.length (fun _ => True) (by omega) trivial (fun i hi _ nx hnx => ?_) (fun _ nx => ?_)
  · rw [s_ridgewayref07_Same1]
    have x1 : ∀ {k : Attr → Option Bool}, (∀ hlt, Ok (k (l[i]'hlt)) (· = true)) → Ok (bd (ix l (i : Int)) k) (· = true) := fun hk => ok_ix (by omega) (by omega) fun _ => by simp only [Int.toNat_natCast]; exact hk hi
    exact ok_if (fun _ => x1 fun _ => x1 fun _ => ok_if (fun h => absurd rfl h) fun _ => x1 fun _ => x1 fun _ => ok_if (fun h => absurd rfl h) fun _ => x1 fun _ => x1 fun _ => ok_ifnb (fun h => by simp at h) fun _ => hnx trivial) fun h => absurd (Int.ofNat_lt.2 hi) h
  · rw [s_ridgewayref07_Same1]
    exact ok_if (fun h => by omega) fun _ => ok_some rfl
end Go.Proofs.Ytgakgilaikgboaa
namespace Go.Proofs.Ytgakgilaikgboaa
open Go.RowKit
set_option linter.unusedVariables false
set_option linter.unusedSimpArgs false
set_option maxRecDepth 100000
set_option maxHeartbeats 1000000
/-- A path that may be. -/
def PathOk (p : Path) : Prop := (∀ x ∈ p.As, 1 ≤ x ∧ x ≤ 4294967295) ∧ (0 ≤ p.Origin ∧ p.Origin ≤ 2) ∧ p.As.length ≤ 255 ∧ (1 ≤ p.Hop ∧ p.Hop ≤ 4294967295) ∧ 0 ≤ p.Otc ∧ p.Otc ≤ 4294967295
theorem t_attrSane (p : Path) (hl : p.As.length ≤ 9223372036854775807) : Ok (m_attr_Sane p) fun b => b = true ↔ PathOk p := by
  unfold m_attr_Sane
  have no : ∀ {A : Prop}, ¬ A → Ok (some false : Option Bool) (fun b => b = true ↔ A) := fun h => ok_some ⟨fun k => Bool.noConfusion k, fun k => absurd k h⟩
  refine ok_idx p.As.length (fun j => ∀ i (h : i < p.As.length), i < j → 1 ≤ p.As[i] ∧ p.As[i] ≤ 4294967295) hl (fun _ _ h => absurd h (Nat.not_lt_zero _)) (fun i hi hI nx hnx => ?_) (fun hI nx => ?_)
  · rw [s_attr_Sane1]
    have hm := List.getElem_mem hi
    refine ok_if (fun _ => ok_ix (by omega) (by omega) fun hlt => ok_if (fun h1 => no fun k => ?_) fun h1 => ok_if (fun h2 => no fun k => ?_) fun h2 => hnx fun j hj hji => ?_) fun h => absurd (Int.ofNat_lt.2 hi) h
    · have := k.1 _ hm; simp only [Int.toNat_natCast] at h1; omega
    · have := k.1 _ hm; simp only [Int.toNat_natCast] at h2; omega
    · simp only [Int.toNat_natCast] at h1 h2
      rcases Nat.lt_succ_iff_lt_or_eq.1 hji with g | rfl
      · exact hI j hj g
      · exact ⟨by omega, by omega⟩
  · rw [s_attr_Sane1]
    have hall : ∀ x ∈ p.As, 1 ≤ x ∧ x ≤ 4294967295 := fun x hx => by
      obtain ⟨i, h, rfl⟩ := List.getElem_of_mem hx
      exact hI i h h
    refine ok_if (fun h => by omega) fun _ => ok_if (fun h1 => ok_if (fun h2 => ok_if (fun h3 => ok_if (fun h4 => ok_if (fun h5 => ok_if (fun h6 => ok_some ?_) fun h => no fun k => ?_) fun h => no fun k => ?_) fun h => no fun k => ?_) fun h => no fun k => ?_) fun h => no fun k => ?_) fun h => no fun k => ?_
    · rw [decide_eq_true_eq]
      exact ⟨fun h7 => ⟨hall, ⟨h1, h2⟩, by omega, ⟨h4, h5⟩, h6, h7⟩, fun k => k.2.2.2.2.2⟩
    all_goals (obtain ⟨_, _, _, _, _, _⟩ := k; omega)
theorem t_refSane (p : Path) (hl : p.As.length ≤ 9223372036854775807) : Ok (m_ridgewayref07_Sane p) fun b => b = true ↔ PathOk p := by
  unfold m_ridgewayref07_Sane
  have no : ∀ {A : Prop}, ¬ A → Ok (some false : Option Bool) (fun b => b = true ↔ A) := fun h => ok_some ⟨fun k => Bool.noConfusion k, fun k => absurd k h⟩
  refine ok_idx p.As.length (fun j => ∀ i (h : i < p.As.length), i < j → 1 ≤ p.As[i] ∧ p.As[i] ≤ 4294967295) hl (fun _ _ h => absurd h (Nat.not_lt_zero _)) (fun i hi hI nx hnx => ?_) (fun hI nx => ?_)
  · rw [s_ridgewayref07_Sane1]
    have hm := List.getElem_mem hi
    refine ok_if (fun _ => ok_ix (by omega) (by omega) fun hlt => ok_if (fun h1 => no fun k => ?_) fun h1 => ok_ix (by omega) (by omega) fun hlt => ok_if (fun h2 => no fun k => ?_) fun h2 => hnx fun j hj hji => ?_) fun h => absurd (Int.ofNat_lt.2 hi) h
    · have := k.1 _ hm; simp only [Int.toNat_natCast] at h1; omega
    · have := k.1 _ hm; simp only [Int.toNat_natCast] at h2; omega
    · simp only [Int.toNat_natCast] at h1 h2
      rcases Nat.lt_succ_iff_lt_or_eq.1 hji with g | rfl
      · exact hI j hj g
      · exact ⟨by omega, by omega⟩
  · rw [s_ridgewayref07_Sane1]
    have hall : ∀ x ∈ p.As, 1 ≤ x ∧ x ≤ 4294967295 := fun x hx => by
      obtain ⟨i, h, rfl⟩ := List.getElem_of_mem hx
      exact hI i h h
    refine ok_if (fun h => by omega) fun _ => ok_if (fun h1 => ok_if (fun h2 => ok_if (fun h3 => ok_if (fun h4 => ok_if (fun h5 => ok_if (fun h6 => ok_some ?_) fun h => no fun k => ?_) fun h => no fun k => ?_) fun h => no fun k => ?_) fun h => no fun k => ?_) fun h => no fun k => ?_) fun h => no fun k => ?_
    · rw [decide_eq_true_eq]
      exact ⟨fun h7 => ⟨hall, ⟨h1, h2⟩, by omega, ⟨h4, h5⟩, h6, h7⟩, fun k => k.2.2.2.2.2⟩
    all_goals (obtain ⟨_, _, _, _, _, _⟩ := k; omega)

theorem bit_fin : ∀ f : Fin 256, (¬ b16 (f.val : Int) = 0 ↔ (IntKind.u8.wrap ((f.val : Int).tdiv (16 : Int))).tmod (2 : Int) = 1) := by decide
theorem bit_byte (x : UInt8) : ¬ b16 (x.toNat : Int) = 0 ↔ (IntKind.u8.wrap ((x.toNat : Int).tdiv (16 : Int))).tmod (2 : Int) = 1 := bit_fin ⟨x.toNat, x.toNat_lt⟩
def noA : Attr × List UInt8 × Bool := (⟨0, 0, []⟩, [], false)
def firstB (x y : UInt8) (n : Nat) (t : List UInt8) : Attr × List UInt8 × Bool := if n ≤ t.length then (⟨x.toNat, y.toNat, t.take n⟩, t.drop n, true) else noA
/-- The first attribute of octets, as both read it. -/
def firstA : List UInt8 → Attr × List UInt8 × Bool
  | x :: y :: z :: t => if b16 (x.toNat : Int) = 0 then firstB x y z.toNat t else (match t with | [] => noA | u :: t => firstB x y (z.toNat * 256 + u.toNat) t)
  | _ => noA
theorem firstA_0 {x y z : UInt8} {t : List UInt8} (h : b16 (x.toNat : Int) = 0) : firstA (x :: y :: z :: t) = firstB x y z.toNat t := by
  show (if b16 (x.toNat : Int) = 0 then _ else _) = _
  rw [if_pos h]
theorem firstA_1 {x y z u : UInt8} {t : List UInt8} (h : ¬ b16 (x.toNat : Int) = 0) : firstA (x :: y :: z :: u :: t) = firstB x y (z.toNat * 256 + u.toNat) t := by
  show (if b16 (x.toNat : Int) = 0 then _ else _) = _
  rw [if_neg h]
theorem firstA_n {x y z : UInt8} (h : ¬ b16 (x.toNat : Int) = 0) : firstA [x, y, z] = noA := by
  show (if b16 (x.toNat : Int) = 0 then _ else _) = _
  rw [if_neg h]
theorem u64w {x : Int} (h : 0 ≤ x ∧ x < 18446744073709551616) : IntKind.u64.wrap x = x := by
  simp only [IntKind.wrap, IntKind.signed, IntKind.bits, Bool.false_and, Bool.false_eq_true, if_false]
  exact Int.emod_eq_of_lt h.1 h.2
theorem get1c (x : UInt8) (t : List UInt8) : m_octet_Get (x :: t) 1 = some ((x.toNat : Int), t, true) := by
  rw [octGet_eq _ _ (by omega) (by omega), if_pos (by simp; omega)]
  simp [num]
theorem get2c (x y : UInt8) (t : List UInt8) : m_octet_Get (x :: y :: t) 2 = some (((x.toNat * 256 + y.toNat : Nat) : Int), t, true) := by
  rw [octGet_eq _ _ (by omega) (by omega), if_pos (by simp; omega)]
  simp [num]
theorem get_no (l : List UInt8) (n : Int) (h : 1 ≤ n ∧ n ≤ 4) (h2 : (l.length : Int) < n) : m_octet_Get l n = some (0, [], false) := by
  rw [octGet_eq _ _ h.1 h.2, if_neg (by omega)]
theorem get_first (l : List UInt8) : m_attr_Get l = some (firstA l) := by
  refine (?_ : Ok (m_attr_Get l) (· = firstA l)).elim fun x h => by rw [h.1, h.2]
  unfold m_attr_Get
  match l with
  | [] =>
    refine ok_bde (get_no [] 1 (by omega) (by simp)) (ok_bde (get_no [] 1 (by omega) (by simp)) (ok_jn' ?_))
    exact ok_if (fun _ => ok_bde (get_no [] 2 (by omega) (by simp)) (ok_bde (octTake_eq _ _) (ok_ifnb (fun _ => ok_some rfl) fun h => Bool.noConfusion h))) fun _ => ok_bde (get_no [] 1 (by omega) (by simp)) (ok_bde (octTake_eq _ _) (ok_ifnb (fun _ => ok_some rfl) fun h => Bool.noConfusion h))
  | [x] =>
    refine ok_bde (get1c x []) (ok_bde (get_no [] 1 (by omega) (by simp)) (ok_jn' ?_))
    exact ok_if (fun _ => ok_bde (get_no [] 2 (by omega) (by simp)) (ok_bde (octTake_eq _ _) (ok_ifnb (fun _ => ok_some rfl) fun h => Bool.noConfusion h))) fun _ => ok_bde (get_no [] 1 (by omega) (by simp)) (ok_bde (octTake_eq _ _) (ok_ifnb (fun _ => ok_some rfl) fun h => Bool.noConfusion h))
  | [x, y] =>
    refine ok_bde (get1c x [y]) (ok_bde (get1c y []) (ok_jn' ?_))
    exact ok_if (fun _ => ok_bde (get_no [] 2 (by omega) (by simp)) (ok_bde (octTake_eq _ _) (ok_ifnb (fun _ => ok_some rfl) fun h => Bool.noConfusion h))) fun _ => ok_bde (get_no [] 1 (by omega) (by simp)) (ok_bde (octTake_eq _ _) (ok_ifnb (fun _ => ok_some rfl) fun h => Bool.noConfusion h))
  | x :: y :: z :: t =>
    have fin : ∀ (n : Nat) (t : List UInt8), Ok (bd (m_octet_Take t (n : Int)) fun r4 => bif (!true) then some ((⟨0, 0, []⟩ : Attr), ([] : List UInt8), false) else bif (!r4.2.2) then some ((⟨0, 0, []⟩ : Attr), ([] : List UInt8), false) else some ((⟨x.toNat, y.toNat, r4.1⟩ : Attr), r4.2.1, true)) (· = firstB x y n t) := fun n t => by
      refine ok_bde (octTake_eq _ _) ?_
      unfold firstB
      by_cases h : n ≤ t.length
      · rw [if_pos (by omega), if_pos h]
        exact ok_ifnb (fun h => Bool.noConfusion h) fun _ => ok_ifnb (fun h => Bool.noConfusion h) fun _ => ok_some (by simp)
      · rw [if_neg (by omega), if_neg h]
        exact ok_ifnb (fun h => Bool.noConfusion h) fun _ => ok_ifnb (fun _ => ok_some rfl) fun h => Bool.noConfusion h
    refine ok_bde (get1c x _) (ok_bde (get1c y _) (ok_jn' (ok_if (fun h => ?_) fun h => ?_)))
    · have h : ¬ b16 (x.toNat : Int) = 0 := h
      match t with
      | [] => rw [firstA_n h]; exact ok_bde (get_no [z] 2 (by omega) (by simp)) (ok_bde (octTake_eq _ _) (ok_ifnb (fun _ => ok_some rfl) fun h => Bool.noConfusion h))
      | u :: t => rw [firstA_1 h]; exact ok_bde (get2c z u t) (fin _ t)
    · have h : b16 (x.toNat : Int) = 0 := Decidable.not_not.1 h
      rw [firstA_0 h]
      exact ok_bde (get1c z t) (fin _ t)
theorem ref_first (l : List UInt8) : m_ridgewayref07_Get l = some (firstA l) := by
  refine (?_ : Ok (m_ridgewayref07_Get l) (· = firstA l)).elim fun x h => by rw [h.1, h.2]
  unfold m_ridgewayref07_Get
  match l with
  | [] => exact ok_if (fun _ => ok_some rfl) fun h => absurd (by simp) h
  | [x] => exact ok_if (fun _ => ok_some rfl) fun h => absurd (by simp) h
  | [x, y] => exact ok_if (fun _ => ok_some rfl) fun h => absurd (by simp) h
  | x :: y :: z :: t =>
    have hx := x.toNat_lt
    have hy := y.toNat_lt
    have hz := z.toNat_lt
    have wx : IntKind.i64.wrap (x.toNat : Int) = x.toNat := w64 (by omega) (by omega)
    have wy : IntKind.i64.wrap (y.toNat : Int) = y.toNat := w64 (by omega) (by omega)
    have wz : IntKind.i64.wrap (z.toNat : Int) = z.toNat := w64 (by omega) (by omega)
    have i0 : ix (x :: y :: z :: t) 0 = some x := ix_some (by omega) rfl
    have i1 : ix (x :: y :: z :: t) 1 = some y := ix_some (by omega) rfl
    have i2 : ix (x :: y :: z :: t) 2 = some z := ix_some (by omega) rfl
    refine ok_if (fun h => absurd h (by simp; omega)) fun _ => ok_bde i2 ?_
    refine ok_jn (fun j => (b16 (x.toNat : Int) = 0 ∧ j = (3, (z.toNat : Int))) ∨ (¬ b16 (x.toNat : Int) = 0 ∧ ∃ u t', t = u :: t' ∧ j = (4, ((z.toNat * 256 + u.toNat : Nat) : Int)))) (fun k hk => ok_bde i0 (ok_if (fun h => ?_) fun h => hk _ (.inl ⟨?_, by rw [wz]⟩))) fun j hj => ?_
    · have hb := (bit_byte x).2 h
      match t with
      | [] =>
        refine ok_if (fun _ => ok_some ?_) fun h => absurd (by simp) h
        rw [firstA_n hb]
        rfl
      | u :: t =>
        have hu := u.toNat_lt
        have wu : IntKind.i64.wrap (u.toNat : Int) = u.toNat := w64 (by omega) (by omega)
        refine ok_if (fun h => absurd h (by simp; omega)) fun _ => ok_bde (ix_some (by omega) rfl : ix (x :: y :: z :: u :: t) 3 = some u) (hk _ (.inr ⟨hb, u, t, rfl, ?_⟩))
        rw [wz, wu, w64 (x := (z.toNat : Int) * 256) (by omega) (by omega), w64 (by omega) (by omega)]
        congr 1
    · exact Decidable.not_not.1 fun k => h ((bit_byte x).1 k)
    · rcases hj with ⟨hb, rfl⟩ | ⟨hb, u, t', rfl, rfl⟩
      · dsimp only
        rw [w64 (x := 3 + (z.toNat : Int)) (by omega) (by omega), firstA_0 hb]
        unfold firstB
        by_cases h : z.toNat ≤ t.length
        · rw [if_pos h]
          refine ok_if (fun h2 => absurd h2 (by simp; omega)) fun _ => ok_bde i0 (ok_bde i1 (ok_bde (sl_some (by simp; omega)) (ok_bde (sl_all (by simp; omega)) (ok_some ?_))))
          rw [show ((3 : Int) + (z.toNat : Int)).toNat = z.toNat + 3 by omega, wx, wy]
          simp
        · rw [if_neg h]
          exact ok_if (fun _ => ok_some rfl) fun h2 => absurd (by simp; omega) h2
      · have hu := u.toNat_lt
        dsimp only
        rw [w64 (x := 4 + ((z.toNat * 256 + u.toNat : Nat) : Int)) (by omega) (by omega), firstA_1 hb]
        unfold firstB
        by_cases h : z.toNat * 256 + u.toNat ≤ t'.length
        · rw [if_pos h]
          refine ok_if (fun h2 => absurd h2 (by simp; omega)) fun _ => ok_bde i0 (ok_bde i1 (ok_bde (sl_some (by simp; omega)) (ok_bde (sl_all (by simp; omega)) (ok_some ?_))))
          rw [show ((4 : Int) + ((z.toNat * 256 + u.toNat : Nat) : Int)).toNat = z.toNat * 256 + u.toNat + 4 by omega, wx, wy]
          simp
        · rw [if_neg h]
          exact ok_if (fun _ => ok_some rfl) fun h2 => absurd (by simp; omega) h2
theorem firstB_len (x y : UInt8) (n : Nat) (t : List UInt8) : (firstB x y n t).2.1.length ≤ t.length := by
  unfold firstB
  split
  · simp
  · exact Nat.zero_le _
theorem first_len : ∀ (l : List UInt8), (firstA l).2.2 = true → (firstA l).2.1.length < l.length
  | [], h => by cases h
  | [_], h => by cases h
  | [_, _], h => by cases h
  | x :: y :: z :: t, h => by
    by_cases hb : b16 (x.toNat : Int) = 0
    · rw [firstA_0 hb]
      have := firstB_len x y z.toNat t
      simp only [List.length_cons]
      omega
    · match t, h with
      | [], h => rw [firstA_n hb] at h; cases h
      | u :: t, h =>
        rw [firstA_1 hb]
        have := firstB_len x y (z.toNat * 256 + u.toNat) t
        simp only [List.length_cons]
        omega
theorem all_same (l : List UInt8) : m_ridgewayref07_All l = m_attr_All l := by
  unfold m_ridgewayref07_All m_attr_All
  congr 1
  funext st nx bk
  rw [s_ridgewayref07_All1, s_attr_All1, get_first, ref_first]
theorem t_all (l : List UInt8) (hl : l.length ≤ 100000) : Ok (m_attr_All l) fun r => r.1.length ≤ l.length := by
  unfold m_attr_All
  refine ok_loop (fun st => st.1.length + st.2.length ≤ l.length) (fun st => st.1.length) (by simp) (by dsimp only; omega) fun st hst nx hnx => ?_
  rw [s_attr_All1]
  refine ok_if (fun h => ok_bde (get_first _) (ok_ifnb (fun _ => ok_some (Nat.zero_le _)) fun h2 => ?_)) fun _ => ok_some (by dsimp only; omega)
  have := first_len _ h2
  exact ok_ap (by simp; omega) (by simp; omega) (hnx _ (by simp; omega) (by dsimp only; omega))
theorem fl2_fin : ∀ f : Fin 256, toB (IntKind.u8.wrap (IntKind.i64.wrap ((f.val : Int) - (IntKind.i64.wrap (((IntKind.i64.wrap ((f.val : Int).tdiv (16 : Int))).tmod (2 : Int)) * (16 : Int)))))) = octAt (c0 (f.val : Int)) 0 ∧
    toB (IntKind.u8.wrap (IntKind.i64.wrap ((IntKind.i64.wrap ((f.val : Int) - (IntKind.i64.wrap (((IntKind.i64.wrap ((f.val : Int).tdiv (16 : Int))).tmod (2 : Int)) * (16 : Int))))) + (16 : Int)))) = octAt (c1 (c0 (f.val : Int))) 0 := by decide
theorem fl2 (f : Int) (h : 0 ≤ f ∧ f ≤ 255) : toB (IntKind.u8.wrap (IntKind.i64.wrap (f - (IntKind.i64.wrap (((IntKind.i64.wrap (f.tdiv (16 : Int))).tmod (2 : Int)) * (16 : Int)))))) = octAt (c0 f) 0 ∧
    toB (IntKind.u8.wrap (IntKind.i64.wrap ((IntKind.i64.wrap (f - (IntKind.i64.wrap (((IntKind.i64.wrap (f.tdiv (16 : Int))).tmod (2 : Int)) * (16 : Int))))) + (16 : Int)))) = octAt (c1 (c0 f)) 0 := by
  have := fl2_fin ⟨f.toNat, by omega⟩
  rwa [show ((f.toNat : Nat) : Int) = f by omega] at this
theorem byte0 (v : Int) : toB (IntKind.u8.wrap v) = octAt v 0 := by
  unfold toB octAt
  rw [u8wrap_eq]
  simp
theorem byte1 (n : Nat) (h : n ≤ 65535) : toB (IntKind.u8.wrap (IntKind.i64.wrap ((n : Int).tdiv (256 : Int)))) = octAt (n : Int) 1 := by
  rw [Int.tdiv_eq_ediv_of_nonneg (by omega), w64 (by omega) (by omega), byte0]
  unfold octAt
  simp
theorem byte0m (n : Nat) : toB (IntKind.u8.wrap ((n : Int).tmod (256 : Int))) = octAt (n : Int) 0 := by
  rw [Int.tmod_eq_emod_of_nonneg (by omega), byte0]
  unfold octAt
  simp
theorem right_eq (y : Attr) (hl : y.Data.length ≤ 65535) : m_ridgewayref07_right y = some (decide ((0 ≤ y.Flags ∧ y.Flags ≤ 255) ∧ (0 ≤ y.Typ ∧ y.Typ ≤ 255))) := by
  refine (?_ : Ok (m_ridgewayref07_right y) (· = decide ((0 ≤ y.Flags ∧ y.Flags ≤ 255) ∧ (0 ≤ y.Typ ∧ y.Typ ≤ 255)))).elim fun x h => by rw [h.1, h.2]
  unfold m_ridgewayref07_right
  refine ok_if (fun h1 => ok_if (fun h2 => ok_if (fun h3 => ok_if (fun h4 => ok_some ?_) fun h => ok_some ?_) fun h => ok_some ?_) fun h => ok_some ?_) fun h => ok_some ?_
  · rw [decide_eq_true (by omega), decide_eq_true (by omega)]
  all_goals rw [decide_eq_false (by omega)]
theorem refPut_eq (l : List UInt8) (y : Attr) (hb : l.length ≤ 1000000) (hl : y.Data.length ≤ 2000) : m_ridgewayref07_Put l y = m_attr_Put l y := by
  by_cases hok : (0 ≤ y.Flags ∧ y.Flags ≤ 255) ∧ (0 ≤ y.Typ ∧ y.Typ ≤ 255)
  · obtain ⟨hf, ht⟩ := hok
    obtain ⟨g1, g2⟩ := fl2 y.Flags hf
    rw [attrPut_eq l y hb hf ht (by omega)]
    refine (?_ : Ok (m_ridgewayref07_Put l y) (· = l ++ encA (canon y))).elim fun x h => by rw [h.1, h.2]
    unfold m_ridgewayref07_Put
    refine ok_ap (by simp; omega) (by simp; omega) (ok_bde (right_eq y (by omega)) (ok_ifn (fun h => absurd ⟨hf, ht⟩ h) fun _ => ok_if (fun h => ?_) fun h => ?_))
    · refine ok_ap (by simp; omega) (by simp; omega) (ok_ap (by simp; omega) (by simp; omega) (ok_some ?_))
      rw [g2, byte0, byte1 _ (by omega), byte0m]
      unfold encA canon
      rw [if_pos (by omega), if_pos (by dsimp only; omega)]
      simp [putL, List.range_succ]
    · refine ok_ap (by simp; omega) (by simp; omega) (ok_ap (by simp; omega) (by simp; omega) (ok_some ?_))
      rw [g1, byte0, byte0]
      unfold encA canon
      rw [if_neg (by omega), if_neg (by dsimp only; omega)]
      simp [putL]
  · rw [attrPut_no l y hok]
    refine (?_ : Ok (m_ridgewayref07_Put l y) (· = l)).elim fun x h => by rw [h.1, h.2]
    unfold m_ridgewayref07_Put
    exact ok_ap (by simp; omega) (by simp; omega) (ok_bde (right_eq y (by omega)) (ok_ifn (fun _ => ok_some rfl) fun h => absurd h hok))
theorem ref1Put_eq (l : List UInt8) (v : Int) (hb : l.length ≤ 1000000) : m_ridgewayref01_Put l v 4 = some (l ++ putL v 4) := by
  refine (?_ : Ok (m_ridgewayref01_Put l v 4) (· = l ++ putL v 4)).elim fun x h => by rw [h.1, h.2]
  unfold m_ridgewayref01_Put
  refine ok_ap (by simp; omega) (by simp; omega) (ok_if (fun h => by omega) fun _ => ok_if (fun h => by omega) fun _ => ?_)
  rw [List.nil_append]
  refine ok_loop (fun st => ∃ i : Nat, i ≤ 4 ∧ st.2 = 3 - (i : Int) ∧ st.1 = l ++ (putL v 4).take i) (fun st => (st.2 + 1).toNat) ⟨0, by omega, by simp [w64], by simp⟩ (by dsimp only; rw [w64 (by omega) (by omega)]; omega) ?_
  rintro ⟨_, _⟩ ⟨i, hi, rfl, rfl⟩ nx hnx
  rw [s_ridgewayref01_Put1]
  dsimp only at hnx ⊢
  refine ok_if (fun h => ?_) fun h => ok_some ?_
  · have hw : IntKind.i64.wrap ((8 : Int) * (3 - (i : Int))) = ((8 * (3 - i) : Nat) : Int) := by rw [w64 (by omega) (by omega)]; omega
    have hu : IntKind.u64.wrap ((8 * (3 - i) : Nat) : Int) = ((8 * (3 - i) : Nat) : Int) := u64w (by omega)
    rw [hw, hu, nn_some (by omega)]
    have hby : toB (IntKind.u8.wrap (v.fdiv (2 ^ (min (((8 * (3 - i) : Nat) : Int)).toNat IntKind.i64.bits)))) = octAt v (3 - i) := by
      rw [Int.toNat_natCast]
      exact u8_fdiv' v (3 - i) (by omega)
    rw [hby]
    have hw2 : IntKind.i64.wrap (3 - (i : Int) - 1) = 3 - ((i + 1 : Nat) : Int) := by rw [w64 (by omega) (by omega)]; omega
    refine ok_ap (by simp; omega) (by simp; omega) (hnx _ ⟨i + 1, by omega, hw2, ?_⟩ (by dsimp only; rw [hw2]; omega))
    dsimp only
    rw [putL_step v 4 i (by omega), List.append_assoc]
  · rw [show i = 4 by omega, List.take_of_length_le (by rw [putL_length]; omega)]

theorem seg_eq (as : List Int) (hl : as.length ≤ 1000) : m_attr_segment as = some (if as.length = 0 then [] else (2 : UInt8) :: octAt (as.length : Int) 0 :: as.flatMap fun x => putL x 4) := by
  refine (?_ : Ok (m_attr_segment as) (· = if as.length = 0 then [] else (2 : UInt8) :: octAt (as.length : Int) 0 :: as.flatMap fun x => putL x 4)).elim fun x h => by rw [h.1, h.2]
  unfold m_attr_segment
  refine ok_if (fun h => ok_some (by rw [if_pos (by omega)])) fun h => ?_
  rw [if_neg (by omega), byte0]
  refine ok_acc as.length (fun i b => b = (2 : UInt8) :: octAt (as.length : Int) 0 :: (as.take i).flatMap (fun x => putL x 4) ∧ b.length ≤ 2 + 4 * i) (by omega) ⟨by simp, by simp⟩ (fun i b hi hI nx hnx => ?_) (fun b hI nx => ?_)
  · obtain ⟨hI, hb⟩ := hI
    rw [s_attr_segment1]
    refine ok_if (fun _ => ok_ix (by omega) (by omega) fun hlt => ok_bde (octPut_eq [] _ 4 (by omega) (by omega) (by simp)) ?_) fun h => absurd (Int.ofNat_lt.2 hi) h
    simp only [Int.toNat_natCast, List.nil_append]
    have hp : (putL as[i] (4 : Int).toNat).length = 4 := putL_length _ _
    refine ok_ap (by rw [hp]; omega) (by rw [hp]; omega) (hnx _ ⟨?_, by rw [List.length_append, hp]; omega⟩)
    rw [hI, ← List.take_append_getElem hi, List.flatMap_append]
    simp
  · rw [s_attr_segment1]
    refine ok_if (fun h => by dsimp only at h; omega) fun _ => ok_some ?_
    have := hI.1
    rwa [List.take_length] at this
theorem t_of (p : Path) (hl : p.As.length ≤ 1000) : Ok (m_attr_Of p) fun r => m_ridgewayref07_Of p = some r ∧ r.length ≤ 4 := by
  obtain ⟨b1, e1, h1⟩ := t_attrSane p (by omega)
  obtain ⟨b2, e2, h2⟩ := t_refSane p (by omega)
  have hb : b2 = b1 := by
    cases b1 <;> cases b2 <;> simp_all
  subst hb
  unfold m_attr_Of
  refine ok_bde e1 (ok_ifnb (fun h => ok_some ⟨?_, by simp⟩) fun h => ok_bde (octPut_eq [] _ 1 (by omega) (by omega) (by simp)) (ok_bde (seg_eq _ hl) (ok_bde (octPut_eq [] _ 4 (by omega) (by omega) (by simp)) ?_)))
  · unfold m_ridgewayref07_Of
    rw [e2, bd_some, h]
    rfl
  generalize hS : (if p.As.length = 0 then [] else (2 : UInt8) :: octAt (p.As.length : Int) 0 :: p.As.flatMap fun x => putL x 4) = S
  have ref : ∀ r : List Attr, r = [⟨64, 1, putL p.Origin 1⟩, ⟨64, 2, S⟩, ⟨64, 3, putL p.Hop 4⟩] ++ (if p.Otc = 0 then [] else [⟨192, 35, putL p.Otc 4⟩]) → m_ridgewayref07_Of p = some r := fun r hr => by
    refine (?_ : Ok (m_ridgewayref07_Of p) (· = r)).elim fun x h => by rw [h.1, h.2]
    unfold m_ridgewayref07_Of
    refine ok_bde e2 (ok_ifnb (fun h2 => by rw [h] at h2; cases h2) fun _ => ok_jn (fun j => j = if p.As.length = 0 then [] else [(2 : UInt8), octAt (p.As.length : Int) 0]) (fun k hk => ok_if (fun h => hk _ (by rw [if_neg (by omega), byte0])) fun h => hk _ (by rw [if_pos (by omega)])) fun j hj => ?_)
    refine ok_acc p.As.length (fun i b => b = j ++ (p.As.take i).flatMap (fun x => putL x 4) ∧ b.length ≤ 2 + 4 * i) (by omega) ⟨by simp, by rw [hj]; split <;> simp⟩ (fun i b hi hI nx hnx => ?_) (fun b hI nx => ?_)
    · obtain ⟨hI, hb⟩ := hI
      rw [s_ridgewayref07_Of1]
      refine ok_if (fun _ => ok_ix (by omega) (by omega) fun hlt => ok_bde (ref1Put_eq _ _ (by dsimp only; omega)) ?_) fun h => absurd (Int.ofNat_lt.2 hi) h
      simp only [Int.toNat_natCast]
      refine hnx _ ⟨?_, by simp only [List.length_append, putL_length]; omega⟩
      rw [hI, ← List.take_append_getElem hi, List.flatMap_append]
      simp
    · rw [s_ridgewayref07_Of1]
      have hI := hI.1
      rw [List.take_length] at hI
      have hbS : b = S := by
        rw [hI, hj, ← hS]
        split
        · rename_i h0; rw [List.length_eq_zero_iff.1 h0]; rfl
        · rfl
      have h1 : [toB (IntKind.u8.wrap p.Origin)] = putL p.Origin 1 := by rw [byte0]; simp [putL]
      refine ok_if (fun h => by dsimp only at h; omega) fun _ => ok_bde (ref1Put_eq [] _ (by simp)) (ok_if (fun ho => ok_bde (ref1Put_eq [] _ (by simp)) (ok_ap (by simp) (by simp) (ok_some ?_))) fun ho => ok_some ?_)
      · rw [hr, if_neg ho, hbS, h1]; rfl
      · rw [hr, if_pos (Decidable.not_not.1 ho), hbS, h1]; rfl
  refine ok_if (fun ho => ok_bde (octPut_eq [] _ 4 (by omega) (by omega) (by simp)) (ok_ap (by simp) (by simp) (ok_some ⟨ref _ ?_, by simp⟩))) fun ho => ok_some ⟨ref _ ?_, by simp⟩
  · rw [if_neg ho]; rfl
  · rw [if_pos (Decidable.not_not.1 ho)]; rfl
theorem attrIs_true (y : Attr) (l : List UInt8) (p : Path) (hy : y.Data.length ≤ 9223372036854775807) (hl : l.length ≤ 9223372036854775807) (hp : p.As.length ≤ 9223372036854775807) : m_ridgewaylaw07_AttrIs y l p = some true := by
  refine ok_true ?_
  unfold m_ridgewaylaw07_AttrIs
  refine ok_bde law07_awake (ok_if (fun _ => ok_some rfl) fun h1 => ok_if (fun _ => ok_some rfl) fun h2 => ok_if (fun _ => ok_some rfl) fun h3 => ok_bde (get_first l) (ok_bde (ref_first l) (ok_bd (t_all l (by omega)) fun r4 e4 h4 => ok_bde ((all_same l).trans e4) ?_)))
  obtain ⟨b1, e1, g1⟩ := t_attrSane p (by omega)
  obtain ⟨b2, e2, g2⟩ := t_refSane p (by omega)
  have hb : b2 = b1 := by
    cases b1 <;> cases b2 <;> simp_all
  subst hb
  obtain ⟨r8, e8, _⟩ := t_attrPut l y (by omega) (by omega)
  have e9 := refPut_eq l y (by omega) (by omega)
  obtain ⟨r12, e12, e13, h12⟩ := t_of p (by omega)
  refine ok_ifb (fun _ => ok_ifb (fun _ => ok_bde (sameA_refl [(firstA l).1] (by simp)) (ok_ifb (fun _ => ok_ifb (fun _ => ok_ifb (fun _ => ok_bde (sameA_refl r4.1 (by omega)) (ok_ifb (fun _ => ok_bde e8 (ok_bde (e9.trans e8) (ok_ifb (fun _ => ok_bde e1 (ok_bde e2 (ok_ifb (fun _ => ok_bde e12 (ok_bde e13 (ok_bde (sameA_refl r12 (by omega)) (ok_some rfl)))) fun h => by simp at h))) fun h => by simp at h))) fun h => Bool.noConfusion h)) fun h => by simp at h) fun h => by simp at h) fun h => Bool.noConfusion h)) fun h => by simp at h) fun h => Bool.noConfusion h
end Go.Proofs.Ytgakgilaikgboaa
