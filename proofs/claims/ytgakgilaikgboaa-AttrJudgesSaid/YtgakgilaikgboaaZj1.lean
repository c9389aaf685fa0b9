/- What the models come to. -/
import Derived.Test.YtgakgilaikgboaaPu0
import Derived.Test.YtgakgilaikgboaaMj1
import Derived.Test.YtgakgilaikgboaaQ0
import Derived.KernelRfl
namespace Go.Proofs.Ytgakgilaikgboaa
open Go.RowKit
set_option linter.unusedVariables false
set_option linter.unusedSimpArgs false

theorem octTake_eq (l : List UInt8) (n : Int) : m_octet_Take l n = some (if 0 ≤ n ∧ n ≤ l.length then (l.take n.toNat, l.drop n.toNat, true) else ([], [], false)) := by
  unfold m_octet_Take
  by_cases h1 : n < 0
  · rw [decide_eq_true h1, cond_true, if_neg (by omega)]
  rw [decide_eq_false h1, cond_false]
  by_cases h2 : n > (l.length : Int)
  · rw [decide_eq_true h2, cond_true, if_neg (by omega)]
  rw [decide_eq_false h2, cond_false, sl_pre (by omega), bd_some, sl_all (by omega), bd_some, if_pos (by omega)]
theorem octGet_eq (l : List UInt8) (a : Int) (h1 : 1 ≤ a) (h4 : a ≤ 4) : m_octet_Get l a = some (if a ≤ l.length then (((num (l.take a.toNat) : Nat) : Int), l.drop a.toNat, true) else (0, [], false)) := by
  unfold m_octet_Get
  rw [decide_eq_false (by omega), cond_false, decide_eq_false (by omega), cond_false, octTake_eq, bd_some]
  by_cases hk : a ≤ l.length
  · rw [if_pos (by omega), if_pos hk]
    refine loopC_ind (fun st => ∃ j : Nat, j ≤ a.toNat ∧ st = (((num (l.take j) : Nat) : Int), (j : Int))) (fun st => (a - st.2).toNat) ?_ _ _ ⟨0, Nat.zero_le _, by simp [num]⟩ (big_lt (by simp; omega))
    rintro st ⟨j, hj, rfl⟩ nx hnx
    unfold s_octet_Get1
    have hlen : (l.take a.toNat).length = a.toNat := by rw [List.length_take]; omega
    simp only [hlen]
    by_cases hlt : j < a.toNat
    · rw [decide_eq_true (by omega), cond_true, ix_nat (by rw [hlen]; exact hlt), bd_some, List.getElem_take]
      have hb : l[j].toNat < 256 := l[j].toNat_lt
      have hnl : num (l.take j) < 16777216 := by
        have := num_lt (l.take j)
        have : 256 ^ (l.take j).length ≤ 256 ^ 3 := Nat.pow_le_pow_right (by omega) (by rw [List.length_take]; omega)
        omega
      have e1 : IntKind.i64.wrap ((num (l.take j) : Nat) * 2 ^ (min (8 : Int).toNat IntKind.i64.bits) : Int) = (num (l.take j) : Nat) * 256 := by
        rw [show (2 : Int) ^ (min (8 : Int).toNat IntKind.i64.bits) = 256 from rfl, w64 (by omega) (by omega)]
      have e2 : IntKind.i64.wrap (l[j].toNat : Int) = l[j].toNat := w64 (by omega) (by omega)
      have e3 := or_byte (num (l.take j)) l[j].toNat hb hnl
      simp only [bits] at e3
      have e4 := num_step l j (by omega)
      rw [e1, e2, e3, ← e4, w64 (by omega) (by omega)]
      exact hnx _ ⟨j + 1, by omega, by simp⟩ (by simp; omega)
    · obtain rfl : j = a.toNat := by omega
      rw [decide_eq_false (by omega), cond_false]
  · rw [if_neg (by omega), if_neg hk]
    rw [show BIG = (BIG - 1) + 1 from rfl, loopC_succ]
    rfl
theorem u8_fdiv' (v : Int) (j : Nat) (h : j ≤ 3) : toB (IntKind.u8.wrap (v.fdiv (2 ^ (min (8 * j) 64)))) = octAt v j := by
  have : v.fdiv (2 ^ (8 * j)) = v / 2 ^ (8 * j) := by
    rw [Int.fdiv_eq_ediv_of_nonneg]
    exact Int.le_of_lt (Int.pow_pos (by decide))
  rw [Nat.min_eq_left (by omega), this, u8wrap_eq]
  rfl
theorem octPut_eq (l : List UInt8) (v a : Int) (h1 : 1 ≤ a) (h4 : a ≤ 4) (hl : l.length ≤ 140737488355000) : m_octet_Put l v a = some (l ++ putL v a.toNat) := by
  unfold m_octet_Put
  rw [decide_eq_false (by omega), cond_false, decide_eq_false (by omega), cond_false, sl_pre (by omega), bd_some, Int.toNat_natCast, List.take_length]
  refine loopC_ind (fun st => ∃ j : Nat, j ≤ a.toNat ∧ st = (l ++ (putL v a.toNat).take j, (j : Int))) (fun st => (a - st.2).toNat) ?_ _ _ ⟨0, Nat.zero_le _, by simp⟩ (big_lt (by simp; omega))
  rintro st ⟨j, hj, rfl⟩ nx hnx
  unfold s_octet_Put1
  by_cases hlt : j < a.toNat
  · rw [decide_eq_true (by simp only; omega), cond_true]
    have e1 : IntKind.i64.wrap (8 * IntKind.i64.wrap (IntKind.i64.wrap (a - 1) - (j : Int))) = ((8 * (a.toNat - 1 - j) : Nat) : Int) := by
      rw [w64 (x := a - 1) (by omega) (by omega), w64 (x := a - 1 - (j : Int)) (by omega) (by omega), w64 (by omega) (by omega)]
      omega
    simp only [e1]
    rw [nn_some (by omega), Int.toNat_natCast, show IntKind.i64.bits = 64 from rfl, u8_fdiv' v _ (by omega), ap_some (by simp; omega) (by simp; omega), bd_some, w64 (by omega) (by omega), List.append_assoc, ← putL_step v a.toNat j hlt]
    exact hnx _ ⟨j + 1, by omega, by simp⟩ (by simp; omega)
  · obtain rfl : j = a.toNat := by omega
    rw [decide_eq_false (by simp only; omega), cond_false, List.take_of_length_le (by rw [putL_length]; exact Nat.le_refl _)]
end Go.Proofs.Ytgakgilaikgboaa
namespace Go.Proofs.Ytgakgilaikgboaa
open Go.RowKit
set_option linter.unusedVariables false
set_option linter.unusedSimpArgs false
set_option maxRecDepth 100000
set_option maxHeartbeats 1000000

theorem wrap_rng (x : Int) : -9223372036854775808 ≤ IntKind.i64.wrap x ∧ IntKind.i64.wrap x ≤ 9223372036854775807 := by
  rw [IntKind.wrap_i64]
  omega
def takeR (l : List UInt8) (n : Int) : List UInt8 × List UInt8 × Bool := if 0 ≤ n ∧ n ≤ l.length then (l.take n.toNat, l.drop n.toNat, true) else ([], [], false)
theorem take_eq (l : List UInt8) (n : Int) : m_octet_Take l n = some (takeR l n) := by
  refine (?_ : Ok (m_octet_Take l n) (· = takeR l n)).elim fun x h => by rw [h.1, h.2]
  unfold m_octet_Take takeR
  refine ok_if (fun h => ok_some (by rw [if_neg (by omega)])) fun h => ok_if (fun h2 => ok_some (by rw [if_neg (by omega)])) fun h2 => ok_bde (sl_pre (by omega)) (ok_bde (sl_all (by omega)) (ok_some (by rw [if_pos (by omega)])))
theorem t_get (l : List UInt8) (n : Int) (hl : l.length ≤ 1000000) : Ok (m_octet_Get l n) fun r => r.2.1.length ≤ l.length ∧ (-9223372036854775808 ≤ r.1 ∧ r.1 ≤ 9223372036854775807) ∧ (¬ r.1 = 0 → 1 ≤ n ∧ n ≤ 4 ∧ r.2.1.length + n.toNat = l.length) := by
  unfold m_octet_Get
  refine ok_if (fun h => ok_some ⟨Nat.zero_le _, by simp, fun k => absurd rfl k⟩) fun h => ok_if (fun h2 => ok_some ⟨Nat.zero_le _, by simp, fun k => absurd rfl k⟩) fun h2 => ok_bde (take_eq _ _) ?_
  unfold takeR
  by_cases hn : 0 ≤ n ∧ n ≤ l.length
  · rw [if_pos hn]
    have ht : (l.take n.toNat).length = n.toNat := by rw [List.length_take]; omega
    have hd : (l.drop n.toNat).length = l.length - n.toNat := List.length_drop
    refine ok_acc n.toNat (fun _ b => -9223372036854775808 ≤ b ∧ b ≤ 9223372036854775807) (by omega) (by simp) (fun i b hi hI nx hnx => ?_) (fun b hI nx => ?_)
    · rw [s_octet_Get1]
      exact ok_if (fun _ => ok_ix (by dsimp only; omega) (by dsimp only; omega) fun hlt => hnx _ (wrap_rng _)) fun h => absurd (show (i : Int) < ((l.take n.toNat).length : Int) by omega) h
    · rw [s_octet_Get1]
      exact ok_if (fun h => absurd h (by dsimp only; omega)) fun _ => ok_some ⟨by dsimp only; omega, hI, fun _ => ⟨by omega, by omega, by dsimp only; omega⟩⟩
  · rw [if_neg hn]
    refine ok_acc 0 (fun _ b => b = 0) (by omega) rfl (fun i b hi hI nx hnx => by omega) (fun b hI nx => ?_)
    rw [s_octet_Get1]
    exact ok_if (fun h => absurd h (by simp)) fun _ => ok_some ⟨Nat.zero_le _, by dsimp only; omega, fun k => absurd hI k⟩
theorem t_put (l : List UInt8) (v n : Int) (hl : l.length ≤ 1000000) : Ok (m_octet_Put l v n) fun r => r.length ≤ l.length + 4 := by
  unfold m_octet_Put
  refine ok_if (fun _ => ok_some (by omega)) fun h1 => ok_if (fun _ => ok_some (by omega)) fun h2 => ok_bde (sl_pre (by omega)) ?_
  rw [Int.toNat_natCast, List.take_length]
  refine ok_acc n.toNat (fun i b => b.length = l.length + i) (by omega) rfl (fun i b hi hI nx hnx => ?_) (fun b hI nx => ?_)
  · rw [s_octet_Put1]
    refine ok_if (fun _ => ?_) fun h => absurd (show (i : Int) < n by omega) h
    have hw : 0 ≤ IntKind.i64.wrap ((8 : Int) * (IntKind.i64.wrap ((IntKind.i64.wrap (n - (1 : Int))) - (i : Int)))) := by
      rw [w64 (x := n - 1) (by omega) (by omega), w64 (x := n - 1 - i) (by omega) (by omega), w64 (by omega) (by omega)]
      omega
    dsimp only
    rw [nn_some hw]
    exact ok_ap (by simp; omega) (by simp; omega) (hnx _ (by simp; omega))
  · rw [s_octet_Put1]
    exact ok_if (fun h => absurd h (by dsimp only; omega)) fun _ => ok_some (by dsimp only; omega)
theorem oct_eq (n : Int) : m_attr_octetSized n = some (decide (0 ≤ n ∧ n ≤ 255)) := by
  refine (?_ : Ok (m_attr_octetSized n) (· = decide (0 ≤ n ∧ n ≤ 255))).elim fun x h => by rw [h.1, h.2]
  unfold m_attr_octetSized
  refine ok_if (fun h => ok_some ?_) fun h => ok_some ?_
  · by_cases h2 : n ≤ 255
    · rw [decide_eq_true h2, decide_eq_true (by omega)]
    · rw [decide_eq_false h2, decide_eq_false (by omega)]
  · rw [decide_eq_false (by omega)]
theorem t_attrPut (l : List UInt8) (y : Attr) (hl : l.length ≤ 500000) (hy : y.Data.length ≤ 10000) : Ok (m_attr_Put l y) fun r => r.length ≤ l.length + 12 + y.Data.length := by
  unfold m_attr_Put
  refine ok_bde (oct_eq _) (ok_ifnb (fun _ => ok_some (by omega)) fun h1 => ok_bde (oct_eq _) (ok_ifnb (fun _ => ok_some (by omega)) fun h2 => ok_if (fun h => by omega) fun _ => ok_if (fun h => ?_) fun h => ?_))
  · exact ok_bd (t_put _ _ _ (by omega)) fun r3 _ h3 => ok_bd (t_put _ _ _ (by omega)) fun r4 _ h4 => ok_bd (t_put _ _ _ (by omega)) fun r5 _ h5 => ok_ap (by omega) (by omega) (ok_some (by simp; omega))
  · exact ok_bd (t_put _ _ _ (by omega)) fun r3 _ h3 => ok_bd (t_put _ _ _ (by omega)) fun r4 _ h4 => ok_bd (t_put _ _ _ (by omega)) fun r5 _ h5 => ok_ap (by omega) (by omega) (ok_some (by simp; omega))
def fatalB (y : Attr) : Bool := (m_attr_fatal y).getD false
theorem fatal_eq (y : Attr) : m_attr_fatal y = some (fatalB y) := by
  have h : Ok (m_attr_fatal y) fun _ => True := by
    unfold m_attr_fatal
    exact ok_if (fun _ => ok_if (fun _ => ok_some trivial) fun _ => ok_ifnb (fun _ => ok_some trivial) fun _ => ok_some trivial) fun _ => ok_ifnb (fun _ => ok_some trivial) fun _ => ok_some trivial
  obtain ⟨b, e, _⟩ := h
  unfold fatalB
  rw [e]
  rfl
theorem t_num (l : List UInt8) (hl : l.length ≤ 1000000) : Ok (m_attr_number l) fun _ => True := by
  unfold m_attr_number
  exact ok_bd (t_get l 4 hl) fun r1 _ h1 => ok_if (fun _ => ok_some trivial) fun _ => ok_some trivial
theorem if_cong {R : Type} {b : Bool} {A A' B B' : R} (h1 : A = A') (h2 : b = false → B = B') : (bif b then A else B) = bif b then A' else B' := by
  cases b
  · exact h2 rfl
  · exact h1
theorem if_cong1 {R : Type} {b : Bool} {A A' B B' : R} (h1 : b = true → A = A') (h2 : B = B') : (bif b then A else B) = bif b then A' else B' := by
  cases b
  · exact h2
  · exact h1 rfl
theorem bd_cong {α R : Type} {m m' : Option α} {k k' : α → Option R} (h : m = m') (h2 : ∀ x, k x = k' x) : bd m k = bd m' k' := by
  rw [h, funext h2]
theorem jn_cong {τ R : Type} {i : Nat} {f f' : (τ → Option R) → Option R} {k k' : τ → Option R} (h : ∀ k, f k = f' k) (h2 : ∀ x, k x = k' x) : jn i f k = jn i f' k' := by
  rw [funext h, funext h2]
/-- What a flag says, and what else an attribute holds. -/
def view (y : Attr) : Int × List UInt8 := (IntKind.i64.wrap ((BitVec.ofInt IntKind.i64.bits y.Flags &&& BitVec.ofInt IntKind.i64.bits (192 : Int)).toNat : Int), y.Data)
/-- What is made of a list with no fatal attribute. -/
def After (r : Path × Int × Note) : Prop := (r.2.1 = 0 ∨ r.2.1 = 1) ∧ r.2.2 = ⟨0, 0, []⟩ ∧ r.1.As.length ≤ 10000
def bad2 : Path × Int × Note := (⟨0, [], 0, 0⟩, 1, ⟨0, 0, []⟩)
theorem after_bad : Ok (some bad2) After := ok_some ⟨.inr rfl, rfl, Nat.zero_le _⟩
theorem judge_ex : ∃ bk : List (Int × Attr) → Option (Path × Int × Note), (∀ l, m_attr_Judge l = loopC (s_attr_Judge1 l) bk BIG ((0 : Int), [])) ∧
    (∀ e e' : List (Int × Attr), (∀ t, (mget e t).map view = (mget e' t).map view) → bk e = bk e') ∧
    (∀ e : List (Int × Attr), (∀ t y, mget e t = some y → y.Data.length ≤ 10000) → Ok (bk e) After) := by
  refine ⟨_, fun l => by unfold m_attr_Judge; rfl, fun e e' h => ?_, fun e h => ?_⟩
  · have key : ∀ t, (∃ y y', mget e t = some y ∧ mget e' t = some y' ∧ mhas e t = true ∧ mhas e' t = true ∧ (IntKind.i64.wrap ((BitVec.ofInt IntKind.i64.bits y.Flags &&& BitVec.ofInt IntKind.i64.bits (192 : Int)).toNat : Int)) = (IntKind.i64.wrap ((BitVec.ofInt IntKind.i64.bits y'.Flags &&& BitVec.ofInt IntKind.i64.bits (192 : Int)).toNat : Int)) ∧ y.Data = y'.Data) ∨ (mhas e t = false ∧ mhas e' t = false) := fun t => by
      have ht := h t
      rw [mhas_get, mhas_get]
      cases h1 : mget e t with
      | none =>
        cases h2 : mget e' t with
        | none => exact .inr ⟨rfl, rfl⟩
        | some y' => rw [h1, h2] at ht; cases ht
      | some y =>
        cases h2 : mget e' t with
        | none => rw [h1, h2] at ht; cases ht
        | some y' =>
          rw [h1, h2] at ht
          simp only [Option.map_some, Option.some.injEq, view, Prod.mk.injEq] at ht
          exact .inl ⟨y, y', rfl, rfl, rfl, rfl, ht.1, ht.2⟩
    have cg : ∀ (t : Int) (F F' : Attr → Option (Path × Int × Note)) (A : Option (Path × Int × Note)), (∀ y y' : Attr, (IntKind.i64.wrap ((BitVec.ofInt IntKind.i64.bits y.Flags &&& BitVec.ofInt IntKind.i64.bits (192 : Int)).toNat : Int)) = (IntKind.i64.wrap ((BitVec.ofInt IntKind.i64.bits y'.Flags &&& BitVec.ofInt IntKind.i64.bits (192 : Int)).toNat : Int)) → y.Data = y'.Data → F y = F' y') →
        (bif mhas e t then bd (mget e t) F else A) = (bif mhas e' t then bd (mget e' t) F' else A) := fun t F F' A hF => by
      rcases key t with ⟨y, y', h1, h2, h3, h4, h5, h6⟩ | ⟨h1, h2⟩
      · rw [h1, h2, h3, h4, cond_true, cond_true, bd_some, bd_some, hF y y' h5 h6]
      · rw [h1, h2, cond_false, cond_false]
    refine cg 1 _ _ _ fun y y' h1 h2 => ?_
    rw [h1, h2]
    refine if_cong rfl fun _ => jn_cong (fun _ => rfl) fun i1 => if_cong rfl fun _ => cg 2 _ _ _ fun y9 y9' h1 h2 => ?_
    rw [h1, h2]
    refine if_cong rfl fun _ => jn_cong (fun _ => rfl) fun i2 => if_cong rfl fun _ => cg 3 _ _ _ fun y14 y14' h1 h2 => ?_
    rw [h1, h2]
    refine if_cong rfl fun _ => bd_cong rfl fun r15 => if_cong rfl fun _ => ?_
    rcases key 4 with ⟨y, y', k1, k2, k3, k4, k5, k6⟩ | ⟨k1, k2⟩
    · rw [k1, k2, k3, k4, cond_true, cond_true, bd_some, bd_some, k5, k6]
      refine if_cong rfl fun _ => if_cong rfl fun _ => cg 35 _ _ _ fun y17 y17' h1 h2 => ?_
      rw [h1, h2]
    · rw [k1, k2, cond_false, cond_false]
      refine cg 35 _ _ _ fun y17 y17' h1 h2 => ?_
      rw [h1, h2]
  · have fork : ∀ (t : Int) (F : Attr → Option (Path × Int × Note)) (A : Option (Path × Int × Note)), (∀ y : Attr, y.Data.length ≤ 10000 → Ok (F y) After) → Ok A After → Ok (bif mhas e t then bd (mget e t) F else A) After := fun t F A hF hA => by
      rw [mhas_get]
      cases h1 : mget e t with
      | none => exact hA
      | some y =>
        rw [bd_some]
        exact hF y (h t y h1)
    have ok0 : ∀ {p : Path}, p.As.length ≤ 10000 → Ok (some (p, (0 : Int), (⟨0, 0, []⟩ : Note))) After := fun hp => ok_some ⟨.inl rfl, rfl, hp⟩
    have o35 : ∀ (i1 : Bool × Int) (i2 : Bool × List Int) (r15 : Int × Bool), i2.2.length ≤ 10000 → Ok (bif mhas e (35 : Int) then
                            bd (mget e (35 : Int)) fun y17 =>
                              bif decide (¬ (IntKind.i64.wrap ((BitVec.ofInt IntKind.i64.bits y17.Flags &&& BitVec.ofInt IntKind.i64.bits (192 : Int)).toNat : Int)) = (192 : Int)) then
                                some ((Path.mk (0 : Int) ([]) (0 : Int) (0 : Int)), (1 : Int), (Note.mk (0 : Int) (0 : Int) ([])))
                              else
                                bd (m_attr_number y17.Data) fun r18 =>
                                bif (!r18.2) then
                                  some ((Path.mk (0 : Int) ([]) (0 : Int) (0 : Int)), (1 : Int), (Note.mk (0 : Int) (0 : Int) ([])))
                                else
                                  some ((Path.mk i1.2 i2.2 r15.1 r18.1), (0 : Int), (Note.mk (0 : Int) (0 : Int) ([])))
                            else
                              some ((Path.mk i1.2 i2.2 r15.1 (0 : Int)), (0 : Int), (Note.mk (0 : Int) (0 : Int) ([])))) After := fun i1 i2 r15 h2 =>
      fork 35 _ _ (fun y hy => ok_if (fun _ => after_bad) fun _ => ok_bd (t_num _ (by omega)) fun _ _ _ => ok_ifnb (fun _ => after_bad) fun _ => ok0 h2) (ok0 h2)
    refine fork 1 _ _ (fun y hy => ok_if (fun _ => after_bad) fun _ => ok_jn (fun _ => True) (fun k hk => ok_if (fun _ => hk _ trivial) fun hl => ok_ix (by omega) (by omega) fun _ => ok_if (fun _ => hk _ trivial) fun _ => ok_ix (by omega) (by omega) fun _ => hk _ trivial) fun i1 _ => ok_ifnb (fun _ => after_bad) fun _ => ?_) after_bad
    refine fork 2 _ _ (fun y9 hy9 => ok_if (fun _ => after_bad) fun _ => ok_jn (fun j => j.2.length ≤ 10000) (fun k hk => ?_) fun i2 hi2 => ok_ifnb (fun _ => after_bad) fun _ => ?_) after_bad
    · refine ok_loop (fun st => st.1.length + st.2.length ≤ 10000) (fun st => st.1.length) (by simpa using hy9) (by dsimp only; omega) fun st hst nx hnx => ?_
      rw [s_attr_Judge2]
      refine ok_if (fun h0 => ok_bd (t_get _ 1 (by omega)) fun r10 _ h10 => ok_bd (t_get _ 1 (by omega)) fun r11 _ h11 => ok_if (fun _ => hk _ (by dsimp only; omega)) fun q1 => ok_if (fun _ => hk _ (by dsimp only; omega)) fun q2 => ?_) fun _ => hk _ (by dsimp only; omega)
      have g10 := h10.2.2 (by omega)
      have g11 := h11.2.2 q2
      refine ok_loop (fun s3 => 0 ≤ s3.2.1 ∧ s3.1.length + s3.2.2.length ≤ 9998 ∧ s3.1.length < st.1.length) (fun s3 => (9223372036854775807 - s3.2.1).toNat) ⟨Int.le_refl _, by dsimp only; omega, by dsimp only; omega⟩ (by dsimp only; omega) fun s3 hs3 nx3 hnx3 => ?_
      rw [s_attr_Judge3]
      refine ok_if (fun h3 => ok_bd (t_get _ 4 (by omega)) fun r12 _ h12 => ok_if (fun _ => hk _ (by dsimp only; omega)) fun q3 => ?_) fun _ => hnx _ (by dsimp only; omega) (by dsimp only; omega)
      have g12 := h12.2.2 q3
      refine ok_ap (by simp; omega) (by simp; omega) (hnx3 _ ?_ ?_)
      · simp only [List.length_append, List.length_singleton]
        rw [w64 (by omega) (by omega)]
        omega
      · dsimp only
        rw [w64 (by omega) (by omega)]
        omega
    · refine fork 3 _ _ (fun y14 hy14 => ok_if (fun _ => after_bad) fun _ => ok_bd (t_num _ (by omega)) fun r15 _ _ => ok_ifnb (fun _ => after_bad) fun _ => fork 4 _ _ (fun y16 hy16 => ok_if (fun _ => after_bad) fun _ => ok_ifn (fun _ => after_bad) fun _ => o35 i1 i2 r15 hi2) (o35 i1 i2 r15 hi2)) after_bad
theorem law07_awake : m_ridgewaylaw07_awake = some true := by kernel_rfl
end Go.Proofs.Ytgakgilaikgboaa
namespace Go.Proofs.Ytgakgilaikgboaa
open Go.RowKit
set_option linter.unusedVariables false
set_option linter.unusedSimpArgs false
set_option maxRecDepth 100000
set_option maxHeartbeats 1000000

/-- The first of each kind; nothing if one is fatal. -/
def gat : List (Int × Attr) → List Attr → Option (List (Int × Attr))
  | e, [] => some e
  | e, y :: ys => if (mget e y.Typ).isSome = true then gat e ys else if fatalB y = true then none else gat (e ++ [(y.Typ, y)]) ys
theorem set_new {e : List (Int × Attr)} {k : Int} {y : Attr} (h : mget e k = none) : msetL e k y = e ++ [(k, y)] := by
  rw [mget_eq] at h
  induction e with
  | nil => rfl
  | cons p e ih =>
    obtain ⟨a, b⟩ := p
    rw [List.find?_cons] at h
    rw [msetL]
    by_cases hk : a = k
    · rw [decide_eq_true hk] at h; cases h
    · rw [decide_eq_false hk] at h
      rw [if_neg hk, ih h]
      rfl
theorem mget_app {e : List (Int × Attr)} {k t : Int} {y z : Attr} (h : mget (e ++ [(k, y)]) t = some z) : mget e t = some z ∨ z = y := by
  rw [mget_eq, List.find?_append, Option.map_or] at h
  cases he : mget e t with
  | some w => rw [mget_eq] at he; rw [he] at h; exact .inl h
  | none =>
    rw [mget_eq] at he
    rw [he, Option.none_or, List.find?_cons] at h
    by_cases hk : k = t
    · rw [decide_eq_true hk] at h
      cases h
      exact .inr rfl
    · rw [decide_eq_false hk] at h
      cases h
/-- Lists that are few. -/
structure FewA (l : List Attr) : Prop where
  len : l.length ≤ 20
  data : ∀ y ∈ l, y.Data.length ≤ 2000
/-- What is fatal. -/
def Fatal (r : Path × Int × Note) : Prop := r.1 = ⟨0, [], 0, 0⟩ ∧ r.2.1 = 2 ∧ r.2.2.Code = 3 ∧ r.2.2.Sub = 2
theorem t_judge {bk : List (Int × Attr) → Option (Path × Int × Note)} (h0 : ∀ l, m_attr_Judge l = loopC (s_attr_Judge1 l) bk BIG ((0 : Int), []))
    (ho : ∀ e : List (Int × Attr), (∀ t y, mget e t = some y → y.Data.length ≤ 10000) → Ok (bk e) After) (l : List Attr) (f : FewA l) :
    Ok (m_attr_Judge l) fun r => (gat [] l = none → Fatal r) ∧ ∀ e, gat [] l = some e → bk e = some r ∧ After r := by
  have hl := f.len
  rw [h0]
  refine ok_acc' l.length (fun i e => gat e (l.drop i) = gat [] l ∧ ∀ t y, mget e t = some y → y.Data.length ≤ 10000) (by omega) ⟨rfl, fun t y h => by rw [mget_eq] at h; cases h⟩ (fun i e hi hI nx hnx => ?_) (fun e hI nx => ?_)
  · obtain ⟨hI, hd⟩ := hI
    have hy := f.data _ (List.getElem_mem hi)
    rw [List.drop_eq_getElem_cons hi, gat] at hI
    rw [s_attr_Judge1]
    refine ok_if (fun _ => ok_ix (by dsimp only; omega) (by dsimp only; omega) fun hlt => ?_) fun h => absurd (Int.ofNat_lt.2 hi) h
    simp only [Int.toNat_natCast]
    rw [mhas_get]
    cases hg : mget e l[i].Typ with
    | some z =>
      rw [hg, if_pos (show (some z).isSome = true from rfl)] at hI
      rw [show (some z).isSome = true from rfl, cond_true]
      exact ok_bde rfl (hnx _ ⟨hI, hd⟩)
    | none =>
      rw [hg, if_neg (show ¬ (none : Option Attr).isSome = true by decide)] at hI
      rw [show (none : Option Attr).isSome = false from rfl, cond_false]
      refine ok_bde (ms_eq _ _ _) (ok_bde (fatal_eq _) (ok_ifb (fun hf => ?_) fun hf => hnx _ ⟨?_, fun t y h => ?_⟩))
      · rw [if_pos hf] at hI
        exact ok_bd (t_attrPut [] _ (by simp) (by omega)) fun r5 _ _ => ok_some ⟨fun _ => ⟨rfl, rfl, rfl, rfl⟩, fun e' he => by rw [← hI] at he; cases he⟩
      · rw [if_neg (by rw [hf]; decide)] at hI
        rw [set_new hg]
        exact hI
      · rw [set_new hg] at h
        rcases mget_app h with h | rfl
        · exact hd t y h
        · omega
  · obtain ⟨hI, hd⟩ := hI
    rw [List.drop_length, gat] at hI
    rw [s_attr_Judge1]
    refine ok_if (fun h => by dsimp only at h; omega) fun _ => ?_
    obtain ⟨r, e1, e2⟩ := ho e hd
    refine ⟨r, e1, fun h => ?_, fun e' he => ?_⟩
    · rw [← hI] at h; cases h
    · rw [← hI] at he
      cases he
      exact ⟨e1, e2⟩
theorem same_refl (p : Path) (h : p.As.length ≤ 10000) : m_ridgewayref07_SamePath p p = some true := by
  refine ok_true ?_
  unfold m_ridgewayref07_SamePath
  refine ok_if (fun h => absurd rfl h) fun _ => ok_if (fun h => absurd rfl h) fun _ => ok_if (fun h => absurd rfl h) fun _ => ok_if (fun h => absurd rfl h) fun _ => ok_idx p.As.length (fun _ => True) (by omega) trivial (fun i hi _ nx hnx => ?_) (fun _ nx => ?_)
  · rw [s_ridgewayref07_SamePath1]
    exact ok_if (fun _ => ok_ix (by omega) (by omega) fun _ => ok_ix (by omega) (by omega) fun _ => ok_if (fun h => absurd rfl h) fun _ => hnx trivial) fun h => absurd (Int.ofNat_lt.2 hi) h
  · rw [s_ridgewayref07_SamePath1]
    exact ok_if (fun h => by omega) fun _ => ok_some rfl

/-- No kind twice. -/
def Once (l : List Attr) : Prop := l.Pairwise fun a b => ¬ a.Typ = b.Typ
theorem gat_once : ∀ (l : List Attr) (e : List (Int × Attr)), Once l → (∀ y ∈ l, mget e y.Typ = none) → gat e l = if l.any fatalB = true then none else some (e ++ l.map fun y => (y.Typ, y))
  | [], e, _, _ => by simp [gat]
  | y :: ys, e, ho, hn => by
    rw [gat, hn y List.mem_cons_self, if_neg (show ¬ (none : Option Attr).isSome = true by decide), List.any_cons]
    cases hf : fatalB y with
    | true => rw [if_pos rfl, Bool.true_or, if_pos rfl]
    | false =>
      rw [if_neg (by decide), Bool.false_or, gat_once ys (e ++ [(y.Typ, y)]) (List.pairwise_cons.1 ho).2 fun z hz => ?_]
      · split
        · rfl
        · rw [List.map_cons, List.append_assoc]; rfl
      · have h1 := hn z (List.mem_cons_of_mem _ hz)
        have h2 := (List.pairwise_cons.1 ho).1 z hz
        rw [mget_eq] at h1 ⊢
        rw [List.find?_append]
        rw [Option.map_eq_none_iff] at h1
        rw [h1, Option.none_or, List.find?_cons, decide_eq_false h2]
        rfl
theorem mget_once (t : Int) : ∀ (l : List Attr), Once l → ∀ z, mget (l.map fun y => (y.Typ, y)) t = some z ↔ z ∈ l ∧ z.Typ = t
  | [], _, z => by simp [mget_eq]
  | y :: ys, ho, z => by
    have ih := mget_once t ys (List.pairwise_cons.1 ho).2 z
    have hn := (List.pairwise_cons.1 ho).1
    rw [mget_eq] at ih
    rw [mget_eq, List.map_cons, List.find?_cons]
    by_cases hk : y.Typ = t
    · rw [decide_eq_true hk]
      constructor
      · intro h
        cases h
        exact ⟨List.mem_cons_self, hk⟩
      · rintro ⟨hz, ht⟩
        rcases List.mem_cons.1 hz with rfl | hz
        · rfl
        · exact absurd (hk.trans ht.symm) (hn z hz)
    · rw [decide_eq_false hk]
      refine ih.trans ⟨fun ⟨h1, h2⟩ => ⟨List.mem_cons_of_mem _ h1, h2⟩, fun ⟨h1, h2⟩ => ?_⟩
      rcases List.mem_cons.1 h1 with rfl | h1
      · exact absurd h2 hk
      · exact ⟨h1, h2⟩
end Go.Proofs.Ytgakgilaikgboaa
namespace Go.Proofs.Ytgakgilaikgboaa
open Go.RowKit
set_option linter.unusedVariables false
set_option linter.unusedSimpArgs false
set_option maxRecDepth 100000
set_option maxHeartbeats 1000000
theorem t_fewA (l : List Attr) (hl : l.length ≤ 9223372036854775807) : Ok (m_ridgewayref07_Few l) fun b => b = true → FewA l := by
  unfold m_ridgewayref07_Few
  refine ok_idx l.length (fun j => ∀ i (h : i < l.length), i < j → l[i].Data.length ≤ 2000) hl (fun _ _ h => absurd h (Nat.not_lt_zero _)) (fun i hi hI nx hnx => ?_) (fun hI nx => ?_)
  · rw [s_ridgewayref07_Few1]
    refine ok_if (fun _ => ok_ix (by omega) (by omega) fun hlt => ok_if (fun _ => ok_some fun k => Bool.noConfusion k) fun h1 => hnx fun j hj hji => ?_) fun h => absurd (Int.ofNat_lt.2 hi) h
    simp only [Int.toNat_natCast] at h1
    rcases Nat.lt_succ_iff_lt_or_eq.1 hji with g | rfl
    · exact hI j hj g
    · omega
  · rw [s_ridgewayref07_Few1]
    refine ok_if (fun h => by omega) fun _ => ok_some fun k => ⟨by have := of_decide_eq_true k; omega, fun y hy => ?_⟩
    obtain ⟨i, h, rfl⟩ := List.getElem_of_mem hy
    exact hI i h h
end Go.Proofs.Ytgakgilaikgboaa
namespace Go.Proofs.Ytgakgilaikgboaa
open Go.RowKit
set_option linter.unusedVariables false
set_option linter.unusedSimpArgs false
set_option maxRecDepth 100000
set_option maxHeartbeats 1000000

theorem ok_ine' {R : Type} {Q : R → Prop} {p : Prop} {_ : Decidable p} {A B : Option R} (h1 : ¬ p → Ok A Q) (h2 : p → Ok B Q) : Ok (bif decide (¬ p) then A else B) Q := ok_if h1 fun h => h2 (Decidable.not_not.1 h)
def c0 (f : Int) : Int := IntKind.i64.wrap ((BitVec.ofInt IntKind.i64.bits f &&& BitVec.ofInt IntKind.i64.bits (239 : Int)).toNat : Int)
def c1 (f : Int) : Int := IntKind.i64.wrap ((BitVec.ofInt IntKind.i64.bits f ||| BitVec.ofInt IntKind.i64.bits (16 : Int)).toNat : Int)
def b16 (f : Int) : Int := IntKind.i64.wrap ((BitVec.ofInt IntKind.i64.bits f &&& BitVec.ofInt IntKind.i64.bits (16 : Int)).toNat : Int)
def n16 (f : Int) : Int := IntKind.i64.wrap ((BitVec.ofInt IntKind.i64.bits f &&& ~~~ BitVec.ofInt IntKind.i64.bits (16 : Int)).toNat : Int)
theorem fl_fin : ∀ f : Fin 256, (0 ≤ c0 (f.val : Int) ∧ c0 (f.val : Int) ≤ 255) ∧ b16 (c0 (f.val : Int)) = 0 ∧ n16 (f.val : Int) = c0 (f.val : Int) ∧ (0 ≤ c1 (c0 (f.val : Int)) ∧ c1 (c0 (f.val : Int)) ≤ 255) ∧ ¬ b16 (c1 (c0 (f.val : Int))) = 0 := by decide
theorem fl_all (f : Int) (h : 0 ≤ f ∧ f ≤ 255) : (0 ≤ c0 f ∧ c0 f ≤ 255) ∧ b16 (c0 f) = 0 ∧ n16 f = c0 f ∧ (0 ≤ c1 (c0 f) ∧ c1 (c0 f) ≤ 255) ∧ ¬ b16 (c1 (c0 f)) = 0 := by
  have := fl_fin ⟨f.toNat, by omega⟩
  rwa [show ((f.toNat : Nat) : Int) = f by omega] at this
/-- The octets of an attribute. -/
def encA (y : Attr) : List UInt8 := putL y.Flags 1 ++ (putL y.Typ 1 ++ (putL (y.Data.length : Int) (if y.Data.length > 255 then 2 else 1) ++ y.Data))
/-- As it comes back. -/
def canon (y : Attr) : Attr := ⟨if y.Data.length > 255 then c1 (c0 y.Flags) else c0 y.Flags, y.Typ, y.Data⟩
structure Canon (y : Attr) : Prop where
  fl : 0 ≤ y.Flags ∧ y.Flags ≤ 255
  ty : 0 ≤ y.Typ ∧ y.Typ ≤ 255
  len : y.Data.length ≤ 65535
  bit : b16 y.Flags = 0 ↔ y.Data.length ≤ 255
theorem canon_ok (y : Attr) (hf : 0 ≤ y.Flags ∧ y.Flags ≤ 255) (ht : 0 ≤ y.Typ ∧ y.Typ ≤ 255) (hl : y.Data.length ≤ 65535) : Canon (canon y) := by
  obtain ⟨h1, h2, h3, h4, h5⟩ := fl_all y.Flags hf
  unfold canon
  by_cases h : y.Data.length > 255
  · rw [if_pos h]
    exact ⟨h4, ht, hl, ⟨fun k => absurd k h5, fun k => by dsimp only at k; omega⟩⟩
  · rw [if_neg h]
    exact ⟨h1, ht, hl, ⟨fun _ => by dsimp only; omega, fun _ => h2⟩⟩
theorem enc_len (y : Attr) : (encA y).length ≤ y.Data.length + 4 := by
  unfold encA
  simp only [List.length_append, putL_length]
  split <;> omega
theorem attrPut_eq (l : List UInt8) (y : Attr) (hb : l.length ≤ 1000000) (hf : 0 ≤ y.Flags ∧ y.Flags ≤ 255) (ht : 0 ≤ y.Typ ∧ y.Typ ≤ 255) (hl : y.Data.length ≤ 65535) : m_attr_Put l y = some (l ++ encA (canon y)) := by
  obtain ⟨h1, h2, h3, h4, h5⟩ := fl_all y.Flags hf
  refine (?_ : Ok (m_attr_Put l y) (· = l ++ encA (canon y))).elim fun x h => by rw [h.1, h.2]
  have p1 : ∀ v : Int, (putL v 1).length = 1 := fun v => putL_length v 1
  have p2 : ∀ v : Int, (putL v 2).length = 2 := fun v => putL_length v 2
  unfold m_attr_Put encA canon
  refine ok_bde (oct_eq _) (ok_ifnb (fun h => absurd (of_decide_eq_false h) (fun k => k ⟨hf.1, hf.2⟩)) fun _ => ok_bde (oct_eq _) (ok_ifnb (fun h => absurd (of_decide_eq_false h) (fun k => k ⟨ht.1, ht.2⟩)) fun _ => ok_if (fun h => by omega) fun _ => ok_if (fun h => ?_) fun h => ?_))
  · rw [if_pos (by omega), if_pos (by dsimp only; omega)]
    refine ok_bde (octPut_eq _ _ 1 (by omega) (by omega) (by omega)) (ok_bde (octPut_eq _ _ 1 (by omega) (by omega) (by simp [putL_length]; omega)) (ok_bde (octPut_eq _ _ 2 (by omega) (by omega) (by simp [putL_length]; omega)) (ok_ap (by simp [putL_length]; omega) (by simp [putL_length]; omega) (ok_some ?_))))
    show l ++ putL (c1 (n16 y.Flags)) 1 ++ putL y.Typ 1 ++ putL (y.Data.length : Int) 2 ++ y.Data = _
    rw [h3]
    simp only [List.append_assoc]
  · rw [if_neg (by omega), if_neg (by dsimp only; omega)]
    refine ok_bde (octPut_eq _ _ 1 (by omega) (by omega) (by omega)) (ok_bde (octPut_eq _ _ 1 (by omega) (by omega) (by simp [putL_length]; omega)) (ok_bde (octPut_eq _ _ 1 (by omega) (by omega) (by simp [putL_length]; omega)) (ok_ap (by simp [putL_length]; omega) (by simp [putL_length]; omega) (ok_some ?_))))
    show l ++ putL (n16 y.Flags) 1 ++ putL y.Typ 1 ++ putL (y.Data.length : Int) 1 ++ y.Data = _
    rw [h3]
    simp only [List.append_assoc]
theorem attrPut_no (l : List UInt8) (y : Attr) (h : ¬ ((0 ≤ y.Flags ∧ y.Flags ≤ 255) ∧ (0 ≤ y.Typ ∧ y.Typ ≤ 255))) : m_attr_Put l y = some l := by
  refine (?_ : Ok (m_attr_Put l y) (· = l)).elim fun x h => by rw [h.1, h.2]
  unfold m_attr_Put
  refine ok_bde (oct_eq _) (ok_ifnb (fun _ => ok_some rfl) fun h1 => ok_bde (oct_eq _) (ok_ifnb (fun _ => ok_some rfl) fun h2 => ?_))
  exact absurd ⟨of_decide_eq_true h1, of_decide_eq_true h2⟩ h
theorem fl2_fin : ∀ f : Fin 256, toB (IntKind.u8.wrap (IntKind.i64.wrap ((f.val : Int) - (IntKind.i64.wrap (((IntKind.i64.wrap ((f.val : Int).tdiv (16 : Int))).tmod (2 : Int)) * (16 : Int)))))) = octAt (c0 (f.val : Int)) 0 ∧
    toB (IntKind.u8.wrap (IntKind.i64.wrap ((IntKind.i64.wrap ((f.val : Int) - (IntKind.i64.wrap (((IntKind.i64.wrap ((f.val : Int).tdiv (16 : Int))).tmod (2 : Int)) * (16 : Int))))) + (16 : Int)))) = octAt (c1 (c0 (f.val : Int))) 0 := by decide
theorem fl2 (f : Int) (h : 0 ≤ f ∧ f ≤ 255) : toB (IntKind.u8.wrap (IntKind.i64.wrap (f - (IntKind.i64.wrap (((IntKind.i64.wrap (f.tdiv (16 : Int))).tmod (2 : Int)) * (16 : Int)))))) = octAt (c0 f) 0 ∧
    toB (IntKind.u8.wrap (IntKind.i64.wrap ((IntKind.i64.wrap (f - (IntKind.i64.wrap (((IntKind.i64.wrap (f.tdiv (16 : Int))).tmod (2 : Int)) * (16 : Int))))) + (16 : Int)))) = octAt (c1 (c0 f)) 0 := by
  have := fl2_fin ⟨f.toNat, by omega⟩
  rwa [show ((f.toNat : Nat) : Int) = f by omega] at this
theorem byte0 (v : Int) : toB (IntKind.u8.wrap v) = octAt v 0 := by
  unfold toB octAt
  rw [u8wrap_eq]
  simp
theorem byte1 (n : Nat) (h : n ≤ 65535) : toB (IntKind.u8.wrap (IntKind.i64.wrap ((n : Int).tdiv (256 : Int)))) = octAt (n : Int) 1 := by
  rw [Int.tdiv_eq_ediv_of_nonneg (by omega), w64 (by omega) (by omega), byte0]
  unfold octAt
  simp
theorem byte0m (n : Nat) : toB (IntKind.u8.wrap ((n : Int).tmod (256 : Int))) = octAt (n : Int) 0 := by
  rw [Int.tmod_eq_emod_of_nonneg (by omega), byte0]
  unfold octAt
  simp
theorem right_eq (y : Attr) (hl : y.Data.length ≤ 65535) : m_ridgewayref07_right y = some (decide ((0 ≤ y.Flags ∧ y.Flags ≤ 255) ∧ (0 ≤ y.Typ ∧ y.Typ ≤ 255))) := by
  refine (?_ : Ok (m_ridgewayref07_right y) (· = decide ((0 ≤ y.Flags ∧ y.Flags ≤ 255) ∧ (0 ≤ y.Typ ∧ y.Typ ≤ 255)))).elim fun x h => by rw [h.1, h.2]
  unfold m_ridgewayref07_right
  refine ok_if (fun h1 => ok_if (fun h2 => ok_if (fun h3 => ok_if (fun h4 => ok_some ?_) fun h => ok_some ?_) fun h => ok_some ?_) fun h => ok_some ?_) fun h => ok_some ?_
  · rw [decide_eq_true (by omega), decide_eq_true (by omega)]
  all_goals rw [decide_eq_false (by omega)]
theorem refPut_eq (l : List UInt8) (y : Attr) (hb : l.length ≤ 1000000) (hl : y.Data.length ≤ 2000) : m_ridgewayref07_Put l y = m_attr_Put l y := by
  by_cases hok : (0 ≤ y.Flags ∧ y.Flags ≤ 255) ∧ (0 ≤ y.Typ ∧ y.Typ ≤ 255)
  · obtain ⟨hf, ht⟩ := hok
    obtain ⟨g1, g2⟩ := fl2 y.Flags hf
    rw [attrPut_eq l y hb hf ht (by omega)]
    refine (?_ : Ok (m_ridgewayref07_Put l y) (· = l ++ encA (canon y))).elim fun x h => by rw [h.1, h.2]
    unfold m_ridgewayref07_Put
    refine ok_ap (by simp; omega) (by simp; omega) (ok_bde (right_eq y (by omega)) (ok_ifn (fun h => absurd ⟨hf, ht⟩ h) fun _ => ok_if (fun h => ?_) fun h => ?_))
    · refine ok_ap (by simp; omega) (by simp; omega) (ok_ap (by simp; omega) (by simp; omega) (ok_some ?_))
      rw [g2, byte0, byte1 _ (by omega), byte0m]
      unfold encA canon
      rw [if_pos (by omega), if_pos (by dsimp only; omega)]
      simp [putL, List.range_succ]
    · refine ok_ap (by simp; omega) (by simp; omega) (ok_ap (by simp; omega) (by simp; omega) (ok_some ?_))
      rw [g1, byte0, byte0]
      unfold encA canon
      rw [if_neg (by omega), if_neg (by dsimp only; omega)]
      simp [putL]
  · rw [attrPut_no l y hok]
    refine (?_ : Ok (m_ridgewayref07_Put l y) (· = l)).elim fun x h => by rw [h.1, h.2]
    unfold m_ridgewayref07_Put
    exact ok_ap (by simp; omega) (by simp; omega) (ok_bde (right_eq y (by omega)) (ok_ifn (fun _ => ok_some rfl) fun h => absurd h hok))
end Go.Proofs.Ytgakgilaikgboaa
namespace Go.Proofs.Ytgakgilaikgboaa
open Go.RowKit
set_option linter.unusedVariables false
set_option linter.unusedSimpArgs false
set_option maxRecDepth 100000
set_option maxHeartbeats 1000000

theorem ok_outJ {R : Type} {m : Option R} {r : R} (h : Ok m (· = r)) : m = some r := by
  obtain ⟨x, h1, h2⟩ := h
  rw [h1, h2]
/-- Four octets' number, or 0. -/
def numS (d : List UInt8) : Int := if d.length = 4 then (num d : Int) else 0
theorem numS_nonneg (d : List UInt8) : 0 ≤ numS d := by unfold numS; split <;> omega
theorem t_number (d : List UInt8) : Ok (m_attr_number d) fun r => (¬ numS d = 0 → r = (numS d, true)) ∧ (numS d = 0 → r.2 = false) := by
  unfold m_attr_number numS
  refine ok_bde (octGet_eq d 4 (by omega) (by omega)) ?_
  by_cases h4 : (4 : Int) ≤ d.length
  · rw [if_pos h4]
    dsimp only
    refine ok_ine' (fun h => ok_some ?_) fun h => ok_some ?_
    · by_cases hl : d.length = 4
      · rw [if_pos hl, show (4 : Int).toNat = 4 from rfl, List.take_of_length_le (by omega), List.drop_of_length_le (by omega)]
        exact ⟨fun _ => rfl, fun k => absurd k (by rwa [show (4 : Int).toNat = 4 from rfl, List.take_of_length_le (by omega)] at h)⟩
      · rw [if_neg hl]
        exact ⟨fun k => absurd rfl k, fun _ => decide_eq_false (by rw [List.length_drop, show (4 : Int).toNat = 4 from rfl]; omega)⟩
    · by_cases hl : d.length = 4
      · rw [if_pos hl]
        rw [show (4 : Int).toNat = 4 from rfl, List.take_of_length_le (by omega)] at h
        exact ⟨fun k => absurd h k, fun _ => rfl⟩
      · rw [if_neg hl]
        exact ⟨fun k => absurd rfl k, fun _ => rfl⟩
  · rw [if_neg h4, if_neg (by omega)]
    exact ok_ine' (fun h => absurd rfl h) fun _ => ok_some ⟨fun k => absurd rfl k, fun _ => rfl⟩
theorem ref1Get4 (a b c d : UInt8) : m_ridgewayref01_Get [a, b, c, d] 4 = some ((num [a, b, c, d] : Int), [], true) := by
  refine ok_outJ ?_
  unfold m_ridgewayref01_Get
  refine ok_if (fun h => by omega) fun _ => ok_if (fun h => by omega) fun _ => ok_if (fun h => absurd h (by simp)) fun _ => ?_
  have ha := a.toNat_lt; have hb := b.toNat_lt; have hc := c.toNat_lt; have hd := d.toNat_lt
  refine ok_acc 4 (fun i (v : Int) => v = (num ([a, b, c, d].take i) : Int)) (by omega) rfl (fun i v hi hv nx hnx => ?_) (fun v hv nx => ?_)
  · rw [s_ridgewayref01_Get1]
    dsimp only
    refine ok_if (fun _ => ok_ix (by omega) (by simp; omega) fun _ => hnx _ ?_) fun h => by omega
    have hi4 : i = 0 ∨ i = 1 ∨ i = 2 ∨ i = 3 := by omega
    rcases hi4 with rfl | rfl | rfl | rfl
    all_goals
      subst hv
      simp only [List.take_zero, List.take_succ_cons, num, List.foldl_nil, List.foldl_cons, Int.toNat_natCast, List.getElem_cons_zero, List.getElem_cons_succ]
      rw [w64 (x := _ * 256) (by omega) (by omega), w64 (x := ((_ : Nat) : Int)) (by omega) (by omega), w64 (by omega) (by omega)]
      omega
  · rw [s_ridgewayref01_Get1]
    dsimp only
    refine ok_if (fun h => by omega) fun _ => ok_bde (sl_all (by simp)) (ok_some ?_)
    subst hv
    rfl
theorem four_eq (d : List UInt8) : m_ridgewayref07_four d = some (numS d) := by
  refine ok_outJ ?_
  unfold m_ridgewayref07_four numS
  refine ok_ine' (fun h => ok_some (by rw [if_neg (by omega)])) fun h => ?_
  match d, h with
  | [a, b, c, e], _ => exact ok_bde (ref1Get4 a b c e) (ok_some rfl)
/-- So many numbers of four octets each. -/
def take4 : Nat → List UInt8 → List Int → Option (List UInt8 × List Int)
  | 0, b, acc => some (b, acc)
  | n + 1, b, acc => if b.length < 4 ∨ num (b.take 4) = 0 then none else take4 n (b.drop 4) (acc ++ [(num (b.take 4) : Int)])
theorem take4_len : ∀ (n : Nat) (b : List UInt8) (acc : List Int) {r : List UInt8 × List Int}, take4 n b acc = some r → r.1.length + 4 * n = b.length ∧ r.1 = b.drop (4 * n) ∧ r.2.length = acc.length + n
  | 0, b, acc, r, h => by cases h; exact ⟨rfl, rfl, rfl⟩
  | n + 1, b, acc, r, h => by
    rw [take4] at h
    split at h
    · cases h
    · rename_i hn
      obtain ⟨h1, h2, h3⟩ := take4_len n _ _ h
      rw [List.length_drop] at h1
      rw [List.drop_drop] at h2
      rw [List.length_append, List.length_singleton] at h3
      exact ⟨by omega, by rw [h2]; congr 1; omega, by omega⟩
def segsF : Nat → List UInt8 → List Int → Option (List Int)
  | 0, _, _ => none
  | f + 1, [], acc => some acc
  | f + 1, [_], acc => none
  | f + 1, k :: n :: r, acc => if ¬ k.toNat = 2 ∨ n.toNat = 0 then none else (take4 n.toNat r acc).bind fun p => segsF f p.1 p.2
/-- The ASes of an attribute. -/
def asS (d : List UInt8) : Option (List Int) := segsF (d.length + 1) d []
/-- As the program reads them. -/
theorem t_segs {Q : Path × Int × Note → Prop} (k : (Bool × List Int) → Option (Path × Int × Note)) (d : List UInt8) (hl : d.length ≤ 10000) (hT : ∀ L, asS d = some L → L.length ≤ 10000 → Ok (k (true, L)) Q) (hF : asS d = none → ∀ x, Ok (k (false, x)) Q) :
    Ok (loopC (s_attr_Judge2 k) (fun e2 => k (true, e2)) BIG (d, [])) Q := by
  refine ok_loop (fun st => ∃ f, st.1.length < f ∧ asS d = segsF f st.1 st.2 ∧ st.2.length + st.1.length ≤ d.length) (fun st => st.1.length) ⟨d.length + 1, by dsimp only; omega, rfl, by simp⟩ (by dsimp only; omega) ?_
  rintro ⟨b, acc⟩ ⟨f, hf, he, hlen⟩ nx hnx
  dsimp only at hf he hlen hnx
  obtain ⟨f, rfl⟩ : ∃ g, f = g + 1 := ⟨f - 1, by omega⟩
  rw [s_attr_Judge2]
  dsimp only
  match b, hf, he, hlen, hnx with
  | [], hf, he, hlen, hnx => exact ok_if (fun h => absurd h (by simp)) fun _ => hT _ he (by simp at hlen; omega)
  | [x], hf, he, hlen, hnx =>
    have g1 : m_octet_Get [x] 1 = some ((x.toNat : Int), [], true) := by
      rw [octGet_eq _ _ (by decide) (by decide), if_pos (by simp)]
      simp [num]
    have g2 : m_octet_Get [] 1 = some (0, [], false) := by rw [octGet_eq _ _ (by decide) (by decide), if_neg (by simp)]
    exact ok_if (fun _ => ok_bde g1 (ok_bde g2 (ok_ine' (fun _ => hF he _) fun _ => ok_if (fun _ => hF he _) fun h => absurd rfl h))) fun h => absurd (by simp) h
  | x :: n :: r, hf, he, hlen, hnx =>
    have g1 : m_octet_Get (x :: n :: r) 1 = some ((x.toNat : Int), n :: r, true) := by
      rw [octGet_eq _ _ (by decide) (by decide), if_pos (by simp; omega)]
      simp [num]
    have g2 : m_octet_Get (n :: r) 1 = some ((n.toNat : Int), r, true) := by
      rw [octGet_eq _ _ (by decide) (by decide), if_pos (by simp; omega)]
      simp [num]
    rw [segsF] at he
    simp only [List.length_cons] at hf hlen hnx
    refine ok_if (fun _ => ok_bde g1 (ok_bde g2 (ok_ine' (fun h => hF (by rw [he, if_pos (.inl (by intro h2; apply h; dsimp only; omega))]) _) fun hx => ok_if (fun h => hF (by rw [he, if_pos (.inr (by dsimp only at h; omega))]) _) fun hn => ?_))) fun h => absurd (by simp; omega) h
    dsimp only at hx hn ⊢
    rw [if_neg (by omega)] at he
    refine ok_loop (fun st => ∃ j : Nat, j ≤ n.toNat ∧ st.2.1 = (j : Int) ∧ take4 n.toNat r acc = take4 (n.toNat - j) st.1 st.2.2 ∧ st.1.length ≤ r.length ∧ st.2.2.length ≤ acc.length + j) (fun st => ((n.toNat : Int) - st.2.1).toNat) ⟨0, Nat.zero_le _, rfl, rfl, Nat.le_refl _, Nat.le_refl _⟩ (by have := n.toNat_lt; dsimp only; omega) ?_
    rintro ⟨b, _, ac⟩ ⟨j, hj, rfl, ht, hb, hac⟩ nx3 hnx3
    dsimp only at ht hb hac hnx3
    have hn256 := n.toNat_lt
    rw [s_attr_Judge3]
    dsimp only
    have hw : IntKind.i64.wrap ((j : Int) + 1) = ((j + 1 : Nat) : Int) := by rw [w64 (by omega) (by omega)]; rfl
    refine ok_if (fun hlt => ok_bde (octGet_eq b 4 (by omega) (by omega)) ?_) fun hlt => ?_
    · rw [show n.toNat - j = (n.toNat - (j + 1)) + 1 by omega, take4] at ht
      by_cases h4 : (4 : Int) ≤ b.length
      · rw [if_pos h4]
        dsimp only
        rw [show (4 : Int).toNat = 4 from rfl]
        refine ok_if (fun h0 => hF ?_ _) fun h0 => ?_
        · rw [he, ht, if_pos (.inr (by omega))]
          rfl
        · rw [if_neg (by omega)] at ht
          refine ok_ap (by simp only [List.length_cons, List.length_nil]; omega) (by simp only [List.length_cons, List.length_nil]; omega) (hnx3 _ ⟨j + 1, by omega, hw, ht, ?_, ?_⟩ (by dsimp only; rw [hw]; omega))
          · rw [List.length_drop]; omega
          · simp only [List.length_append, List.length_cons, List.length_nil]; omega
      · rw [if_neg h4]
        refine ok_if (fun _ => hF ?_ _) fun h => absurd rfl h
        rw [he, ht, if_pos (.inl (by omega))]
        rfl
    · have hjn : n.toNat - j = 0 := by omega
      rw [hjn, take4] at ht
      obtain ⟨q1, q2, q3⟩ := take4_len _ _ _ ht
      dsimp only at q1 q3
      rw [ht] at he
      exact hnx _ ⟨f, by dsimp only; omega, he, by dsimp only; omega⟩ (by dsimp only; omega)
/-- As the reference does. -/
theorem ases_eq (d : List UInt8) (hl : d.length ≤ 10000) : m_ridgewayref07_ases d = some (match asS d with | some L => (L, true) | none => ([], false)) := by
  refine ok_outJ ?_
  unfold m_ridgewayref07_ases
  refine ok_loop (fun st => ∃ f, st.1.length < f ∧ asS d = segsF f st.1 st.2 ∧ st.2.length + st.1.length ≤ d.length) (fun st => st.1.length) ⟨d.length + 1, by dsimp only; omega, rfl, by simp⟩ (by dsimp only; omega) ?_
  rintro ⟨b, acc⟩ ⟨f, hf, he, hlen⟩ nx hnx
  dsimp only at hf he hlen hnx
  obtain ⟨f, rfl⟩ : ∃ g, f = g + 1 := ⟨f - 1, by omega⟩
  rw [s_ridgewayref07_ases1]
  dsimp only
  match b, hf, he, hlen, hnx with
  | [], hf, he, hlen, hnx =>
    rw [segsF] at he
    exact ok_if (fun h => absurd h (by simp)) fun _ => ok_some (by rw [he])
  | [x], hf, he, hlen, hnx =>
    rw [segsF] at he
    exact ok_if (fun _ => ok_if (fun _ => ok_some (by rw [he])) fun h => absurd (by simp) h) fun h => absurd (by simp) h
  | x :: n :: r, hf, he, hlen, hnx =>
    have i0 : ix (x :: n :: r) 0 = some x := by rw [ix_eq]; rfl
    have i1 : ix (x :: n :: r) 1 = some n := by rw [ix_eq]; rfl
    have hn256 := n.toNat_lt
    have wn : IntKind.i64.wrap (n.toNat : Int) = n.toNat := w64 (by omega) (by omega)
    have w4 : IntKind.i64.wrap ((4 : Int) * IntKind.i64.wrap (n.toNat : Int)) = 4 * n.toNat := by rw [wn, w64 (by omega) (by omega)]
    have w24 : IntKind.i64.wrap ((2 : Int) + IntKind.i64.wrap ((4 : Int) * IntKind.i64.wrap (n.toNat : Int))) = 2 + 4 * n.toNat := by rw [w4, w64 (by omega) (by omega)]
    rw [segsF] at he
    simp only [List.length_cons] at hf hlen hnx
    have none_ : asS d = none → Ok (some (([] : List Int), false)) (· = (match asS d with | some L => (L, true) | none => ([], false))) := fun h => ok_some (by rw [h])
    refine ok_if (fun _ => ok_if (fun h => absurd h (by simp only [List.length_cons]; omega)) fun _ => ok_bde i0 (ok_ine' (fun h => none_ (by rw [he, if_pos (.inl (by omega))])) fun hx => ok_bde i1 (ok_if (fun h => none_ (by rw [he, if_pos (.inr (by omega))])) fun hn => ok_bde i1 ?_))) fun h => absurd (by simp only [List.length_cons]; omega) h
    rw [w24]
    rw [if_neg (by omega)] at he
    have short : r.length < 4 * n.toNat → take4 n.toNat r acc = none := fun hs => by
      cases ht : take4 n.toNat r acc with
      | none => rfl
      | some p => have := (take4_len _ _ _ ht).1; omega
    refine ok_if (fun h => none_ ?_) fun hlong => ?_
    · rw [he, short (by simp only [List.length_cons] at h; omega)]
      rfl
    simp only [List.length_cons] at hlong
    refine ok_loop (fun st => ∃ j : Nat, j ≤ n.toNat ∧ st.2 = (j : Int) ∧ take4 n.toNat r acc = take4 (n.toNat - j) (r.drop (4 * j)) st.1 ∧ st.1.length ≤ acc.length + j) (fun st => ((n.toNat : Int) - st.2).toNat) ⟨0, Nat.zero_le _, rfl, rfl, Nat.le_refl _⟩ (by dsimp only; omega) ?_
    rintro ⟨ac, _⟩ ⟨j, hj, rfl, ht, hac⟩ nx3 hnx3
    dsimp only at ht hac hnx3
    rw [s_ridgewayref07_ases2]
    dsimp only
    have hw : IntKind.i64.wrap ((j : Int) + 1) = ((j + 1 : Nat) : Int) := by rw [w64 (by omega) (by omega)]; rfl
    have a4 : IntKind.i64.wrap ((4 : Int) * (j : Int)) = 4 * j := w64 (by omega) (by omega)
    have a24 : IntKind.i64.wrap ((2 : Int) + IntKind.i64.wrap ((4 : Int) * (j : Int))) = 2 + 4 * j := by rw [a4, w64 (by omega) (by omega)]
    have a64 : IntKind.i64.wrap ((6 : Int) + IntKind.i64.wrap ((4 : Int) * (j : Int))) = 6 + 4 * j := by rw [a4, w64 (by omega) (by omega)]
    refine ok_bde i1 ?_
    rw [wn]
    refine ok_if (fun hlt => ?_) fun hlt => ok_bde i1 ?_
    · rw [a24, a64]
      refine ok_bde (sl_some ⟨by omega, by omega, by simp only [List.length_cons]; omega⟩) ?_
      have hs : ((x :: n :: r).take (6 + 4 * (j : Int)).toNat).drop (2 + 4 * (j : Int)).toNat = (r.drop (4 * j)).take 4 := by
        rw [show (6 + 4 * (j : Int)).toNat = (4 * j + 4) + 1 + 1 by omega, show (2 + 4 * (j : Int)).toNat = 4 * j + 1 + 1 by omega, List.take_succ_cons, List.take_succ_cons, List.drop_succ_cons, List.drop_succ_cons, List.drop_take]
        congr 1
        omega
      rw [hs]
      refine ok_bde (four_eq _) ?_
      have h4 : ((r.drop (4 * j)).take 4).length = 4 := by rw [List.length_take, List.length_drop]; omega
      have hv : numS ((r.drop (4 * j)).take 4) = (num ((r.drop (4 * j)).take 4) : Int) := by unfold numS; rw [if_pos h4]
      rw [hv]
      rw [show n.toNat - j = (n.toNat - (j + 1)) + 1 by omega, take4] at ht
      have hd4 : ¬ (r.drop (4 * j)).length < 4 := by rw [List.length_drop]; omega
      refine ok_if (fun h0 => none_ ?_) fun h0 => ?_
      · rw [he, ht, if_pos (.inr (by omega))]
        rfl
      · rw [if_neg (by omega), List.drop_drop] at ht
        refine ok_ap (by simp only [List.length_cons, List.length_nil]; omega) (by simp only [List.length_cons, List.length_nil]; omega) (hnx3 _ ⟨j + 1, by omega, hw, ?_, by simp only [List.length_append, List.length_cons, List.length_nil]; omega⟩ (by dsimp only; rw [hw]; omega))
        rw [ht]
        congr 1
    · have hjn : n.toNat - j = 0 := by omega
      rw [hjn, take4] at ht
      obtain ⟨q1, q2, q3⟩ := take4_len _ _ _ ht
      dsimp only at q1 q2 q3
      rw [ht] at he
      rw [w24]
      refine ok_bde (sl_all (by simp only [List.length_cons]; omega)) (hnx _ ⟨f, ?_, ?_, ?_⟩ ?_)
      all_goals rw [show (2 + 4 * (n.toNat : Int)).toNat = 4 * n.toNat + 1 + 1 by omega, List.drop_succ_cons, List.drop_succ_cons]
      · rw [List.length_drop]; omega
      · rw [he, Option.bind_some]
        dsimp only
        rw [show 4 * j = 4 * n.toNat by omega]
      · rw [List.length_drop]; dsimp only; omega
      · rw [List.length_drop]; omega
end Go.Proofs.Ytgakgilaikgboaa
namespace Go.Proofs.Ytgakgilaikgboaa
open Go.RowKit
set_option linter.unusedVariables false
set_option linter.unusedSimpArgs false
set_option maxRecDepth 100000
set_option maxHeartbeats 2000000

def fl (y : Attr) : Int := IntKind.i64.wrap ((BitVec.ofInt IntKind.i64.bits y.Flags &&& BitVec.ofInt IntKind.i64.bits (192 : Int)).toNat : Int)
def noP : Path := ⟨0, [], 0, 0⟩
def note0 : Note := ⟨0, 0, []⟩
def badR : Path × Int × Note := (noP, 1, note0)
/-- One more of a type that came not yet. -/
def addF (F : List Attr) (y : Attr) : List Attr := if F.any (fun z => decide (z.Typ = y.Typ)) = true then F else F ++ [y]
/-- The first ones of each type. -/
def firsts (l : List Attr) : List Attr := l.foldl addF []
theorem firsts_take (l : List Attr) (i : Nat) (h : i < l.length) : firsts (l.take (i + 1)) = addF (firsts (l.take i)) l[i] := by
  unfold firsts
  rw [← List.take_append_getElem h, List.foldl_append]
  rfl
theorem fold_pre (l : List Attr) : ∀ F, ∃ r, l.foldl addF F = F ++ r := by
  induction l with
  | nil => exact fun F => ⟨[], by simp⟩
  | cons y l ih =>
    intro F
    obtain ⟨r, hr⟩ := ih (addF F y)
    rw [List.foldl_cons, hr]
    unfold addF
    split
    · exact ⟨r, rfl⟩
    · exact ⟨y :: r, by simp⟩
theorem firsts_pre (l : List Attr) (i : Nat) : ∃ r, firsts l = firsts (l.take i) ++ r := by
  unfold firsts
  obtain ⟨r, hr⟩ := fold_pre (l.drop i) ((l.take i).foldl addF [])
  refine ⟨r, ?_⟩
  rw [← hr, ← List.foldl_append, List.take_append_drop]
/-- Types are unlike. -/
theorem fold_once (l : List Attr) : ∀ F, Once F → Once (l.foldl addF F) := by
  induction l with
  | nil => exact fun F h => h
  | cons y l ih =>
    intro F h
    rw [List.foldl_cons]
    refine ih _ ?_
    unfold addF
    split
    · exact h
    · rename_i hn
      refine List.pairwise_append.2 ⟨h, List.pairwise_singleton _ _, fun a ha b hb e => hn ?_⟩
      rw [List.mem_singleton.1 hb] at e
      exact List.any_eq_true.2 ⟨a, ha, decide_eq_true e⟩
theorem firsts_once (l : List Attr) : Once (firsts l) := fold_once l [] List.Pairwise.nil
theorem firsts_mem (l : List Attr) : ∀ y ∈ firsts l, y ∈ l := by
  unfold firsts
  suffices h : ∀ F, (∀ y ∈ F, y ∈ F ++ l) ∧ ∀ y ∈ l.foldl addF F, y ∈ F ∨ y ∈ l by
    intro y hy
    rcases (h []).2 y hy with hy | hy
    · cases hy
    · exact hy
  intro F
  refine ⟨fun y hy => List.mem_append_left _ hy, ?_⟩
  induction l generalizing F with
  | nil => exact fun y hy => .inl hy
  | cons z l ih =>
    intro y hy
    rw [List.foldl_cons] at hy
    rcases ih _ y hy with hy | hy
    · unfold addF at hy
      split at hy
      · exact .inl hy
      · rcases List.mem_append.1 hy with hy | hy
        · exact .inl hy
        · exact .inr (by rw [List.mem_singleton.1 hy]; exact List.mem_cons_self)
    · exact .inr (List.mem_cons_of_mem _ hy)
theorem firsts_len (l : List Attr) : (firsts l).length ≤ l.length := by
  unfold firsts
  suffices h : ∀ F, (l.foldl addF F).length ≤ F.length + l.length by simpa using h []
  induction l with
  | nil => exact fun F => Nat.le_refl _
  | cons z l ih =>
    intro F
    have := ih (addF F z)
    have h2 : (addF F z).length ≤ F.length + 1 := by
      unfold addF
      split <;> simp
    rw [List.foldl_cons, List.length_cons]
    omega
def look (F : List Attr) (t : Int) : Option Attr := F.find? fun y => decide (y.Typ = t)
def orgS (y : Attr) : Option Int := if fl y = 64 ∧ y.Data.length = 1 ∧ (y.Data.headD 0).toNat ≤ 2 then some ((y.Data.headD 0).toNat : Int) else none
def pathS (y : Attr) : Option (List Int) := if fl y = 64 then asS y.Data else none
def hopS (y : Attr) : Option Int := if fl y = 64 ∧ ¬ numS y.Data = 0 then some (numS y.Data) else none
def medS (y : Attr) : Bool := decide (fl y = 128 ∧ y.Data.length = 4)
def otcS (y : Attr) : Option Int := if fl y = 192 ∧ ¬ numS y.Data = 0 then some (numS y.Data) else none
/-- What the first ones say, if none is fatal. -/
def bodyS (o a h m c : Option Attr) : Path × Int × Note :=
  match o.bind orgS, a.bind pathS, h.bind hopS with
  | some x, some L, some v =>
    if (match m with | some y => medS y | none => true) = true then
      match c with
      | none => (⟨x, L, v, 0⟩, 0, note0)
      | some y => match otcS y with
        | some w => (⟨x, L, v, w⟩, 0, note0)
        | none => badR
    else badR
  | _, _, _ => badR
def bodyF (F : List Attr) : Path × Int × Note := bodyS (look F 1) (look F 2) (look F 3) (look F 4) (look F 35)
def judgeS (l : List Attr) : Path × Int × Note :=
  match (firsts l).find? fatalB with
  | some y => (noP, 2, ⟨3, 2, (m_attr_Put [] y).getD []⟩)
  | none => bodyF (firsts l)
theorem put_some (y : Attr) (hy : y.Data.length ≤ 2000) : m_attr_Put [] y = some ((m_attr_Put [] y).getD []) := by
  obtain ⟨x, h, _⟩ := t_attrPut [] y (by simp) (by omega)
  rw [h]
  rfl
theorem look_map (F : List Attr) (t : Int) : mget (F.map fun y => (y.Typ, y)) t = look F t := by
  rw [mget_eq]
  unfold look
  induction F with
  | nil => rfl
  | cons y F ih =>
    rw [List.map_cons, List.find?_cons, List.find?_cons]
    cases decide (y.Typ = t) with
    | true => rfl
    | false => exact ih
theorem has_look (F : List Attr) (t : Int) : (look F t).isSome = F.any fun z => decide (z.Typ = t) := by
  unfold look
  rw [Bool.eq_iff_iff, List.find?_isSome, List.any_eq_true]
theorem bodyS_1 {o a h m c : Option Attr} (k : o.bind orgS = none) : bodyS o a h m c = badR := by
  unfold bodyS
  rw [k]
theorem bodyS_2 {o a h m c : Option Attr} (k : a.bind pathS = none) : bodyS o a h m c = badR := by
  unfold bodyS
  rw [k]
  cases o.bind orgS <;> rfl
theorem bodyS_3 {o a h m c : Option Attr} (k : h.bind hopS = none) : bodyS o a h m c = badR := by
  unfold bodyS
  rw [k]
  cases o.bind orgS <;> cases a.bind pathS <;> rfl
theorem bodyS_4 {o a h c : Option Attr} {y : Attr} (k : medS y = false) : bodyS o a h (some y) c = badR := by
  unfold bodyS
  cases o.bind orgS <;> cases a.bind pathS <;> cases h.bind hopS <;> try rfl
  simp only [k]
  rfl
theorem bodyS_5 {o a h m : Option Attr} {y : Attr} (k : otcS y = none) : bodyS o a h m (some y) = badR := by
  unfold bodyS
  cases o.bind orgS <;> cases a.bind pathS <;> cases h.bind hopS <;> try rfl
  simp only [k]
  cases m with
  | none => rfl
  | some z =>
    show (if medS z = true then badR else badR) = badR
    split <;> rfl
theorem bodyS_ok {o a h m c : Option Attr} {x : Int} {L : List Int} {v w : Int} (k1 : o.bind orgS = some x) (k2 : a.bind pathS = some L) (k3 : h.bind hopS = some v) (k4 : ∀ y, m = some y → medS y = true)
    (k5 : (c = none ∧ w = 0) ∨ ∃ y, c = some y ∧ otcS y = some w) : bodyS o a h m c = (⟨x, L, v, w⟩, 0, note0) := by
  unfold bodyS
  rw [k1, k2, k3]
  rcases k5 with ⟨rfl, rfl⟩ | ⟨y, rfl, hy⟩
  · cases m with
    | none => rfl
    | some z =>
      show (if medS z = true then _ else _) = _
      rw [if_pos (k4 z rfl)]
  · simp only [hy]
    cases m with
    | none => rfl
    | some z =>
      show (if medS z = true then _ else _) = _
      rw [if_pos (k4 z rfl)]
/-- The program's way. -/
theorem judge_eq (l : List Attr) (hl : l.length ≤ 1000) (hd : ∀ y ∈ l, y.Data.length ≤ 2000) : m_attr_Judge l = some (judgeS l) := by
  refine ok_outJ ?_
  unfold m_attr_Judge
  refine ok_acc' l.length (fun i e => e = (firsts (l.take i)).map (fun y => (y.Typ, y)) ∧ (firsts (l.take i)).find? fatalB = none) (by omega) ⟨rfl, rfl⟩ (fun i e hi hI nx hnx => ?_) (fun e hI nx => ?_)
  · obtain ⟨rfl, hn⟩ := hI
    have hf := firsts_take l i hi
    have hmem := hd _ (List.getElem_mem hi)
    rw [s_attr_Judge1]
    refine ok_if (fun _ => ok_ix (by dsimp only; omega) (by dsimp only; omega) fun hlt => ?_) fun h => absurd (Int.ofNat_lt.2 hi) h
    simp only [Int.toNat_natCast]
    rw [mhas_get, look_map, has_look]
    cases hg : (firsts (l.take i)).any fun z => decide (z.Typ = l[i].Typ) with
    | true =>
      have e1 : firsts (l.take (i + 1)) = firsts (l.take i) := by rw [hf]; unfold addF; rw [if_pos hg]
      rw [cond_true]
      have hs : (look (firsts (l.take i)) l[i].Typ).isSome = true := by rw [has_look]; exact hg
      obtain ⟨z, hz⟩ := Option.isSome_iff_exists.1 hs
      refine ok_bde (x := z) hz (hnx _ ⟨by rw [e1], by rw [e1]; exact hn⟩)
    | false =>
      have e1 : firsts (l.take (i + 1)) = firsts (l.take i) ++ [l[i]] := by rw [hf]; unfold addF; rw [if_neg (by rw [hg]; decide)]
      have hnone : look (firsts (l.take i)) l[i].Typ = none := by
        have := has_look (firsts (l.take i)) l[i].Typ
        rw [hg] at this
        cases h : look (firsts (l.take i)) l[i].Typ with
        | none => rfl
        | some z => rw [h] at this; cases this
      rw [cond_false]
      refine ok_bde (ms_eq _ _ _) (ok_bde (fatal_eq _) (ok_ifb (fun hfa => ok_bde (put_some _ hmem) (ok_some ?_)) fun hfa => hnx _ ⟨?_, ?_⟩))
      · obtain ⟨r, hr⟩ := firsts_pre l (i + 1)
        unfold judgeS
        rw [hr, e1, List.append_assoc, List.find?_append, hn, Option.none_or, List.singleton_append, List.find?_cons, hfa]
        rfl
      · rw [set_new (by rw [look_map]; exact hnone), e1, List.map_append]
        rfl
      · rw [e1, List.find?_append, hn, Option.none_or, List.find?_cons, hfa]
        rfl
  · rw [List.take_length] at hI
    obtain ⟨rfl, hn⟩ := hI
    rw [s_attr_Judge1]
    refine ok_if (fun h => by dsimp only at h; omega) fun _ => ?_
    have hj : judgeS l = bodyF (firsts l) := by unfold judgeS; rw [hn]
    rw [hj]
    have hdat : ∀ t z, look (firsts l) t = some z → z.Data.length ≤ 2000 := fun t z hz => hd _ (firsts_mem l z (List.mem_of_find?_eq_some hz))
    generalize firsts l = F at hdat
    have st : ∀ (t : Int) {K : Attr → Option (Path × Int × Note)} {A : Option (Path × Int × Note)}, (∀ y, look F t = some y → Ok (K y) (· = bodyF F)) → (look F t = none → Ok A (· = bodyF F)) → Ok (bif mhas (F.map fun y => (y.Typ, y)) t then bd (mget (F.map fun y => (y.Typ, y)) t) K else A) (· = bodyF F) := fun t {K A} h1 h2 => by
      rw [mhas_get, look_map]
      cases h : look F t with
      | none => exact h2 h
      | some z => exact ok_bde rfl (h1 z h)
    have bad : bodyF F = badR → Ok (some badR) (· = bodyF F) := fun h => ok_some h.symm
    unfold bodyF at bad st ⊢
    refine st 1 (fun y1 h1 => ok_ine' (fun hf => bad (bodyS_1 ?_)) fun hf => ?_) fun h => bad (bodyS_1 (by rw [h]; rfl))
    · rw [h1]
      show orgS y1 = none
      unfold orgS
      rw [if_neg (fun k => hf k.1)]
    refine ok_jn (fun i => (i.1 = true → orgS y1 = some i.2) ∧ (i.1 = false → orgS y1 = none)) (fun k101 hk => ok_ine' (fun hne => hk _ ⟨fun h => Bool.noConfusion h, fun _ => ?_⟩) fun hlen => ?_) fun i1 hi1 => ok_ifnb (fun hfa => bad (bodyS_1 (by rw [h1]; exact hi1.2 hfa))) fun htr => ?_
    · unfold orgS
      rw [if_neg (fun k => hne (by omega))]
    · have hlen1 : y1.Data.length = 1 := by omega
      obtain ⟨b, hb⟩ : ∃ b, y1.Data = [b] := by
        match hy : y1.Data, hlen1 with
        | [b], _ => exact ⟨b, rfl⟩
      have hix : ix y1.Data 0 = some b := by rw [hb, ix_eq]; rfl
      have horg : orgS y1 = if b.toNat ≤ 2 then some (b.toNat : Int) else none := by
        unfold orgS
        rw [hb]
        by_cases h2 : b.toNat ≤ 2
        · rw [if_pos ⟨hf, rfl, h2⟩, if_pos h2]; rfl
        · rw [if_neg (fun k => h2 k.2.2), if_neg h2]
      have hb256 := b.toNat_lt
      refine ok_bde hix (ok_if (fun h2 => hk _ ⟨fun h => Bool.noConfusion h, fun _ => by rw [horg, if_neg (by omega)]⟩) fun h2 => ok_bde hix (hk _ ⟨fun _ => ?_, fun h => Bool.noConfusion h⟩))
      rw [horg, if_pos (by omega), w64 (by omega) (by omega)]
    have ko : (look F 1).bind orgS = some i1.2 := by rw [h1]; exact hi1.1 htr
    refine st 2 (fun y2 h2 => ok_ine' (fun hf2 => bad (bodyS_2 ?_)) fun hf2 => ?_) fun h => bad (bodyS_2 (by rw [h]; rfl))
    · rw [h2]
      show pathS y2 = none
      unfold pathS
      rw [if_neg (show ¬ fl y2 = 64 from hf2)]
    have hp2 : pathS y2 = asS y2.Data := by unfold pathS; rw [if_pos (show fl y2 = 64 from hf2)]
    refine ok_jn (fun i => (i.1 = true → asS y2.Data = some i.2) ∧ (i.1 = false → asS y2.Data = none)) (fun k102 hk => t_segs k102 y2.Data (by have := hdat 2 y2 h2; omega) (fun L hL _ => hk _ ⟨fun _ => hL, fun h => Bool.noConfusion h⟩) fun hN x => hk _ ⟨fun h => Bool.noConfusion h, fun _ => hN⟩) fun i2 hi2 => ok_ifnb (fun hfa => bad (bodyS_2 (by rw [h2]; show pathS y2 = none; rw [hp2]; exact hi2.2 hfa))) fun htr2 => ?_
    have ka : (look F 2).bind pathS = some i2.2 := by rw [h2]; show pathS y2 = _; rw [hp2]; exact hi2.1 htr2
    refine st 3 (fun y3 h3 => ok_ine' (fun hf3 => bad (bodyS_3 ?_)) fun hf3 => ok_bd (t_number _) fun r15 _ h15 => ok_ifnb (fun hfa => bad (bodyS_3 ?_)) fun htr3 => ?_) fun h => bad (bodyS_3 (by rw [h]; rfl))
    · rw [h3]
      show hopS y3 = none
      unfold hopS
      rw [if_neg (fun k => hf3 k.1)]
    · rw [h3]
      show hopS y3 = none
      unfold hopS
      rw [if_neg fun k => by rw [h15.1 k.2] at hfa; cases hfa]
    have hz3 : ¬ numS y3.Data = 0 := fun k => by rw [h15.2 k] at htr3; cases htr3
    have kh : (look F 3).bind hopS = some r15.1 := by
      rw [h3]
      show hopS y3 = _
      unfold hopS
      rw [if_pos ⟨hf3, hz3⟩, h15.1 hz3]
    have otc : (∀ y, look F 4 = some y → medS y = true) → Ok (bif mhas (F.map fun y => (y.Typ, y)) (35 : Int) then bd (mget (F.map fun y => (y.Typ, y)) (35 : Int)) fun y17 => bif decide (¬ (IntKind.i64.wrap ((BitVec.ofInt IntKind.i64.bits y17.Flags &&& BitVec.ofInt IntKind.i64.bits (192 : Int)).toNat : Int)) = (192 : Int)) then some ((Path.mk (0 : Int) ([]) (0 : Int) (0 : Int)), (1 : Int), (Note.mk (0 : Int) (0 : Int) ([]))) else bd (m_attr_number y17.Data) fun r18 => bif (!r18.2) then some ((Path.mk (0 : Int) ([]) (0 : Int) (0 : Int)), (1 : Int), (Note.mk (0 : Int) (0 : Int) ([]))) else some ((Path.mk i1.2 i2.2 r15.1 r18.1), (0 : Int), (Note.mk (0 : Int) (0 : Int) ([]))) else some ((Path.mk i1.2 i2.2 r15.1 (0 : Int)), (0 : Int), (Note.mk (0 : Int) (0 : Int) ([])))) (· = bodyS (look F 1) (look F 2) (look F 3) (look F 4) (look F 35)) := fun h4 => by
      refine st 35 (fun y5 h5 => ok_ine' (fun hf5 => bad ?_) fun hf5 => ok_bd (t_number _) fun r18 _ h18 => ok_ifnb (fun hfa => bad ?_) fun htr5 => ok_some ?_) fun h => ok_some (bodyS_ok ko ka kh h4 (.inl ⟨h, rfl⟩)).symm
      · rw [h5]
        refine bodyS_5 ?_
        unfold otcS
        rw [if_neg (fun k => hf5 k.1)]
      · rw [h5]
        refine bodyS_5 ?_
        unfold otcS
        rw [if_neg fun k => by rw [h18.1 k.2] at hfa; cases hfa]
      · have hz5 : ¬ numS y5.Data = 0 := fun k => by rw [h18.2 k] at htr5; cases htr5
        refine (bodyS_ok ko ka kh h4 (.inr ⟨y5, h5, ?_⟩)).symm
        unfold otcS
        rw [if_pos ⟨hf5, hz5⟩, h18.1 hz5]
    refine st 4 (fun y4 h4 => ok_ine' (fun hf4 => bad ?_) fun hf4 => ok_ifn (fun hl4 => bad ?_) fun hl4 => otc fun y hy => ?_) fun h => otc fun y hy => ?_
    · rw [h4]
      refine bodyS_4 ?_
      unfold medS
      exact decide_eq_false (fun k => hf4 k.1)
    · rw [h4]
      refine bodyS_4 ?_
      unfold medS
      exact decide_eq_false (fun k => hl4 (by have := k.2; omega))
    · rw [h4] at hy
      cases hy
      unfold medS
      exact decide_eq_true ⟨hf4, by omega⟩
    · rw [h] at hy; cases hy
end Go.Proofs.Ytgakgilaikgboaa
namespace Go.Proofs.Ytgakgilaikgboaa
open Go.RowKit
set_option linter.unusedVariables false
set_option linter.unusedSimpArgs false
set_option maxRecDepth 100000
set_option maxHeartbeats 2000000

/-- What spoils it. -/
def spoils (y : Attr) : Bool := decide ((y.Typ = 1 ∧ orgS y = none) ∨ (y.Typ = 2 ∧ pathS y = none) ∨ (y.Typ = 3 ∧ hopS y = none) ∨ (y.Typ = 4 ∧ medS y = false) ∨ (y.Typ = 35 ∧ otcS y = none))
def NoteI (F : List Attr) (nc ns : Int) (nd : List UInt8) : Prop :=
  match F.find? fatalB with
  | none => nc = 0 ∧ ns = 0 ∧ nd = []
  | some y => nc = 3 ∧ ns = 2 ∧ nd = (m_attr_Put [] y).getD []
/-- What was read of the first ones. -/
structure RefV (F : List Attr) (v : Int × List Int × Int × Int × Bool × Int × Int × List UInt8) : Prop where
  sp : v.2.2.2.2.1 = F.any spoils
  o : v.2.2.2.2.1 = false → v.1 = ((look F 1).bind orgS).getD 0
  a : v.2.2.2.2.1 = false → v.2.1 = ((look F 2).bind pathS).getD []
  h : v.2.2.2.2.1 = false → v.2.2.1 = ((look F 3).bind hopS).getD 0
  c : v.2.2.2.2.1 = false → v.2.2.2.1 = ((look F 35).bind otcS).getD 0
  n : NoteI F v.2.2.2.2.2.1 v.2.2.2.2.2.2.1 v.2.2.2.2.2.2.2
theorem look_add (F : List Attr) (y : Attr) (t : Int) : look (F ++ [y]) t = (look F t).or (if y.Typ = t then some y else none) := by
  unfold look
  rw [List.find?_append, List.find?_cons]
  congr 1
  by_cases h : y.Typ = t
  · rw [decide_eq_true h, if_pos h]
  · rw [decide_eq_false h, if_neg h]; rfl
theorem look_other {F : List Attr} {y : Attr} {t : Int} (h : ¬ y.Typ = t) : look (F ++ [y]) t = look F t := by
  rw [look_add, if_neg h, Option.or_none]
theorem look_new {F : List Attr} {y : Attr} (h : look F y.Typ = none) : look (F ++ [y]) y.Typ = some y := by
  rw [look_add, h, if_pos rfl, Option.none_or]
theorem any_add (F : List Attr) (y : Attr) : (F ++ [y]).any spoils = (F.any spoils || spoils y) := by simp
theorem note_keep {F : List Attr} {y : Attr} {nc ns : Int} {nd : List UInt8} (h : NoteI F nc ns nd) (hf : fatalB y = false) : NoteI (F ++ [y]) nc ns nd := by
  unfold NoteI at h ⊢
  rw [List.find?_append, List.find?_cons, hf]
  cases hF : F.find? fatalB with
  | none => rw [hF] at h; exact h
  | some z => rw [hF] at h; exact h
theorem fatal_known (y : Attr) (h : (1 ≤ y.Typ ∧ y.Typ ≤ 7) ∨ y.Typ = 35) : fatalB y = false := by
  have : m_attr_fatal y = some false := by
    refine ok_outJ ?_
    unfold m_attr_fatal
    refine ok_if (fun h1 => ok_if (fun h2 => ok_some rfl) fun h2 => ok_ifn (fun h3 => by omega) fun h3 => ok_some rfl) fun h1 => ok_ifn (fun h3 => by omega) fun h3 => ok_some rfl
  unfold fatalB
  rw [this]
  rfl
theorem fatal_other (y : Attr) (h : ¬ (1 ≤ y.Typ ∧ y.Typ ≤ 7)) (h2 : ¬ y.Typ = 35) : fatalB y = decide ((IntKind.i64.wrap ((BitVec.ofInt IntKind.i64.bits y.Flags &&& BitVec.ofInt IntKind.i64.bits (128 : Int)).toNat : Int)) = (0 : Int)) := by
  have : m_attr_fatal y = some (decide ((IntKind.i64.wrap ((BitVec.ofInt IntKind.i64.bits y.Flags &&& BitVec.ofInt IntKind.i64.bits (128 : Int)).toNat : Int)) = (0 : Int))) := by
    refine ok_outJ ?_
    unfold m_attr_fatal
    refine ok_if (fun h1 => ok_if (fun h2 => absurd ⟨h1, h2⟩ h) fun h3 => ok_ifn (fun _ => ok_some rfl) fun h3 => absurd h3 h2) fun h1 => ok_ifn (fun _ => ok_some rfl) fun h3 => absurd h3 h2
  unfold fatalB
  rw [this]
  rfl
theorem spoils_if (y : Attr) (b : Bool) (h : ((y.Typ = 1 ∧ orgS y = none) ∨ (y.Typ = 2 ∧ pathS y = none) ∨ (y.Typ = 3 ∧ hopS y = none) ∨ (y.Typ = 4 ∧ medS y = false) ∨ (y.Typ = 35 ∧ otcS y = none)) ↔ b = true) : spoils y = b := by
  unfold spoils
  rw [Bool.eq_iff_iff, decide_eq_true_eq]
  exact h
section
variable {F : List Attr} {y : Attr} {o : Int} {a : List Int} {h c : Int} {sp : Bool} {nc ns : Int} {nd : List UInt8}
theorem or_false {x b : Bool} (h : (x || b) = false) : x = false ∧ b = false := by cases x <;> cases b <;> simp_all
theorem add1 (v : RefV F (o, a, h, c, sp, nc, ns, nd)) (hn : look F y.Typ = none) (ht : y.Typ = 1) {o' : Int} {b : Bool} (hb : orgS y = none ↔ b = true) (ho : b = false → o' = (orgS y).getD 0) : RefV (F ++ [y]) (o', a, h, c, sp || b, nc, ns, nd) := by
  obtain ⟨v1, v2, v3, v4, v5, v6⟩ := v
  have hs : spoils y = b := spoils_if y b (by simp only [ht]; simp [hb])
  refine ⟨?_, fun k => ?_, fun k => ?_, fun k => ?_, fun k => ?_, note_keep v6 (fatal_known y (.inl (by omega)))⟩
  · dsimp only at v1 ⊢; rw [any_add, hs, v1]
  · dsimp only at k ⊢
    rw [← ht, look_new hn]
    exact ho (or_false k).2
  · rw [look_other (by omega)]; exact v3 (or_false k).1
  · rw [look_other (by omega)]; exact v4 (or_false k).1
  · rw [look_other (by omega)]; exact v5 (or_false k).1
theorem add2 (v : RefV F (o, a, h, c, sp, nc, ns, nd)) (hn : look F y.Typ = none) (ht : y.Typ = 2) {a' : List Int} {b : Bool} (hb : pathS y = none ↔ b = true) (ho : b = false → a' = (pathS y).getD []) : RefV (F ++ [y]) (o, a', h, c, sp || b, nc, ns, nd) := by
  obtain ⟨v1, v2, v3, v4, v5, v6⟩ := v
  have hs : spoils y = b := spoils_if y b (by simp only [ht]; simp [hb])
  refine ⟨?_, fun k => ?_, fun k => ?_, fun k => ?_, fun k => ?_, note_keep v6 (fatal_known y (.inl (by omega)))⟩
  · dsimp only at v1 ⊢; rw [any_add, hs, v1]
  · rw [look_other (by omega)]; exact v2 (or_false k).1
  · dsimp only at k ⊢
    rw [← ht, look_new hn]
    exact ho (or_false k).2
  · rw [look_other (by omega)]; exact v4 (or_false k).1
  · rw [look_other (by omega)]; exact v5 (or_false k).1
theorem add3 (v : RefV F (o, a, h, c, sp, nc, ns, nd)) (hn : look F y.Typ = none) (ht : y.Typ = 3) {h' : Int} {b : Bool} (hb : hopS y = none ↔ b = true) (ho : b = false → h' = (hopS y).getD 0) : RefV (F ++ [y]) (o, a, h', c, sp || b, nc, ns, nd) := by
  obtain ⟨v1, v2, v3, v4, v5, v6⟩ := v
  have hs : spoils y = b := spoils_if y b (by simp only [ht]; simp [hb])
  refine ⟨?_, fun k => ?_, fun k => ?_, fun k => ?_, fun k => ?_, note_keep v6 (fatal_known y (.inl (by omega)))⟩
  · dsimp only at v1 ⊢; rw [any_add, hs, v1]
  · rw [look_other (by omega)]; exact v2 (or_false k).1
  · rw [look_other (by omega)]; exact v3 (or_false k).1
  · dsimp only at k ⊢
    rw [← ht, look_new hn]
    exact ho (or_false k).2
  · rw [look_other (by omega)]; exact v5 (or_false k).1
theorem add4 (v : RefV F (o, a, h, c, sp, nc, ns, nd)) (ht : y.Typ = 4) {b : Bool} (hb : medS y = false ↔ b = true) : RefV (F ++ [y]) (o, a, h, c, sp || b, nc, ns, nd) := by
  obtain ⟨v1, v2, v3, v4, v5, v6⟩ := v
  have hs : spoils y = b := spoils_if y b (by simp only [ht]; simp [hb])
  refine ⟨?_, fun k => ?_, fun k => ?_, fun k => ?_, fun k => ?_, note_keep v6 (fatal_known y (.inl (by omega)))⟩
  · dsimp only at v1 ⊢; rw [any_add, hs, v1]
  · rw [look_other (by omega)]; exact v2 (or_false k).1
  · rw [look_other (by omega)]; exact v3 (or_false k).1
  · rw [look_other (by omega)]; exact v4 (or_false k).1
  · rw [look_other (by omega)]; exact v5 (or_false k).1
theorem add5 (v : RefV F (o, a, h, c, sp, nc, ns, nd)) (hn : look F y.Typ = none) (ht : y.Typ = 35) {c' : Int} {b : Bool} (hb : otcS y = none ↔ b = true) (ho : b = false → c' = (otcS y).getD 0) : RefV (F ++ [y]) (o, a, h, c', sp || b, nc, ns, nd) := by
  obtain ⟨v1, v2, v3, v4, v5, v6⟩ := v
  have hs : spoils y = b := spoils_if y b (by simp only [ht]; simp [hb])
  refine ⟨?_, fun k => ?_, fun k => ?_, fun k => ?_, fun k => ?_, note_keep v6 (fatal_known y (.inr ht))⟩
  · dsimp only at v1 ⊢; rw [any_add, hs, v1]
  · rw [look_other (by omega)]; exact v2 (or_false k).1
  · rw [look_other (by omega)]; exact v3 (or_false k).1
  · rw [look_other (by omega)]; exact v4 (or_false k).1
  · dsimp only at k ⊢
    rw [← ht, look_new hn]
    exact ho (or_false k).2
/-- One that says nothing. -/
theorem add0 (v : RefV F (o, a, h, c, sp, nc, ns, nd)) (h1 : ¬ y.Typ = 1) (h2 : ¬ y.Typ = 2) (h3 : ¬ y.Typ = 3) (h4 : ¬ y.Typ = 4) (h5 : ¬ y.Typ = 35) {nc' ns' : Int} {nd' : List UInt8} (hn : NoteI (F ++ [y]) nc' ns' nd') : RefV (F ++ [y]) (o, a, h, c, sp, nc', ns', nd') := by
  obtain ⟨v1, v2, v3, v4, v5, v6⟩ := v
  have hs : spoils y = false := spoils_if y false (by simp [h1, h2, h3, h4, h5])
  refine ⟨?_, fun k => ?_, fun k => ?_, fun k => ?_, fun k => ?_, hn⟩
  · dsimp only at v1 ⊢; rw [any_add, hs, v1, Bool.or_false]
  · rw [look_other h1]; exact v2 k
  · rw [look_other h2]; exact v3 k
  · rw [look_other h3]; exact v4 k
  · rw [look_other h5]; exact v5 k
end
theorem note_new {F : List Attr} {y : Attr} {ns : Int} {nd : List UInt8} (h : NoteI F 0 ns nd) (hf : fatalB y = true) : NoteI (F ++ [y]) 3 2 ((m_attr_Put [] y).getD []) := by
  unfold NoteI at h ⊢
  cases hF : F.find? fatalB with
  | none =>
    rw [List.find?_append, hF, List.find?_cons, hf]
    exact ⟨rfl, rfl, rfl⟩
  | some z => rw [hF] at h; exact absurd h.1 (by decide)
theorem note_old {F : List Attr} {y : Attr} {nc ns : Int} {nd : List UInt8} (h : NoteI F nc ns nd) (h0 : ¬ nc = 0) : NoteI (F ++ [y]) nc ns nd := by
  unfold NoteI at h ⊢
  cases hF : F.find? fatalB with
  | none => rw [hF] at h; exact absurd h.1 h0
  | some z =>
    rw [hF] at h
    rw [List.find?_append, hF, Option.some_or]
    exact h
theorem any_typ (F : List Attr) (t : Int) : (F.any fun z => decide (z.Typ = t)) = (F.map fun z => z.Typ).any fun x => decide (x = t) := by
  rw [List.any_map]; rfl
/-- A search among the types that came. -/
theorem t_seen {Q : Path × Int × Note → Prop} {step : Int → (Int → Option (Path × Int × Note)) → (Unit → Option (Path × Int × Note)) → Option (Path × Int × Note)} (S : List Int) (t : Int) (k : Bool → Option (Path × Int × Note))
    (hst : ∀ (i : Int) nx, step i nx (fun _ => k false) = bif decide (i < (S.length : Int)) then bd (ix S i) fun y => bif decide (y = t) then k true else nx (IntKind.i64.wrap (i + (1 : Int))) else k false) (hl : S.length ≤ 100000)
    (hk : ∀ b, b = (S.any fun x => decide (x = t)) → Ok (k b) Q) : Ok (loopC step (fun _ => k false) BIG 0) Q := by
  refine ok_idx S.length (fun i => ∀ j (h : j < S.length), j < i → ¬ S[j] = t) (by omega) (fun j h hj => absurd hj (Nat.not_lt_zero _)) (fun i hi hI nx hnx => ?_) (fun hI nx => ?_)
  · rw [hst]
    refine ok_if (fun _ => ok_ix (by omega) (by omega) fun _ => ?_) fun h => by omega
    simp only [Int.toNat_natCast]
    refine ok_if (fun h => hk true ?_) fun h => hnx fun j hj hji => ?_
    · symm
      exact List.any_eq_true.2 ⟨_, List.getElem_mem hi, decide_eq_true h⟩
    · rcases Nat.lt_succ_iff_lt_or_eq.1 hji with g | rfl
      · exact hI j hj g
      · exact h
  · rw [hst]
    refine ok_if (fun h => by omega) fun _ => hk false ?_
    symm
    rw [List.any_eq_false]
    intro x hx
    obtain ⟨i, h, rfl⟩ := List.getElem_of_mem hx
    simpa using hI i h h
theorem byte_org (y : Attr) (ht : fl y = 64) (h1 : y.Data.length = 1) {b : UInt8} (hb : ix y.Data 0 = some b) : y.Data = [b] := by
  match hy : y.Data, h1 with
  | [x], _ => rw [hy, ix_eq] at hb; cases hb; rfl
theorem ref_judge (l : List Attr) (hl : l.length ≤ 1000) (hd : ∀ y ∈ l, y.Data.length ≤ 2000) : m_ridgewayref07_Judge l = some (judgeS l) := by
  refine ok_outJ ?_
  unfold m_ridgewayref07_Judge
  refine ok_acc' l.length (fun i st => st.2.2.2.2.1 = (firsts (l.take i)).map (fun y => y.Typ) ∧ RefV (firsts (l.take i)) (st.1, st.2.1, st.2.2.1, st.2.2.2.1, st.2.2.2.2.2)) (by omega) ⟨rfl, ⟨rfl, fun _ => rfl, fun _ => rfl, fun _ => rfl, fun _ => rfl, ⟨rfl, rfl, rfl⟩⟩⟩ (fun i st hi hI nx hnx => ?_) (fun st hI nx => ?_)
  · obtain ⟨o, a, h, c, S, sp, nc, ns, nd⟩ := st
    obtain ⟨hS, hv⟩ := hI
    dsimp only at hS hv hnx
    have hf := firsts_take l i hi
    have hmem := hd _ (List.getElem_mem hi)
    have hFl := firsts_len (l.take i)
    rw [List.length_take] at hFl
    rw [s_ridgewayref07_Judge1]
    have hix : ix l (i : Int) = some l[i] := ix_nat hi
    generalize l[i] = y at hf hmem hix
    generalize hF : firsts (l.take i) = F at hS hv hf hFl
    have hSl : S.length ≤ 100000 := by rw [hS, List.length_map]; omega
    dsimp only
    refine ok_if (fun _ => ok_bde hix ?_) fun h => absurd (Int.ofNat_lt.2 hi) h
    refine ok_jn (fun b => b = F.any fun z => decide (z.Typ = y.Typ)) (fun k hk => t_seen S y.Typ k (fun i nx => rfl) hSl fun b hb => hk b (by rw [hb, hS, any_typ])) fun b hb => ?_
    subst hb
    refine ok_ifnb (fun hnew => ?_) fun hold => hnx _ ⟨?_, ?_⟩
    rotate_left
    · have e1 : firsts (l.take (i + 1)) = F := by rw [hf]; unfold addF; rw [if_pos hold]
      rw [e1]; exact hS
    · have e1 : firsts (l.take (i + 1)) = F := by rw [hf]; unfold addF; rw [if_pos hold]
      rw [e1]; exact hv
    have e1 : firsts (l.take (i + 1)) = F ++ [y] := by rw [hf]; unfold addF; rw [if_neg (by rw [hnew]; decide)]
    have hn : look F y.Typ = none := by
      have := has_look F y.Typ
      rw [hnew] at this
      cases h : look F y.Typ with
      | none => rfl
      | some z => rw [h] at this; cases this
    refine ok_bde hix (ok_ap (by simp only [List.length_cons, List.length_nil]; omega) (by simp only [List.length_cons, List.length_nil]; omega) (ok_bde hix (ok_jn (fun j => RefV (F ++ [y]) j) (fun k108 hk => ?_) fun j hj => hnx _ ⟨by rw [e1, hS, List.map_append]; rfl, by rw [e1]; exact hj⟩)))
    have kp : ∀ {v : Int × List Int × Int × Int × Bool × Int × Int × List UInt8}, RefV (F ++ [y]) v → Ok (k108 v) _ := fun hv => hk _ hv
    have tr : ∀ s : Bool, (s || true) = true := fun s => Bool.or_true s
    have fa : ∀ s : Bool, (s || false) = s := fun s => Bool.or_false s
    refine ok_if (fun t1 => ?_) fun t1 => ok_if (fun t2 => ?_) fun t2 => ok_if (fun t3 => ?_) fun t3 => ok_if (fun t4 => ?_) fun t4 => ok_if (fun t5 => ?_) fun t5 => ?_
    · -- origin
      have bad : ¬ (fl y = 64 ∧ y.Data.length = 1 ∧ (y.Data.headD 0).toNat ≤ 2) → ∀ o', RefV (F ++ [y]) (o', a, h, c, true, nc, ns, nd) := fun hno o' => by
        have := add1 (o' := o') (b := true) hv hn t1 (by unfold orgS; rw [if_neg hno]; simp) (fun k => Bool.noConfusion k)
        rwa [tr] at this
      have two : (¬ (fl y = 64 ∧ y.Data.length = 1 ∧ (y.Data.headD 0).toNat ≤ 2)) → Ok (bif decide ((y.Data.length : Int) > (0 : Int)) then bd (ix y.Data (0 : Int)) fun y7 => k108 ((IntKind.i64.wrap (y7.toNat : Int)), a, h, c, true, nc, ns, nd) else k108 (o, a, h, c, true, nc, ns, nd)) _ := fun hno => ok_if (fun hp => ok_ix (by decide) (by omega) fun _ => kp (bad hno _)) fun _ => kp (bad hno _)
      refine ok_if (fun hfl => ok_if (fun hl1 => ?_) fun hl1 => two fun k => hl1 (by have := k.2.1; omega)) fun hfl => two fun k => hfl k.1
      have hfl : fl y = 64 := hfl
      have hl1 : y.Data.length = 1 := by omega
      obtain ⟨b, hb⟩ : ∃ b, ix y.Data 0 = some b := ⟨_, ix_some (by decide) (List.getElem?_eq_getElem (by omega : (0 : Int).toNat < y.Data.length))⟩
      have hy := byte_org y hfl hl1 hb
      have hb256 := b.toNat_lt
      have hw : IntKind.i64.wrap (b.toNat : Int) = b.toNat := w64 (by omega) (by omega)
      refine ok_bde hb (ok_jn (fun x => x = (sp || !decide ((b.toNat : Int) ≤ 2))) (fun k hk2 => ok_ifn (fun h2 => hk2 _ ?_) fun h2 => hk2 _ ?_) fun x hx => ok_if (fun _ => ok_bde hb (kp ?_)) fun h0 => absurd (by omega) h0)
      · rw [decide_eq_false h2]; exact (tr sp).symm
      · rw [decide_eq_true h2]; exact (fa sp).symm
      · subst hx
        refine add1 hv hn t1 ?_ fun hok => ?_
        · unfold orgS
          rw [hy]
          by_cases h2 : (b.toNat : Int) ≤ 2
          · rw [if_pos ⟨hfl, rfl, (by show b.toNat ≤ 2; omega)⟩, decide_eq_true h2]
            simp
          · rw [if_neg (fun k => h2 (by have := k.2.2; show (b.toNat : Int) ≤ 2; dsimp only [List.headD] at this; omega)), decide_eq_false h2]
            simp
        · have h2 : (b.toNat : Int) ≤ 2 := by simpa using hok
          unfold orgS
          rw [hy, if_pos ⟨hfl, rfl, (by show b.toNat ≤ 2; omega)⟩, hw]
          rfl
    · -- ASes
      have hases := ases_eq y.Data (by omega)
      refine ok_bde hases ?_
      cases hA : asS y.Data with
      | none =>
        have hb : pathS y = none := by unfold pathS; split <;> first | exact hA | rfl
        have v' := fun a' => add2 (a' := a') (b := true) hv hn t2 (by rw [hb]; simp) (fun k => Bool.noConfusion k)
        simp only [tr] at v'
        exact ok_if (fun _ => ok_jn (fun x => x = true) (fun k hk2 => ok_ifnb (fun _ => hk2 _ rfl) fun q => Bool.noConfusion q) fun x hx => by subst hx; exact kp (v' _)) fun _ => kp (v' _)
      | some L =>
        refine ok_if (fun hfl => ok_jn (fun x => x = sp) (fun k hk2 => ok_ifnb (fun q => Bool.noConfusion q) fun _ => hk2 _ rfl) fun x hx => ?_) fun hfl => kp ?_
        · subst hx
          have hb : pathS y = some L := by unfold pathS; rw [if_pos (show fl y = 64 from hfl)]; exact hA
          have v' := add2 (a' := L) (b := false) hv hn t2 (by rw [hb]; simp) (fun k => by rw [hb]; rfl)
          rw [fa] at v'
          exact kp v'
        · have hb : pathS y = none := by unfold pathS; rw [if_neg (show ¬ fl y = 64 from hfl)]
          have v' := add2 (a' := L) (b := true) hv hn t2 (by rw [hb]; simp) (fun k => Bool.noConfusion k)
          rwa [tr] at v'
    · -- next hop
      have h4 := four_eq y.Data
      have hnn := numS_nonneg y.Data
      refine ok_if (fun hfl => ok_bde h4 (ok_jn (fun x => x = (sp || !decide (numS y.Data > 0))) (fun k hk2 => ok_ifn (fun h2 => hk2 _ ?_) fun h2 => hk2 _ ?_) fun x hx => ok_bde h4 (kp ?_))) fun hfl => ok_bde h4 (kp ?_)
      · rw [decide_eq_false h2]; exact (tr sp).symm
      · rw [decide_eq_true h2]; exact (fa sp).symm
      · subst hx
        have hfl : fl y = 64 := hfl
        refine add3 hv hn t3 ?_ fun hok => ?_
        · unfold hopS
          by_cases h2 : numS y.Data > 0
          · rw [if_pos ⟨hfl, by omega⟩, decide_eq_true h2]; simp
          · rw [if_neg (fun k => k.2 (by omega)), decide_eq_false h2]; simp
        · have h2 : numS y.Data > 0 := by simpa using hok
          unfold hopS
          rw [if_pos ⟨hfl, by omega⟩]
          rfl
      · have hb : hopS y = none := by unfold hopS; rw [if_neg (fun k => hfl k.1)]
        have v' := add3 (h' := numS y.Data) (b := true) hv hn t3 (by rw [hb]; simp) (fun k => Bool.noConfusion k)
        rwa [tr] at v'
    · -- the fourth
      refine ok_if (fun hfl => ok_jn (fun x => x = (sp || !decide ((y.Data.length : Int) = 4))) (fun k hk2 => ok_ifn (fun h2 => hk2 _ ?_) fun h2 => hk2 _ ?_) fun x hx => kp ?_) fun hfl => kp ?_
      · rw [decide_eq_false h2]; exact (tr sp).symm
      · rw [decide_eq_true h2]; exact (fa sp).symm
      · subst hx
        refine add4 hv t4 ?_
        unfold medS
        rw [decide_eq_false_iff_not, Bool.not_eq_true', decide_eq_false_iff_not]
        exact ⟨fun k k2 => k ⟨hfl, by omega⟩, fun k k2 => k (by have := k2.2; omega)⟩
      · have v' := add4 (b := true) hv t4 (by
          unfold medS
          rw [decide_eq_false_iff_not]
          exact ⟨fun _ => rfl, fun _ k => hfl k.1⟩)
        rwa [tr] at v'
    · -- only to customers
      have h4 := four_eq y.Data
      have hnn := numS_nonneg y.Data
      refine ok_if (fun hfl => ok_bde h4 (ok_jn (fun x => x = (sp || !decide (numS y.Data > 0))) (fun k hk2 => ok_ifn (fun h2 => hk2 _ ?_) fun h2 => hk2 _ ?_) fun x hx => ok_bde h4 (kp ?_))) fun hfl => ok_bde h4 (kp ?_)
      · rw [decide_eq_false h2]; exact (tr sp).symm
      · rw [decide_eq_true h2]; exact (fa sp).symm
      · subst hx
        have hfl : fl y = 192 := hfl
        refine add5 hv hn t5 ?_ fun hok => ?_
        · unfold otcS
          by_cases h2 : numS y.Data > 0
          · rw [if_pos ⟨hfl, by omega⟩, decide_eq_true h2]; simp
          · rw [if_neg (fun k => k.2 (by omega)), decide_eq_false h2]; simp
        · have h2 : numS y.Data > 0 := by simpa using hok
          unfold otcS
          rw [if_pos ⟨hfl, by omega⟩]
          rfl
      · have hb : otcS y = none := by unfold otcS; rw [if_neg (fun k => hfl k.1)]
        have v' := add5 (c' := numS y.Data) (b := true) hv hn t5 (by rw [hb]; simp) (fun k => Bool.noConfusion k)
        rwa [tr] at v'
    · -- the others
      refine ok_jn (fun x => x = decide (y.Typ = 5 ∨ y.Typ = 6 ∨ y.Typ = 7)) (fun k hk2 => ok_if (fun g => hk2 _ (decide_eq_true (.inl g)).symm) fun g5 => ok_if (fun g => hk2 _ (decide_eq_true (.inr (.inl g))).symm) fun g6 => hk2 _ (decide_eq_decide.2 (by omega))) fun x hx => ?_
      subst hx
      refine ok_if (fun g => kp (add0 hv t1 t2 t3 t4 t5 (note_keep hv.n (fatal_known y (.inl (by omega)))))) fun g => ?_
      have hfo := fatal_other y (by omega) t5
      refine ok_if (fun g1 => ok_if (fun g2 => ok_bde (x := (m_attr_Put [] y).getD []) ?_ (kp (add0 hv t1 t2 t3 t4 t5 (note_new (ns := ns) (nd := nd) ?_ ?_)))) fun g2 => kp (add0 hv t1 t2 t3 t4 t5 (note_old hv.n g2))) fun g1 => kp (add0 hv t1 t2 t3 t4 t5 (note_keep hv.n ?_))
      · rw [refPut_eq [] y (by simp) hmem]
        exact put_some y hmem
      · have := hv.n
        dsimp only at this
        rwa [g2] at this
      · rw [hfo]; exact decide_eq_true g1
      · rw [hfo]; exact decide_eq_false g1
  · obtain ⟨o, a, h, c, S, sp, nc, ns, nd⟩ := st
    rw [List.take_length] at hI
    obtain ⟨hS, hv⟩ := hI
    dsimp only at hS hv
    rw [s_ridgewayref07_Judge1]
    dsimp only
    refine ok_if (fun h => by omega) fun _ => ?_
    have hFl := firsts_len l
    have hSl : S.length ≤ 100000 := by rw [hS, List.length_map]; omega
    have hone := firsts_once l
    unfold judgeS
    generalize firsts l = F at hS hv hFl hone
    obtain ⟨v1, v2, v3, v4, v5, v6⟩ := hv
    dsimp only at v1 v2 v3 v4 v5 v6
    cases hF : F.find? fatalB with
    | some y =>
      unfold NoteI at v6
      rw [hF] at v6
      obtain ⟨rfl, rfl, rfl⟩ := v6
      exact ok_ine' (fun _ => ok_some rfl) fun h => absurd h (by decide)
    | none =>
      unfold NoteI at v6
      rw [hF] at v6
      obtain ⟨rfl, rfl, rfl⟩ := v6
      have bad : bodyF F = badR → Ok (some badR) (· = bodyF F) := fun h => ok_some h.symm
      have inF : ∀ {y : Attr}, y ∈ F → look F y.Typ = some y := fun {y} hy => by
        have := (mget_once y.Typ F hone y).2 ⟨hy, rfl⟩
        rwa [look_map] at this
      refine ok_ine' (fun h => absurd rfl h) fun _ => ok_ifb (fun hsp => bad ?_) fun hsp => ?_
      · rw [v1] at hsp
        obtain ⟨y, hy, hs⟩ := List.any_eq_true.1 hsp
        have hl := inF hy
        unfold spoils at hs
        unfold bodyF
        rcases of_decide_eq_true hs with ⟨t, k⟩ | ⟨t, k⟩ | ⟨t, k⟩ | ⟨t, k⟩ | ⟨t, k⟩ <;> rw [t] at hl <;> rw [hl]
        · exact bodyS_1 k
        · exact bodyS_2 k
        · exact bodyS_3 k
        · exact bodyS_4 k
        · exact bodyS_5 k
      have nosp : ∀ {y : Attr}, y ∈ F → spoils y = false := fun {y} hy => by
        rw [v1] at hsp
        have := List.any_eq_false.1 hsp y hy
        simpa using this
      have memL : ∀ {t : Int} {y : Attr}, look F t = some y → y ∈ F ∧ y.Typ = t := fun {t y} hy => ⟨List.mem_of_find?_eq_some hy, by simpa using List.find?_some hy⟩
      have seen : ∀ t : Int, (S.any fun x => decide (x = t)) = (look F t).isSome := fun t => by rw [has_look, hS, any_typ]
      refine ok_jn (fun b => b = (look F 1).isSome) (fun k hk => t_seen S 1 k (fun i nx => rfl) hSl fun b hb => hk b (by rw [hb, seen])) fun b1 hb1 => ok_ifnb (fun q => bad (bodyS_1 ?_)) fun q1 => ?_
      · rw [hb1] at q
        cases h : look F 1 with
        | none => rfl
        | some z => rw [h] at q; cases q
      refine ok_jn (fun b => b = (look F 2).isSome) (fun k hk => t_seen S 2 k (fun i nx => rfl) hSl fun b hb => hk b (by rw [hb, seen])) fun b2 hb2 => ok_ifnb (fun q => bad (bodyS_2 ?_)) fun q2 => ?_
      · rw [hb2] at q
        cases h : look F 2 with
        | none => rfl
        | some z => rw [h] at q; cases q
      refine ok_jn (fun b => b = (look F 3).isSome) (fun k hk => t_seen S 3 k (fun i nx => rfl) hSl fun b hb => hk b (by rw [hb, seen])) fun b3 hb3 => ok_ifnb (fun q => bad (bodyS_3 ?_)) fun q3 => ok_some ?_
      · rw [hb3] at q
        cases h : look F 3 with
        | none => rfl
        | some z => rw [h] at q; cases q
      rw [hb1] at q1
      rw [hb2] at q2
      rw [hb3] at q3
      obtain ⟨y1, e1⟩ := Option.isSome_iff_exists.1 q1
      obtain ⟨y2, e2⟩ := Option.isSome_iff_exists.1 q2
      obtain ⟨y3, e3⟩ := Option.isSome_iff_exists.1 q3
      have n1 := nosp (memL e1).1; have m1 := (memL e1).2
      have n2 := nosp (memL e2).1; have m2 := (memL e2).2
      have n3 := nosp (memL e3).1; have m3 := (memL e3).2
      unfold spoils at n1 n2 n3
      have n1 := of_decide_eq_false n1
      have n2 := of_decide_eq_false n2
      have n3 := of_decide_eq_false n3
      obtain ⟨x, hx⟩ : ∃ x, orgS y1 = some x := by
        cases h : orgS y1 with
        | none => exact absurd (.inl ⟨m1, h⟩) n1
        | some x => exact ⟨x, rfl⟩
      obtain ⟨L, hL⟩ : ∃ x, pathS y2 = some x := by
        cases h : pathS y2 with
        | none => exact absurd (.inr (.inl ⟨m2, h⟩)) n2
        | some x => exact ⟨x, rfl⟩
      obtain ⟨v, hv⟩ : ∃ x, hopS y3 = some x := by
        cases h : hopS y3 with
        | none => exact absurd (.inr (.inr (.inl ⟨m3, h⟩))) n3
        | some x => exact ⟨x, rfl⟩
      have ko : (look F 1).bind orgS = some x := by rw [e1]; exact hx
      have ka : (look F 2).bind pathS = some L := by rw [e2]; exact hL
      have kh : (look F 3).bind hopS = some v := by rw [e3]; exact hv
      rw [v2 hsp, v3 hsp, v4 hsp, v5 hsp, ko, ka, kh]
      refine (bodyS_ok (w := ((look F 35).bind otcS).getD 0) ko ka kh (fun y hy => ?_) ?_).symm
      · have n4 := of_decide_eq_false (nosp (memL hy).1)
        cases h : medS y with
        | true => rfl
        | false => exact absurd (.inr (.inr (.inr (.inl ⟨(memL hy).2, h⟩)))) n4
      · cases h5 : look F 35 with
        | none => exact .inl ⟨rfl, rfl⟩
        | some y =>
          have n5 := of_decide_eq_false (nosp (memL h5).1)
          cases h : otcS y with
          | none => exact absurd (.inr (.inr (.inr (.inr ⟨(memL h5).2, h⟩)))) n5
          | some w => exact .inr ⟨y, rfl, by rw [h]; simp [h]⟩
end Go.Proofs.Ytgakgilaikgboaa
namespace Go.Proofs.Ytgakgilaikgboaa
open Go.RowKit
set_option linter.unusedVariables false
set_option linter.unusedSimpArgs false
set_option maxRecDepth 100000
set_option maxHeartbeats 1000000

theorem segsF_len : ∀ (f : Nat) (b : List UInt8) (acc L : List Int), segsF f b acc = some L → L.length ≤ acc.length + b.length
  | 0, b, acc, L, h => by cases h
  | f + 1, [], acc, L, h => by rw [segsF] at h; cases h; simp
  | f + 1, [x], acc, L, h => by rw [segsF] at h; cases h
  | f + 1, x :: n :: r, acc, L, h => by
    rw [segsF] at h
    split at h
    · cases h
    · obtain ⟨p, hp, h⟩ := Option.bind_eq_some_iff.1 h
      have h1 := take4_len _ _ _ hp
      have h2 := segsF_len f p.1 p.2 L h
      rw [List.length_cons, List.length_cons]
      omega
theorem judgeS_len (l : List Attr) (hd : ∀ y ∈ l, y.Data.length ≤ 2000) : (judgeS l).1.As.length ≤ 10000 := by
  unfold judgeS
  split
  · exact Nat.zero_le _
  · unfold bodyF bodyS
    split
    · rename_i x L v h1 h2 h3
      have hL : L.length ≤ 10000 := by
        obtain ⟨y, hy, hp⟩ := Option.bind_eq_some_iff.1 h2
        have hdy := hd y (firsts_mem l y (List.mem_of_find?_eq_some hy))
        unfold pathS at hp
        split at hp
        · have := segsF_len _ _ _ _ hp
          simp at this
          omega
        · cases hp
      repeat' split
      all_goals first | exact hL | exact Nat.zero_le _
    · exact Nat.zero_le _
theorem note_same' (n : Note) : m_ridgewayref03_SameNote n n = some true := by
  refine ok_outJ ?_
  unfold m_ridgewayref03_SameNote
  exact ok_if (fun _ => ok_if (fun _ => ok_some (by simp)) fun h => absurd rfl h) fun h => absurd rfl h
theorem attrJudges_true (l : List Attr) (hl : l.length ≤ 9223372036854775807) : m_ridgewaylaw07_AttrJudges l = some true := by
  refine ok_true ?_
  unfold m_ridgewaylaw07_AttrJudges
  refine ok_bde law07_awake (ok_bd (t_fewA l hl) fun b _ hb => ok_ifnb (fun _ => ok_some rfl) fun h => ?_)
  have f := hb h
  have hd : ∀ y ∈ l, y.Data.length ≤ 2000 := f.data
  have h20 : l.length ≤ 1000 := by have := f.len; omega
  exact ok_bde (judge_eq l h20 hd) (ok_bde (ref_judge l h20 hd) (ok_ifb (fun _ => ok_if (fun _ => ok_bde (same_refl _ (judgeS_len l hd)) (ok_ifb (fun _ => ok_bde (note_same' _) (ok_some rfl)) fun h => Bool.noConfusion h)) fun h => absurd rfl h) fun h => Bool.noConfusion h))
end Go.Proofs.Ytgakgilaikgboaa
