/- What the models come to. -/
import Derived.Test.YtkdodhkiemfpeaaWords
import Derived.Test.YtkdodhkiemfpeaaNum
import Derived.Test.YtkdodhkiemfpeaaMo
import Derived.Test.YtkdodhkiemfpeaaMu7
import Derived.KernelRfl
namespace Go.Proofs.Ytkdodhkiemfpeaa
set_option linter.unusedVariables false
set_option linter.unusedSimpArgs false

/-- The number that octets are. -/
def num : List UInt8 → Nat := fun l => l.foldl (fun v x => v * 256 + x.toNat) 0
theorem num_snoc (l : List UInt8) (x : UInt8) : num (l ++ [x]) = num l * 256 + x.toNat := by simp [num]
theorem num_step (l : List UInt8) (j : Nat) (h : j < l.length) : num (l.take (j + 1)) = num (l.take j) * 256 + l[j].toNat := by
  rw [List.take_succ_eq_append_getElem h, num_snoc]
theorem num_lt (l : List UInt8) : num l < 256 ^ l.length := by
  suffices h : ∀ (m : Nat) (l : List UInt8), l.length = m → num l < 256 ^ m from h _ l rfl
  intro m
  induction m with
  | zero => intro l h; rw [List.eq_nil_of_length_eq_zero h]; simp [num]
  | succ m ih =>
    intro l h
    obtain ⟨l', x, rfl⟩ : ∃ l' x, l = l' ++ [x] := ⟨l.dropLast, l.getLast (by intro e; simp [e] at h), (List.dropLast_concat_getLast _).symm⟩
    have := ih l' (by simpa using h)
    have hx := x.toNat_lt
    rw [num_snoc, Nat.pow_succ]
    omega

/-- Octet number j of a number, from the low end. -/
def octAt (v : Int) (j : Nat) : UInt8 := UInt8.ofNat ((v / (2 : Int) ^ (8 * j)) % 256).toNat
/-- The k octets of a number. -/
def putL (v : Int) (k : Nat) : List UInt8 := (List.range k).map fun i => octAt v (k - 1 - i)

theorem putL_length (v : Int) (k : Nat) : (putL v k).length = k := by simp [putL]
theorem putL_step (v : Int) (k j : Nat) (h : j < k) : (putL v k).take (j + 1) = (putL v k).take j ++ [octAt v (k - 1 - j)] := by
  rw [List.take_succ_eq_append_getElem (by rw [putL_length]; exact h)]
  simp [putL]

end Go.Proofs.Ytkdodhkiemfpeaa
namespace Go.Proofs.Ytkdodhkiemfpeaa
open Go.RowKit
set_option linter.unusedVariables false
set_option linter.unusedSimpArgs false

/-- A loop comes to what its rounds come to. -/
theorem loopC_ind {σ ε R : Type} {step : σ → (σ → Option R) → (ε → Option R) → Option R} {bk : ε → Option R} {out : Option R} (I : σ → Prop) (μ : σ → Nat)
    (hstep : ∀ s, I s → ∀ nx : σ → Option R, (∀ s', I s' → μ s' < μ s → nx s' = out) → step s nx bk = out) : ∀ (n : Nat) (s : σ), I s → μ s < n → loopC step bk n s = out
  | 0, s, _, h => absurd h (Nat.not_lt_zero _)
  | n + 1, s, hI, h => by
    rw [loopC_succ]
    exact hstep s hI _ fun s' h1 h2 => loopC_ind I μ hstep n s' h1 (by omega)
theorem big_lt {n : Nat} (h : n ≤ 1180591620717411303000) : n < BIG := by
  unfold BIG
  omega
theorem ix_some {α : Type} {xs : List α} {i : Int} {y : α} (h0 : 0 ≤ i) (h : xs[i.toNat]? = some y) : ix xs i = some y := by
  rw [ix_eq, if_pos h0, h]
theorem ix_nat {α : Type} {xs : List α} {i : Nat} (h : i < xs.length) : ix xs (i : Int) = some xs[i] :=
  ix_some (by omega) (by rw [Int.toNat_natCast, List.getElem?_eq_getElem h])
theorem ap_some {α : Type} {b : Nat} {xs ys : List α} (h : (xs.length + ys.length) * b ≤ 140737488355328) (h2 : xs.length + ys.length ≤ 140737488355328) : ap b xs ys = some (xs ++ ys) := by
  rw [ap_eq, if_pos ⟨h, by unfold maxLen; omega⟩]
theorem sl_some {α : Type} {xs : List α} {lo hi : Int} (h : 0 ≤ lo ∧ lo ≤ hi ∧ hi ≤ xs.length) : sl xs lo hi = some ((xs.take hi.toNat).drop lo.toNat) := by
  rw [sl_eq, if_pos h]
theorem sl_all {α : Type} {xs : List α} {lo : Int} (h : 0 ≤ lo ∧ lo ≤ xs.length) : sl xs lo xs.length = some (xs.drop lo.toNat) := by
  rw [sl_some (by omega), Int.toNat_natCast, List.take_length]
theorem sl_pre {α : Type} {xs : List α} {hi : Int} (h : 0 ≤ hi ∧ hi ≤ xs.length) : sl xs 0 hi = some (xs.take hi.toNat) := by
  rw [sl_some (by omega)]
  rfl
theorem nn_some {R : Type} {b : Int} {m : Option R} (h : 0 ≤ b) : nn b m = m := by rw [nn_eq, if_neg (by omega)]
theorem nz_some {R : Type} {b : Int} {m : Option R} (h : b ≠ 0) : nz b m = m := by rw [nz_eq, if_neg h]
theorem w64 {x : Int} (h1 : -9223372036854775808 ≤ x) (h2 : x ≤ 9223372036854775807) : IntKind.i64.wrap x = x := wrap64 h1 h2
theorem u8wrap_eq (x : Int) : IntKind.u8.wrap x = x % 256 := by
  simp only [IntKind.wrap, IntKind.signed, IntKind.bits, Bool.false_and, Bool.false_eq_true, if_false]
  rfl
end Go.Proofs.Ytkdodhkiemfpeaa
namespace Go.Proofs.Ytkdodhkiemfpeaa
open Go.RowKit
set_option linter.unusedVariables false
set_option linter.unusedSimpArgs false

/-- A walk along a list: what each element makes of the rest. -/
def walk {α R : Type} (F : Nat → α → R → R) (e : R) : Nat → List α → R
  | _, [] => e
  | i, x :: xs => F i x (walk F e (i + 1) xs)
/-- The same, with what was gathered so far. -/
def walkA {α β R : Type} (F : Nat → α → (β → R) → β → R) (e : β → R) : Nat → List α → β → R
  | _, [], b => e b
  | i, x :: xs, b => F i x (walkA F e (i + 1) xs) b
end Go.Proofs.Ytkdodhkiemfpeaa
namespace Go.Proofs.Ytkdodhkiemfpeaa
open Go.RowKit
set_option linter.unusedVariables false
set_option linter.unusedSimpArgs false

/-- A model comes to an answer of which Q holds. -/
def Ok {α : Type} (m : Option α) (Q : α → Prop) : Prop := ∃ x, m = some x ∧ Q x
section
variable {α β R τ : Type} {Q : R → Prop}
theorem ok_some {x : R} (h : Q x) : Ok (some x) Q := ⟨x, rfl, h⟩
theorem ok_bd {m : Option α} {k : α → Option R} {P : α → Prop} (h : Ok m P) (h2 : ∀ x, m = some x → P x → Ok (k x) Q) : Ok (bd m k) Q := by
  obtain ⟨x, e, p⟩ := h
  rw [e, bd_some]
  exact h2 x e p
theorem ok_bde {m : Option α} {k : α → Option R} {x : α} (h : m = some x) (h2 : Ok (k x) Q) : Ok (bd m k) Q := by
  rw [h, bd_some]
  exact h2
theorem ok_if {p : Prop} {_ : Decidable p} {A B : Option R} (h1 : p → Ok A Q) (h2 : ¬ p → Ok B Q) : Ok (bif decide p then A else B) Q := by
  by_cases hp : p
  · rw [decide_eq_true hp]; exact h1 hp
  · rw [decide_eq_false hp]; exact h2 hp
theorem ok_ifn {p : Prop} {_ : Decidable p} {A B : Option R} (h1 : ¬ p → Ok A Q) (h2 : p → Ok B Q) : Ok (bif !decide p then A else B) Q := by
  by_cases hp : p
  · rw [decide_eq_true hp]; exact h2 hp
  · rw [decide_eq_false hp]; exact h1 hp
theorem ok_ifb {b : Bool} {A B : Option R} (h1 : b = true → Ok A Q) (h2 : b = false → Ok B Q) : Ok (bif b then A else B) Q := by
  cases b
  · exact h2 rfl
  · exact h1 rfl
theorem ok_ifnb {b : Bool} {A B : Option R} (h1 : b = false → Ok A Q) (h2 : b = true → Ok B Q) : Ok (bif !b then A else B) Q := by
  cases b
  · exact h1 rfl
  · exact h2 rfl
theorem ok_ix {xs : List α} {i : Int} {k : α → Option R} (h0 : 0 ≤ i) (h1 : i < xs.length) (h : ∀ (hlt : i.toNat < xs.length), Ok (k xs[i.toNat]) Q) : Ok (bd (ix xs i) k) Q :=
  ok_bde (ix_some h0 (List.getElem?_eq_getElem (by omega))) (h (by omega))
theorem ok_ap {b : Nat} {xs ys : List α} {k : List α → Option R} (h : (xs.length + ys.length) * b ≤ 140737488355328) (h2 : xs.length + ys.length ≤ 140737488355328) (hk : Ok (k (xs ++ ys)) Q) : Ok (bd (ap b xs ys) k) Q :=
  ok_bde (ap_some h h2) hk
theorem ok_jn {i : Nat} {f : (τ → Option R) → Option R} {k : τ → Option R} (J : τ → Prop) (h2 : ∀ k', (∀ j, J j → Ok (k' j) Q) → Ok (f k') Q) (h1 : ∀ j, J j → Ok (k j) Q) : Ok (jn i f k) Q := by
  rw [jn_eq]
  exact h2 k h1
theorem ok_jn' {i : Nat} {f : (τ → Option R) → Option R} {k : τ → Option R} (h : Ok (f k) Q) : Ok (jn i f k) Q := by
  rw [jn_eq]
  exact h
/-- A loop whose rounds keep I, and count down. -/
theorem ok_loop {σ ε : Type} {step : σ → (σ → Option R) → (ε → Option R) → Option R} {bk : ε → Option R} {s0 : σ} (I : σ → Prop) (μ : σ → Nat) (h0 : I s0) (hm : μ s0 ≤ 1180591620717411303000)
    (hs : ∀ s, I s → ∀ nx : σ → Option R, (∀ s', I s' → μ s' < μ s → Ok (nx s') Q) → Ok (step s nx bk) Q) : Ok (loopC step bk BIG s0) Q := by
  suffices h : ∀ (n : Nat) (s : σ), I s → μ s < n → Ok (loopC step bk n s) Q from h BIG s0 h0 (big_lt hm)
  intro n
  induction n with
  | zero => intro s _ h; omega
  | succ n ih =>
    intro s hI h
    rw [loopC_succ]
    exact hs s hI _ fun s' h1 h2 => ih s' h1 (by omega)
/-- A loop over the places of a list. -/
theorem ok_idx {ε : Type} {step : Int → (Int → Option R) → (ε → Option R) → Option R} {bk : ε → Option R} (n : Nat) (I : Nat → Prop) (hn : n ≤ 9223372036854775807) (h0 : I 0)
    (hs : ∀ i, i < n → I i → ∀ nx : Int → Option R, (I (i + 1) → Ok (nx (IntKind.i64.wrap ((i : Int) + 1))) Q) → Ok (step (i : Int) nx bk) Q) (he : I n → ∀ nx, Ok (step (n : Int) nx bk) Q) : Ok (loopC step bk BIG 0) Q := by
  refine ok_loop (fun st => ∃ j : Nat, st = (j : Int) ∧ j ≤ n ∧ I j) (fun st => ((n : Int) - st).toNat) ⟨0, rfl, Nat.zero_le _, h0⟩ (by omega) ?_
  rintro _ ⟨j, rfl, hj, hI⟩ nx hnx
  by_cases hlt : j < n
  · have hw : IntKind.i64.wrap ((j : Int) + 1) = ((j + 1 : Nat) : Int) := by rw [w64 (by omega) (by omega)]; rfl
    refine hs j hlt hI nx fun h => hnx _ ⟨j + 1, hw, hlt, h⟩ (by rw [hw]; omega)
  · obtain rfl : j = n := by omega
    exact he hI nx
/-- The same, with something gathered. -/
theorem ok_acc {γ ε : Type} {step : γ × Int → (γ × Int → Option R) → (ε → Option R) → Option R} {bk : ε → Option R} {b0 : γ} (n : Nat) (I : Nat → γ → Prop) (hn : n ≤ 9223372036854775807) (h0 : I 0 b0)
    (hs : ∀ i b, i < n → I i b → ∀ nx : γ × Int → Option R, (∀ b', I (i + 1) b' → Ok (nx (b', IntKind.i64.wrap ((i : Int) + 1))) Q) → Ok (step (b, (i : Int)) nx bk) Q) (he : ∀ b, I n b → ∀ nx, Ok (step (b, (n : Int)) nx bk) Q) : Ok (loopC step bk BIG (b0, 0)) Q := by
  refine ok_loop (fun st => ∃ j : Nat, st.2 = (j : Int) ∧ j ≤ n ∧ I j st.1) (fun st => ((n : Int) - st.2).toNat) ⟨0, rfl, Nat.zero_le _, h0⟩ (by simp only; omega) ?_
  rintro ⟨b, _⟩ ⟨j, rfl, hj, hI⟩ nx hnx
  dsimp only at hj hI hnx
  by_cases hlt : j < n
  · have hw : IntKind.i64.wrap ((j : Int) + 1) = ((j + 1 : Nat) : Int) := by rw [w64 (by omega) (by omega)]; rfl
    refine hs j b hlt hI nx fun b' h => hnx _ ⟨j + 1, hw, hlt, h⟩ (by simp only [hw]; omega)
  · obtain rfl : j = n := by omega
    exact he b hI nx
/-- The same, the place first. -/
theorem ok_acc' {γ ε : Type} {step : Int × γ → (Int × γ → Option R) → (ε → Option R) → Option R} {bk : ε → Option R} {b0 : γ} (n : Nat) (I : Nat → γ → Prop) (hn : n ≤ 9223372036854775807) (h0 : I 0 b0)
    (hs : ∀ i b, i < n → I i b → ∀ nx : Int × γ → Option R, (∀ b', I (i + 1) b' → Ok (nx (IntKind.i64.wrap ((i : Int) + 1), b')) Q) → Ok (step ((i : Int), b) nx bk) Q) (he : ∀ b, I n b → ∀ nx, Ok (step ((n : Int), b) nx bk) Q) : Ok (loopC step bk BIG (0, b0)) Q := by
  refine ok_loop (fun st => ∃ j : Nat, st.1 = (j : Int) ∧ j ≤ n ∧ I j st.2) (fun st => ((n : Int) - st.1).toNat) ⟨0, rfl, Nat.zero_le _, h0⟩ (by simp only; omega) ?_
  rintro ⟨_, b⟩ ⟨j, rfl, hj, hI⟩ nx hnx
  dsimp only at hj hI hnx
  by_cases hlt : j < n
  · have hw : IntKind.i64.wrap ((j : Int) + 1) = ((j + 1 : Nat) : Int) := by rw [w64 (by omega) (by omega)]; rfl
    refine hs j b hlt hI nx fun b' h => hnx _ ⟨j + 1, hw, hlt, h⟩ (by simp only [hw]; omega)
  · obtain rfl : j = n := by omega
    exact he b hI nx
theorem ok_true {m : Option Bool} (h : Ok m (· = true)) : m = some true := by
  obtain ⟨x, e, rfl⟩ := h
  exact e
end
end Go.Proofs.Ytkdodhkiemfpeaa
namespace Go.Proofs.Ytkdodhkiemfpeaa
open Go.RowKit
set_option linter.unusedVariables false
set_option linter.unusedSimpArgs false

theorem octTake_eq (l : List UInt8) (n : Int) : m_octet_Take l n = some (if 0 ≤ n ∧ n ≤ l.length then (l.take n.toNat, l.drop n.toNat, true) else ([], [], false)) := by
  unfold m_octet_Take
  by_cases h1 : n < 0
  · rw [decide_eq_true h1, cond_true, if_neg (by omega)]
  rw [decide_eq_false h1, cond_false]
  by_cases h2 : n > (l.length : Int)
  · rw [decide_eq_true h2, cond_true, if_neg (by omega)]
  rw [decide_eq_false h2, cond_false, sl_pre (by omega), bd_some, sl_all (by omega), bd_some, if_pos (by omega)]
theorem octGet_eq (l : List UInt8) (a : Int) (h1 : 1 ≤ a) (h4 : a ≤ 4) : m_octet_Get l a = some (if a ≤ l.length then (((num (l.take a.toNat) : Nat) : Int), l.drop a.toNat, true) else (0, [], false)) := by
  unfold m_octet_Get
  rw [decide_eq_false (by omega), cond_false, decide_eq_false (by omega), cond_false, octTake_eq, bd_some]
  by_cases hk : a ≤ l.length
  · rw [if_pos (by omega), if_pos hk]
    refine loopC_ind (fun st => ∃ j : Nat, j ≤ a.toNat ∧ st = (((num (l.take j) : Nat) : Int), (j : Int))) (fun st => (a - st.2).toNat) ?_ _ _ ⟨0, Nat.zero_le _, by simp [num]⟩ (big_lt (by simp; omega))
    rintro st ⟨j, hj, rfl⟩ nx hnx
    unfold s_octet_Get1
    have hlen : (l.take a.toNat).length = a.toNat := by rw [List.length_take]; omega
    simp only [hlen]
    by_cases hlt : j < a.toNat
    · rw [decide_eq_true (by omega), cond_true, ix_nat (by rw [hlen]; exact hlt), bd_some, List.getElem_take]
      have hb : l[j].toNat < 256 := l[j].toNat_lt
      have hnl : num (l.take j) < 16777216 := by
        have := num_lt (l.take j)
        have : 256 ^ (l.take j).length ≤ 256 ^ 3 := Nat.pow_le_pow_right (by omega) (by rw [List.length_take]; omega)
        omega
      have e1 : IntKind.i64.wrap ((num (l.take j) : Nat) * 2 ^ (min (8 : Int).toNat IntKind.i64.bits) : Int) = (num (l.take j) : Nat) * 256 := by
        rw [show (2 : Int) ^ (min (8 : Int).toNat IntKind.i64.bits) = 256 from rfl, w64 (by omega) (by omega)]
      have e2 : IntKind.i64.wrap (l[j].toNat : Int) = l[j].toNat := w64 (by omega) (by omega)
      have e3 := or_byte (num (l.take j)) l[j].toNat hb hnl
      simp only [bits] at e3
      have e4 := num_step l j (by omega)
      rw [e1, e2, e3, ← e4, w64 (by omega) (by omega)]
      exact hnx _ ⟨j + 1, by omega, by simp⟩ (by simp; omega)
    · obtain rfl : j = a.toNat := by omega
      rw [decide_eq_false (by omega), cond_false]
  · rw [if_neg (by omega), if_neg hk]
    rw [show BIG = (BIG - 1) + 1 from rfl, loopC_succ]
    rfl
theorem u8_fdiv' (v : Int) (j : Nat) (h : j ≤ 3) : toB (IntKind.u8.wrap (v.fdiv (2 ^ (min (8 * j) 64)))) = octAt v j := by
  have : v.fdiv (2 ^ (8 * j)) = v / 2 ^ (8 * j) := by
    rw [Int.fdiv_eq_ediv_of_nonneg]
    exact Int.le_of_lt (Int.pow_pos (by decide))
  rw [Nat.min_eq_left (by omega), this, u8wrap_eq]
  rfl
theorem octPut_eq (l : List UInt8) (v a : Int) (h1 : 1 ≤ a) (h4 : a ≤ 4) (hl : l.length ≤ 140737488355000) : m_octet_Put l v a = some (l ++ putL v a.toNat) := by
  unfold m_octet_Put
  rw [decide_eq_false (by omega), cond_false, decide_eq_false (by omega), cond_false, sl_pre (by omega), bd_some, Int.toNat_natCast, List.take_length]
  refine loopC_ind (fun st => ∃ j : Nat, j ≤ a.toNat ∧ st = (l ++ (putL v a.toNat).take j, (j : Int))) (fun st => (a - st.2).toNat) ?_ _ _ ⟨0, Nat.zero_le _, by simp⟩ (big_lt (by simp; omega))
  rintro st ⟨j, hj, rfl⟩ nx hnx
  unfold s_octet_Put1
  by_cases hlt : j < a.toNat
  · rw [decide_eq_true (by simp only; omega), cond_true]
    have e1 : IntKind.i64.wrap (8 * IntKind.i64.wrap (IntKind.i64.wrap (a - 1) - (j : Int))) = ((8 * (a.toNat - 1 - j) : Nat) : Int) := by
      rw [w64 (x := a - 1) (by omega) (by omega), w64 (x := a - 1 - (j : Int)) (by omega) (by omega), w64 (by omega) (by omega)]
      omega
    simp only [e1]
    rw [nn_some (by omega), Int.toNat_natCast, show IntKind.i64.bits = 64 from rfl, u8_fdiv' v _ (by omega), ap_some (by simp; omega) (by simp; omega), bd_some, w64 (by omega) (by omega), List.append_assoc, ← putL_step v a.toNat j hlt]
    exact hnx _ ⟨j + 1, by omega, by simp⟩ (by simp; omega)
  · obtain rfl : j = a.toNat := by omega
    rw [decide_eq_false (by simp only; omega), cond_false, List.take_of_length_le (by rw [putL_length]; exact Nat.le_refl _)]
end Go.Proofs.Ytkdodhkiemfpeaa
namespace Go.Proofs.Ytkdodhkiemfpeaa
open Go.RowKit
set_option linter.unusedVariables false
set_option linter.unusedSimpArgs false
set_option maxRecDepth 100000
set_option maxHeartbeats 1000000
def takeR (l : List UInt8) (n : Int) : List UInt8 × List UInt8 × Bool := if 0 ≤ n ∧ n ≤ l.length then (l.take n.toNat, l.drop n.toNat, true) else ([], [], false)
theorem take_eq (l : List UInt8) (n : Int) : m_octet_Take l n = some (takeR l n) := by
  refine (?_ : Ok (m_octet_Take l n) (· = takeR l n)).elim fun x h => by rw [h.1, h.2]
  unfold m_octet_Take takeR
  refine ok_if (fun h => ok_some (by rw [if_neg (by omega)])) fun h => ok_if (fun h2 => ok_some (by rw [if_neg (by omega)])) fun h2 => ok_bde (sl_pre (by omega)) (ok_bde (sl_all (by omega)) (ok_some (by rw [if_pos (by omega)])))
theorem t_put (l : List UInt8) (v n : Int) (hl : l.length ≤ 1000000) : Ok (m_octet_Put l v n) fun r => r.length ≤ l.length + 4 := by
  unfold m_octet_Put
  refine ok_if (fun _ => ok_some (by omega)) fun h1 => ok_if (fun _ => ok_some (by omega)) fun h2 => ok_bde (sl_pre (by omega)) ?_
  rw [Int.toNat_natCast, List.take_length]
  refine ok_acc n.toNat (fun i b => b.length = l.length + i) (by omega) rfl (fun i b hi hI nx hnx => ?_) (fun b hI nx => ?_)
  · rw [s_octet_Put1]
    refine ok_if (fun _ => ?_) fun h => absurd (show (i : Int) < n by omega) h
    have hw : 0 ≤ IntKind.i64.wrap ((8 : Int) * (IntKind.i64.wrap ((IntKind.i64.wrap (n - (1 : Int))) - (i : Int)))) := by
      rw [w64 (x := n - 1) (by omega) (by omega), w64 (x := n - 1 - i) (by omega) (by omega), w64 (by omega) (by omega)]
      omega
    dsimp only
    rw [nn_some hw]
    exact ok_ap (by simp; omega) (by simp; omega) (hnx _ (by simp; omega))
  · rw [s_octet_Put1]
    exact ok_if (fun h => absurd h (by dsimp only; omega)) fun _ => ok_some (by dsimp only; omega)
theorem oct_eq (n : Int) : m_attr_octetSized n = some (decide (0 ≤ n ∧ n ≤ 255)) := by
  refine (?_ : Ok (m_attr_octetSized n) (· = decide (0 ≤ n ∧ n ≤ 255))).elim fun x h => by rw [h.1, h.2]
  unfold m_attr_octetSized
  refine ok_if (fun h => ok_some ?_) fun h => ok_some ?_
  · by_cases h2 : n ≤ 255
    · rw [decide_eq_true h2, decide_eq_true (by omega)]
    · rw [decide_eq_false h2, decide_eq_false (by omega)]
  · rw [decide_eq_false (by omega)]
theorem t_attrPut (l : List UInt8) (y : Attr) (hl : l.length ≤ 500000) (hy : y.Data.length ≤ 10000) : Ok (m_attr_Put l y) fun r => r.length ≤ l.length + 12 + y.Data.length := by
  unfold m_attr_Put
  refine ok_bde (oct_eq _) (ok_ifnb (fun _ => ok_some (by omega)) fun h1 => ok_bde (oct_eq _) (ok_ifnb (fun _ => ok_some (by omega)) fun h2 => ok_if (fun h => by omega) fun _ => ok_if (fun h => ?_) fun h => ?_))
  · exact ok_bd (t_put _ _ _ (by omega)) fun r3 _ h3 => ok_bd (t_put _ _ _ (by omega)) fun r4 _ h4 => ok_bd (t_put _ _ _ (by omega)) fun r5 _ h5 => ok_ap (by omega) (by omega) (ok_some (by simp; omega))
  · exact ok_bd (t_put _ _ _ (by omega)) fun r3 _ h3 => ok_bd (t_put _ _ _ (by omega)) fun r4 _ h4 => ok_bd (t_put _ _ _ (by omega)) fun r5 _ h5 => ok_ap (by omega) (by omega) (ok_some (by simp; omega))
def fatalB (y : Attr) : Bool := (m_attr_fatal y).getD false
theorem fatal_eq (y : Attr) : m_attr_fatal y = some (fatalB y) := by
  have h : Ok (m_attr_fatal y) fun _ => True := by
    unfold m_attr_fatal
    exact ok_if (fun _ => ok_if (fun _ => ok_some trivial) fun _ => ok_ifnb (fun _ => ok_some trivial) fun _ => ok_some trivial) fun _ => ok_ifnb (fun _ => ok_some trivial) fun _ => ok_some trivial
  obtain ⟨b, e, _⟩ := h
  unfold fatalB
  rw [e]
  rfl
def c0 (f : Int) : Int := IntKind.i64.wrap ((BitVec.ofInt IntKind.i64.bits f &&& BitVec.ofInt IntKind.i64.bits (239 : Int)).toNat : Int)
def c1 (f : Int) : Int := IntKind.i64.wrap ((BitVec.ofInt IntKind.i64.bits f ||| BitVec.ofInt IntKind.i64.bits (16 : Int)).toNat : Int)
def b16 (f : Int) : Int := IntKind.i64.wrap ((BitVec.ofInt IntKind.i64.bits f &&& BitVec.ofInt IntKind.i64.bits (16 : Int)).toNat : Int)
def n16 (f : Int) : Int := IntKind.i64.wrap ((BitVec.ofInt IntKind.i64.bits f &&& ~~~ BitVec.ofInt IntKind.i64.bits (16 : Int)).toNat : Int)
theorem fl_fin : ∀ f : Fin 256, (0 ≤ c0 (f.val : Int) ∧ c0 (f.val : Int) ≤ 255) ∧ b16 (c0 (f.val : Int)) = 0 ∧ n16 (f.val : Int) = c0 (f.val : Int) ∧ (0 ≤ c1 (c0 (f.val : Int)) ∧ c1 (c0 (f.val : Int)) ≤ 255) ∧ ¬ b16 (c1 (c0 (f.val : Int))) = 0 := by decide
theorem fl_all (f : Int) (h : 0 ≤ f ∧ f ≤ 255) : (0 ≤ c0 f ∧ c0 f ≤ 255) ∧ b16 (c0 f) = 0 ∧ n16 f = c0 f ∧ (0 ≤ c1 (c0 f) ∧ c1 (c0 f) ≤ 255) ∧ ¬ b16 (c1 (c0 f)) = 0 := by
  have := fl_fin ⟨f.toNat, by omega⟩
  rwa [show ((f.toNat : Nat) : Int) = f by omega] at this
/-- The octets of an attribute. -/
def encA (y : Attr) : List UInt8 := putL y.Flags 1 ++ (putL y.Typ 1 ++ (putL (y.Data.length : Int) (if y.Data.length > 255 then 2 else 1) ++ y.Data))
/-- As it comes back. -/
def canon (y : Attr) : Attr := ⟨if y.Data.length > 255 then c1 (c0 y.Flags) else c0 y.Flags, y.Typ, y.Data⟩
structure Canon (y : Attr) : Prop where
  fl : 0 ≤ y.Flags ∧ y.Flags ≤ 255
  ty : 0 ≤ y.Typ ∧ y.Typ ≤ 255
  len : y.Data.length ≤ 65535
  bit : b16 y.Flags = 0 ↔ y.Data.length ≤ 255
theorem enc_len (y : Attr) : (encA y).length ≤ y.Data.length + 4 := by
  unfold encA
  simp only [List.length_append, putL_length]
  split <;> omega
theorem attrPut_eq (l : List UInt8) (y : Attr) (hb : l.length ≤ 1000000) (hf : 0 ≤ y.Flags ∧ y.Flags ≤ 255) (ht : 0 ≤ y.Typ ∧ y.Typ ≤ 255) (hl : y.Data.length ≤ 65535) : m_attr_Put l y = some (l ++ encA (canon y)) := by
  obtain ⟨h1, h2, h3, h4, h5⟩ := fl_all y.Flags hf
  refine (?_ : Ok (m_attr_Put l y) (· = l ++ encA (canon y))).elim fun x h => by rw [h.1, h.2]
  have p1 : ∀ v : Int, (putL v 1).length = 1 := fun v => putL_length v 1
  have p2 : ∀ v : Int, (putL v 2).length = 2 := fun v => putL_length v 2
  unfold m_attr_Put encA canon
  refine ok_bde (oct_eq _) (ok_ifnb (fun h => absurd (of_decide_eq_false h) (fun k => k ⟨hf.1, hf.2⟩)) fun _ => ok_bde (oct_eq _) (ok_ifnb (fun h => absurd (of_decide_eq_false h) (fun k => k ⟨ht.1, ht.2⟩)) fun _ => ok_if (fun h => by omega) fun _ => ok_if (fun h => ?_) fun h => ?_))
  · rw [if_pos (by omega), if_pos (by dsimp only; omega)]
    refine ok_bde (octPut_eq _ _ 1 (by omega) (by omega) (by omega)) (ok_bde (octPut_eq _ _ 1 (by omega) (by omega) (by simp [putL_length]; omega)) (ok_bde (octPut_eq _ _ 2 (by omega) (by omega) (by simp [putL_length]; omega)) (ok_ap (by simp [putL_length]; omega) (by simp [putL_length]; omega) (ok_some ?_))))
    show l ++ putL (c1 (n16 y.Flags)) 1 ++ putL y.Typ 1 ++ putL (y.Data.length : Int) 2 ++ y.Data = _
    rw [h3]
    simp only [List.append_assoc]
  · rw [if_neg (by omega), if_neg (by dsimp only; omega)]
    refine ok_bde (octPut_eq _ _ 1 (by omega) (by omega) (by omega)) (ok_bde (octPut_eq _ _ 1 (by omega) (by omega) (by simp [putL_length]; omega)) (ok_bde (octPut_eq _ _ 1 (by omega) (by omega) (by simp [putL_length]; omega)) (ok_ap (by simp [putL_length]; omega) (by simp [putL_length]; omega) (ok_some ?_))))
    show l ++ putL (n16 y.Flags) 1 ++ putL y.Typ 1 ++ putL (y.Data.length : Int) 1 ++ y.Data = _
    rw [h3]
    simp only [List.append_assoc]
theorem attrPut_no (l : List UInt8) (y : Attr) (h : ¬ ((0 ≤ y.Flags ∧ y.Flags ≤ 255) ∧ (0 ≤ y.Typ ∧ y.Typ ≤ 255))) : m_attr_Put l y = some l := by
  refine (?_ : Ok (m_attr_Put l y) (· = l)).elim fun x h => by rw [h.1, h.2]
  unfold m_attr_Put
  refine ok_bde (oct_eq _) (ok_ifnb (fun _ => ok_some rfl) fun h1 => ok_bde (oct_eq _) (ok_ifnb (fun _ => ok_some rfl) fun h2 => ?_))
  exact absurd ⟨of_decide_eq_true h1, of_decide_eq_true h2⟩ h
/-- The first of each kind; nothing if one is fatal. -/
def gat : List (Int × Attr) → List Attr → Option (List (Int × Attr))
  | e, [] => some e
  | e, y :: ys => if (mget e y.Typ).isSome = true then gat e ys else if fatalB y = true then none else gat (e ++ [(y.Typ, y)]) ys
theorem set_new {e : List (Int × Attr)} {k : Int} {y : Attr} (h : mget e k = none) : msetL e k y = e ++ [(k, y)] := by
  rw [mget_eq] at h
  induction e with
  | nil => rfl
  | cons p e ih =>
    obtain ⟨a, b⟩ := p
    rw [List.find?_cons] at h
    rw [msetL]
    by_cases hk : a = k
    · rw [decide_eq_true hk] at h; cases h
    · rw [decide_eq_false hk] at h
      rw [if_neg hk, ih h]
      rfl
theorem same_refl (p : Path) (h : p.As.length ≤ 10000) : m_ridgewayref07_SamePath p p = some true := by
  refine ok_true ?_
  unfold m_ridgewayref07_SamePath
  refine ok_if (fun h => absurd rfl h) fun _ => ok_if (fun h => absurd rfl h) fun _ => ok_if (fun h => absurd rfl h) fun _ => ok_if (fun h => absurd rfl h) fun _ => ok_idx p.As.length (fun _ => True) (by omega) trivial (fun i hi _ nx hnx => ?_) (fun _ nx => ?_)
  · rw [s_ridgewayref07_SamePath1]
    exact ok_if (fun _ => ok_ix (by omega) (by omega) fun _ => ok_ix (by omega) (by omega) fun _ => ok_if (fun h => absurd rfl h) fun _ => hnx trivial) fun h => absurd (Int.ofNat_lt.2 hi) h
  · rw [s_ridgewayref07_SamePath1]
    exact ok_if (fun h => by omega) fun _ => ok_some rfl

/-- No kind twice. -/
def Once (l : List Attr) : Prop := l.Pairwise fun a b => ¬ a.Typ = b.Typ
theorem mget_once (t : Int) : ∀ (l : List Attr), Once l → ∀ z, mget (l.map fun y => (y.Typ, y)) t = some z ↔ z ∈ l ∧ z.Typ = t
  | [], _, z => by simp [mget_eq]
  | y :: ys, ho, z => by
    have ih := mget_once t ys (List.pairwise_cons.1 ho).2 z
    have hn := (List.pairwise_cons.1 ho).1
    rw [mget_eq] at ih
    rw [mget_eq, List.map_cons, List.find?_cons]
    by_cases hk : y.Typ = t
    · rw [decide_eq_true hk]
      constructor
      · intro h
        cases h
        exact ⟨List.mem_cons_self, hk⟩
      · rintro ⟨hz, ht⟩
        rcases List.mem_cons.1 hz with rfl | hz
        · rfl
        · exact absurd (hk.trans ht.symm) (hn z hz)
    · rw [decide_eq_false hk]
      refine ih.trans ⟨fun ⟨h1, h2⟩ => ⟨List.mem_cons_of_mem _ h1, h2⟩, fun ⟨h1, h2⟩ => ?_⟩
      rcases List.mem_cons.1 h1 with rfl | h1
      · exact absurd h2 hk
      · exact ⟨h1, h2⟩
/-- A path that may be. -/
def PathOk (p : Path) : Prop := (∀ x ∈ p.As, 1 ≤ x ∧ x ≤ 4294967295) ∧ (0 ≤ p.Origin ∧ p.Origin ≤ 2) ∧ p.As.length ≤ 255 ∧ (1 ≤ p.Hop ∧ p.Hop ≤ 4294967295) ∧ 0 ≤ p.Otc ∧ p.Otc ≤ 4294967295
theorem t_attrSane (p : Path) (hl : p.As.length ≤ 9223372036854775807) : Ok (m_attr_Sane p) fun b => b = true ↔ PathOk p := by
  unfold m_attr_Sane
  have no : ∀ {A : Prop}, ¬ A → Ok (some false : Option Bool) (fun b => b = true ↔ A) := fun h => ok_some ⟨fun k => Bool.noConfusion k, fun k => absurd k h⟩
  refine ok_idx p.As.length (fun j => ∀ i (h : i < p.As.length), i < j → 1 ≤ p.As[i] ∧ p.As[i] ≤ 4294967295) hl (fun _ _ h => absurd h (Nat.not_lt_zero _)) (fun i hi hI nx hnx => ?_) (fun hI nx => ?_)
  · rw [s_attr_Sane1]
    have hm := List.getElem_mem hi
    refine ok_if (fun _ => ok_ix (by omega) (by omega) fun hlt => ok_if (fun h1 => no fun k => ?_) fun h1 => ok_if (fun h2 => no fun k => ?_) fun h2 => hnx fun j hj hji => ?_) fun h => absurd (Int.ofNat_lt.2 hi) h
    · have := k.1 _ hm; simp only [Int.toNat_natCast] at h1; omega
    · have := k.1 _ hm; simp only [Int.toNat_natCast] at h2; omega
    · simp only [Int.toNat_natCast] at h1 h2
      rcases Nat.lt_succ_iff_lt_or_eq.1 hji with g | rfl
      · exact hI j hj g
      · exact ⟨by omega, by omega⟩
  · rw [s_attr_Sane1]
    have hall : ∀ x ∈ p.As, 1 ≤ x ∧ x ≤ 4294967295 := fun x hx => by
      obtain ⟨i, h, rfl⟩ := List.getElem_of_mem hx
      exact hI i h h
    refine ok_if (fun h => by omega) fun _ => ok_if (fun h1 => ok_if (fun h2 => ok_if (fun h3 => ok_if (fun h4 => ok_if (fun h5 => ok_if (fun h6 => ok_some ?_) fun h => no fun k => ?_) fun h => no fun k => ?_) fun h => no fun k => ?_) fun h => no fun k => ?_) fun h => no fun k => ?_) fun h => no fun k => ?_
    · rw [decide_eq_true_eq]
      exact ⟨fun h7 => ⟨hall, ⟨h1, h2⟩, by omega, ⟨h4, h5⟩, h6, h7⟩, fun k => k.2.2.2.2.2⟩
    all_goals (obtain ⟨_, _, _, _, _, _⟩ := k; omega)
theorem byte0 (v : Int) : toB (IntKind.u8.wrap v) = octAt v 0 := by
  unfold toB octAt
  rw [u8wrap_eq]
  simp
theorem get1c (x : UInt8) (t : List UInt8) : m_octet_Get (x :: t) 1 = some ((x.toNat : Int), t, true) := by
  rw [octGet_eq _ _ (by omega) (by omega), if_pos (by simp; omega)]
  simp [num]
theorem seg_eq (as : List Int) (hl : as.length ≤ 1000) : m_attr_segment as = some (if as.length = 0 then [] else (2 : UInt8) :: octAt (as.length : Int) 0 :: as.flatMap fun x => putL x 4) := by
  refine (?_ : Ok (m_attr_segment as) (· = if as.length = 0 then [] else (2 : UInt8) :: octAt (as.length : Int) 0 :: as.flatMap fun x => putL x 4)).elim fun x h => by rw [h.1, h.2]
  unfold m_attr_segment
  refine ok_if (fun h => ok_some (by rw [if_pos (by omega)])) fun h => ?_
  rw [if_neg (by omega), byte0]
  refine ok_acc as.length (fun i b => b = (2 : UInt8) :: octAt (as.length : Int) 0 :: (as.take i).flatMap (fun x => putL x 4) ∧ b.length ≤ 2 + 4 * i) (by omega) ⟨by simp, by simp⟩ (fun i b hi hI nx hnx => ?_) (fun b hI nx => ?_)
  · obtain ⟨hI, hb⟩ := hI
    rw [s_attr_segment1]
    refine ok_if (fun _ => ok_ix (by omega) (by omega) fun hlt => ok_bde (octPut_eq [] _ 4 (by omega) (by omega) (by simp)) ?_) fun h => absurd (Int.ofNat_lt.2 hi) h
    simp only [Int.toNat_natCast, List.nil_append]
    have hp : (putL as[i] (4 : Int).toNat).length = 4 := putL_length _ _
    refine ok_ap (by rw [hp]; omega) (by rw [hp]; omega) (hnx _ ⟨?_, by rw [List.length_append, hp]; omega⟩)
    rw [hI, ← List.take_append_getElem hi, List.flatMap_append]
    simp
  · rw [s_attr_segment1]
    refine ok_if (fun h => by dsimp only at h; omega) fun _ => ok_some ?_
    have := hI.1
    rwa [List.take_length] at this

/-- The octets of a path's numbers. -/
def segL (as : List Int) : List UInt8 := if as.length = 0 then [] else (2 : UInt8) :: octAt (as.length : Int) 0 :: as.flatMap fun x => putL x 4
/-- The attributes of a path. -/
def ofL (p : Path) : List Attr := [⟨64, 1, putL p.Origin 1⟩, ⟨64, 2, segL p.As⟩, ⟨64, 3, putL p.Hop 4⟩] ++ (if p.Otc = 0 then [] else [⟨192, 35, putL p.Otc 4⟩])
theorem of_eq (p : Path) (h : PathOk p) : m_attr_Of p = some (ofL p) := by
  have hl := h.2.2.1
  obtain ⟨b, e, hb⟩ := t_attrSane p (by omega)
  have hb := hb.2 h
  subst hb
  refine (?_ : Ok (m_attr_Of p) (· = ofL p)).elim fun x h => by rw [h.1, h.2]
  unfold m_attr_Of ofL
  refine ok_bde e (ok_ifnb (fun h => Bool.noConfusion h) fun h => ok_bde (octPut_eq [] _ 1 (by omega) (by omega) (by simp)) (ok_bde (seg_eq _ (by omega)) (ok_bde (octPut_eq [] _ 4 (by omega) (by omega) (by simp)) ?_)))
  refine ok_if (fun ho => ok_bde (octPut_eq [] _ 4 (by omega) (by omega) (by simp)) (ok_ap (by simp) (by simp) (ok_some ?_))) fun ho => ok_some ?_
  · rw [if_neg ho]; rfl
  · rw [if_pos (Decidable.not_not.1 ho)]; rfl
theorem lo_eq (v : Int) : IntKind.i64.wrap ((BitVec.ofInt IntKind.i64.bits v &&& BitVec.ofInt IntKind.i64.bits (4294967295 : Int)).toNat : Int) = v % 4294967296 := by
  have h := and_mask v 32 (by omega)
  rw [show ((2 : Int) ^ 32 - 1) = 4294967295 by decide, show ((2 : Int) ^ 32) = 4294967296 by decide] at h
  exact h
/-- What is left under a mask. -/
def lowCut (a n : Int) : Int := a % 4294967296 - a % 4294967296 % (2 : Int) ^ (32 - n).toNat
theorem cut_rng (a n : Int) : 0 ≤ lowCut a n ∧ lowCut a n < 4294967296 := by
  have h0 := Int.emod_nonneg a (show (4294967296 : Int) ≠ 0 by decide)
  have h1 := Int.emod_lt_of_pos a (show (0 : Int) < 4294967296 by decide)
  have hp : (0 : Int) < 2 ^ (32 - n).toNat := Int.pow_pos (by decide)
  have h2 := Int.emod_nonneg (a % 4294967296) (show (2 : Int) ^ (32 - n).toNat ≠ 0 by omega)
  have h3 : a % 4294967296 % (2 : Int) ^ (32 - n).toNat ≤ a % 4294967296 := by
    have := Int.emod_def (a % 4294967296) ((2 : Int) ^ (32 - n).toNat)
    have hq : 0 ≤ (a % 4294967296) / (2 : Int) ^ (32 - n).toNat := Int.ediv_nonneg h0 (by omega)
    have := Int.mul_nonneg (Int.le_of_lt hp) hq
    omega
  unfold lowCut
  omega
theorem mask_val (a n : Int) (h : 0 ≤ n ∧ n ≤ 32) : m_prefix_Mask a n = some (lowCut a n) := by
  unfold m_prefix_Mask
  have e1 : (if (0 : Int) > n then (0 : Int) else n) = n := if_neg (by omega)
  have e2 : (if (32 : Int) < n then (32 : Int) else n) = n := if_neg (by omega)
  have e3 : IntKind.i64.wrap (32 - n) = 32 - n := w64 (by omega) (by omega)
  have e4 : min (32 - n).toNat IntKind.i64.bits = (32 - n).toNat := Nat.min_eq_left (show (32 - n).toNat ≤ 64 by omega)
  rw [e1, e2, e3, nn_some (by omega), nn_some (by omega), e4, lo_eq]
  have hp : (0 : Int) < 2 ^ (32 - n).toNat := Int.pow_pos (by decide)
  have hr := cut_rng a n
  rw [Int.fdiv_eq_ediv_of_nonneg _ (Int.le_of_lt hp)]
  have hd := Int.emod_def (a % 4294967296) ((2 : Int) ^ (32 - n).toNat)
  have he : a % 4294967296 / (2 : Int) ^ (32 - n).toNat * (2 : Int) ^ (32 - n).toNat = lowCut a n := by
    unfold lowCut
    rw [hd, Int.mul_comm]
    omega
  rw [he, w64 (by omega) (by omega)]
/-- A prefix that may be. -/
def PrefixOk (x : Prefix) : Prop := (0 ≤ x.N ∧ x.N ≤ 32) ∧ lowCut x.A x.N = x.A
theorem t_psane (x : Prefix) : Ok (m_prefix_Sane x) fun b => b = true ↔ PrefixOk x := by
  unfold m_prefix_Sane PrefixOk
  refine ok_if (fun h1 => ok_if (fun h2 => ok_bde (mask_val _ _ ⟨h1, h2⟩) (ok_some ?_)) fun h => ok_some ?_) fun h => ok_some ?_
  · rw [decide_eq_true_eq]
    exact ⟨fun k => ⟨⟨h1, h2⟩, k⟩, fun k => k.2⟩
  · exact ⟨fun k => Bool.noConfusion k, fun k => by omega⟩
  · exact ⟨fun k => Bool.noConfusion k, fun k => by omega⟩
/-- How many octets a prefix's number has. -/
def sizeP (n : Int) : Int := (n + 7) / 8
theorem size_eq (n : Int) (h : 0 ≤ n ∧ n ≤ 255) : m_prefix_size n = some (sizeP n) := by
  unfold m_prefix_size sizeP
  rw [w64 (x := n + 7) (by omega) (by omega), Int.tdiv_eq_ediv_of_nonneg (by omega), w64 (by omega) (by omega)]
/-- The octets of a prefix. -/
def encP (x : Prefix) : List UInt8 := putL x.N 1 ++ putL (x.A / (2 : Int) ^ (32 - 8 * sizeP x.N).toNat) (sizeP x.N).toNat
theorem pfx_val {x : Prefix} (h : PrefixOk x) : (0 ≤ x.A ∧ x.A < 4294967296) ∧ (2 : Int) ^ (32 - x.N).toNat ∣ x.A := by
  obtain ⟨h1, h2⟩ := h
  have hr := cut_rng x.A x.N
  rw [h2] at hr
  refine ⟨hr, ?_⟩
  have e : lowCut x.A x.N = (2 : Int) ^ (32 - x.N).toNat * (x.A % 4294967296 / (2 : Int) ^ (32 - x.N).toNat) := by
    unfold lowCut
    rw [Int.emod_def (x.A % 4294967296) ((2 : Int) ^ (32 - x.N).toNat)]
    omega
  rw [h2] at e
  rw [e]
  exact Int.dvd_mul_right _ _
theorem pow_dvd {a b : Nat} (h : a ≤ b) : (2 : Int) ^ a ∣ 2 ^ b := by
  have := Nat.pow_dvd_pow 2 h
  exact_mod_cast this
theorem pfx_oct {x : Prefix} (h : PrefixOk x) : (0 ≤ sizeP x.N ∧ sizeP x.N ≤ 4) ∧ (2 : Int) ^ (32 - 8 * sizeP x.N).toNat ∣ x.A ∧ 0 ≤ x.A / (2 : Int) ^ (32 - 8 * sizeP x.N).toNat ∧ x.A / (2 : Int) ^ (32 - 8 * sizeP x.N).toNat < (256 : Int) ^ (sizeP x.N).toNat := by
  obtain ⟨hr, hd⟩ := pfx_val h
  have hN := h.1
  have hs : 0 ≤ sizeP x.N ∧ sizeP x.N ≤ 4 := by unfold sizeP; omega
  have hle : (32 - 8 * sizeP x.N).toNat ≤ (32 - x.N).toNat := by unfold sizeP; omega
  have hp : (0 : Int) < 2 ^ (32 - 8 * sizeP x.N).toNat := Int.pow_pos (by decide)
  refine ⟨hs, Int.dvd_trans (pow_dvd hle) hd, Int.ediv_nonneg hr.1 (Int.le_of_lt hp), ?_⟩
  refine Int.ediv_lt_of_lt_mul hp ?_
  have : (256 : Int) ^ (sizeP x.N).toNat * 2 ^ (32 - 8 * sizeP x.N).toNat = 4294967296 := by
    have : sizeP x.N = 0 ∨ sizeP x.N = 1 ∨ sizeP x.N = 2 ∨ sizeP x.N = 3 ∨ sizeP x.N = 4 := by omega
    rcases this with e | e | e | e | e <;> rw [e] <;> decide
  rw [this]
  exact hr.2
theorem prefixPut_eq (l : List UInt8) (x : Prefix) (hl : l.length ≤ 1000000) (h : PrefixOk x) : m_prefix_Put l x = some (l ++ encP x) := by
  refine (?_ : Ok (m_prefix_Put l x) (· = l ++ encP x)).elim fun x h => by rw [h.1, h.2]
  obtain ⟨hs, hd, h0, h1⟩ := pfx_oct h
  have hN := h.1
  obtain ⟨b, e, hb⟩ := t_psane x
  have hb := hb.2 h
  subst hb
  unfold m_prefix_Put encP
  refine ok_bde e (ok_ifnb (fun k => Bool.noConfusion k) fun _ => ok_bde (size_eq _ (by omega)) (ok_bde (octPut_eq _ _ 1 (by omega) (by omega) (by omega)) ?_))
  have hw : IntKind.i64.wrap ((32 : Int) - IntKind.i64.wrap ((8 : Int) * sizeP x.N)) = 32 - 8 * sizeP x.N := by
    rw [w64 (x := 8 * sizeP x.N) (by omega) (by omega), w64 (by omega) (by omega)]
  have hm : min (32 - 8 * sizeP x.N).toNat IntKind.i64.bits = (32 - 8 * sizeP x.N).toNat := Nat.min_eq_left (show _ ≤ 64 by omega)
  have hp : (0 : Int) < 2 ^ (32 - 8 * sizeP x.N).toNat := Int.pow_pos (by decide)
  rw [hw, nn_some (by omega), hm, Int.fdiv_eq_ediv_of_nonneg _ (Int.le_of_lt hp)]
  by_cases hz : sizeP x.N = 0
  · have : m_octet_Put (l ++ putL x.N (1 : Int).toNat) (x.A / (2 : Int) ^ (32 - 8 * sizeP x.N).toNat) (sizeP x.N) = some (l ++ putL x.N (1 : Int).toNat) := by
      unfold m_octet_Put
      rw [decide_eq_true (by omega), cond_true]
    refine ok_bde this (ok_some ?_)
    rw [hz]
    simp [putL]
  · refine ok_bde (octPut_eq _ _ _ (by omega) (by omega) (by simp [putL_length]; omega)) (ok_some ?_)
    rw [List.append_assoc]
    rfl
theorem encP_len {x : Prefix} (h : PrefixOk x) : (encP x).length ≤ 5 := by
  have := (pfx_oct h).1
  unfold encP
  simp only [List.length_append, putL_length]
  omega
theorem prefixes_eq (L : List Prefix) (hc : ∀ x ∈ L, PrefixOk x) (hl : L.length ≤ 10000) : m_update_prefixes L = some (L.flatMap encP) := by
  refine (?_ : Ok (m_update_prefixes L) (· = L.flatMap encP)).elim fun x h => by rw [h.1, h.2]
  unfold m_update_prefixes
  refine ok_acc L.length (fun i b => b = (L.take i).flatMap encP ∧ b.length ≤ 5 * i) (by omega) ⟨rfl, Nat.zero_le _⟩ (fun i b hi hI nx hnx => ?_) (fun b hI nx => ?_)
  · obtain ⟨hI, hb⟩ := hI
    have hx := hc _ (List.getElem_mem hi)
    have hxl := encP_len hx
    rw [s_update_prefixes1]
    refine ok_if (fun _ => ok_ix (by dsimp only; omega) (by dsimp only; omega) fun hlt => ?_) fun h => absurd (Int.ofNat_lt.2 hi) h
    simp only [Int.toNat_natCast]
    refine ok_bde (prefixPut_eq [] _ (by simp) hx) ?_
    rw [List.nil_append]
    refine ok_ap (by omega) (by omega) (hnx _ ⟨?_, by rw [List.length_append]; omega⟩)
    rw [hI, ← List.take_append_getElem hi, List.flatMap_append]
    simp
  · rw [s_update_prefixes1]
    refine ok_if (fun h => by dsimp only at h; omega) fun _ => ok_some ?_
    have := hI.1
    rwa [List.take_length] at this

theorem seg_len (as : List Int) (h : as.length ≤ 255) : (segL as).length ≤ 1022 := by
  have hfl : (as.flatMap fun x => putL x 4).length = 4 * as.length := by
    generalize as = l
    induction l with
    | nil => rfl
    | cons x xs ih => rw [List.flatMap_cons, List.length_append, ih, putL_length, List.length_cons]; omega
  unfold segL
  split
  · simp
  · simp only [List.length_cons, hfl]; omega
theorem ofL_ok {p : Path} (hp : PathOk p) {y : Attr} (h : y ∈ ofL p) : (0 ≤ y.Flags ∧ y.Flags ≤ 255) ∧ (0 ≤ y.Typ ∧ y.Typ ≤ 255) ∧ y.Data.length ≤ 1022 := by
  have hs := seg_len p.As hp.2.2.1
  unfold ofL at h
  split at h <;> simp at h
  · rcases h with rfl | rfl | rfl <;> simp [putL_length, hs]
  · rcases h with rfl | rfl | rfl | rfl <;> simp [putL_length, hs]
theorem ofL_len (p : Path) : (ofL p).length ≤ 4 := by
  unfold ofL
  split <;> simp
/-- What is said of a path. -/
def saidL (p : Path) : List Attr := (ofL p).map canon
theorem attrs_eq (p : Path) (hp : PathOk p) : m_update_attributes p = some ((saidL p).flatMap encA) := by
  refine (?_ : Ok (m_update_attributes p) (· = (saidL p).flatMap encA)).elim fun x h => by rw [h.1, h.2]
  have hlen := ofL_len p
  unfold m_update_attributes
  refine ok_bde (of_eq p hp) (ok_acc (ofL p).length (fun i b => b = (((ofL p).take i).map canon).flatMap encA ∧ b.length ≤ 2000 * i) (by omega) ⟨by simp, by simp⟩ (fun i b hi hI nx hnx => ?_) (fun b hI nx => ?_))
  · obtain ⟨hI, hb⟩ := hI
    obtain ⟨hf, ht, hd⟩ := ofL_ok hp (List.getElem_mem hi)
    have hel := enc_len (canon (ofL p)[i])
    have hcd : (canon (ofL p)[i]).Data = (ofL p)[i].Data := rfl
    rw [hcd] at hel
    rw [s_update_attributes1]
    refine ok_if (fun _ => ok_ix (by dsimp only; omega) (by dsimp only; omega) fun hlt => ?_) fun h => absurd (Int.ofNat_lt.2 hi) h
    simp only [Int.toNat_natCast]
    refine ok_bde (attrPut_eq b _ (by omega) hf ht (by omega)) (hnx _ ⟨?_, by rw [List.length_append]; omega⟩)
    rw [hI, ← List.take_append_getElem hi, List.map_append, List.flatMap_append]
    simp
  · rw [s_update_attributes1]
    refine ok_if (fun h => by dsimp only at h; omega) fun _ => ok_some ?_
    have := hI.1
    rwa [List.take_length] at this
end Go.Proofs.Ytkdodhkiemfpeaa
namespace Go.Proofs.Ytkdodhkiemfpeaa
open Go.RowKit
set_option linter.unusedVariables false
set_option linter.unusedSimpArgs false
set_option maxRecDepth 100000
set_option maxHeartbeats 1000000

/-- News that may be. -/
structure NewsOk (n : News) : Prop where
  gone : ∀ x ∈ n.Gone, PrefixOk x
  nlri : ∀ x ∈ n.Nlri, PrefixOk x
  path : ¬ n.Nlri.length = 0 → PathOk n.P
  none : n.Nlri.length = 0 → n.P = ⟨0, [], 0, 0⟩
theorem t_uSane (n : News) (hg : n.Gone.length ≤ 1000) (hn : n.Nlri.length ≤ 1000) (hp : n.P.As.length ≤ 1000) : Ok (m_update_Sane n) fun b => b = true ↔ NewsOk n := by
  unfold m_update_Sane
  have no : ∀ {A : Prop}, ¬ A → Ok (some false : Option Bool) (fun b => b = true ↔ A) := fun h => ok_some ⟨fun k => Bool.noConfusion k, fun k => absurd k h⟩
  refine ok_idx n.Gone.length (fun m => ∀ i (h : i < n.Gone.length), i < m → PrefixOk n.Gone[i]) (by omega) (fun _ _ h => absurd h (Nat.not_lt_zero _)) (fun i hi hI nx hnx => ?_) (fun hI nx => ?_)
  · rw [s_update_Sane1]
    refine ok_if (fun _ => ok_ix (by omega) (by omega) fun hlt => ?_) fun h => absurd (Int.ofNat_lt.2 hi) h
    simp only [Int.toNat_natCast]
    refine ok_bd (t_psane _) fun r _ hr => ok_ifnb (fun h => no fun k => by rw [hr.2 (k.gone _ (List.getElem_mem hi))] at h; cases h) fun h => hnx fun m hm hmi => ?_
    rcases Nat.lt_succ_iff_lt_or_eq.1 hmi with g | rfl
    · exact hI m hm g
    · exact hr.1 h
  rw [s_update_Sane1]
  have hG : ∀ x ∈ n.Gone, PrefixOk x := fun x hx => by
    obtain ⟨i, hi, rfl⟩ := List.getElem_of_mem hx
    exact hI i hi hi
  refine ok_if (fun h => by omega) fun _ => ok_idx n.Nlri.length (fun m => ∀ i (h : i < n.Nlri.length), i < m → PrefixOk n.Nlri[i]) (by omega) (fun _ _ h => absurd h (Nat.not_lt_zero _)) (fun i hi hJ nx2 hnx => ?_) (fun hJ nx2 => ?_)
  · rw [s_update_Sane2]
    refine ok_if (fun _ => ok_ix (by omega) (by omega) fun hlt => ?_) fun h => absurd (Int.ofNat_lt.2 hi) h
    simp only [Int.toNat_natCast]
    refine ok_bd (t_psane _) fun r _ hr => ok_ifnb (fun h => no fun k => by rw [hr.2 (k.nlri _ (List.getElem_mem hi))] at h; cases h) fun h => hnx fun m hm hmi => ?_
    rcases Nat.lt_succ_iff_lt_or_eq.1 hmi with g | rfl
    · exact hJ m hm g
    · exact hr.1 h
  rw [s_update_Sane2]
  have hN : ∀ x ∈ n.Nlri, PrefixOk x := fun x hx => by
    obtain ⟨i, hi, rfl⟩ := List.getElem_of_mem hx
    exact hJ i hi hi
  refine ok_if (fun h => by omega) fun _ => ok_if (fun h0 => ok_bd (t_attrSane _ (by omega)) fun b _ hb => ok_some ⟨fun h => ⟨hG, hN, fun _ => hb.1 h, fun h => by omega⟩, fun k => hb.2 (k.path (by omega))⟩) fun h0 => ?_
  have hz : n.Nlri.length = 0 := by omega
  refine ok_if (fun p1 => ok_if (fun p2 => ok_if (fun p3 => ok_some ?_) fun p3 => no fun k => p3 (by rw [k.none hz])) fun p2 => no fun k => p2 (by rw [k.none hz]; rfl)) fun p1 => no fun k => p1 (by rw [k.none hz])
  rw [decide_eq_true_eq]
  refine ⟨fun p4 => ⟨hG, hN, fun h => absurd hz h, fun _ => ?_⟩, fun k => by rw [k.none hz]⟩
  have e : n.P = ⟨n.P.Origin, n.P.As, n.P.Hop, n.P.Otc⟩ := rfl
  rw [e, p1, p3, p4, List.length_eq_zero_iff.1 (by omega : n.P.As.length = 0)]
/-- What is said of the news' path. -/
def saidN (n : News) : List Attr := if n.Nlri.length = 0 then [] else saidL n.P
theorem attrs_none : m_update_attributes ⟨0, [], 0, 0⟩ = some [] := by kernel_rfl
theorem attrsN (n : News) (h : NewsOk n) : m_update_attributes n.P = some ((saidN n).flatMap encA) := by
  unfold saidN
  split
  · rename_i hz
    rw [h.none hz]
    exact attrs_none
  · rename_i hz
    exact attrs_eq _ (h.path hz)
theorem msgSane_eq (b : List UInt8) (h4 : 4 ≤ b.length) (hl : b.length ≤ 1000000) : m_msg_Sane ⟨2, b⟩ = some (decide (b.length ≤ 4077)) := by
  refine (?_ : Ok (m_msg_Sane ⟨2, b⟩) (· = decide (b.length ≤ 4077))).elim fun x h => by rw [h.1, h.2]
  unfold m_msg_Sane m_msg_wrong m_msg_Least
  dsimp only
  have hw : IntKind.i64.wrap ((19 : Int) + (b.length : Int)) = 19 + (b.length : Int) := w64 (by omega) (by omega)
  have h23 : IntKind.i64.wrap ((4 : Int) + (19 : Int)) = 23 := w64 (by omega) (by omega)
  rw [hw, h23]
  rw [decide_eq_false (show ¬ (2 : Int) = 1 by decide), decide_eq_true (show (2 : Int) = 2 by decide), decide_eq_false (show ¬ (2 : Int) = 4 by decide)]
  simp only [cond_true, cond_false, bd_some]
  refine ok_if (fun _ => ok_bde (x := false) ?_ (ok_ifnb (fun _ => ok_some (decide_eq_decide.2 (by omega))) fun h => Bool.noConfusion h)) fun h => absurd (by decide) h
  rw [decide_eq_false (by omega)]
  rfl
/-- The octets of news. -/
def encN (n : News) : List UInt8 := putL ((n.Gone.flatMap encP).length : Int) 2 ++ (n.Gone.flatMap encP ++ (putL (((saidN n).flatMap encA).length : Int) 2 ++ ((saidN n).flatMap encA ++ n.Nlri.flatMap encP)))
theorem encPs_len : ∀ {l : List Prefix}, (∀ x ∈ l, PrefixOk x) → (l.flatMap encP).length ≤ 5 * l.length
  | [], _ => by simp
  | x :: xs, h => by
    have h1 := encP_len (h x List.mem_cons_self)
    have := encPs_len (l := xs) fun y hy => h y (List.mem_cons_of_mem _ hy)
    rw [List.flatMap_cons, List.length_append, List.length_cons]
    omega
theorem saidN_len {n : News} (h : NewsOk n) : ((saidN n).flatMap encA).length ≤ 1062 := by
  unfold saidN
  split
  · simp
  · rename_i hz
    have hp := h.path hz
    unfold saidL ofL
    have hs := seg_len n.P.As hp.2.2.1
    have e1 := enc_len (canon ⟨64, 1, putL n.P.Origin 1⟩)
    have e2 := enc_len (canon ⟨64, 2, segL n.P.As⟩)
    have e3 := enc_len (canon ⟨64, 3, putL n.P.Hop 4⟩)
    have e4 := enc_len (canon ⟨192, 35, putL n.P.Otc 4⟩)
    have d1 : (canon ⟨64, 1, putL n.P.Origin 1⟩).Data.length = 1 := putL_length _ _
    have d2 : (canon ⟨64, 2, segL n.P.As⟩).Data.length = (segL n.P.As).length := rfl
    have d3 : (canon ⟨64, 3, putL n.P.Hop 4⟩).Data.length = 4 := putL_length _ _
    have d4 : (canon ⟨192, 35, putL n.P.Otc 4⟩).Data.length = 4 := putL_length _ _
    split <;> simp only [List.append_nil, List.cons_append, List.nil_append, List.map_cons, List.map_nil, List.flatMap_cons, List.flatMap_nil, List.length_append, List.length_nil] <;> omega
theorem uPut_eq (n : News) (hg : n.Gone.length ≤ 40) (hn : n.Nlri.length ≤ 40) (hp : n.P.As.length ≤ 300) (h : NewsOk n) : m_update_Put n = some ⟨2, encN n⟩ ∧ (encN n).length ≤ 2000 ∧ 4 ≤ (encN n).length := by
  obtain ⟨b, e, hb⟩ := t_uSane n (by omega) (by omega) (by omega)
  have hb := hb.2 h
  subst hb
  have l1 := encPs_len h.gone
  have l2 := encPs_len h.nlri
  have l3 := saidN_len h
  have hlen : (encN n).length = 4 + (n.Gone.flatMap encP).length + ((saidN n).flatMap encA).length + (n.Nlri.flatMap encP).length := by
    unfold encN
    simp only [List.length_append, putL_length]
    omega
  refine ⟨?_, by omega, by omega⟩
  refine (?_ : Ok (m_update_Put n) (· = ⟨2, encN n⟩)).elim fun x h => by rw [h.1, h.2]
  unfold m_update_Put
  refine ok_bde e (ok_ifnb (fun k => Bool.noConfusion k) fun _ => ok_bde (prefixes_eq _ h.gone (by omega)) (ok_bde (attrsN n h) (ok_bde (prefixes_eq _ h.nlri (by omega)) (ok_bde (x := encN n) ?_ (ok_bde (msgSane_eq _ (by omega) (by omega)) (ok_ifn (fun k => absurd (by omega) k) fun _ => ok_some rfl))))))
  refine (?_ : Ok (m_update_body _ _ _) (· = encN n)).elim fun x h => by rw [h.1, h.2]
  unfold m_update_body
  refine ok_bde (octPut_eq [] _ 2 (by omega) (by omega) (by simp)) (ok_ap (by simp only [List.length_append, List.length_nil, putL_length]; omega) (by simp only [List.length_append, List.length_nil, putL_length]; omega) (ok_bde (octPut_eq [] _ 2 (by omega) (by omega) (by simp)) (ok_ap (by simp only [List.length_append, List.length_nil, putL_length]; omega) (by simp only [List.length_append, List.length_nil, putL_length]; omega) (ok_ap (by simp only [List.length_append, List.length_nil, putL_length]; omega) (by simp only [List.length_append, List.length_nil, putL_length]; omega) (ok_ap (by simp only [List.length_append, List.length_nil, putL_length]; omega) (by simp only [List.length_append, List.length_nil, putL_length]; omega) (ok_some ?_))))))
  unfold encN
  simp only [List.nil_append, List.append_assoc]
  rfl
theorem law08_awake : m_ridgewaylaw08_awake = some true := by kernel_rfl
end Go.Proofs.Ytkdodhkiemfpeaa
namespace Go.Proofs.Ytkdodhkiemfpeaa
open Go.RowKit
set_option linter.unusedVariables false
set_option linter.unusedSimpArgs false
set_option maxRecDepth 100000
set_option maxHeartbeats 1000000

/-- The messages of what is gone, of what is new. -/
def goneM (n : News) : List Msg := if n.Gone.length = 0 then [] else [⟨2, encN ⟨n.Gone, ⟨0, [], 0, 0⟩, []⟩⟩]
def newM (n : News) : List Msg := if n.Nlri.length = 0 then [] else [⟨2, encN ⟨[], n.P, n.Nlri⟩⟩]
end Go.Proofs.Ytkdodhkiemfpeaa
namespace Go.Proofs.Ytkdodhkiemfpeaa
open Go.RowKit
set_option linter.unusedVariables false
set_option linter.unusedSimpArgs false
set_option maxRecDepth 100000
set_option maxHeartbeats 1000000

theorem ok_ine {R : Type} {Q : R → Prop} {p : Prop} {_ : Decidable p} {A B : Option R} (h1 : ¬ p → Ok A Q) (h2 : p → Ok B Q) : Ok (bif decide (¬ p) then A else B) Q := ok_if h1 fun h => h2 (Decidable.not_not.1 h)
theorem ok_outk {R : Type} {m : Option R} {r : R} (h : Ok m (· = r)) : m = some r := by
  obtain ⟨x, h1, h2⟩ := h
  rw [h1, h2]
theorem size_all : (List.range 33).all (fun k => m_ridgewayref02_size (k : Int) == some ((2 : Int) ^ (32 - k))) = true := by kernel_rfl
theorem sizeL (n : Int) (h : 0 ≤ n ∧ n ≤ 32) : m_ridgewayref02_size n = some ((2 : Int) ^ (32 - n).toNat) := by
  have := List.all_eq_true.1 size_all n.toNat (List.mem_range.2 (by omega))
  rw [beq_iff_eq] at this
  rwa [show ((n.toNat : Nat) : Int) = n by omega, show 32 - n.toNat = (32 - n).toNat by omega] at this
theorem refMask_eq (a n : Int) (h : 0 ≤ n ∧ n ≤ 32) : m_ridgewayref02_Mask a n = some (lowCut a n) := by
  unfold m_ridgewayref02_Mask
  rw [sizeL n h, bd_some, lo_eq]
  have hp : (0 : Int) < 2 ^ (32 - n).toNat := Int.pow_pos (by decide)
  have h0 := Int.emod_nonneg a (show (4294967296 : Int) ≠ 0 by decide)
  have hr := cut_rng a n
  rw [nz_some (by omega), Int.tmod_eq_emod_of_nonneg h0]
  unfold lowCut at hr ⊢
  rw [w64 (by omega) (by omega)]
theorem t_refPsane (x : Prefix) : Ok (m_ridgewayref02_Sane x) fun b => b = true ↔ PrefixOk x := by
  unfold m_ridgewayref02_Sane PrefixOk
  refine ok_if (fun h1 => ok_if (fun h2 => ok_if (fun h3 => ok_if (fun h4 => ok_bde (refMask_eq _ _ ⟨h1, h2⟩) (ok_some ?_)) fun h => ok_some ?_) fun h => ok_some ?_) fun h => ok_some ?_) fun h => ok_some ?_
  · rw [decide_eq_true_eq]
    exact ⟨fun k => ⟨⟨h1, h2⟩, k⟩, fun k => k.2⟩
  · have := cut_rng x.A x.N
    exact ⟨fun k => Bool.noConfusion k, fun k => by omega⟩
  · have := cut_rng x.A x.N
    exact ⟨fun k => Bool.noConfusion k, fun k => by omega⟩
  · exact ⟨fun k => Bool.noConfusion k, fun k => by omega⟩
  · exact ⟨fun k => Bool.noConfusion k, fun k => by omega⟩
theorem byteK (v : Int) : toB (IntKind.u8.wrap v) = octAt v 0 := by
  unfold toB octAt
  rw [u8wrap_eq]
  simp
theorem u64wK {x : Int} (h : 0 ≤ x ∧ x < 18446744073709551616) : IntKind.u64.wrap x = x := by
  simp only [IntKind.wrap, IntKind.signed, IntKind.bits, Bool.false_and, Bool.false_eq_true, if_false]
  exact Int.emod_eq_of_lt h.1 h.2
theorem octs {a : Int} {s : Nat} (hs : s ≤ 4) (ha : 0 ≤ a) (hd : (2 : Int) ^ (32 - 8 * s) ∣ a) (i : Nat) (hi : i < s) : octAt a (3 - i) = octAt (a / (2 : Int) ^ (32 - 8 * s)) (s - 1 - i) := by
  unfold octAt
  rw [Int.ediv_ediv_of_nonneg (Int.le_of_lt (Int.pow_pos (by decide))), ← Int.pow_add, show 32 - 8 * s + 8 * (s - 1 - i) = 8 * (3 - i) by omega]
theorem refPfx_eq (l : List UInt8) (x : Prefix) (hl : l.length ≤ 1000000) (h : PrefixOk x) : m_ridgewayref02_Put l x = some (l ++ encP x) := by
  obtain ⟨hs, hd, h0, h1⟩ := pfx_oct h
  have hv := pfx_val h
  have hN := h.1
  obtain ⟨b, e, hb⟩ := t_refPsane x
  have hb := hb.2 h
  subst hb
  have hsz : IntKind.i64.wrap ((IntKind.i64.wrap (x.N + (7 : Int))).tdiv (8 : Int)) = sizeP x.N := by
    unfold sizeP
    rw [w64 (x := x.N + 7) (by omega) (by omega), Int.tdiv_eq_ediv_of_nonneg (by omega), w64 (by omega) (by omega)]
  refine ok_outk ?_
  unfold m_ridgewayref02_Put
  refine ok_ap (by simp; omega) (by simp; omega) (ok_bde e (ok_ifnb (fun k => Bool.noConfusion k) fun _ => ok_ap (by simp; omega) (by simp; omega) ?_))
  rw [List.nil_append, byteK]
  have hk : ((sizeP x.N).toNat : Int) = sizeP x.N := by omega
  refine ok_loop (fun st => ∃ i : Nat, i ≤ (sizeP x.N).toNat ∧ st = (l ++ putL x.N 1 ++ (putL (x.A / (2 : Int) ^ (32 - 8 * sizeP x.N).toNat) (sizeP x.N).toNat).take i, (i : Int))) (fun st => (4 - st.2).toNat) ⟨0, by omega, by simp [putL]⟩ (by dsimp only; omega) ?_
  rintro _ ⟨i, hi, rfl⟩ nx hnx
  rw [s_ridgewayref02_Put1, hsz]
  dsimp only at hnx ⊢
  refine ok_if (fun h => ?_) fun h => ok_some ?_
  · have hi4 : i < (sizeP x.N).toNat := by omega
    have hw : IntKind.i64.wrap ((24 : Int) - IntKind.i64.wrap ((8 : Int) * (i : Int))) = ((8 * (3 - i) : Nat) : Int) := by rw [w64 (x := 8 * (i : Int)) (by omega) (by omega), w64 (by omega) (by omega)]; omega
    have hu : IntKind.u64.wrap ((8 * (3 - i) : Nat) : Int) = ((8 * (3 - i) : Nat) : Int) := u64wK ⟨by omega, by omega⟩
    rw [hw, hu, nn_some (by omega), Int.toNat_natCast, show IntKind.i64.bits = 64 from rfl, u8_fdiv' _ _ (by omega)]
    have hpow : (32 - 8 * sizeP x.N).toNat = 32 - 8 * (sizeP x.N).toNat := by omega
    have ho := octs (a := x.A) (s := (sizeP x.N).toNat) (by omega) hv.1.1 (by rw [← hpow]; exact hd) i hi4
    rw [ho, ← hpow]
    have hlen : ((putL (x.A / (2 : Int) ^ (32 - 8 * sizeP x.N).toNat) (sizeP x.N).toNat).take i).length ≤ 4 := by rw [List.length_take, putL_length]; omega
    have hw2 : IntKind.i64.wrap ((i : Int) + 1) = ((i + 1 : Nat) : Int) := by rw [w64 (by omega) (by omega)]; rfl
    refine ok_ap (by simp only [List.length_append, putL_length, List.length_singleton]; omega) (by simp only [List.length_append, putL_length, List.length_singleton]; omega) (hnx _ ⟨i + 1, by omega, ?_⟩ (by dsimp only; rw [hw2]; omega))
    rw [putL_step _ _ i hi4, hw2]
    simp only [List.append_assoc]
  · have : i = (sizeP x.N).toNat := by omega
    rw [this, List.take_of_length_le (by rw [putL_length]; omega)]
    unfold encP
    rw [List.append_assoc]
theorem octets_eq (L : List Prefix) (hc : ∀ x ∈ L, PrefixOk x) (hl : L.length ≤ 10000) : m_ridgewayref08_octets L = some (L.flatMap encP) := by
  refine ok_outk ?_
  unfold m_ridgewayref08_octets
  refine ok_acc L.length (fun i b => b = (L.take i).flatMap encP ∧ b.length ≤ 5 * i) (by omega) ⟨rfl, Nat.zero_le _⟩ (fun i b hi hI nx hnx => ?_) (fun b hI nx => ?_)
  · obtain ⟨hI, hb⟩ := hI
    rw [s_ridgewayref08_octets1]
    refine ok_if (fun _ => ok_ix (by omega) (by omega) fun hlt => ?_) fun h => absurd (Int.ofNat_lt.2 hi) h
    simp only [Int.toNat_natCast]
    have hx := hc _ (List.getElem_mem hi)
    have hxl := encP_len hx
    refine ok_bde (refPfx_eq _ _ (by omega) hx) (hnx _ ⟨?_, by rw [List.length_append]; omega⟩)
    rw [hI, ← List.take_append_getElem hi, List.flatMap_append]
    simp
  · rw [s_ridgewayref08_octets1]
    refine ok_if (fun h => by dsimp only at h; omega) fun _ => ok_some ?_
    have := hI.1
    rwa [List.take_length] at this
theorem t_refPrefixes (L : List Prefix) (hl : L.length ≤ 9223372036854775807) : Ok (m_ridgewayref08_prefixes L) fun b => b = true ↔ ∀ x ∈ L, PrefixOk x := by
  unfold m_ridgewayref08_prefixes
  refine ok_idx L.length (fun m => ∀ i (h : i < L.length), i < m → PrefixOk L[i]) hl (fun _ _ h => absurd h (Nat.not_lt_zero _)) (fun i hi hI nx hnx => ?_) (fun hI nx => ?_)
  · rw [s_ridgewayref08_prefixes1]
    refine ok_if (fun _ => ok_ix (by omega) (by omega) fun hlt => ?_) fun h => absurd (Int.ofNat_lt.2 hi) h
    simp only [Int.toNat_natCast]
    refine ok_bd (t_refPsane _) fun r _ hr => ok_ifnb (fun h => ok_some ⟨fun k => Bool.noConfusion k, fun k => ?_⟩) fun h => hnx fun m hm hmi => ?_
    · rw [hr.2 (k _ (List.getElem_mem hi))] at h; cases h
    · rcases Nat.lt_succ_iff_lt_or_eq.1 hmi with g | rfl
      · exact hI m hm g
      · exact hr.1 h
  · rw [s_ridgewayref08_prefixes1]
    refine ok_if (fun h => by omega) fun _ => ok_some ⟨fun _ x hx => ?_, fun _ => rfl⟩
    obtain ⟨i, hi, rfl⟩ := List.getElem_of_mem hx
    exact hI i hi hi
theorem t_refSaneK (p : Path) (hl : p.As.length ≤ 9223372036854775807) : Ok (m_ridgewayref07_Sane p) fun b => b = true ↔ PathOk p := by
  unfold m_ridgewayref07_Sane
  have no : ∀ {A : Prop}, ¬ A → Ok (some false : Option Bool) (fun b => b = true ↔ A) := fun h => ok_some ⟨fun k => Bool.noConfusion k, fun k => absurd k h⟩
  refine ok_idx p.As.length (fun j => ∀ i (h : i < p.As.length), i < j → 1 ≤ p.As[i] ∧ p.As[i] ≤ 4294967295) hl (fun _ _ h => absurd h (Nat.not_lt_zero _)) (fun i hi hI nx hnx => ?_) (fun hI nx => ?_)
  · rw [s_ridgewayref07_Sane1]
    have hm := List.getElem_mem hi
    refine ok_if (fun _ => ok_ix (by omega) (by omega) fun hlt => ok_if (fun h1 => no fun k => ?_) fun h1 => ok_ix (by omega) (by omega) fun hlt => ok_if (fun h2 => no fun k => ?_) fun h2 => hnx fun j hj hji => ?_) fun h => absurd (Int.ofNat_lt.2 hi) h
    · have := k.1 _ hm; simp only [Int.toNat_natCast] at h1; omega
    · have := k.1 _ hm; simp only [Int.toNat_natCast] at h2; omega
    · simp only [Int.toNat_natCast] at h1 h2
      rcases Nat.lt_succ_iff_lt_or_eq.1 hji with g | rfl
      · exact hI j hj g
      · exact ⟨by omega, by omega⟩
  · rw [s_ridgewayref07_Sane1]
    have hall : ∀ x ∈ p.As, 1 ≤ x ∧ x ≤ 4294967295 := fun x hx => by
      obtain ⟨i, h, rfl⟩ := List.getElem_of_mem hx
      exact hI i h h
    refine ok_if (fun h => by omega) fun _ => ok_if (fun h1 => ok_if (fun h2 => ok_if (fun h3 => ok_if (fun h4 => ok_if (fun h5 => ok_if (fun h6 => ok_some ?_) fun h => no fun k => ?_) fun h => no fun k => ?_) fun h => no fun k => ?_) fun h => no fun k => ?_) fun h => no fun k => ?_) fun h => no fun k => ?_
    · rw [decide_eq_true_eq]
      exact ⟨fun h7 => ⟨hall, ⟨h1, h2⟩, by omega, ⟨h4, h5⟩, h6, h7⟩, fun k => k.2.2.2.2.2⟩
    all_goals (obtain ⟨_, _, _, _, _, _⟩ := k; omega)
/-- The reference's word on news. -/
theorem t_refNews (n : News) (hg : n.Gone.length ≤ 1000) (hn : n.Nlri.length ≤ 1000) (hp : n.P.As.length ≤ 1000) : Ok (m_ridgewayref08_Sane n) fun b => b = true ↔ NewsOk n := by
  unfold m_ridgewayref08_Sane
  have no : ∀ {A : Prop}, ¬ A → Ok (some false : Option Bool) (fun b => b = true ↔ A) := fun h => ok_some ⟨fun k => Bool.noConfusion k, fun k => absurd k h⟩
  refine ok_bd (t_refPrefixes _ (by omega)) fun r1 _ h1 => ok_ifnb (fun h => no fun k => ?_) fun g1 => ok_bd (t_refPrefixes _ (by omega)) fun r2 _ h2 => ok_ifnb (fun h => no fun k => ?_) fun g2 => ok_if (fun h0 => ?_) fun h0 => ?_
  · rw [h1.2 k.gone] at h; cases h
  · rw [h2.2 k.nlri] at h; cases h
  · unfold m_ridgewayref07_SamePath
    have hz : n.Nlri.length = 0 := by omega
    refine ok_bd (P := fun b => b = true ↔ n.P = ⟨0, [], 0, 0⟩) (ok_ine (fun h => ?_) fun p1 => ok_ine (fun h => ?_) fun p3 => ok_ine (fun h => ?_) fun p4 => ok_ine (fun h => ?_) fun p2 => ?_) fun b _ hb => ok_some ⟨fun h => ⟨h1.1 g1, h2.1 g2, fun h => absurd hz h, fun _ => hb.1 h⟩, fun k => hb.2 (k.none hz)⟩
    · exact no fun k => h (by rw [k])
    · exact no fun k => h (by rw [k])
    · exact no fun k => h (by rw [k])
    · exact no fun k => h (by rw [k])
    · have hA : n.P.As = [] := List.length_eq_zero_iff.1 (by simpa using p2)
      refine ok_idx 0 (fun _ => True) (by omega) trivial (fun i hi _ nx hnx => absurd hi (Nat.not_lt_zero _)) (fun _ nx => ?_)
      rw [s_ridgewayref07_SamePath1]
      refine ok_if (fun h => by rw [hA] at h; simp at h) fun _ => ok_some ⟨fun _ => ?_, fun _ => rfl⟩
      have e : n.P = ⟨n.P.Origin, n.P.As, n.P.Hop, n.P.Otc⟩ := rfl
      rw [e, hA, show n.P.Origin = 0 from p1, show n.P.Hop = 0 from p3, show n.P.Otc = 0 from p4]
  · exact ok_bd (t_refSaneK _ (by omega)) fun b _ hb => ok_some ⟨fun h => ⟨h1.1 g1, h2.1 g2, fun _ => hb.1 h, fun h => absurd h (by omega)⟩, fun k => hb.2 (k.path (by omega))⟩
end Go.Proofs.Ytkdodhkiemfpeaa
namespace Go.Proofs.Ytkdodhkiemfpeaa
open Go.RowKit
set_option linter.unusedVariables false
set_option linter.unusedSimpArgs false
set_option maxRecDepth 100000
set_option maxHeartbeats 1000000

theorem fl2_fin : ∀ f : Fin 256, toB (IntKind.u8.wrap (IntKind.i64.wrap ((f.val : Int) - (IntKind.i64.wrap (((IntKind.i64.wrap ((f.val : Int).tdiv (16 : Int))).tmod (2 : Int)) * (16 : Int)))))) = octAt (c0 (f.val : Int)) 0 ∧
    toB (IntKind.u8.wrap (IntKind.i64.wrap ((IntKind.i64.wrap ((f.val : Int) - (IntKind.i64.wrap (((IntKind.i64.wrap ((f.val : Int).tdiv (16 : Int))).tmod (2 : Int)) * (16 : Int))))) + (16 : Int)))) = octAt (c1 (c0 (f.val : Int))) 0 := by decide
theorem fl2 (f : Int) (h : 0 ≤ f ∧ f ≤ 255) : toB (IntKind.u8.wrap (IntKind.i64.wrap (f - (IntKind.i64.wrap (((IntKind.i64.wrap (f.tdiv (16 : Int))).tmod (2 : Int)) * (16 : Int)))))) = octAt (c0 f) 0 ∧
    toB (IntKind.u8.wrap (IntKind.i64.wrap ((IntKind.i64.wrap (f - (IntKind.i64.wrap (((IntKind.i64.wrap (f.tdiv (16 : Int))).tmod (2 : Int)) * (16 : Int))))) + (16 : Int)))) = octAt (c1 (c0 f)) 0 := by
  have := fl2_fin ⟨f.toNat, by omega⟩
  rwa [show ((f.toNat : Nat) : Int) = f by omega] at this
theorem byte1 (n : Nat) (h : n ≤ 65535) : toB (IntKind.u8.wrap (IntKind.i64.wrap ((n : Int).tdiv (256 : Int)))) = octAt (n : Int) 1 := by
  rw [Int.tdiv_eq_ediv_of_nonneg (by omega), w64 (by omega) (by omega), byte0]
  unfold octAt
  simp
theorem byte0m (n : Nat) : toB (IntKind.u8.wrap ((n : Int).tmod (256 : Int))) = octAt (n : Int) 0 := by
  rw [Int.tmod_eq_emod_of_nonneg (by omega), byte0]
  unfold octAt
  simp
theorem right_eq (y : Attr) (hl : y.Data.length ≤ 65535) : m_ridgewayref07_right y = some (decide ((0 ≤ y.Flags ∧ y.Flags ≤ 255) ∧ (0 ≤ y.Typ ∧ y.Typ ≤ 255))) := by
  refine (?_ : Ok (m_ridgewayref07_right y) (· = decide ((0 ≤ y.Flags ∧ y.Flags ≤ 255) ∧ (0 ≤ y.Typ ∧ y.Typ ≤ 255)))).elim fun x h => by rw [h.1, h.2]
  unfold m_ridgewayref07_right
  refine ok_if (fun h1 => ok_if (fun h2 => ok_if (fun h3 => ok_if (fun h4 => ok_some ?_) fun h => ok_some ?_) fun h => ok_some ?_) fun h => ok_some ?_) fun h => ok_some ?_
  · rw [decide_eq_true (by omega), decide_eq_true (by omega)]
  all_goals rw [decide_eq_false (by omega)]
theorem refAput_eq (l : List UInt8) (y : Attr) (hb : l.length ≤ 1000000) (hf : 0 ≤ y.Flags ∧ y.Flags ≤ 255) (ht : 0 ≤ y.Typ ∧ y.Typ ≤ 255) (hl : y.Data.length ≤ 2000) : m_ridgewayref07_Put l y = some (l ++ encA (canon y)) := by
  obtain ⟨g1, g2⟩ := fl2 y.Flags hf
  refine ok_outk ?_
  unfold m_ridgewayref07_Put
  refine ok_ap (by simp; omega) (by simp; omega) (ok_bde (right_eq y (by omega)) (ok_ifn (fun h => absurd ⟨hf, ht⟩ h) fun _ => ok_if (fun h => ?_) fun h => ?_))
  · refine ok_ap (by simp; omega) (by simp; omega) (ok_ap (by simp; omega) (by simp; omega) (ok_some ?_))
    rw [g2, byte0, byte1 _ (by omega), byte0m]
    unfold encA canon
    rw [if_pos (by omega), if_pos (by dsimp only; omega)]
    simp [putL, List.range_succ]
  · refine ok_ap (by simp; omega) (by simp; omega) (ok_ap (by simp; omega) (by simp; omega) (ok_some ?_))
    rw [g1, byte0, byte0]
    unfold encA canon
    rw [if_neg (by omega), if_neg (by dsimp only; omega)]
    simp [putL]
theorem ref1Put_eq (l : List UInt8) (v : Int) (k : Nat) (hk : 1 ≤ k ∧ k ≤ 4) (hb : l.length ≤ 1000000) : m_ridgewayref01_Put l v (k : Int) = some (l ++ putL v k) := by
  refine ok_outk ?_
  unfold m_ridgewayref01_Put
  refine ok_ap (by simp; omega) (by simp; omega) (ok_if (fun h => by omega) fun _ => ok_if (fun h => by omega) fun _ => ?_)
  rw [List.nil_append, w64 (x := (k : Int) - 1) (by omega) (by omega)]
  refine ok_loop (fun st => ∃ i : Nat, i ≤ k ∧ st = (l ++ (putL v k).take i, (k : Int) - 1 - (i : Int))) (fun st => (st.2 + 1).toNat) ⟨0, by omega, by simp⟩ (by dsimp only; omega) ?_
  rintro _ ⟨i, hi, rfl⟩ nx hnx
  rw [s_ridgewayref01_Put1]
  dsimp only at hnx ⊢
  refine ok_if (fun h => ?_) fun h => ok_some ?_
  · have hw : IntKind.i64.wrap ((8 : Int) * ((k : Int) - 1 - (i : Int))) = ((8 * (k - 1 - i) : Nat) : Int) := by rw [w64 (by omega) (by omega)]; omega
    have hu : IntKind.u64.wrap ((8 * (k - 1 - i) : Nat) : Int) = ((8 * (k - 1 - i) : Nat) : Int) := u64wK ⟨by omega, by omega⟩
    rw [hw, hu, nn_some (by omega), Int.toNat_natCast, show IntKind.i64.bits = 64 from rfl, u8_fdiv' _ _ (by omega)]
    have hw2 : IntKind.i64.wrap ((k : Int) - 1 - (i : Int) - 1) = (k : Int) - 1 - ((i + 1 : Nat) : Int) := by rw [w64 (by omega) (by omega)]; omega
    have hlen : ((putL v k).take i).length ≤ 4 := by rw [List.length_take, putL_length]; omega
    refine ok_ap (by simp only [List.length_append, List.length_singleton]; omega) (by simp only [List.length_append, List.length_singleton]; omega) (hnx _ ⟨i + 1, by omega, ?_⟩ (by dsimp only; rw [hw2]; omega))
    rw [putL_step _ _ i (by omega), hw2, List.append_assoc]
  · rw [show i = k by omega, List.take_of_length_le (by rw [putL_length]; omega)]
theorem refOf_eq (p : Path) (h : PathOk p) : m_ridgewayref07_Of p = some (ofL p) := by
  have hl := h.2.2.1
  obtain ⟨b, e, hb⟩ := t_refSaneK p (by omega)
  have hb := hb.2 h
  subst hb
  refine ok_outk ?_
  unfold m_ridgewayref07_Of
  refine ok_bde e (ok_ifnb (fun h => Bool.noConfusion h) fun _ => ok_jn (fun j => j = if p.As.length = 0 then [] else [(2 : UInt8), octAt (p.As.length : Int) 0]) (fun k hk => ok_if (fun h => hk _ (by rw [if_neg (by omega), byte0])) fun h => hk _ (by rw [if_pos (by omega)])) fun j hj => ?_)
  refine ok_acc p.As.length (fun i b => b = j ++ (p.As.take i).flatMap (fun x => putL x 4) ∧ b.length ≤ 2 + 4 * i) (by omega) ⟨by simp, by rw [hj]; split <;> simp⟩ (fun i b hi hI nx hnx => ?_) (fun b hI nx => ?_)
  · obtain ⟨hI, hb⟩ := hI
    rw [s_ridgewayref07_Of1]
    refine ok_if (fun _ => ok_ix (by omega) (by omega) fun hlt => ok_bde (ref1Put_eq _ _ 4 (by omega) (by dsimp only; omega)) ?_) fun h => absurd (Int.ofNat_lt.2 hi) h
    simp only [Int.toNat_natCast]
    refine hnx _ ⟨?_, by simp only [List.length_append, putL_length]; omega⟩
    rw [hI, ← List.take_append_getElem hi, List.flatMap_append]
    simp
  · rw [s_ridgewayref07_Of1]
    have hI := hI.1
    rw [List.take_length] at hI
    have hbS : b = segL p.As := by
      rw [hI, hj]
      unfold segL
      split
      · rename_i h0; rw [List.length_eq_zero_iff.1 h0]; rfl
      · rfl
    have h1 : [toB (IntKind.u8.wrap p.Origin)] = putL p.Origin 1 := by rw [byte0]; simp [putL]
    unfold ofL
    refine ok_if (fun h => by dsimp only at h; omega) fun _ => ok_bde (ref1Put_eq [] _ 4 (by omega) (by simp)) (ok_if (fun ho => ok_bde (ref1Put_eq [] _ 4 (by omega) (by simp)) (ok_ap (by simp) (by simp) (ok_some ?_))) fun ho => ok_some ?_)
    · rw [if_neg ho, hbS, h1]; rfl
    · rw [if_pos (Decidable.not_not.1 ho), hbS, h1]; rfl
theorem refPutN_eq (n : News) (hg : n.Gone.length ≤ 40) (hn : n.Nlri.length ≤ 40) (hp : n.P.As.length ≤ 300) (h : NewsOk n) : m_ridgewayref08_Put n = some ⟨2, encN n⟩ := by
  obtain ⟨b, e, hb⟩ := t_refNews n (by omega) (by omega) (by omega)
  have hb := hb.2 h
  subst hb
  have l1 := encPs_len h.gone
  have l2 := encPs_len h.nlri
  have l3 := saidN_len h
  refine ok_outk ?_
  unfold m_ridgewayref08_Put
  refine ok_bde e (ok_ifnb (fun k => Bool.noConfusion k) fun _ => ok_bde (octets_eq _ h.gone (by omega)) (ok_bde (octets_eq _ h.nlri (by omega)) (ok_jn (fun j => j = (saidN n).flatMap encA) (fun k hk => ok_if (fun h0 => ?_) fun h0 => hk _ ?_) fun j hj => ?_)))
  · have hP := h.path (by omega)
    have hs : saidN n = saidL n.P := by unfold saidN; rw [if_neg (by omega)]
    have hlen := ofL_len n.P
    refine ok_bde (refOf_eq _ hP) (ok_acc (ofL n.P).length (fun i b => b = (((ofL n.P).take i).map canon).flatMap encA ∧ b.length ≤ 2000 * i) (by omega) ⟨by simp, by simp⟩ (fun i b hi hI nx hnx => ?_) (fun b hI nx => ?_))
    · obtain ⟨hI, hb⟩ := hI
      obtain ⟨hf, ht, hd⟩ := ofL_ok hP (List.getElem_mem hi)
      have hel := enc_len (canon (ofL n.P)[i])
      have hcd : (canon (ofL n.P)[i]).Data = (ofL n.P)[i].Data := rfl
      rw [hcd] at hel
      rw [s_ridgewayref08_Put1]
      refine ok_if (fun _ => ok_ix (by omega) (by omega) fun hlt => ?_) fun h => absurd (Int.ofNat_lt.2 hi) h
      simp only [Int.toNat_natCast]
      refine ok_bde (refAput_eq _ _ (by omega) hf ht (by omega)) (hnx _ ⟨?_, by rw [List.length_append]; omega⟩)
      rw [hI, ← List.take_append_getElem hi, List.map_append, List.flatMap_append]
      simp
    · rw [s_ridgewayref08_Put1]
      refine ok_if (fun h => by dsimp only at h; omega) fun _ => hk _ ?_
      have := hI.1
      rw [List.take_length] at this
      rw [this, hs]
      rfl
  · unfold saidN
    rw [if_pos (by omega)]
    rfl
  · subst hj
    rw [w64 (x := 23 + _) (by omega) (by omega), w64 (x := 23 + _ + _) (by omega) (by omega), w64 (x := 23 + _ + _ + _) (by omega) (by omega)]
    refine ok_if (fun h => by omega) fun _ => ok_bde (ref1Put_eq [] _ 2 (by omega) (by simp)) (ok_ap (by simp only [List.length_append, List.length_nil, putL_length]; omega) (by simp only [List.length_append, List.length_nil, putL_length]; omega) (ok_bde (ref1Put_eq _ _ 2 (by omega) (by simp only [List.length_append, List.length_nil, putL_length]; omega)) (ok_ap (by simp only [List.length_append, List.length_nil, putL_length]; omega) (by simp only [List.length_append, List.length_nil, putL_length]; omega) (ok_ap (by simp only [List.length_append, List.length_nil, putL_length]; omega) (by simp only [List.length_append, List.length_nil, putL_length]; omega) (ok_some ?_)))))
    unfold encN
    simp only [List.nil_append, List.append_assoc]
end Go.Proofs.Ytkdodhkiemfpeaa
namespace Go.Proofs.Ytkdodhkiemfpeaa
open Go.RowKit
set_option linter.unusedVariables false
set_option linter.unusedSimpArgs false
set_option maxRecDepth 100000
set_option maxHeartbeats 2000000

theorem bit_fin : ∀ f : Fin 256, (¬ b16 (f.val : Int) = 0 ↔ (IntKind.u8.wrap ((f.val : Int).tdiv (16 : Int))).tmod (2 : Int) = 1) := by decide
theorem bit_byte (x : UInt8) : ¬ b16 (x.toNat : Int) = 0 ↔ (IntKind.u8.wrap ((x.toNat : Int).tdiv (16 : Int))).tmod (2 : Int) = 1 := bit_fin ⟨x.toNat, x.toNat_lt⟩
def noA : Attr × List UInt8 × Bool := (⟨0, 0, []⟩, [], false)
def firstB (x y : UInt8) (n : Nat) (t : List UInt8) : Attr × List UInt8 × Bool := if n ≤ t.length then (⟨x.toNat, y.toNat, t.take n⟩, t.drop n, true) else noA
def firstA : List UInt8 → Attr × List UInt8 × Bool
  | x :: y :: z :: t => if b16 (x.toNat : Int) = 0 then firstB x y z.toNat t else (match t with | [] => noA | u :: t => firstB x y (z.toNat * 256 + u.toNat) t)
  | _ => noA
theorem firstA_0 {x y z : UInt8} {t : List UInt8} (h : b16 (x.toNat : Int) = 0) : firstA (x :: y :: z :: t) = firstB x y z.toNat t := by
  show (if b16 (x.toNat : Int) = 0 then _ else _) = _
  rw [if_pos h]
theorem firstA_1 {x y z u : UInt8} {t : List UInt8} (h : ¬ b16 (x.toNat : Int) = 0) : firstA (x :: y :: z :: u :: t) = firstB x y (z.toNat * 256 + u.toNat) t := by
  show (if b16 (x.toNat : Int) = 0 then _ else _) = _
  rw [if_neg h]
theorem firstA_n {x y z : UInt8} (h : ¬ b16 (x.toNat : Int) = 0) : firstA [x, y, z] = noA := by
  show (if b16 (x.toNat : Int) = 0 then _ else _) = _
  rw [if_neg h]
theorem get2c (x y : UInt8) (t : List UInt8) : m_octet_Get (x :: y :: t) 2 = some (((x.toNat * 256 + y.toNat : Nat) : Int), t, true) := by
  rw [octGet_eq _ _ (by omega) (by omega), if_pos (by simp; omega)]
  simp [num]
theorem get_no (l : List UInt8) (n : Int) (h : 1 ≤ n ∧ n ≤ 4) (h2 : (l.length : Int) < n) : m_octet_Get l n = some (0, [], false) := by
  rw [octGet_eq _ _ h.1 h.2, if_neg (by omega)]
theorem get_first (l : List UInt8) : m_attr_Get l = some (firstA l) := by
  refine (?_ : Ok (m_attr_Get l) (· = firstA l)).elim fun x h => by rw [h.1, h.2]
  unfold m_attr_Get
  match l with
  | [] =>
    refine ok_bde (get_no [] 1 (by omega) (by simp)) (ok_bde (get_no [] 1 (by omega) (by simp)) (ok_jn' ?_))
    exact ok_if (fun _ => ok_bde (get_no [] 2 (by omega) (by simp)) (ok_bde (octTake_eq _ _) (ok_ifnb (fun _ => ok_some rfl) fun h => Bool.noConfusion h))) fun _ => ok_bde (get_no [] 1 (by omega) (by simp)) (ok_bde (octTake_eq _ _) (ok_ifnb (fun _ => ok_some rfl) fun h => Bool.noConfusion h))
  | [x] =>
    refine ok_bde (get1c x []) (ok_bde (get_no [] 1 (by omega) (by simp)) (ok_jn' ?_))
    exact ok_if (fun _ => ok_bde (get_no [] 2 (by omega) (by simp)) (ok_bde (octTake_eq _ _) (ok_ifnb (fun _ => ok_some rfl) fun h => Bool.noConfusion h))) fun _ => ok_bde (get_no [] 1 (by omega) (by simp)) (ok_bde (octTake_eq _ _) (ok_ifnb (fun _ => ok_some rfl) fun h => Bool.noConfusion h))
  | [x, y] =>
    refine ok_bde (get1c x [y]) (ok_bde (get1c y []) (ok_jn' ?_))
    exact ok_if (fun _ => ok_bde (get_no [] 2 (by omega) (by simp)) (ok_bde (octTake_eq _ _) (ok_ifnb (fun _ => ok_some rfl) fun h => Bool.noConfusion h))) fun _ => ok_bde (get_no [] 1 (by omega) (by simp)) (ok_bde (octTake_eq _ _) (ok_ifnb (fun _ => ok_some rfl) fun h => Bool.noConfusion h))
  | x :: y :: z :: t =>
    have fin : ∀ (n : Nat) (t : List UInt8), Ok (bd (m_octet_Take t (n : Int)) fun r4 => bif (!true) then some ((⟨0, 0, []⟩ : Attr), ([] : List UInt8), false) else bif (!r4.2.2) then some ((⟨0, 0, []⟩ : Attr), ([] : List UInt8), false) else some ((⟨x.toNat, y.toNat, r4.1⟩ : Attr), r4.2.1, true)) (· = firstB x y n t) := fun n t => by
      refine ok_bde (octTake_eq _ _) ?_
      unfold firstB
      by_cases h : n ≤ t.length
      · rw [if_pos (by omega), if_pos h]
        exact ok_ifnb (fun h => Bool.noConfusion h) fun _ => ok_ifnb (fun h => Bool.noConfusion h) fun _ => ok_some (by simp)
      · rw [if_neg (by omega), if_neg h]
        exact ok_ifnb (fun h => Bool.noConfusion h) fun _ => ok_ifnb (fun _ => ok_some rfl) fun h => Bool.noConfusion h
    refine ok_bde (get1c x _) (ok_bde (get1c y _) (ok_jn' (ok_if (fun h => ?_) fun h => ?_)))
    · have h : ¬ b16 (x.toNat : Int) = 0 := h
      match t with
      | [] => rw [firstA_n h]; exact ok_bde (get_no [z] 2 (by omega) (by simp)) (ok_bde (octTake_eq _ _) (ok_ifnb (fun _ => ok_some rfl) fun h => Bool.noConfusion h))
      | u :: t => rw [firstA_1 h]; exact ok_bde (get2c z u t) (fin _ t)
    · have h : b16 (x.toNat : Int) = 0 := Decidable.not_not.1 h
      rw [firstA_0 h]
      exact ok_bde (get1c z t) (fin _ t)
theorem ref_first (l : List UInt8) : m_ridgewayref07_Get l = some (firstA l) := by
  refine (?_ : Ok (m_ridgewayref07_Get l) (· = firstA l)).elim fun x h => by rw [h.1, h.2]
  unfold m_ridgewayref07_Get
  match l with
  | [] => exact ok_if (fun _ => ok_some rfl) fun h => absurd (by simp) h
  | [x] => exact ok_if (fun _ => ok_some rfl) fun h => absurd (by simp) h
  | [x, y] => exact ok_if (fun _ => ok_some rfl) fun h => absurd (by simp) h
  | x :: y :: z :: t =>
    have hx := x.toNat_lt
    have hy := y.toNat_lt
    have hz := z.toNat_lt
    have wx : IntKind.i64.wrap (x.toNat : Int) = x.toNat := w64 (by omega) (by omega)
    have wy : IntKind.i64.wrap (y.toNat : Int) = y.toNat := w64 (by omega) (by omega)
    have wz : IntKind.i64.wrap (z.toNat : Int) = z.toNat := w64 (by omega) (by omega)
    have i0 : ix (x :: y :: z :: t) 0 = some x := ix_some (by omega) rfl
    have i1 : ix (x :: y :: z :: t) 1 = some y := ix_some (by omega) rfl
    have i2 : ix (x :: y :: z :: t) 2 = some z := ix_some (by omega) rfl
    refine ok_if (fun h => absurd h (by simp; omega)) fun _ => ok_bde i2 ?_
    refine ok_jn (fun j => (b16 (x.toNat : Int) = 0 ∧ j = (3, (z.toNat : Int))) ∨ (¬ b16 (x.toNat : Int) = 0 ∧ ∃ u t', t = u :: t' ∧ j = (4, ((z.toNat * 256 + u.toNat : Nat) : Int)))) (fun k hk => ok_bde i0 (ok_if (fun h => ?_) fun h => hk _ (.inl ⟨?_, by rw [wz]⟩))) fun j hj => ?_
    · have hb := (bit_byte x).2 h
      match t with
      | [] =>
        refine ok_if (fun _ => ok_some ?_) fun h => absurd (by simp) h
        rw [firstA_n hb]
        rfl
      | u :: t =>
        have hu := u.toNat_lt
        have wu : IntKind.i64.wrap (u.toNat : Int) = u.toNat := w64 (by omega) (by omega)
        refine ok_if (fun h => absurd h (by simp; omega)) fun _ => ok_bde (ix_some (by omega) rfl : ix (x :: y :: z :: u :: t) 3 = some u) (hk _ (.inr ⟨hb, u, t, rfl, ?_⟩))
        rw [wz, wu, w64 (x := (z.toNat : Int) * 256) (by omega) (by omega), w64 (by omega) (by omega)]
        congr 1
    · exact Decidable.not_not.1 fun k => h ((bit_byte x).1 k)
    · rcases hj with ⟨hb, rfl⟩ | ⟨hb, u, t', rfl, rfl⟩
      · dsimp only
        rw [w64 (x := 3 + (z.toNat : Int)) (by omega) (by omega), firstA_0 hb]
        unfold firstB
        by_cases h : z.toNat ≤ t.length
        · rw [if_pos h]
          refine ok_if (fun h2 => absurd h2 (by simp; omega)) fun _ => ok_bde i0 (ok_bde i1 (ok_bde (sl_some (by simp; omega)) (ok_bde (sl_all (by simp; omega)) (ok_some ?_))))
          rw [show ((3 : Int) + (z.toNat : Int)).toNat = z.toNat + 3 by omega, wx, wy]
          simp
        · rw [if_neg h]
          exact ok_if (fun _ => ok_some rfl) fun h2 => absurd (by simp; omega) h2
      · have hu := u.toNat_lt
        dsimp only
        rw [w64 (x := 4 + ((z.toNat * 256 + u.toNat : Nat) : Int)) (by omega) (by omega), firstA_1 hb]
        unfold firstB
        by_cases h : z.toNat * 256 + u.toNat ≤ t'.length
        · rw [if_pos h]
          refine ok_if (fun h2 => absurd h2 (by simp; omega)) fun _ => ok_bde i0 (ok_bde i1 (ok_bde (sl_some (by simp; omega)) (ok_bde (sl_all (by simp; omega)) (ok_some ?_))))
          rw [show ((4 : Int) + ((z.toNat * 256 + u.toNat : Nat) : Int)).toNat = z.toNat * 256 + u.toNat + 4 by omega, wx, wy]
          simp
        · rw [if_neg h]
          exact ok_if (fun _ => ok_some rfl) fun h2 => absurd (by simp; omega) h2
theorem firstB_len (x y : UInt8) (n : Nat) (t : List UInt8) : (firstB x y n t).2.1.length ≤ t.length := by
  unfold firstB
  split
  · simp
  · exact Nat.zero_le _
theorem first_len : ∀ (l : List UInt8), (firstA l).2.2 = true → (firstA l).2.1.length < l.length
  | [], h => by cases h
  | [_], h => by cases h
  | [_, _], h => by cases h
  | x :: y :: z :: t, h => by
    by_cases hb : b16 (x.toNat : Int) = 0
    · rw [firstA_0 hb]
      have := firstB_len x y z.toNat t
      simp only [List.length_cons]
      omega
    · match t, h with
      | [], h => rw [firstA_n hb] at h; cases h
      | u :: t, h =>
        rw [firstA_1 hb]
        have := firstB_len x y (z.toNat * 256 + u.toNat) t
        simp only [List.length_cons]
        omega
theorem all_same (l : List UInt8) : m_ridgewayref07_All l = m_attr_All l := by
  unfold m_ridgewayref07_All m_attr_All
  congr 1
  funext st nx bk
  rw [s_ridgewayref07_All1, s_attr_All1, get_first, ref_first]
end Go.Proofs.Ytkdodhkiemfpeaa
namespace Go.Proofs.Ytkdodhkiemfpeaa
open Go.RowKit
set_option linter.unusedVariables false
set_option linter.unusedSimpArgs false
set_option maxRecDepth 100000
set_option maxHeartbeats 1000000

theorem ok_ine' {R : Type} {Q : R → Prop} {p : Prop} {_ : Decidable p} {A B : Option R} (h1 : ¬ p → Ok A Q) (h2 : p → Ok B Q) : Ok (bif decide (¬ p) then A else B) Q := ok_if h1 fun h => h2 (Decidable.not_not.1 h)
theorem refPut_eq (l : List UInt8) (y : Attr) (hb : l.length ≤ 1000000) (hl : y.Data.length ≤ 5000) : m_ridgewayref07_Put l y = m_attr_Put l y := by
  by_cases hok : (0 ≤ y.Flags ∧ y.Flags ≤ 255) ∧ (0 ≤ y.Typ ∧ y.Typ ≤ 255)
  · obtain ⟨hf, ht⟩ := hok
    obtain ⟨g1, g2⟩ := fl2 y.Flags hf
    rw [attrPut_eq l y hb hf ht (by omega)]
    refine (?_ : Ok (m_ridgewayref07_Put l y) (· = l ++ encA (canon y))).elim fun x h => by rw [h.1, h.2]
    unfold m_ridgewayref07_Put
    refine ok_ap (by simp; omega) (by simp; omega) (ok_bde (right_eq y (by omega)) (ok_ifn (fun h => absurd ⟨hf, ht⟩ h) fun _ => ok_if (fun h => ?_) fun h => ?_))
    · refine ok_ap (by simp; omega) (by simp; omega) (ok_ap (by simp; omega) (by simp; omega) (ok_some ?_))
      rw [g2, byte0, byte1 _ (by omega), byte0m]
      unfold encA canon
      rw [if_pos (by omega), if_pos (by dsimp only; omega)]
      simp [putL, List.range_succ]
    · refine ok_ap (by simp; omega) (by simp; omega) (ok_ap (by simp; omega) (by simp; omega) (ok_some ?_))
      rw [g1, byte0, byte0]
      unfold encA canon
      rw [if_neg (by omega), if_neg (by dsimp only; omega)]
      simp [putL]
  · rw [attrPut_no l y hok]
    refine (?_ : Ok (m_ridgewayref07_Put l y) (· = l)).elim fun x h => by rw [h.1, h.2]
    unfold m_ridgewayref07_Put
    exact ok_ap (by simp; omega) (by simp; omega) (ok_bde (right_eq y (by omega)) (ok_ifn (fun _ => ok_some rfl) fun h => absurd h hok))
end Go.Proofs.Ytkdodhkiemfpeaa
namespace Go.Proofs.Ytkdodhkiemfpeaa
open Go.RowKit
set_option linter.unusedVariables false
set_option linter.unusedSimpArgs false
set_option maxRecDepth 100000
set_option maxHeartbeats 1000000

theorem ok_outJ {R : Type} {m : Option R} {r : R} (h : Ok m (· = r)) : m = some r := by
  obtain ⟨x, h1, h2⟩ := h
  rw [h1, h2]
def numS (d : List UInt8) : Int := if d.length = 4 then (num d : Int) else 0
theorem numS_nonneg (d : List UInt8) : 0 ≤ numS d := by unfold numS; split <;> omega
theorem t_number (d : List UInt8) : Ok (m_attr_number d) fun r => (¬ numS d = 0 → r = (numS d, true)) ∧ (numS d = 0 → r.2 = false) := by
  unfold m_attr_number numS
  refine ok_bde (octGet_eq d 4 (by omega) (by omega)) ?_
  by_cases h4 : (4 : Int) ≤ d.length
  · rw [if_pos h4]
    dsimp only
    refine ok_ine' (fun h => ok_some ?_) fun h => ok_some ?_
    · by_cases hl : d.length = 4
      · rw [if_pos hl, show (4 : Int).toNat = 4 from rfl, List.take_of_length_le (by omega), List.drop_of_length_le (by omega)]
        exact ⟨fun _ => rfl, fun k => absurd k (by rwa [show (4 : Int).toNat = 4 from rfl, List.take_of_length_le (by omega)] at h)⟩
      · rw [if_neg hl]
        exact ⟨fun k => absurd rfl k, fun _ => decide_eq_false (by rw [List.length_drop, show (4 : Int).toNat = 4 from rfl]; omega)⟩
    · by_cases hl : d.length = 4
      · rw [if_pos hl]
        rw [show (4 : Int).toNat = 4 from rfl, List.take_of_length_le (by omega)] at h
        exact ⟨fun k => absurd h k, fun _ => rfl⟩
      · rw [if_neg hl]
        exact ⟨fun k => absurd rfl k, fun _ => rfl⟩
  · rw [if_neg h4, if_neg (by omega)]
    exact ok_ine' (fun h => absurd rfl h) fun _ => ok_some ⟨fun k => absurd rfl k, fun _ => rfl⟩
theorem ref1Get4 (a b c d : UInt8) : m_ridgewayref01_Get [a, b, c, d] 4 = some ((num [a, b, c, d] : Int), [], true) := by
  refine ok_outJ ?_
  unfold m_ridgewayref01_Get
  refine ok_if (fun h => by omega) fun _ => ok_if (fun h => by omega) fun _ => ok_if (fun h => absurd h (by simp)) fun _ => ?_
  have ha := a.toNat_lt; have hb := b.toNat_lt; have hc := c.toNat_lt; have hd := d.toNat_lt
  refine ok_acc 4 (fun i (v : Int) => v = (num ([a, b, c, d].take i) : Int)) (by omega) rfl (fun i v hi hv nx hnx => ?_) (fun v hv nx => ?_)
  · rw [s_ridgewayref01_Get1]
    dsimp only
    refine ok_if (fun _ => ok_ix (by omega) (by simp; omega) fun _ => hnx _ ?_) fun h => by omega
    have hi4 : i = 0 ∨ i = 1 ∨ i = 2 ∨ i = 3 := by omega
    rcases hi4 with rfl | rfl | rfl | rfl
    all_goals
      subst hv
      simp only [List.take_zero, List.take_succ_cons, num, List.foldl_nil, List.foldl_cons, Int.toNat_natCast, List.getElem_cons_zero, List.getElem_cons_succ]
      rw [w64 (x := _ * 256) (by omega) (by omega), w64 (x := ((_ : Nat) : Int)) (by omega) (by omega), w64 (by omega) (by omega)]
      omega
  · rw [s_ridgewayref01_Get1]
    dsimp only
    refine ok_if (fun h => by omega) fun _ => ok_bde (sl_all (by simp)) (ok_some ?_)
    subst hv
    rfl
theorem four_eq (d : List UInt8) : m_ridgewayref07_four d = some (numS d) := by
  refine ok_outJ ?_
  unfold m_ridgewayref07_four numS
  refine ok_ine' (fun h => ok_some (by rw [if_neg (by omega)])) fun h => ?_
  match d, h with
  | [a, b, c, e], _ => exact ok_bde (ref1Get4 a b c e) (ok_some rfl)
def take4 : Nat → List UInt8 → List Int → Option (List UInt8 × List Int)
  | 0, b, acc => some (b, acc)
  | n + 1, b, acc => if b.length < 4 ∨ num (b.take 4) = 0 then none else take4 n (b.drop 4) (acc ++ [(num (b.take 4) : Int)])
theorem take4_len : ∀ (n : Nat) (b : List UInt8) (acc : List Int) {r : List UInt8 × List Int}, take4 n b acc = some r → r.1.length + 4 * n = b.length ∧ r.1 = b.drop (4 * n) ∧ r.2.length = acc.length + n
  | 0, b, acc, r, h => by cases h; exact ⟨rfl, rfl, rfl⟩
  | n + 1, b, acc, r, h => by
    rw [take4] at h
    split at h
    · cases h
    · rename_i hn
      obtain ⟨h1, h2, h3⟩ := take4_len n _ _ h
      rw [List.length_drop] at h1
      rw [List.drop_drop] at h2
      rw [List.length_append, List.length_singleton] at h3
      exact ⟨by omega, by rw [h2]; congr 1; omega, by omega⟩
def segsF : Nat → List UInt8 → List Int → Option (List Int)
  | 0, _, _ => none
  | f + 1, [], acc => some acc
  | f + 1, [_], acc => none
  | f + 1, k :: n :: r, acc => if ¬ k.toNat = 2 ∨ n.toNat = 0 then none else (take4 n.toNat r acc).bind fun p => segsF f p.1 p.2
def asS (d : List UInt8) : Option (List Int) := segsF (d.length + 1) d []
theorem t_segs {Q : Path × Int × Note → Prop} (k : (Bool × List Int) → Option (Path × Int × Note)) (d : List UInt8) (hl : d.length ≤ 10000) (hT : ∀ L, asS d = some L → L.length ≤ 10000 → Ok (k (true, L)) Q) (hF : asS d = none → ∀ x, Ok (k (false, x)) Q) :
    Ok (loopC (s_attr_Judge2 k) (fun e2 => k (true, e2)) BIG (d, [])) Q := by
  refine ok_loop (fun st => ∃ f, st.1.length < f ∧ asS d = segsF f st.1 st.2 ∧ st.2.length + st.1.length ≤ d.length) (fun st => st.1.length) ⟨d.length + 1, by dsimp only; omega, rfl, by simp⟩ (by dsimp only; omega) ?_
  rintro ⟨b, acc⟩ ⟨f, hf, he, hlen⟩ nx hnx
  dsimp only at hf he hlen hnx
  obtain ⟨f, rfl⟩ : ∃ g, f = g + 1 := ⟨f - 1, by omega⟩
  rw [s_attr_Judge2]
  dsimp only
  match b, hf, he, hlen, hnx with
  | [], hf, he, hlen, hnx => exact ok_if (fun h => absurd h (by simp)) fun _ => hT _ he (by simp at hlen; omega)
  | [x], hf, he, hlen, hnx =>
    have g1 : m_octet_Get [x] 1 = some ((x.toNat : Int), [], true) := by
      rw [octGet_eq _ _ (by decide) (by decide), if_pos (by simp)]
      simp [num]
    have g2 : m_octet_Get [] 1 = some (0, [], false) := by rw [octGet_eq _ _ (by decide) (by decide), if_neg (by simp)]
    exact ok_if (fun _ => ok_bde g1 (ok_bde g2 (ok_ine' (fun _ => hF he _) fun _ => ok_if (fun _ => hF he _) fun h => absurd rfl h))) fun h => absurd (by simp) h
  | x :: n :: r, hf, he, hlen, hnx =>
    have g1 : m_octet_Get (x :: n :: r) 1 = some ((x.toNat : Int), n :: r, true) := by
      rw [octGet_eq _ _ (by decide) (by decide), if_pos (by simp; omega)]
      simp [num]
    have g2 : m_octet_Get (n :: r) 1 = some ((n.toNat : Int), r, true) := by
      rw [octGet_eq _ _ (by decide) (by decide), if_pos (by simp; omega)]
      simp [num]
    rw [segsF] at he
    simp only [List.length_cons] at hf hlen hnx
    refine ok_if (fun _ => ok_bde g1 (ok_bde g2 (ok_ine' (fun h => hF (by rw [he, if_pos (.inl (by intro h2; apply h; dsimp only; omega))]) _) fun hx => ok_if (fun h => hF (by rw [he, if_pos (.inr (by dsimp only at h; omega))]) _) fun hn => ?_))) fun h => absurd (by simp; omega) h
    dsimp only at hx hn ⊢
    rw [if_neg (by omega)] at he
    refine ok_loop (fun st => ∃ j : Nat, j ≤ n.toNat ∧ st.2.1 = (j : Int) ∧ take4 n.toNat r acc = take4 (n.toNat - j) st.1 st.2.2 ∧ st.1.length ≤ r.length ∧ st.2.2.length ≤ acc.length + j) (fun st => ((n.toNat : Int) - st.2.1).toNat) ⟨0, Nat.zero_le _, rfl, rfl, Nat.le_refl _, Nat.le_refl _⟩ (by have := n.toNat_lt; dsimp only; omega) ?_
    rintro ⟨b, _, ac⟩ ⟨j, hj, rfl, ht, hb, hac⟩ nx3 hnx3
    dsimp only at ht hb hac hnx3
    have hn256 := n.toNat_lt
    rw [s_attr_Judge3]
    dsimp only
    have hw : IntKind.i64.wrap ((j : Int) + 1) = ((j + 1 : Nat) : Int) := by rw [w64 (by omega) (by omega)]; rfl
    refine ok_if (fun hlt => ok_bde (octGet_eq b 4 (by omega) (by omega)) ?_) fun hlt => ?_
    · rw [show n.toNat - j = (n.toNat - (j + 1)) + 1 by omega, take4] at ht
      by_cases h4 : (4 : Int) ≤ b.length
      · rw [if_pos h4]
        dsimp only
        rw [show (4 : Int).toNat = 4 from rfl]
        refine ok_if (fun h0 => hF ?_ _) fun h0 => ?_
        · rw [he, ht, if_pos (.inr (by omega))]
          rfl
        · rw [if_neg (by omega)] at ht
          refine ok_ap (by simp only [List.length_cons, List.length_nil]; omega) (by simp only [List.length_cons, List.length_nil]; omega) (hnx3 _ ⟨j + 1, by omega, hw, ht, ?_, ?_⟩ (by dsimp only; rw [hw]; omega))
          · rw [List.length_drop]; omega
          · simp only [List.length_append, List.length_cons, List.length_nil]; omega
      · rw [if_neg h4]
        refine ok_if (fun _ => hF ?_ _) fun h => absurd rfl h
        rw [he, ht, if_pos (.inl (by omega))]
        rfl
    · have hjn : n.toNat - j = 0 := by omega
      rw [hjn, take4] at ht
      obtain ⟨q1, q2, q3⟩ := take4_len _ _ _ ht
      dsimp only at q1 q3
      rw [ht] at he
      exact hnx _ ⟨f, by dsimp only; omega, he, by dsimp only; omega⟩ (by dsimp only; omega)
theorem ases_eq (d : List UInt8) (hl : d.length ≤ 10000) : m_ridgewayref07_ases d = some (match asS d with | some L => (L, true) | none => ([], false)) := by
  refine ok_outJ ?_
  unfold m_ridgewayref07_ases
  refine ok_loop (fun st => ∃ f, st.1.length < f ∧ asS d = segsF f st.1 st.2 ∧ st.2.length + st.1.length ≤ d.length) (fun st => st.1.length) ⟨d.length + 1, by dsimp only; omega, rfl, by simp⟩ (by dsimp only; omega) ?_
  rintro ⟨b, acc⟩ ⟨f, hf, he, hlen⟩ nx hnx
  dsimp only at hf he hlen hnx
  obtain ⟨f, rfl⟩ : ∃ g, f = g + 1 := ⟨f - 1, by omega⟩
  rw [s_ridgewayref07_ases1]
  dsimp only
  match b, hf, he, hlen, hnx with
  | [], hf, he, hlen, hnx =>
    rw [segsF] at he
    exact ok_if (fun h => absurd h (by simp)) fun _ => ok_some (by rw [he])
  | [x], hf, he, hlen, hnx =>
    rw [segsF] at he
    exact ok_if (fun _ => ok_if (fun _ => ok_some (by rw [he])) fun h => absurd (by simp) h) fun h => absurd (by simp) h
  | x :: n :: r, hf, he, hlen, hnx =>
    have i0 : ix (x :: n :: r) 0 = some x := by rw [ix_eq]; rfl
    have i1 : ix (x :: n :: r) 1 = some n := by rw [ix_eq]; rfl
    have hn256 := n.toNat_lt
    have wn : IntKind.i64.wrap (n.toNat : Int) = n.toNat := w64 (by omega) (by omega)
    have w4 : IntKind.i64.wrap ((4 : Int) * IntKind.i64.wrap (n.toNat : Int)) = 4 * n.toNat := by rw [wn, w64 (by omega) (by omega)]
    have w24 : IntKind.i64.wrap ((2 : Int) + IntKind.i64.wrap ((4 : Int) * IntKind.i64.wrap (n.toNat : Int))) = 2 + 4 * n.toNat := by rw [w4, w64 (by omega) (by omega)]
    rw [segsF] at he
    simp only [List.length_cons] at hf hlen hnx
    have none_ : asS d = none → Ok (some (([] : List Int), false)) (· = (match asS d with | some L => (L, true) | none => ([], false))) := fun h => ok_some (by rw [h])
    refine ok_if (fun _ => ok_if (fun h => absurd h (by simp only [List.length_cons]; omega)) fun _ => ok_bde i0 (ok_ine' (fun h => none_ (by rw [he, if_pos (.inl (by omega))])) fun hx => ok_bde i1 (ok_if (fun h => none_ (by rw [he, if_pos (.inr (by omega))])) fun hn => ok_bde i1 ?_))) fun h => absurd (by simp only [List.length_cons]; omega) h
    rw [w24]
    rw [if_neg (by omega)] at he
    have short : r.length < 4 * n.toNat → take4 n.toNat r acc = none := fun hs => by
      cases ht : take4 n.toNat r acc with
      | none => rfl
      | some p => have := (take4_len _ _ _ ht).1; omega
    refine ok_if (fun h => none_ ?_) fun hlong => ?_
    · rw [he, short (by simp only [List.length_cons] at h; omega)]
      rfl
    simp only [List.length_cons] at hlong
    refine ok_loop (fun st => ∃ j : Nat, j ≤ n.toNat ∧ st.2 = (j : Int) ∧ take4 n.toNat r acc = take4 (n.toNat - j) (r.drop (4 * j)) st.1 ∧ st.1.length ≤ acc.length + j) (fun st => ((n.toNat : Int) - st.2).toNat) ⟨0, Nat.zero_le _, rfl, rfl, Nat.le_refl _⟩ (by dsimp only; omega) ?_
    rintro ⟨ac, _⟩ ⟨j, hj, rfl, ht, hac⟩ nx3 hnx3
    dsimp only at ht hac hnx3
    rw [s_ridgewayref07_ases2]
    dsimp only
    have hw : IntKind.i64.wrap ((j : Int) + 1) = ((j + 1 : Nat) : Int) := by rw [w64 (by omega) (by omega)]; rfl
    have a4 : IntKind.i64.wrap ((4 : Int) * (j : Int)) = 4 * j := w64 (by omega) (by omega)
    have a24 : IntKind.i64.wrap ((2 : Int) + IntKind.i64.wrap ((4 : Int) * (j : Int))) = 2 + 4 * j := by rw [a4, w64 (by omega) (by omega)]
    have a64 : IntKind.i64.wrap ((6 : Int) + IntKind.i64.wrap ((4 : Int) * (j : Int))) = 6 + 4 * j := by rw [a4, w64 (by omega) (by omega)]
    refine ok_bde i1 ?_
    rw [wn]
    refine ok_if (fun hlt => ?_) fun hlt => ok_bde i1 ?_
    · rw [a24, a64]
      refine ok_bde (sl_some ⟨by omega, by omega, by simp only [List.length_cons]; omega⟩) ?_
      have hs : ((x :: n :: r).take (6 + 4 * (j : Int)).toNat).drop (2 + 4 * (j : Int)).toNat = (r.drop (4 * j)).take 4 := by
        rw [show (6 + 4 * (j : Int)).toNat = (4 * j + 4) + 1 + 1 by omega, show (2 + 4 * (j : Int)).toNat = 4 * j + 1 + 1 by omega, List.take_succ_cons, List.take_succ_cons, List.drop_succ_cons, List.drop_succ_cons, List.drop_take]
        congr 1
        omega
      rw [hs]
      refine ok_bde (four_eq _) ?_
      have h4 : ((r.drop (4 * j)).take 4).length = 4 := by rw [List.length_take, List.length_drop]; omega
      have hv : numS ((r.drop (4 * j)).take 4) = (num ((r.drop (4 * j)).take 4) : Int) := by unfold numS; rw [if_pos h4]
      rw [hv]
      rw [show n.toNat - j = (n.toNat - (j + 1)) + 1 by omega, take4] at ht
      have hd4 : ¬ (r.drop (4 * j)).length < 4 := by rw [List.length_drop]; omega
      refine ok_if (fun h0 => none_ ?_) fun h0 => ?_
      · rw [he, ht, if_pos (.inr (by omega))]
        rfl
      · rw [if_neg (by omega), List.drop_drop] at ht
        refine ok_ap (by simp only [List.length_cons, List.length_nil]; omega) (by simp only [List.length_cons, List.length_nil]; omega) (hnx3 _ ⟨j + 1, by omega, hw, ?_, by simp only [List.length_append, List.length_cons, List.length_nil]; omega⟩ (by dsimp only; rw [hw]; omega))
        rw [ht]
        congr 1
    · have hjn : n.toNat - j = 0 := by omega
      rw [hjn, take4] at ht
      obtain ⟨q1, q2, q3⟩ := take4_len _ _ _ ht
      dsimp only at q1 q2 q3
      rw [ht] at he
      rw [w24]
      refine ok_bde (sl_all (by simp only [List.length_cons]; omega)) (hnx _ ⟨f, ?_, ?_, ?_⟩ ?_)
      all_goals rw [show (2 + 4 * (n.toNat : Int)).toNat = 4 * n.toNat + 1 + 1 by omega, List.drop_succ_cons, List.drop_succ_cons]
      · rw [List.length_drop]; omega
      · rw [he, Option.bind_some]
        dsimp only
        rw [show 4 * j = 4 * n.toNat by omega]
      · rw [List.length_drop]; dsimp only; omega
      · rw [List.length_drop]; omega
end Go.Proofs.Ytkdodhkiemfpeaa
namespace Go.Proofs.Ytkdodhkiemfpeaa
open Go.RowKit
set_option linter.unusedVariables false
set_option linter.unusedSimpArgs false
set_option maxRecDepth 100000
set_option maxHeartbeats 2000000

def fl (y : Attr) : Int := IntKind.i64.wrap ((BitVec.ofInt IntKind.i64.bits y.Flags &&& BitVec.ofInt IntKind.i64.bits (192 : Int)).toNat : Int)
def noP : Path := ⟨0, [], 0, 0⟩
def note0 : Note := ⟨0, 0, []⟩
def badR : Path × Int × Note := (noP, 1, note0)
def addF (F : List Attr) (y : Attr) : List Attr := if F.any (fun z => decide (z.Typ = y.Typ)) = true then F else F ++ [y]
def firsts (l : List Attr) : List Attr := l.foldl addF []
theorem firsts_take (l : List Attr) (i : Nat) (h : i < l.length) : firsts (l.take (i + 1)) = addF (firsts (l.take i)) l[i] := by
  unfold firsts
  rw [← List.take_append_getElem h, List.foldl_append]
  rfl
theorem fold_pre (l : List Attr) : ∀ F, ∃ r, l.foldl addF F = F ++ r := by
  induction l with
  | nil => exact fun F => ⟨[], by simp⟩
  | cons y l ih =>
    intro F
    obtain ⟨r, hr⟩ := ih (addF F y)
    rw [List.foldl_cons, hr]
    unfold addF
    split
    · exact ⟨r, rfl⟩
    · exact ⟨y :: r, by simp⟩
theorem firsts_pre (l : List Attr) (i : Nat) : ∃ r, firsts l = firsts (l.take i) ++ r := by
  unfold firsts
  obtain ⟨r, hr⟩ := fold_pre (l.drop i) ((l.take i).foldl addF [])
  refine ⟨r, ?_⟩
  rw [← hr, ← List.foldl_append, List.take_append_drop]
theorem fold_once (l : List Attr) : ∀ F, Once F → Once (l.foldl addF F) := by
  induction l with
  | nil => exact fun F h => h
  | cons y l ih =>
    intro F h
    rw [List.foldl_cons]
    refine ih _ ?_
    unfold addF
    split
    · exact h
    · rename_i hn
      refine List.pairwise_append.2 ⟨h, List.pairwise_singleton _ _, fun a ha b hb e => hn ?_⟩
      rw [List.mem_singleton.1 hb] at e
      exact List.any_eq_true.2 ⟨a, ha, decide_eq_true e⟩
theorem firsts_once (l : List Attr) : Once (firsts l) := fold_once l [] List.Pairwise.nil
theorem firsts_mem (l : List Attr) : ∀ y ∈ firsts l, y ∈ l := by
  unfold firsts
  suffices h : ∀ F, (∀ y ∈ F, y ∈ F ++ l) ∧ ∀ y ∈ l.foldl addF F, y ∈ F ∨ y ∈ l by
    intro y hy
    rcases (h []).2 y hy with hy | hy
    · cases hy
    · exact hy
  intro F
  refine ⟨fun y hy => List.mem_append_left _ hy, ?_⟩
  induction l generalizing F with
  | nil => exact fun y hy => .inl hy
  | cons z l ih =>
    intro y hy
    rw [List.foldl_cons] at hy
    rcases ih _ y hy with hy | hy
    · unfold addF at hy
      split at hy
      · exact .inl hy
      · rcases List.mem_append.1 hy with hy | hy
        · exact .inl hy
        · exact .inr (by rw [List.mem_singleton.1 hy]; exact List.mem_cons_self)
    · exact .inr (List.mem_cons_of_mem _ hy)
theorem firsts_len (l : List Attr) : (firsts l).length ≤ l.length := by
  unfold firsts
  suffices h : ∀ F, (l.foldl addF F).length ≤ F.length + l.length by simpa using h []
  induction l with
  | nil => exact fun F => Nat.le_refl _
  | cons z l ih =>
    intro F
    have := ih (addF F z)
    have h2 : (addF F z).length ≤ F.length + 1 := by
      unfold addF
      split <;> simp
    rw [List.foldl_cons, List.length_cons]
    omega
def look (F : List Attr) (t : Int) : Option Attr := F.find? fun y => decide (y.Typ = t)
def orgS (y : Attr) : Option Int := if fl y = 64 ∧ y.Data.length = 1 ∧ (y.Data.headD 0).toNat ≤ 2 then some ((y.Data.headD 0).toNat : Int) else none
def pathS (y : Attr) : Option (List Int) := if fl y = 64 then asS y.Data else none
def hopS (y : Attr) : Option Int := if fl y = 64 ∧ ¬ numS y.Data = 0 then some (numS y.Data) else none
def medS (y : Attr) : Bool := decide (fl y = 128 ∧ y.Data.length = 4)
def otcS (y : Attr) : Option Int := if fl y = 192 ∧ ¬ numS y.Data = 0 then some (numS y.Data) else none
def bodyS (o a h m c : Option Attr) : Path × Int × Note :=
  match o.bind orgS, a.bind pathS, h.bind hopS with
  | some x, some L, some v =>
    if (match m with | some y => medS y | none => true) = true then
      match c with
      | none => (⟨x, L, v, 0⟩, 0, note0)
      | some y => match otcS y with
        | some w => (⟨x, L, v, w⟩, 0, note0)
        | none => badR
    else badR
  | _, _, _ => badR
def bodyF (F : List Attr) : Path × Int × Note := bodyS (look F 1) (look F 2) (look F 3) (look F 4) (look F 35)
def judgeS (l : List Attr) : Path × Int × Note :=
  match (firsts l).find? fatalB with
  | some y => (noP, 2, ⟨3, 2, (m_attr_Put [] y).getD []⟩)
  | none => bodyF (firsts l)
theorem put_some (y : Attr) (hy : y.Data.length ≤ 5000) : m_attr_Put [] y = some ((m_attr_Put [] y).getD []) := by
  obtain ⟨x, h, _⟩ := t_attrPut [] y (by simp) (by omega)
  rw [h]
  rfl
theorem look_map (F : List Attr) (t : Int) : mget (F.map fun y => (y.Typ, y)) t = look F t := by
  rw [mget_eq]
  unfold look
  induction F with
  | nil => rfl
  | cons y F ih =>
    rw [List.map_cons, List.find?_cons, List.find?_cons]
    cases decide (y.Typ = t) with
    | true => rfl
    | false => exact ih
theorem has_look (F : List Attr) (t : Int) : (look F t).isSome = F.any fun z => decide (z.Typ = t) := by
  unfold look
  rw [Bool.eq_iff_iff, List.find?_isSome, List.any_eq_true]
theorem bodyS_1 {o a h m c : Option Attr} (k : o.bind orgS = none) : bodyS o a h m c = badR := by
  unfold bodyS
  rw [k]
theorem bodyS_2 {o a h m c : Option Attr} (k : a.bind pathS = none) : bodyS o a h m c = badR := by
  unfold bodyS
  rw [k]
  cases o.bind orgS <;> rfl
theorem bodyS_3 {o a h m c : Option Attr} (k : h.bind hopS = none) : bodyS o a h m c = badR := by
  unfold bodyS
  rw [k]
  cases o.bind orgS <;> cases a.bind pathS <;> rfl
theorem bodyS_4 {o a h c : Option Attr} {y : Attr} (k : medS y = false) : bodyS o a h (some y) c = badR := by
  unfold bodyS
  cases o.bind orgS <;> cases a.bind pathS <;> cases h.bind hopS <;> try rfl
  simp only [k]
  rfl
theorem bodyS_5 {o a h m : Option Attr} {y : Attr} (k : otcS y = none) : bodyS o a h m (some y) = badR := by
  unfold bodyS
  cases o.bind orgS <;> cases a.bind pathS <;> cases h.bind hopS <;> try rfl
  simp only [k]
  cases m with
  | none => rfl
  | some z =>
    show (if medS z = true then badR else badR) = badR
    split <;> rfl
theorem bodyS_ok {o a h m c : Option Attr} {x : Int} {L : List Int} {v w : Int} (k1 : o.bind orgS = some x) (k2 : a.bind pathS = some L) (k3 : h.bind hopS = some v) (k4 : ∀ y, m = some y → medS y = true)
    (k5 : (c = none ∧ w = 0) ∨ ∃ y, c = some y ∧ otcS y = some w) : bodyS o a h m c = (⟨x, L, v, w⟩, 0, note0) := by
  unfold bodyS
  rw [k1, k2, k3]
  rcases k5 with ⟨rfl, rfl⟩ | ⟨y, rfl, hy⟩
  · cases m with
    | none => rfl
    | some z =>
      show (if medS z = true then _ else _) = _
      rw [if_pos (k4 z rfl)]
  · simp only [hy]
    cases m with
    | none => rfl
    | some z =>
      show (if medS z = true then _ else _) = _
      rw [if_pos (k4 z rfl)]
theorem judge_eq (l : List Attr) (hl : l.length ≤ 10000) (hd : ∀ y ∈ l, y.Data.length ≤ 5000) : m_attr_Judge l = some (judgeS l) := by
  refine ok_outJ ?_
  unfold m_attr_Judge
  refine ok_acc' l.length (fun i e => e = (firsts (l.take i)).map (fun y => (y.Typ, y)) ∧ (firsts (l.take i)).find? fatalB = none) (by omega) ⟨rfl, rfl⟩ (fun i e hi hI nx hnx => ?_) (fun e hI nx => ?_)
  · obtain ⟨rfl, hn⟩ := hI
    have hf := firsts_take l i hi
    have hmem := hd _ (List.getElem_mem hi)
    rw [s_attr_Judge1]
    refine ok_if (fun _ => ok_ix (by dsimp only; omega) (by dsimp only; omega) fun hlt => ?_) fun h => absurd (Int.ofNat_lt.2 hi) h
    simp only [Int.toNat_natCast]
    rw [mhas_get, look_map, has_look]
    cases hg : (firsts (l.take i)).any fun z => decide (z.Typ = l[i].Typ) with
    | true =>
      have e1 : firsts (l.take (i + 1)) = firsts (l.take i) := by rw [hf]; unfold addF; rw [if_pos hg]
      rw [cond_true]
      have hs : (look (firsts (l.take i)) l[i].Typ).isSome = true := by rw [has_look]; exact hg
      obtain ⟨z, hz⟩ := Option.isSome_iff_exists.1 hs
      refine ok_bde (x := z) hz (hnx _ ⟨by rw [e1], by rw [e1]; exact hn⟩)
    | false =>
      have e1 : firsts (l.take (i + 1)) = firsts (l.take i) ++ [l[i]] := by rw [hf]; unfold addF; rw [if_neg (by rw [hg]; decide)]
      have hnone : look (firsts (l.take i)) l[i].Typ = none := by
        have := has_look (firsts (l.take i)) l[i].Typ
        rw [hg] at this
        cases h : look (firsts (l.take i)) l[i].Typ with
        | none => rfl
        | some z => rw [h] at this; cases this
      rw [cond_false]
      refine ok_bde (ms_eq _ _ _) (ok_bde (fatal_eq _) (ok_ifb (fun hfa => ok_bde (put_some _ hmem) (ok_some ?_)) fun hfa => hnx _ ⟨?_, ?_⟩))
      · obtain ⟨r, hr⟩ := firsts_pre l (i + 1)
        unfold judgeS
        rw [hr, e1, List.append_assoc, List.find?_append, hn, Option.none_or, List.singleton_append, List.find?_cons, hfa]
        rfl
      · rw [set_new (by rw [look_map]; exact hnone), e1, List.map_append]
        rfl
      · rw [e1, List.find?_append, hn, Option.none_or, List.find?_cons, hfa]
        rfl
  · rw [List.take_length] at hI
    obtain ⟨rfl, hn⟩ := hI
    rw [s_attr_Judge1]
    refine ok_if (fun h => by dsimp only at h; omega) fun _ => ?_
    have hj : judgeS l = bodyF (firsts l) := by unfold judgeS; rw [hn]
    rw [hj]
    have hdat : ∀ t z, look (firsts l) t = some z → z.Data.length ≤ 5000 := fun t z hz => hd _ (firsts_mem l z (List.mem_of_find?_eq_some hz))
    generalize firsts l = F at hdat
    have st : ∀ (t : Int) {K : Attr → Option (Path × Int × Note)} {A : Option (Path × Int × Note)}, (∀ y, look F t = some y → Ok (K y) (· = bodyF F)) → (look F t = none → Ok A (· = bodyF F)) → Ok (bif mhas (F.map fun y => (y.Typ, y)) t then bd (mget (F.map fun y => (y.Typ, y)) t) K else A) (· = bodyF F) := fun t {K A} h1 h2 => by
      rw [mhas_get, look_map]
      cases h : look F t with
      | none => exact h2 h
      | some z => exact ok_bde rfl (h1 z h)
    have bad : bodyF F = badR → Ok (some badR) (· = bodyF F) := fun h => ok_some h.symm
    unfold bodyF at bad st ⊢
    refine st 1 (fun y1 h1 => ok_ine' (fun hf => bad (bodyS_1 ?_)) fun hf => ?_) fun h => bad (bodyS_1 (by rw [h]; rfl))
    · rw [h1]
      show orgS y1 = none
      unfold orgS
      rw [if_neg (fun k => hf k.1)]
    refine ok_jn (fun i => (i.1 = true → orgS y1 = some i.2) ∧ (i.1 = false → orgS y1 = none)) (fun k101 hk => ok_ine' (fun hne => hk _ ⟨fun h => Bool.noConfusion h, fun _ => ?_⟩) fun hlen => ?_) fun i1 hi1 => ok_ifnb (fun hfa => bad (bodyS_1 (by rw [h1]; exact hi1.2 hfa))) fun htr => ?_
    · unfold orgS
      rw [if_neg (fun k => hne (by omega))]
    · have hlen1 : y1.Data.length = 1 := by omega
      obtain ⟨b, hb⟩ : ∃ b, y1.Data = [b] := by
        match hy : y1.Data, hlen1 with
        | [b], _ => exact ⟨b, rfl⟩
      have hix : ix y1.Data 0 = some b := by rw [hb, ix_eq]; rfl
      have horg : orgS y1 = if b.toNat ≤ 2 then some (b.toNat : Int) else none := by
        unfold orgS
        rw [hb]
        by_cases h2 : b.toNat ≤ 2
        · rw [if_pos ⟨hf, rfl, h2⟩, if_pos h2]; rfl
        · rw [if_neg (fun k => h2 k.2.2), if_neg h2]
      have hb256 := b.toNat_lt
      refine ok_bde hix (ok_if (fun h2 => hk _ ⟨fun h => Bool.noConfusion h, fun _ => by rw [horg, if_neg (by omega)]⟩) fun h2 => ok_bde hix (hk _ ⟨fun _ => ?_, fun h => Bool.noConfusion h⟩))
      rw [horg, if_pos (by omega), w64 (by omega) (by omega)]
    have ko : (look F 1).bind orgS = some i1.2 := by rw [h1]; exact hi1.1 htr
    refine st 2 (fun y2 h2 => ok_ine' (fun hf2 => bad (bodyS_2 ?_)) fun hf2 => ?_) fun h => bad (bodyS_2 (by rw [h]; rfl))
    · rw [h2]
      show pathS y2 = none
      unfold pathS
      rw [if_neg (show ¬ fl y2 = 64 from hf2)]
    have hp2 : pathS y2 = asS y2.Data := by unfold pathS; rw [if_pos (show fl y2 = 64 from hf2)]
    refine ok_jn (fun i => (i.1 = true → asS y2.Data = some i.2) ∧ (i.1 = false → asS y2.Data = none)) (fun k102 hk => t_segs k102 y2.Data (by have := hdat 2 y2 h2; omega) (fun L hL _ => hk _ ⟨fun _ => hL, fun h => Bool.noConfusion h⟩) fun hN x => hk _ ⟨fun h => Bool.noConfusion h, fun _ => hN⟩) fun i2 hi2 => ok_ifnb (fun hfa => bad (bodyS_2 (by rw [h2]; show pathS y2 = none; rw [hp2]; exact hi2.2 hfa))) fun htr2 => ?_
    have ka : (look F 2).bind pathS = some i2.2 := by rw [h2]; show pathS y2 = _; rw [hp2]; exact hi2.1 htr2
    refine st 3 (fun y3 h3 => ok_ine' (fun hf3 => bad (bodyS_3 ?_)) fun hf3 => ok_bd (t_number _) fun r15 _ h15 => ok_ifnb (fun hfa => bad (bodyS_3 ?_)) fun htr3 => ?_) fun h => bad (bodyS_3 (by rw [h]; rfl))
    · rw [h3]
      show hopS y3 = none
      unfold hopS
      rw [if_neg (fun k => hf3 k.1)]
    · rw [h3]
      show hopS y3 = none
      unfold hopS
      rw [if_neg fun k => by rw [h15.1 k.2] at hfa; cases hfa]
    have hz3 : ¬ numS y3.Data = 0 := fun k => by rw [h15.2 k] at htr3; cases htr3
    have kh : (look F 3).bind hopS = some r15.1 := by
      rw [h3]
      show hopS y3 = _
      unfold hopS
      rw [if_pos ⟨hf3, hz3⟩, h15.1 hz3]
    have otc : (∀ y, look F 4 = some y → medS y = true) → Ok (bif mhas (F.map fun y => (y.Typ, y)) (35 : Int) then bd (mget (F.map fun y => (y.Typ, y)) (35 : Int)) fun y17 => bif decide (¬ (IntKind.i64.wrap ((BitVec.ofInt IntKind.i64.bits y17.Flags &&& BitVec.ofInt IntKind.i64.bits (192 : Int)).toNat : Int)) = (192 : Int)) then some ((Path.mk (0 : Int) ([]) (0 : Int) (0 : Int)), (1 : Int), (Note.mk (0 : Int) (0 : Int) ([]))) else bd (m_attr_number y17.Data) fun r18 => bif (!r18.2) then some ((Path.mk (0 : Int) ([]) (0 : Int) (0 : Int)), (1 : Int), (Note.mk (0 : Int) (0 : Int) ([]))) else some ((Path.mk i1.2 i2.2 r15.1 r18.1), (0 : Int), (Note.mk (0 : Int) (0 : Int) ([]))) else some ((Path.mk i1.2 i2.2 r15.1 (0 : Int)), (0 : Int), (Note.mk (0 : Int) (0 : Int) ([])))) (· = bodyS (look F 1) (look F 2) (look F 3) (look F 4) (look F 35)) := fun h4 => by
      refine st 35 (fun y5 h5 => ok_ine' (fun hf5 => bad ?_) fun hf5 => ok_bd (t_number _) fun r18 _ h18 => ok_ifnb (fun hfa => bad ?_) fun htr5 => ok_some ?_) fun h => ok_some (bodyS_ok ko ka kh h4 (.inl ⟨h, rfl⟩)).symm
      · rw [h5]
        refine bodyS_5 ?_
        unfold otcS
        rw [if_neg (fun k => hf5 k.1)]
      · rw [h5]
        refine bodyS_5 ?_
        unfold otcS
        rw [if_neg fun k => by rw [h18.1 k.2] at hfa; cases hfa]
      · have hz5 : ¬ numS y5.Data = 0 := fun k => by rw [h18.2 k] at htr5; cases htr5
        refine (bodyS_ok ko ka kh h4 (.inr ⟨y5, h5, ?_⟩)).symm
        unfold otcS
        rw [if_pos ⟨hf5, hz5⟩, h18.1 hz5]
    refine st 4 (fun y4 h4 => ok_ine' (fun hf4 => bad ?_) fun hf4 => ok_ifn (fun hl4 => bad ?_) fun hl4 => otc fun y hy => ?_) fun h => otc fun y hy => ?_
    · rw [h4]
      refine bodyS_4 ?_
      unfold medS
      exact decide_eq_false (fun k => hf4 k.1)
    · rw [h4]
      refine bodyS_4 ?_
      unfold medS
      exact decide_eq_false (fun k => hl4 (by have := k.2; omega))
    · rw [h4] at hy
      cases hy
      unfold medS
      exact decide_eq_true ⟨hf4, by omega⟩
    · rw [h] at hy; cases hy
end Go.Proofs.Ytkdodhkiemfpeaa
namespace Go.Proofs.Ytkdodhkiemfpeaa
open Go.RowKit
set_option linter.unusedVariables false
set_option linter.unusedSimpArgs false
set_option maxRecDepth 100000
set_option maxHeartbeats 2000000

def spoils (y : Attr) : Bool := decide ((y.Typ = 1 ∧ orgS y = none) ∨ (y.Typ = 2 ∧ pathS y = none) ∨ (y.Typ = 3 ∧ hopS y = none) ∨ (y.Typ = 4 ∧ medS y = false) ∨ (y.Typ = 35 ∧ otcS y = none))
def NoteI (F : List Attr) (nc ns : Int) (nd : List UInt8) : Prop :=
  match F.find? fatalB with
  | none => nc = 0 ∧ ns = 0 ∧ nd = []
  | some y => nc = 3 ∧ ns = 2 ∧ nd = (m_attr_Put [] y).getD []
structure RefV (F : List Attr) (v : Int × List Int × Int × Int × Bool × Int × Int × List UInt8) : Prop where
  sp : v.2.2.2.2.1 = F.any spoils
  o : v.2.2.2.2.1 = false → v.1 = ((look F 1).bind orgS).getD 0
  a : v.2.2.2.2.1 = false → v.2.1 = ((look F 2).bind pathS).getD []
  h : v.2.2.2.2.1 = false → v.2.2.1 = ((look F 3).bind hopS).getD 0
  c : v.2.2.2.2.1 = false → v.2.2.2.1 = ((look F 35).bind otcS).getD 0
  n : NoteI F v.2.2.2.2.2.1 v.2.2.2.2.2.2.1 v.2.2.2.2.2.2.2
theorem look_add (F : List Attr) (y : Attr) (t : Int) : look (F ++ [y]) t = (look F t).or (if y.Typ = t then some y else none) := by
  unfold look
  rw [List.find?_append, List.find?_cons]
  congr 1
  by_cases h : y.Typ = t
  · rw [decide_eq_true h, if_pos h]
  · rw [decide_eq_false h, if_neg h]; rfl
theorem look_other {F : List Attr} {y : Attr} {t : Int} (h : ¬ y.Typ = t) : look (F ++ [y]) t = look F t := by
  rw [look_add, if_neg h, Option.or_none]
theorem look_new {F : List Attr} {y : Attr} (h : look F y.Typ = none) : look (F ++ [y]) y.Typ = some y := by
  rw [look_add, h, if_pos rfl, Option.none_or]
theorem any_add (F : List Attr) (y : Attr) : (F ++ [y]).any spoils = (F.any spoils || spoils y) := by simp
theorem note_keep {F : List Attr} {y : Attr} {nc ns : Int} {nd : List UInt8} (h : NoteI F nc ns nd) (hf : fatalB y = false) : NoteI (F ++ [y]) nc ns nd := by
  unfold NoteI at h ⊢
  rw [List.find?_append, List.find?_cons, hf]
  cases hF : F.find? fatalB with
  | none => rw [hF] at h; exact h
  | some z => rw [hF] at h; exact h
theorem fatal_knownJ (y : Attr) (h : (1 ≤ y.Typ ∧ y.Typ ≤ 7) ∨ y.Typ = 35) : fatalB y = false := by
  have : m_attr_fatal y = some false := by
    refine ok_outJ ?_
    unfold m_attr_fatal
    refine ok_if (fun h1 => ok_if (fun h2 => ok_some rfl) fun h2 => ok_ifn (fun h3 => by omega) fun h3 => ok_some rfl) fun h1 => ok_ifn (fun h3 => by omega) fun h3 => ok_some rfl
  unfold fatalB
  rw [this]
  rfl
theorem fatal_otherJ (y : Attr) (h : ¬ (1 ≤ y.Typ ∧ y.Typ ≤ 7)) (h2 : ¬ y.Typ = 35) : fatalB y = decide ((IntKind.i64.wrap ((BitVec.ofInt IntKind.i64.bits y.Flags &&& BitVec.ofInt IntKind.i64.bits (128 : Int)).toNat : Int)) = (0 : Int)) := by
  have : m_attr_fatal y = some (decide ((IntKind.i64.wrap ((BitVec.ofInt IntKind.i64.bits y.Flags &&& BitVec.ofInt IntKind.i64.bits (128 : Int)).toNat : Int)) = (0 : Int))) := by
    refine ok_outJ ?_
    unfold m_attr_fatal
    refine ok_if (fun h1 => ok_if (fun h2 => absurd ⟨h1, h2⟩ h) fun h3 => ok_ifn (fun _ => ok_some rfl) fun h3 => absurd h3 h2) fun h1 => ok_ifn (fun _ => ok_some rfl) fun h3 => absurd h3 h2
  unfold fatalB
  rw [this]
  rfl
theorem spoils_if (y : Attr) (b : Bool) (h : ((y.Typ = 1 ∧ orgS y = none) ∨ (y.Typ = 2 ∧ pathS y = none) ∨ (y.Typ = 3 ∧ hopS y = none) ∨ (y.Typ = 4 ∧ medS y = false) ∨ (y.Typ = 35 ∧ otcS y = none)) ↔ b = true) : spoils y = b := by
  unfold spoils
  rw [Bool.eq_iff_iff, decide_eq_true_eq]
  exact h
section
variable {F : List Attr} {y : Attr} {o : Int} {a : List Int} {h c : Int} {sp : Bool} {nc ns : Int} {nd : List UInt8}
theorem or_false {x b : Bool} (h : (x || b) = false) : x = false ∧ b = false := by cases x <;> cases b <;> simp_all
theorem add1 (v : RefV F (o, a, h, c, sp, nc, ns, nd)) (hn : look F y.Typ = none) (ht : y.Typ = 1) {o' : Int} {b : Bool} (hb : orgS y = none ↔ b = true) (ho : b = false → o' = (orgS y).getD 0) : RefV (F ++ [y]) (o', a, h, c, sp || b, nc, ns, nd) := by
  obtain ⟨v1, v2, v3, v4, v5, v6⟩ := v
  have hs : spoils y = b := spoils_if y b (by simp only [ht]; simp [hb])
  refine ⟨?_, fun k => ?_, fun k => ?_, fun k => ?_, fun k => ?_, note_keep v6 (fatal_knownJ y (.inl (by omega)))⟩
  · dsimp only at v1 ⊢; rw [any_add, hs, v1]
  · dsimp only at k ⊢
    rw [← ht, look_new hn]
    exact ho (or_false k).2
  · rw [look_other (by omega)]; exact v3 (or_false k).1
  · rw [look_other (by omega)]; exact v4 (or_false k).1
  · rw [look_other (by omega)]; exact v5 (or_false k).1
theorem add2 (v : RefV F (o, a, h, c, sp, nc, ns, nd)) (hn : look F y.Typ = none) (ht : y.Typ = 2) {a' : List Int} {b : Bool} (hb : pathS y = none ↔ b = true) (ho : b = false → a' = (pathS y).getD []) : RefV (F ++ [y]) (o, a', h, c, sp || b, nc, ns, nd) := by
  obtain ⟨v1, v2, v3, v4, v5, v6⟩ := v
  have hs : spoils y = b := spoils_if y b (by simp only [ht]; simp [hb])
  refine ⟨?_, fun k => ?_, fun k => ?_, fun k => ?_, fun k => ?_, note_keep v6 (fatal_knownJ y (.inl (by omega)))⟩
  · dsimp only at v1 ⊢; rw [any_add, hs, v1]
  · rw [look_other (by omega)]; exact v2 (or_false k).1
  · dsimp only at k ⊢
    rw [← ht, look_new hn]
    exact ho (or_false k).2
  · rw [look_other (by omega)]; exact v4 (or_false k).1
  · rw [look_other (by omega)]; exact v5 (or_false k).1
theorem add3 (v : RefV F (o, a, h, c, sp, nc, ns, nd)) (hn : look F y.Typ = none) (ht : y.Typ = 3) {h' : Int} {b : Bool} (hb : hopS y = none ↔ b = true) (ho : b = false → h' = (hopS y).getD 0) : RefV (F ++ [y]) (o, a, h', c, sp || b, nc, ns, nd) := by
  obtain ⟨v1, v2, v3, v4, v5, v6⟩ := v
  have hs : spoils y = b := spoils_if y b (by simp only [ht]; simp [hb])
  refine ⟨?_, fun k => ?_, fun k => ?_, fun k => ?_, fun k => ?_, note_keep v6 (fatal_knownJ y (.inl (by omega)))⟩
  · dsimp only at v1 ⊢; rw [any_add, hs, v1]
  · rw [look_other (by omega)]; exact v2 (or_false k).1
  · rw [look_other (by omega)]; exact v3 (or_false k).1
  · dsimp only at k ⊢
    rw [← ht, look_new hn]
    exact ho (or_false k).2
  · rw [look_other (by omega)]; exact v5 (or_false k).1
theorem add4 (v : RefV F (o, a, h, c, sp, nc, ns, nd)) (ht : y.Typ = 4) {b : Bool} (hb : medS y = false ↔ b = true) : RefV (F ++ [y]) (o, a, h, c, sp || b, nc, ns, nd) := by
  obtain ⟨v1, v2, v3, v4, v5, v6⟩ := v
  have hs : spoils y = b := spoils_if y b (by simp only [ht]; simp [hb])
  refine ⟨?_, fun k => ?_, fun k => ?_, fun k => ?_, fun k => ?_, note_keep v6 (fatal_knownJ y (.inl (by omega)))⟩
  · dsimp only at v1 ⊢; rw [any_add, hs, v1]
  · rw [look_other (by omega)]; exact v2 (or_false k).1
  · rw [look_other (by omega)]; exact v3 (or_false k).1
  · rw [look_other (by omega)]; exact v4 (or_false k).1
  · rw [look_other (by omega)]; exact v5 (or_false k).1
theorem add5 (v : RefV F (o, a, h, c, sp, nc, ns, nd)) (hn : look F y.Typ = none) (ht : y.Typ = 35) {c' : Int} {b : Bool} (hb : otcS y = none ↔ b = true) (ho : b = false → c' = (otcS y).getD 0) : RefV (F ++ [y]) (o, a, h, c', sp || b, nc, ns, nd) := by
  obtain ⟨v1, v2, v3, v4, v5, v6⟩ := v
  have hs : spoils y = b := spoils_if y b (by simp only [ht]; simp [hb])
  refine ⟨?_, fun k => ?_, fun k => ?_, fun k => ?_, fun k => ?_, note_keep v6 (fatal_knownJ y (.inr ht))⟩
  · dsimp only at v1 ⊢; rw [any_add, hs, v1]
  · rw [look_other (by omega)]; exact v2 (or_false k).1
  · rw [look_other (by omega)]; exact v3 (or_false k).1
  · rw [look_other (by omega)]; exact v4 (or_false k).1
  · dsimp only at k ⊢
    rw [← ht, look_new hn]
    exact ho (or_false k).2
theorem add0 (v : RefV F (o, a, h, c, sp, nc, ns, nd)) (h1 : ¬ y.Typ = 1) (h2 : ¬ y.Typ = 2) (h3 : ¬ y.Typ = 3) (h4 : ¬ y.Typ = 4) (h5 : ¬ y.Typ = 35) {nc' ns' : Int} {nd' : List UInt8} (hn : NoteI (F ++ [y]) nc' ns' nd') : RefV (F ++ [y]) (o, a, h, c, sp, nc', ns', nd') := by
  obtain ⟨v1, v2, v3, v4, v5, v6⟩ := v
  have hs : spoils y = false := spoils_if y false (by simp [h1, h2, h3, h4, h5])
  refine ⟨?_, fun k => ?_, fun k => ?_, fun k => ?_, fun k => ?_, hn⟩
  · dsimp only at v1 ⊢; rw [any_add, hs, v1, Bool.or_false]
  · rw [look_other h1]; exact v2 k
  · rw [look_other h2]; exact v3 k
  · rw [look_other h3]; exact v4 k
  · rw [look_other h5]; exact v5 k
end
theorem note_new {F : List Attr} {y : Attr} {ns : Int} {nd : List UInt8} (h : NoteI F 0 ns nd) (hf : fatalB y = true) : NoteI (F ++ [y]) 3 2 ((m_attr_Put [] y).getD []) := by
  unfold NoteI at h ⊢
  cases hF : F.find? fatalB with
  | none =>
    rw [List.find?_append, hF, List.find?_cons, hf]
    exact ⟨rfl, rfl, rfl⟩
  | some z => rw [hF] at h; exact absurd h.1 (by decide)
theorem note_old {F : List Attr} {y : Attr} {nc ns : Int} {nd : List UInt8} (h : NoteI F nc ns nd) (h0 : ¬ nc = 0) : NoteI (F ++ [y]) nc ns nd := by
  unfold NoteI at h ⊢
  cases hF : F.find? fatalB with
  | none => rw [hF] at h; exact absurd h.1 h0
  | some z =>
    rw [hF] at h
    rw [List.find?_append, hF, Option.some_or]
    exact h
theorem any_typ (F : List Attr) (t : Int) : (F.any fun z => decide (z.Typ = t)) = (F.map fun z => z.Typ).any fun x => decide (x = t) := by
  rw [List.any_map]; rfl
theorem t_seen {Q : Path × Int × Note → Prop} {step : Int → (Int → Option (Path × Int × Note)) → (Unit → Option (Path × Int × Note)) → Option (Path × Int × Note)} (S : List Int) (t : Int) (k : Bool → Option (Path × Int × Note))
    (hst : ∀ (i : Int) nx, step i nx (fun _ => k false) = bif decide (i < (S.length : Int)) then bd (ix S i) fun y => bif decide (y = t) then k true else nx (IntKind.i64.wrap (i + (1 : Int))) else k false) (hl : S.length ≤ 100000)
    (hk : ∀ b, b = (S.any fun x => decide (x = t)) → Ok (k b) Q) : Ok (loopC step (fun _ => k false) BIG 0) Q := by
  refine ok_idx S.length (fun i => ∀ j (h : j < S.length), j < i → ¬ S[j] = t) (by omega) (fun j h hj => absurd hj (Nat.not_lt_zero _)) (fun i hi hI nx hnx => ?_) (fun hI nx => ?_)
  · rw [hst]
    refine ok_if (fun _ => ok_ix (by omega) (by omega) fun _ => ?_) fun h => by omega
    simp only [Int.toNat_natCast]
    refine ok_if (fun h => hk true ?_) fun h => hnx fun j hj hji => ?_
    · symm
      exact List.any_eq_true.2 ⟨_, List.getElem_mem hi, decide_eq_true h⟩
    · rcases Nat.lt_succ_iff_lt_or_eq.1 hji with g | rfl
      · exact hI j hj g
      · exact h
  · rw [hst]
    refine ok_if (fun h => by omega) fun _ => hk false ?_
    symm
    rw [List.any_eq_false]
    intro x hx
    obtain ⟨i, h, rfl⟩ := List.getElem_of_mem hx
    simpa using hI i h h
theorem byte_org (y : Attr) (ht : fl y = 64) (h1 : y.Data.length = 1) {b : UInt8} (hb : ix y.Data 0 = some b) : y.Data = [b] := by
  match hy : y.Data, h1 with
  | [x], _ => rw [hy, ix_eq] at hb; cases hb; rfl
theorem ref_judge (l : List Attr) (hl : l.length ≤ 10000) (hd : ∀ y ∈ l, y.Data.length ≤ 5000) : m_ridgewayref07_Judge l = some (judgeS l) := by
  refine ok_outJ ?_
  unfold m_ridgewayref07_Judge
  refine ok_acc' l.length (fun i st => st.2.2.2.2.1 = (firsts (l.take i)).map (fun y => y.Typ) ∧ RefV (firsts (l.take i)) (st.1, st.2.1, st.2.2.1, st.2.2.2.1, st.2.2.2.2.2)) (by omega) ⟨rfl, ⟨rfl, fun _ => rfl, fun _ => rfl, fun _ => rfl, fun _ => rfl, ⟨rfl, rfl, rfl⟩⟩⟩ (fun i st hi hI nx hnx => ?_) (fun st hI nx => ?_)
  · obtain ⟨o, a, h, c, S, sp, nc, ns, nd⟩ := st
    obtain ⟨hS, hv⟩ := hI
    dsimp only at hS hv hnx
    have hf := firsts_take l i hi
    have hmem := hd _ (List.getElem_mem hi)
    have hFl := firsts_len (l.take i)
    rw [List.length_take] at hFl
    rw [s_ridgewayref07_Judge1]
    have hix : ix l (i : Int) = some l[i] := ix_nat hi
    generalize l[i] = y at hf hmem hix
    generalize hF : firsts (l.take i) = F at hS hv hf hFl
    have hSl : S.length ≤ 100000 := by rw [hS, List.length_map]; omega
    dsimp only
    refine ok_if (fun _ => ok_bde hix ?_) fun h => absurd (Int.ofNat_lt.2 hi) h
    refine ok_jn (fun b => b = F.any fun z => decide (z.Typ = y.Typ)) (fun k hk => t_seen S y.Typ k (fun i nx => rfl) hSl fun b hb => hk b (by rw [hb, hS, any_typ])) fun b hb => ?_
    subst hb
    refine ok_ifnb (fun hnew => ?_) fun hold => hnx _ ⟨?_, ?_⟩
    rotate_left
    · have e1 : firsts (l.take (i + 1)) = F := by rw [hf]; unfold addF; rw [if_pos hold]
      rw [e1]; exact hS
    · have e1 : firsts (l.take (i + 1)) = F := by rw [hf]; unfold addF; rw [if_pos hold]
      rw [e1]; exact hv
    have e1 : firsts (l.take (i + 1)) = F ++ [y] := by rw [hf]; unfold addF; rw [if_neg (by rw [hnew]; decide)]
    have hn : look F y.Typ = none := by
      have := has_look F y.Typ
      rw [hnew] at this
      cases h : look F y.Typ with
      | none => rfl
      | some z => rw [h] at this; cases this
    refine ok_bde hix (ok_ap (by simp only [List.length_cons, List.length_nil]; omega) (by simp only [List.length_cons, List.length_nil]; omega) (ok_bde hix (ok_jn (fun j => RefV (F ++ [y]) j) (fun k108 hk => ?_) fun j hj => hnx _ ⟨by rw [e1, hS, List.map_append]; rfl, by rw [e1]; exact hj⟩)))
    have kp : ∀ {v : Int × List Int × Int × Int × Bool × Int × Int × List UInt8}, RefV (F ++ [y]) v → Ok (k108 v) _ := fun hv => hk _ hv
    have tr : ∀ s : Bool, (s || true) = true := fun s => Bool.or_true s
    have fa : ∀ s : Bool, (s || false) = s := fun s => Bool.or_false s
    refine ok_if (fun t1 => ?_) fun t1 => ok_if (fun t2 => ?_) fun t2 => ok_if (fun t3 => ?_) fun t3 => ok_if (fun t4 => ?_) fun t4 => ok_if (fun t5 => ?_) fun t5 => ?_
    · -- origin
      have bad : ¬ (fl y = 64 ∧ y.Data.length = 1 ∧ (y.Data.headD 0).toNat ≤ 2) → ∀ o', RefV (F ++ [y]) (o', a, h, c, true, nc, ns, nd) := fun hno o' => by
        have := add1 (o' := o') (b := true) hv hn t1 (by unfold orgS; rw [if_neg hno]; simp) (fun k => Bool.noConfusion k)
        rwa [tr] at this
      have two : (¬ (fl y = 64 ∧ y.Data.length = 1 ∧ (y.Data.headD 0).toNat ≤ 2)) → Ok (bif decide ((y.Data.length : Int) > (0 : Int)) then bd (ix y.Data (0 : Int)) fun y7 => k108 ((IntKind.i64.wrap (y7.toNat : Int)), a, h, c, true, nc, ns, nd) else k108 (o, a, h, c, true, nc, ns, nd)) _ := fun hno => ok_if (fun hp => ok_ix (by decide) (by omega) fun _ => kp (bad hno _)) fun _ => kp (bad hno _)
      refine ok_if (fun hfl => ok_if (fun hl1 => ?_) fun hl1 => two fun k => hl1 (by have := k.2.1; omega)) fun hfl => two fun k => hfl k.1
      have hfl : fl y = 64 := hfl
      have hl1 : y.Data.length = 1 := by omega
      obtain ⟨b, hb⟩ : ∃ b, ix y.Data 0 = some b := ⟨_, ix_some (by decide) (List.getElem?_eq_getElem (by omega : (0 : Int).toNat < y.Data.length))⟩
      have hy := byte_org y hfl hl1 hb
      have hb256 := b.toNat_lt
      have hw : IntKind.i64.wrap (b.toNat : Int) = b.toNat := w64 (by omega) (by omega)
      refine ok_bde hb (ok_jn (fun x => x = (sp || !decide ((b.toNat : Int) ≤ 2))) (fun k hk2 => ok_ifn (fun h2 => hk2 _ ?_) fun h2 => hk2 _ ?_) fun x hx => ok_if (fun _ => ok_bde hb (kp ?_)) fun h0 => absurd (by omega) h0)
      · rw [decide_eq_false h2]; exact (tr sp).symm
      · rw [decide_eq_true h2]; exact (fa sp).symm
      · subst hx
        refine add1 hv hn t1 ?_ fun hok => ?_
        · unfold orgS
          rw [hy]
          by_cases h2 : (b.toNat : Int) ≤ 2
          · rw [if_pos ⟨hfl, rfl, (by show b.toNat ≤ 2; omega)⟩, decide_eq_true h2]
            simp
          · rw [if_neg (fun k => h2 (by have := k.2.2; show (b.toNat : Int) ≤ 2; dsimp only [List.headD] at this; omega)), decide_eq_false h2]
            simp
        · have h2 : (b.toNat : Int) ≤ 2 := by simpa using hok
          unfold orgS
          rw [hy, if_pos ⟨hfl, rfl, (by show b.toNat ≤ 2; omega)⟩, hw]
          rfl
    · -- ASes
      have hases := ases_eq y.Data (by omega)
      refine ok_bde hases ?_
      cases hA : asS y.Data with
      | none =>
        have hb : pathS y = none := by unfold pathS; split <;> first | exact hA | rfl
        have v' := fun a' => add2 (a' := a') (b := true) hv hn t2 (by rw [hb]; simp) (fun k => Bool.noConfusion k)
        simp only [tr] at v'
        exact ok_if (fun _ => ok_jn (fun x => x = true) (fun k hk2 => ok_ifnb (fun _ => hk2 _ rfl) fun q => Bool.noConfusion q) fun x hx => by subst hx; exact kp (v' _)) fun _ => kp (v' _)
      | some L =>
        refine ok_if (fun hfl => ok_jn (fun x => x = sp) (fun k hk2 => ok_ifnb (fun q => Bool.noConfusion q) fun _ => hk2 _ rfl) fun x hx => ?_) fun hfl => kp ?_
        · subst hx
          have hb : pathS y = some L := by unfold pathS; rw [if_pos (show fl y = 64 from hfl)]; exact hA
          have v' := add2 (a' := L) (b := false) hv hn t2 (by rw [hb]; simp) (fun k => by rw [hb]; rfl)
          rw [fa] at v'
          exact kp v'
        · have hb : pathS y = none := by unfold pathS; rw [if_neg (show ¬ fl y = 64 from hfl)]
          have v' := add2 (a' := L) (b := true) hv hn t2 (by rw [hb]; simp) (fun k => Bool.noConfusion k)
          rwa [tr] at v'
    · -- next hop
      have h4 := four_eq y.Data
      have hnn := numS_nonneg y.Data
      refine ok_if (fun hfl => ok_bde h4 (ok_jn (fun x => x = (sp || !decide (numS y.Data > 0))) (fun k hk2 => ok_ifn (fun h2 => hk2 _ ?_) fun h2 => hk2 _ ?_) fun x hx => ok_bde h4 (kp ?_))) fun hfl => ok_bde h4 (kp ?_)
      · rw [decide_eq_false h2]; exact (tr sp).symm
      · rw [decide_eq_true h2]; exact (fa sp).symm
      · subst hx
        have hfl : fl y = 64 := hfl
        refine add3 hv hn t3 ?_ fun hok => ?_
        · unfold hopS
          by_cases h2 : numS y.Data > 0
          · rw [if_pos ⟨hfl, by omega⟩, decide_eq_true h2]; simp
          · rw [if_neg (fun k => k.2 (by omega)), decide_eq_false h2]; simp
        · have h2 : numS y.Data > 0 := by simpa using hok
          unfold hopS
          rw [if_pos ⟨hfl, by omega⟩]
          rfl
      · have hb : hopS y = none := by unfold hopS; rw [if_neg (fun k => hfl k.1)]
        have v' := add3 (h' := numS y.Data) (b := true) hv hn t3 (by rw [hb]; simp) (fun k => Bool.noConfusion k)
        rwa [tr] at v'
    · -- the fourth
      refine ok_if (fun hfl => ok_jn (fun x => x = (sp || !decide ((y.Data.length : Int) = 4))) (fun k hk2 => ok_ifn (fun h2 => hk2 _ ?_) fun h2 => hk2 _ ?_) fun x hx => kp ?_) fun hfl => kp ?_
      · rw [decide_eq_false h2]; exact (tr sp).symm
      · rw [decide_eq_true h2]; exact (fa sp).symm
      · subst hx
        refine add4 hv t4 ?_
        unfold medS
        rw [decide_eq_false_iff_not, Bool.not_eq_true', decide_eq_false_iff_not]
        exact ⟨fun k k2 => k ⟨hfl, by omega⟩, fun k k2 => k (by have := k2.2; omega)⟩
      · have v' := add4 (b := true) hv t4 (by
          unfold medS
          rw [decide_eq_false_iff_not]
          exact ⟨fun _ => rfl, fun _ k => hfl k.1⟩)
        rwa [tr] at v'
    · -- only to customers
      have h4 := four_eq y.Data
      have hnn := numS_nonneg y.Data
      refine ok_if (fun hfl => ok_bde h4 (ok_jn (fun x => x = (sp || !decide (numS y.Data > 0))) (fun k hk2 => ok_ifn (fun h2 => hk2 _ ?_) fun h2 => hk2 _ ?_) fun x hx => ok_bde h4 (kp ?_))) fun hfl => ok_bde h4 (kp ?_)
      · rw [decide_eq_false h2]; exact (tr sp).symm
      · rw [decide_eq_true h2]; exact (fa sp).symm
      · subst hx
        have hfl : fl y = 192 := hfl
        refine add5 hv hn t5 ?_ fun hok => ?_
        · unfold otcS
          by_cases h2 : numS y.Data > 0
          · rw [if_pos ⟨hfl, by omega⟩, decide_eq_true h2]; simp
          · rw [if_neg (fun k => k.2 (by omega)), decide_eq_false h2]; simp
        · have h2 : numS y.Data > 0 := by simpa using hok
          unfold otcS
          rw [if_pos ⟨hfl, by omega⟩]
          rfl
      · have hb : otcS y = none := by unfold otcS; rw [if_neg (fun k => hfl k.1)]
        have v' := add5 (c' := numS y.Data) (b := true) hv hn t5 (by rw [hb]; simp) (fun k => Bool.noConfusion k)
        rwa [tr] at v'
    · -- the others
      refine ok_jn (fun x => x = decide (y.Typ = 5 ∨ y.Typ = 6 ∨ y.Typ = 7)) (fun k hk2 => ok_if (fun g => hk2 _ (decide_eq_true (.inl g)).symm) fun g5 => ok_if (fun g => hk2 _ (decide_eq_true (.inr (.inl g))).symm) fun g6 => hk2 _ (decide_eq_decide.2 (by omega))) fun x hx => ?_
      subst hx
      refine ok_if (fun g => kp (add0 hv t1 t2 t3 t4 t5 (note_keep hv.n (fatal_knownJ y (.inl (by omega)))))) fun g => ?_
      have hfo := fatal_otherJ y (by omega) t5
      refine ok_if (fun g1 => ok_if (fun g2 => ok_bde (x := (m_attr_Put [] y).getD []) ?_ (kp (add0 hv t1 t2 t3 t4 t5 (note_new (ns := ns) (nd := nd) ?_ ?_)))) fun g2 => kp (add0 hv t1 t2 t3 t4 t5 (note_old hv.n g2))) fun g1 => kp (add0 hv t1 t2 t3 t4 t5 (note_keep hv.n ?_))
      · rw [refPut_eq [] y (by simp) hmem]
        exact put_some y hmem
      · have := hv.n
        dsimp only at this
        rwa [g2] at this
      · rw [hfo]; exact decide_eq_true g1
      · rw [hfo]; exact decide_eq_false g1
  · obtain ⟨o, a, h, c, S, sp, nc, ns, nd⟩ := st
    rw [List.take_length] at hI
    obtain ⟨hS, hv⟩ := hI
    dsimp only at hS hv
    rw [s_ridgewayref07_Judge1]
    dsimp only
    refine ok_if (fun h => by omega) fun _ => ?_
    have hFl := firsts_len l
    have hSl : S.length ≤ 100000 := by rw [hS, List.length_map]; omega
    have hone := firsts_once l
    unfold judgeS
    generalize firsts l = F at hS hv hFl hone
    obtain ⟨v1, v2, v3, v4, v5, v6⟩ := hv
    dsimp only at v1 v2 v3 v4 v5 v6
    cases hF : F.find? fatalB with
    | some y =>
      unfold NoteI at v6
      rw [hF] at v6
      obtain ⟨rfl, rfl, rfl⟩ := v6
      exact ok_ine' (fun _ => ok_some rfl) fun h => absurd h (by decide)
    | none =>
      unfold NoteI at v6
      rw [hF] at v6
      obtain ⟨rfl, rfl, rfl⟩ := v6
      have bad : bodyF F = badR → Ok (some badR) (· = bodyF F) := fun h => ok_some h.symm
      have inF : ∀ {y : Attr}, y ∈ F → look F y.Typ = some y := fun {y} hy => by
        have := (mget_once y.Typ F hone y).2 ⟨hy, rfl⟩
        rwa [look_map] at this
      refine ok_ine' (fun h => absurd rfl h) fun _ => ok_ifb (fun hsp => bad ?_) fun hsp => ?_
      · rw [v1] at hsp
        obtain ⟨y, hy, hs⟩ := List.any_eq_true.1 hsp
        have hl := inF hy
        unfold spoils at hs
        unfold bodyF
        rcases of_decide_eq_true hs with ⟨t, k⟩ | ⟨t, k⟩ | ⟨t, k⟩ | ⟨t, k⟩ | ⟨t, k⟩ <;> rw [t] at hl <;> rw [hl]
        · exact bodyS_1 k
        · exact bodyS_2 k
        · exact bodyS_3 k
        · exact bodyS_4 k
        · exact bodyS_5 k
      have nosp : ∀ {y : Attr}, y ∈ F → spoils y = false := fun {y} hy => by
        rw [v1] at hsp
        have := List.any_eq_false.1 hsp y hy
        simpa using this
      have memL : ∀ {t : Int} {y : Attr}, look F t = some y → y ∈ F ∧ y.Typ = t := fun {t y} hy => ⟨List.mem_of_find?_eq_some hy, by simpa using List.find?_some hy⟩
      have seen : ∀ t : Int, (S.any fun x => decide (x = t)) = (look F t).isSome := fun t => by rw [has_look, hS, any_typ]
      refine ok_jn (fun b => b = (look F 1).isSome) (fun k hk => t_seen S 1 k (fun i nx => rfl) hSl fun b hb => hk b (by rw [hb, seen])) fun b1 hb1 => ok_ifnb (fun q => bad (bodyS_1 ?_)) fun q1 => ?_
      · rw [hb1] at q
        cases h : look F 1 with
        | none => rfl
        | some z => rw [h] at q; cases q
      refine ok_jn (fun b => b = (look F 2).isSome) (fun k hk => t_seen S 2 k (fun i nx => rfl) hSl fun b hb => hk b (by rw [hb, seen])) fun b2 hb2 => ok_ifnb (fun q => bad (bodyS_2 ?_)) fun q2 => ?_
      · rw [hb2] at q
        cases h : look F 2 with
        | none => rfl
        | some z => rw [h] at q; cases q
      refine ok_jn (fun b => b = (look F 3).isSome) (fun k hk => t_seen S 3 k (fun i nx => rfl) hSl fun b hb => hk b (by rw [hb, seen])) fun b3 hb3 => ok_ifnb (fun q => bad (bodyS_3 ?_)) fun q3 => ok_some ?_
      · rw [hb3] at q
        cases h : look F 3 with
        | none => rfl
        | some z => rw [h] at q; cases q
      rw [hb1] at q1
      rw [hb2] at q2
      rw [hb3] at q3
      obtain ⟨y1, e1⟩ := Option.isSome_iff_exists.1 q1
      obtain ⟨y2, e2⟩ := Option.isSome_iff_exists.1 q2
      obtain ⟨y3, e3⟩ := Option.isSome_iff_exists.1 q3
      have n1 := nosp (memL e1).1; have m1 := (memL e1).2
      have n2 := nosp (memL e2).1; have m2 := (memL e2).2
      have n3 := nosp (memL e3).1; have m3 := (memL e3).2
      unfold spoils at n1 n2 n3
      have n1 := of_decide_eq_false n1
      have n2 := of_decide_eq_false n2
      have n3 := of_decide_eq_false n3
      obtain ⟨x, hx⟩ : ∃ x, orgS y1 = some x := by
        cases h : orgS y1 with
        | none => exact absurd (.inl ⟨m1, h⟩) n1
        | some x => exact ⟨x, rfl⟩
      obtain ⟨L, hL⟩ : ∃ x, pathS y2 = some x := by
        cases h : pathS y2 with
        | none => exact absurd (.inr (.inl ⟨m2, h⟩)) n2
        | some x => exact ⟨x, rfl⟩
      obtain ⟨v, hv⟩ : ∃ x, hopS y3 = some x := by
        cases h : hopS y3 with
        | none => exact absurd (.inr (.inr (.inl ⟨m3, h⟩))) n3
        | some x => exact ⟨x, rfl⟩
      have ko : (look F 1).bind orgS = some x := by rw [e1]; exact hx
      have ka : (look F 2).bind pathS = some L := by rw [e2]; exact hL
      have kh : (look F 3).bind hopS = some v := by rw [e3]; exact hv
      rw [v2 hsp, v3 hsp, v4 hsp, v5 hsp, ko, ka, kh]
      refine (bodyS_ok (w := ((look F 35).bind otcS).getD 0) ko ka kh (fun y hy => ?_) ?_).symm
      · have n4 := of_decide_eq_false (nosp (memL hy).1)
        cases h : medS y with
        | true => rfl
        | false => exact absurd (.inr (.inr (.inr (.inl ⟨(memL hy).2, h⟩)))) n4
      · cases h5 : look F 35 with
        | none => exact .inl ⟨rfl, rfl⟩
        | some y =>
          have n5 := of_decide_eq_false (nosp (memL h5).1)
          cases h : otcS y with
          | none => exact absurd (.inr (.inr (.inr (.inr ⟨(memL h5).2, h⟩)))) n5
          | some w => exact .inr ⟨y, rfl, by rw [h]; simp [h]⟩
end Go.Proofs.Ytkdodhkiemfpeaa
namespace Go.Proofs.Ytkdodhkiemfpeaa
open Go.RowKit
set_option linter.unusedVariables false
set_option linter.unusedSimpArgs false
set_option maxRecDepth 100000
set_option maxHeartbeats 2000000

theorem segsF_len : ∀ (f : Nat) (b : List UInt8) (acc L : List Int), segsF f b acc = some L → L.length ≤ acc.length + b.length
  | 0, b, acc, L, h => by cases h
  | f + 1, [], acc, L, h => by rw [segsF] at h; cases h; simp
  | f + 1, [x], acc, L, h => by rw [segsF] at h; cases h
  | f + 1, x :: n :: r, acc, L, h => by
    rw [segsF] at h
    split at h
    · cases h
    · obtain ⟨p, hp, h⟩ := Option.bind_eq_some_iff.1 h
      have h1 := take4_len _ _ _ hp
      have h2 := segsF_len f p.1 p.2 L h
      rw [List.length_cons, List.length_cons]
      omega
theorem judgeS_len (l : List Attr) (hd : ∀ y ∈ l, y.Data.length ≤ 5000) : (judgeS l).1.As.length ≤ 10000 := by
  unfold judgeS
  split
  · exact Nat.zero_le _
  · unfold bodyF bodyS
    split
    · rename_i x L v h1 h2 h3
      have hL : L.length ≤ 10000 := by
        obtain ⟨y, hy, hp⟩ := Option.bind_eq_some_iff.1 h2
        have hdy := hd y (firsts_mem l y (List.mem_of_find?_eq_some hy))
        unfold pathS at hp
        split at hp
        · have := segsF_len _ _ _ _ hp
          simp at this
          omega
        · cases hp
      repeat' split
      all_goals first | exact hL | exact Nat.zero_le _
    · exact Nat.zero_le _
theorem note_same' (n : Note) : m_ridgewayref03_SameNote n n = some true := by
  refine ok_outJ ?_
  unfold m_ridgewayref03_SameNote
  exact ok_if (fun _ => ok_if (fun _ => ok_some (by simp)) fun h => absurd rfl h) fun h => absurd rfl h

/-- A judgement is of three kinds. -/
theorem judgeS_kind (l : List Attr) : ((judgeS l).2.1 = 2 ∧ ¬ (judgeS l).2.2.Code = 0) ∨ (((judgeS l).2.1 = 0 ∨ (judgeS l).2.1 = 1) ∧ (judgeS l).2.2 = ⟨0, 0, []⟩) := by
  unfold judgeS
  split
  · exact .inl ⟨rfl, by simp⟩
  · refine .inr ?_
    unfold bodyF bodyS
    repeat' split
    all_goals first | exact ⟨.inl rfl, rfl⟩ | exact ⟨.inr rfl, rfl⟩
theorem refTake_eq (l : List UInt8) (n : Int) : m_ridgewayref01_Take l n = some (takeR l n) := by
  refine ok_outk ?_
  unfold m_ridgewayref01_Take takeR
  refine ok_if (fun h => ok_some (by rw [if_neg (by omega)])) fun h => ok_if (fun h2 => ok_some (by rw [if_neg (by omega)])) fun h2 => ok_bde (sl_pre (by omega)) (ok_bde (sl_all (by omega)) (ok_some (by rw [if_pos (by omega)])))
theorem ref2_eq (l : List UInt8) : m_ridgewayref01_Get l 2 = m_octet_Get l 2 := by
  rw [octGet_eq l 2 (by omega) (by omega)]
  refine ok_outk ?_
  unfold m_ridgewayref01_Get
  refine ok_if (fun h => by omega) fun _ => ok_if (fun h => by omega) fun _ => ok_if (fun h => ok_some (by rw [if_neg (by omega)])) fun h => ?_
  rw [if_pos (by omega)]
  refine ok_acc 2 (fun i (v : Int) => v = (num (l.take i) : Int)) (by omega) rfl (fun i v hi hv nx hnx => ?_) (fun v hv nx => ?_)
  · rw [s_ridgewayref01_Get1]
    dsimp only
    refine ok_if (fun _ => ok_ix (by omega) (by omega) fun hlt => hnx _ ?_) fun h => by omega
    have hlt' : i < l.length := by omega
    have hn := num_lt (l.take i)
    have hl : (l.take i).length = i := by rw [List.length_take]; omega
    rw [hl] at hn
    have hb := (l[i]).toNat_lt
    have hs := num_step l i hlt'
    have : num (l.take i) < 256 := by
      have h01 : i = 0 ∨ i = 1 := by omega
      rcases h01 with rfl | rfl
      · simp [num]
      · simpa using hn
    subst hv
    simp only [Int.toNat_natCast]
    rw [w64 (x := _ * 256) (by omega) (by omega), w64 (x := ((_ : Nat) : Int)) (by omega) (by omega), w64 (by omega) (by omega)]
    omega
  · rw [s_ridgewayref01_Get1]
    dsimp only
    refine ok_if (fun h => by omega) fun _ => ok_bde (sl_all (by omega)) (ok_some ?_)
    subst hv
    rfl
theorem part_eq (l : List UInt8) : m_ridgewayref08_part l = m_update_counted l := by
  unfold m_ridgewayref08_part m_update_counted
  simp only [ref2_eq, refTake_eq, take_eq]
theorem t_counted (l : List UInt8) : Ok (m_update_counted l) fun c => c.1.length ≤ l.length ∧ c.2.1.length ≤ l.length := by
  unfold m_update_counted
  refine ok_bde (octGet_eq l 2 (by omega) (by omega)) (ok_ifnb (fun _ => ok_some ⟨Nat.zero_le _, Nat.zero_le _⟩) fun h => ok_bde (take_eq _ _) (ok_some ?_))
  by_cases hl : (2 : Int) ≤ l.length
  · rw [if_pos hl]
    unfold takeR
    dsimp only
    split
    · simp only [List.length_take, List.length_drop]
      omega
    · exact ⟨Nat.zero_le _, Nat.zero_le _⟩
  · rw [if_neg hl] at h
    cases h
def noX : Prefix × List UInt8 × Bool := (⟨0, 0⟩, [], false)
def sz8 (x : UInt8) : Nat := (x.toNat + 7) / 8
/-- The first prefix of octets, as both read it. -/
def firstX : List UInt8 → Prefix × List UInt8 × Bool
  | [] => noX
  | x :: t => if x.toNat ≤ 32 ∧ sz8 x ≤ t.length then (⟨lowCut ((num (t.take (sz8 x)) * 2 ^ (32 - 8 * sz8 x) : Nat) : Int) (x.toNat : Int), (x.toNat : Int)⟩, t.drop (sz8 x), true) else noX
theorem firstX_cons (x : UInt8) (t : List UInt8) : firstX (x :: t) = if x.toNat ≤ 32 ∧ sz8 x ≤ t.length then (⟨lowCut ((num (t.take (sz8 x)) * 2 ^ (32 - 8 * sz8 x) : Nat) : Int) (x.toNat : Int), (x.toNat : Int)⟩, t.drop (sz8 x), true) else noX := rfl
theorem firstX_len : ∀ (l : List UInt8), (firstX l).2.2 = true → (firstX l).2.1.length < l.length
  | [], h => by cases h
  | x :: t, h => by
    rw [firstX_cons] at h ⊢
    split
    · simp only [List.length_drop, List.length_cons]
      omega
    · rename_i hn
      rw [if_neg hn] at h
      cases h
theorem num_pow (l : List UInt8) (s : Nat) (hs : s ≤ 4) (h : l.length = s) : num l * 2 ^ (32 - 8 * s) < 4294967296 := by
  have := num_lt l
  rw [h] at this
  have h5 : s = 0 ∨ s = 1 ∨ s = 2 ∨ s = 3 ∨ s = 4 := by omega
  rcases h5 with rfl | rfl | rfl | rfl | rfl <;> simp at this ⊢ <;> omega
theorem getX (l : List UInt8) : m_prefix_Get l = some (firstX l) := by
  refine ok_outk ?_
  unfold m_prefix_Get
  match l with
  | [] =>
    refine ok_bde (octGet_eq [] 1 (by omega) (by omega)) ?_
    rw [if_neg (by simp)]
    exact ok_ifnb (fun _ => ok_some rfl) fun h => Bool.noConfusion h
  | x :: t =>
    have hx := x.toNat_lt
    rw [firstX_cons]
    refine ok_bde (get1c x t) (ok_ifnb (fun h => Bool.noConfusion h) fun _ => ok_if (fun h => ok_some (by dsimp only at h; rw [if_neg (by omega)]; rfl)) fun h => ok_bde (size_eq _ (by dsimp only; omega)) ?_)
    dsimp only at h ⊢
    have hsz : sizeP (x.toNat : Int) = ((sz8 x : Nat) : Int) := by unfold sizeP sz8; omega
    have h4 : sz8 x ≤ 4 := by unfold sz8; omega
    rw [hsz]
    refine ok_if (fun hz => ok_some ?_) fun hz => ok_bde (octGet_eq t _ (by omega) (by omega)) (ok_ifnb (fun k => ?_) fun k => ?_)
    · have h0 : sz8 x = 0 := by omega
      have hx0 : x.toNat = 0 := by unfold sz8 at h0; omega
      rw [if_pos (by omega), h0, hx0]
      simp [num, lowCut]
    · by_cases hl : ((sz8 x : Nat) : Int) ≤ t.length
      · rw [if_pos hl] at k; cases k
      · rw [if_neg (by omega)]
        exact ok_some rfl
    · by_cases hl : ((sz8 x : Nat) : Int) ≤ t.length
      · rw [if_pos hl, if_pos (by omega)]
        have hw : IntKind.i64.wrap ((32 : Int) - IntKind.i64.wrap ((8 : Int) * ((sz8 x : Nat) : Int))) = ((32 - 8 * sz8 x : Nat) : Int) := by
          rw [w64 (x := 8 * ((sz8 x : Nat) : Int)) (by omega) (by omega), w64 (by omega) (by omega)]
          omega
        have hm : min ((32 - 8 * sz8 x : Nat) : Int).toNat IntKind.i64.bits = 32 - 8 * sz8 x := by
          rw [Int.toNat_natCast]
          exact Nat.min_eq_left (show _ ≤ 64 by omega)
        have hnp := num_pow (t.take (sz8 x)) (sz8 x) h4 (by rw [List.length_take]; omega)
        rw [hw, nn_some (by omega), hm]
        dsimp only
        have hc : ((num (t.take ((sz8 x : Nat) : Int).toNat) : Nat) : Int) * 2 ^ (32 - 8 * sz8 x) = ((num (t.take (sz8 x)) * 2 ^ (32 - 8 * sz8 x) : Nat) : Int) := by
          rw [Int.toNat_natCast, Int.natCast_mul, Int.natCast_pow]
          rfl
        rw [hc, w64 (by omega) (by omega)]
        refine ok_bde (mask_val _ _ (by omega)) (ok_some ?_)
        rw [Int.toNat_natCast]
      · rw [if_neg hl] at k; cases k
theorem refX (l : List UInt8) : m_ridgewayref02_Get l = some (firstX l) := by
  refine ok_outk ?_
  unfold m_ridgewayref02_Get
  match l with
  | [] => exact ok_if (fun _ => ok_some rfl) fun h => absurd rfl h
  | x :: t =>
    have hx := x.toNat_lt
    have i0 : ix (x :: t) 0 = some x := ix_some (by omega) rfl
    have wx : IntKind.i64.wrap (x.toNat : Int) = (x.toNat : Int) := w64 (by omega) (by omega)
    rw [firstX_cons]
    refine ok_if (fun h => by simp at h; omega) fun _ => ok_bde i0 (ok_if (fun h => ok_some (by rw [if_neg (by omega)]; rfl)) fun h => ok_bde i0 ?_)
    have h4 : sz8 x ≤ 4 := by unfold sz8; omega
    have hs : IntKind.i64.wrap ((IntKind.i64.wrap ((IntKind.i64.wrap (x.toNat : Int)) + (7 : Int))).tdiv (8 : Int)) = ((sz8 x : Nat) : Int) := by
      rw [wx, w64 (x := (x.toNat : Int) + 7) (by omega) (by omega), Int.tdiv_eq_ediv_of_nonneg (by omega), w64 (by omega) (by omega)]
      unfold sz8
      omega
    have hs1 : IntKind.i64.wrap ((1 : Int) + ((sz8 x : Nat) : Int)) = ((sz8 x + 1 : Nat) : Int) := by rw [w64 (by omega) (by omega)]; omega
    rw [hs, hs1]
    refine ok_if (fun hl => ok_some (by rw [if_neg (by simp at hl; omega)]; rfl)) fun hl => ok_bde i0 ?_
    have hlt : sz8 x ≤ t.length := by simp at hl; omega
    rw [if_pos ⟨by omega, hlt⟩]
    refine ok_acc 4 (fun i (v : Int) => v = ((num (t.take (min i (sz8 x))) * 256 ^ (i - sz8 x) : Nat) : Int) ∧ v < 256 ^ i) (by omega) ⟨by simp [num], by simp [num]⟩ (fun i v hi hv nx hnx => ?_) (fun v hv nx => ?_)
    · obtain ⟨hv, hb⟩ := hv
      have hv0 : 0 ≤ v := by rw [hv]; exact Int.natCast_nonneg _
      have hb3 : v * 256 + 256 ≤ 256 ^ (i + 1) ∧ (256 : Int) ^ (i + 1) ≤ 4294967296 := by
        have h3 : i = 0 ∨ i = 1 ∨ i = 2 ∨ i = 3 := by omega
        rcases h3 with rfl | rfl | rfl | rfl <;> simp at hb ⊢ <;> omega
      rw [s_ridgewayref02_Get1, hs]
      dsimp only
      refine ok_if (fun _ => ok_if (fun h1 => ?_) fun h1 => hnx _ ?_) fun h => by omega
      · have hi1 : IntKind.i64.wrap ((1 : Int) + (i : Int)) = ((i + 1 : Nat) : Int) := by rw [w64 (by omega) (by omega)]; omega
        rw [hi1]
        refine ok_ix (by omega) (by rw [List.length_cons]; omega) fun hl2 => hnx _ ?_
        have hit : i < t.length := by omega
        have hy := (t[i]).toNat_lt
        have hst := num_step t i hit
        have he : (x :: t)[((i + 1 : Nat) : Int).toNat] = t[i] := by simp
        have hmin : min i (sz8 x) = i := by omega
        have hmin2 : min (i + 1) (sz8 x) = i + 1 := by omega
        have hsub : i - sz8 x = 0 := by omega
        have hsub2 : i + 1 - sz8 x = 0 := by omega
        rw [hmin, hsub, Nat.pow_zero, Nat.mul_one] at hv
        rw [he, hmin2, hsub2, Nat.pow_zero, Nat.mul_one, hst]
        rw [w64 (x := v * 256) (by omega) (by omega), w64 (x := ((t[i].toNat : Nat) : Int)) (by omega) (by omega), w64 (by omega) (by omega)]
        exact ⟨by omega, by omega⟩
      · have hmin : min i (sz8 x) = sz8 x := by omega
        have hmin2 : min (i + 1) (sz8 x) = sz8 x := by omega
        have hsub : i + 1 - sz8 x = (i - sz8 x) + 1 := by omega
        rw [hmin] at hv
        rw [hmin2, hsub, w64 (by omega) (by omega), Nat.pow_succ, ← Nat.mul_assoc, Int.natCast_mul, ← hv]
        exact ⟨rfl, by omega⟩
    · obtain ⟨hv, hb⟩ := hv
      rw [s_ridgewayref02_Get1]
      dsimp only
      refine ok_if (fun h => by omega) fun _ => ?_
      rw [hs, hs1]
      refine ok_bde (refTake_eq _ _) (ok_bde (refMask_eq _ _ (by rw [wx]; omega)) (ok_some ?_))
      unfold takeR
      rw [if_pos (by rw [List.length_cons]; omega), wx, hv, Int.toNat_natCast, List.drop_succ_cons]
      have hmin : min 4 (sz8 x) = sz8 x := by omega
      have h256 : 256 ^ (4 - sz8 x) = 2 ^ (32 - 8 * sz8 x) := by
        rw [show (256 : Nat) = 2 ^ 8 by decide, ← Nat.pow_mul]
        congr 1
        omega
      rw [hmin, h256]
/-- All prefixes of octets, as both read them. -/
def allX : Nat → List UInt8 → List Prefix → List Prefix × Bool
  | 0, l, acc => if l.length = 0 then (acc, true) else ([], false)
  | k + 1, l, acc => if l.length = 0 then (acc, true) else if (firstX l).2.2 = true then allX k (firstX l).2.1 (acc ++ [(firstX l).1]) else ([], false)
theorem allX_s (k : Nat) (l : List UInt8) (acc : List Prefix) : allX (k + 1) l acc = if l.length = 0 then (acc, true) else if (firstX l).2.2 = true then allX k (firstX l).2.1 (acc ++ [(firstX l).1]) else ([], false) := rfl
theorem allX_more : ∀ (k : Nat) (l : List UInt8) (acc : List Prefix), l.length ≤ k → allX (k + 1) l acc = allX k l acc
  | 0, l, acc, h => by
    have h0 : l.length = 0 := by omega
    unfold allX
    rw [if_pos h0, if_pos h0]
  | k + 1, l, acc, h => by
    rw [allX_s (k + 1) l acc, allX_s k l acc]
    split
    · rfl
    · split
      · rename_i hok
        have := firstX_len l hok
        exact allX_more k _ _ (by omega)
      · rfl
theorem t_allX (l : List UInt8) (hl : l.length ≤ 100000) : Ok (m_prefix_All l) fun r => r = allX l.length l [] ∧ r.1.length ≤ l.length := by
  unfold m_prefix_All
  refine ok_loop (fun st => allX l.length st.1 st.2 = allX l.length l [] ∧ st.1.length + st.2.length ≤ l.length) (fun st => st.1.length) ⟨rfl, by simp⟩ (by dsimp only; omega) fun st hst nx hnx => ?_
  obtain ⟨r, acc⟩ := st
  obtain ⟨he, hs⟩ := hst
  dsimp only at he hs hnx
  rw [s_prefix_All1]
  refine ok_bde (getX _) (ok_ifb (fun h => ?_) fun h => ok_if (fun h0 => ok_some ?_) fun h0 => ok_some ?_)
  · dsimp only at h ⊢
    have hlt := firstX_len r h
    refine ok_ap (by simp; omega) (by simp; omega) (hnx _ ⟨?_, by simp; omega⟩ (by dsimp only; omega))
    dsimp only
    rw [← he]
    obtain ⟨m, hm⟩ : ∃ m, l.length = m + 1 := ⟨l.length - 1, by omega⟩
    rw [hm, allX_more m _ _ (by omega)]
    conv => rhs; rw [allX]
    rw [if_neg (by omega), if_pos h]
  · dsimp only at h h0 ⊢
    rw [← he]
    obtain ⟨m, hm⟩ : ∃ m, l.length = m + 1 := ⟨l.length - 1, by omega⟩
    rw [hm, allX, if_neg (by omega), if_neg (by rw [h]; exact Bool.noConfusion)]
    exact ⟨rfl, Nat.zero_le _⟩
  · dsimp only at h h0 ⊢
    refine ⟨?_, by omega⟩
    rw [← he]
    cases hm : l.length with
    | zero => rw [allX, if_pos (by omega)]
    | succ m => rw [allX, if_pos (by omega)]
theorem refAllX (l : List UInt8) (hl : l.length ≤ 100000) : m_ridgewayref02_All l = some (allX l.length l []) := by
  refine ok_outk ?_
  unfold m_ridgewayref02_All
  refine ok_loop (fun st => allX l.length st.1 st.2 = allX l.length l [] ∧ st.1.length + st.2.length ≤ l.length) (fun st => st.1.length) ⟨rfl, by simp⟩ (by dsimp only; omega) fun st hst nx hnx => ?_
  obtain ⟨r, acc⟩ := st
  obtain ⟨he, hs⟩ := hst
  dsimp only at he hs hnx
  rw [s_ridgewayref02_All1]
  refine ok_if (fun h0 => ok_bde (refX _) (ok_ifnb (fun h => ok_some ?_) fun h => ?_)) fun h0 => ok_some ?_
  · dsimp only at h h0 ⊢
    rw [← he]
    obtain ⟨m, hm⟩ : ∃ m, l.length = m + 1 := ⟨l.length - 1, by omega⟩
    rw [hm, allX, if_neg (by omega), if_neg (by rw [h]; exact Bool.noConfusion)]
  · dsimp only at h h0 ⊢
    have hlt := firstX_len r h
    refine ok_ap (by simp; omega) (by simp; omega) (hnx _ ⟨?_, by simp; omega⟩ (by dsimp only; omega))
    dsimp only
    rw [← he]
    obtain ⟨m, hm⟩ : ∃ m, l.length = m + 1 := ⟨l.length - 1, by omega⟩
    rw [hm, allX_more m _ _ (by omega)]
    conv => rhs; rw [allX]
    rw [if_neg (by omega), if_pos h]
  · dsimp only at h0 ⊢
    rw [← he]
    cases hm : l.length with
    | zero => rw [allX, if_pos (by omega)]
    | succ m => rw [allX, if_pos (by omega)]
theorem firstB_dat (x y : UInt8) (n : Nat) (t : List UInt8) : (firstB x y n t).1.Data.length ≤ t.length := by
  unfold firstB
  split
  · simp only [List.length_take]; omega
  · exact Nat.zero_le _
theorem first_dat : ∀ (l : List UInt8), (firstA l).1.Data.length ≤ l.length
  | [] => Nat.zero_le _
  | [_] => Nat.zero_le _
  | [_, _] => Nat.zero_le _
  | x :: y :: z :: t => by
    by_cases hb : b16 (x.toNat : Int) = 0
    · rw [firstA_0 hb]
      have := firstB_dat x y z.toNat t
      simp only [List.length_cons]
      omega
    · match t with
      | [] => rw [firstA_n hb]; exact Nat.zero_le _
      | u :: t =>
        rw [firstA_1 hb]
        have := firstB_dat x y (z.toNat * 256 + u.toNat) t
        simp only [List.length_cons]
        omega
theorem t_all2 (l : List UInt8) (hl : l.length ≤ 100000) : Ok (m_attr_All l) fun r => r.1.length ≤ l.length ∧ ∀ y ∈ r.1, y.Data.length ≤ l.length := by
  unfold m_attr_All
  refine ok_loop (fun st => st.1.length + st.2.length ≤ l.length ∧ ∀ y ∈ st.2, y.Data.length ≤ l.length) (fun st => st.1.length) ⟨by simp, fun y hy => by cases hy⟩ (by dsimp only; omega) fun st hst nx hnx => ?_
  obtain ⟨hst, hdat⟩ := hst
  rw [s_attr_All1]
  refine ok_if (fun h => ok_bde (get_first _) (ok_ifnb (fun _ => ok_some ⟨Nat.zero_le _, fun y hy => by cases hy⟩) fun h2 => ?_)) fun _ => ok_some ⟨by dsimp only; omega, hdat⟩
  have := first_len _ h2
  have hd1 := first_dat st.1
  refine ok_ap (by simp; omega) (by simp; omega) (hnx _ ⟨by simp; omega, fun y hy => ?_⟩ (by dsimp only; omega))
  rcases List.mem_append.1 hy with hy | hy
  · exact hdat y hy
  · rw [List.mem_singleton.1 hy]
    omega
end Go.Proofs.Ytkdodhkiemfpeaa
namespace Go.Proofs.Ytkdodhkiemfpeaa
open Go.RowKit
set_option linter.unusedVariables false
set_option linter.unusedSimpArgs false
set_option maxRecDepth 100000
set_option maxHeartbeats 4000000

theorem progSane_eq (m : Msg) (hT : m.Typ = 2) (hl : m.Body.length ≤ 1000000) : m_msg_Sane m = some (decide (4 ≤ m.Body.length ∧ m.Body.length ≤ 4077)) := by
  refine ok_outk ?_
  unfold m_msg_Sane m_msg_wrong m_msg_Least
  have hw : IntKind.i64.wrap ((19 : Int) + (m.Body.length : Int)) = 19 + (m.Body.length : Int) := w64 (by omega) (by omega)
  have h23 : IntKind.i64.wrap ((4 : Int) + (19 : Int)) = 23 := w64 (by omega) (by omega)
  rw [hT, hw, h23]
  rw [decide_eq_false (show ¬ (2 : Int) = 1 by decide), decide_eq_true (show (2 : Int) = 2 by decide), decide_eq_false (show ¬ (2 : Int) = 4 by decide)]
  simp only [cond_true, cond_false, bd_some]
  refine ok_if (fun _ => ?_) fun h => absurd (by decide) h
  by_cases h4 : 4 ≤ m.Body.length
  · rw [decide_eq_false (by omega)]
    simp only [cond_false, bd_some]
    exact ok_ifnb (fun _ => ok_some (decide_eq_decide.2 (by omega))) fun h => Bool.noConfusion h
  · rw [decide_eq_true (by omega)]
    simp only [cond_true, bd_some]
    exact ok_ifnb (fun h => Bool.noConfusion h) fun _ => ok_some (by rw [decide_eq_false (by omega)])
theorem refSaneM_eq (m : Msg) (hT : m.Typ = 2) (hl : m.Body.length ≤ 1000000) : m_ridgewayref03_Sane m = some (decide (4 ≤ m.Body.length ∧ m.Body.length ≤ 4077)) := by
  refine ok_outk ?_
  unfold m_ridgewayref03_Sane m_ridgewayref03_fits m_ridgewayref03_Least
  have hw : IntKind.i64.wrap ((m.Body.length : Int) + (19 : Int)) = (m.Body.length : Int) + 19 := w64 (by omega) (by omega)
  rw [hT, hw]
  rw [decide_eq_false (show ¬ (2 : Int) = 1 by decide), decide_eq_true (show (2 : Int) = 2 by decide), decide_eq_true (show ¬ (2 : Int) = 4 by decide)]
  simp only [cond_true, cond_false, bd_some]
  refine ok_bd (P := (· = decide (4 ≤ m.Body.length ∧ m.Body.length ≤ 4077))) (ok_if (fun _ => ok_if (fun h1 => ok_if (fun h2 => ok_some ?_) fun h2 => ok_some ?_) fun h1 => ok_some ?_) fun h => absurd (by decide) h) fun b _ hb => ok_some hb
  · rw [decide_eq_true (by omega)]
  · rw [decide_eq_false (by omega)]
  · rw [decide_eq_false (by omega)]
def badN (s : Int) : News × Note := (⟨[], ⟨0, [], 0, 0⟩, []⟩, ⟨3, s, []⟩)
theorem get_both (m : Msg) (hl : m.Body.length ≤ 5000) : Ok (m_update_Get m) fun r => m_ridgewayref08_Get m = some r ∧ r.1.Gone.length ≤ 20000 ∧ r.1.Nlri.length ≤ 20000 ∧ r.1.P.As.length ≤ 10000 := by
  have bads : ∀ s, m_ridgewayref08_bad s = some (badN s) := fun s => rfl
  unfold m_update_Get
  refine ok_ine (fun hT => ok_some ⟨?_, Nat.zero_le _, Nat.zero_le _, Nat.zero_le _⟩) fun hT => ?_
  · unfold m_ridgewayref08_Get
    rw [decide_eq_true hT, cond_true, bads, bd_some]
    rfl
  have sP := progSane_eq m hT (by omega)
  have sR := refSaneM_eq m hT (by omega)
  obtain ⟨c2, e2, l2⟩ := t_counted m.Body
  obtain ⟨c3, e3, l3⟩ := t_counted c2.2.1
  have e2' := (part_eq m.Body).trans e2
  have e3' := (part_eq c2.2.1).trans e3
  obtain ⟨P4, e4, x4, l4⟩ := t_allX c2.1 (by omega)
  obtain ⟨P5, e5, x5, l5⟩ := t_allX c3.2.1 (by omega)
  have e4' := refAllX c2.1 (by omega)
  have e5' := refAllX c3.2.1 (by omega)
  rw [← x4] at e4'
  rw [← x5] at e5'
  obtain ⟨A, e6, l6, d6⟩ := t_all2 c3.1 (by omega)
  have e6' := (all_same c3.1).trans e6
  have e7 := judge_eq A.1 (by omega) (fun y hy => by have := d6 y hy; omega)
  have e7' := ref_judge A.1 (by omega) (fun y hy => by have := d6 y hy; omega)
  have hjl := judgeS_len A.1 (fun y hy => by have := d6 y hy; omega)
  have hjk := judgeS_kind A.1
  generalize judgeS A.1 = J at e7 e7' hjl hjk
  have href : m_ridgewayref08_Get m = bif (!(decide (4 ≤ m.Body.length ∧ m.Body.length ≤ 4077))) then some (badN 1) else bif (!c2.2.2) then some (badN 1) else bif (!c3.2.2) then some (badN 1) else bif (!P4.2) then some (badN 10) else bif (!P5.2) then some (badN 10) else bif A.2 then (bif decide (J.2.1 = (2 : Int)) then some (⟨[], ⟨0, [], 0, 0⟩, []⟩, J.2.2) else bif decide ((P5.1.length : Int) = (0 : Int)) then some (⟨P4.1, ⟨0, [], 0, 0⟩, []⟩, ⟨0, 0, []⟩) else bif decide (J.2.1 = (1 : Int)) then bd (ap 16 P4.1 P5.1) fun y14 => some (⟨y14, ⟨0, [], 0, 0⟩, []⟩, ⟨0, 0, []⟩) else some (⟨P4.1, J.1, P5.1⟩, ⟨0, 0, []⟩)) else (bif decide ((P5.1.length : Int) = (0 : Int)) then some (⟨P4.1, ⟨0, [], 0, 0⟩, []⟩, ⟨0, 0, []⟩) else bd (ap 16 P4.1 P5.1) fun y15 => some (⟨y15, ⟨0, [], 0, 0⟩, []⟩, ⟨0, 0, []⟩)) := by
    unfold m_ridgewayref08_Get
    rw [decide_eq_false (fun h => h hT), cond_false, sR]
    simp only [bd_some, bads, e2', e3', e4', e5', e6', e7']
  have hap : ap 16 P4.1 P5.1 = some (P4.1 ++ P5.1) := ap_some (by omega) (by omega)
  rw [href]
  refine ok_bde sP (ok_ifnb (fun hs => ok_some ⟨by rw [hs]; rfl, Nat.zero_le _, Nat.zero_le _, Nat.zero_le _⟩) fun hs => ?_)
  rw [hs]
  refine ok_bde e2 (ok_bde e3 (ok_ifnb (fun h2 => ok_some ⟨by rw [h2]; rfl, Nat.zero_le _, Nat.zero_le _, Nat.zero_le _⟩) fun h2 => ok_ifnb (fun h3 => ok_some ⟨by rw [h2, h3]; rfl, Nat.zero_le _, Nat.zero_le _, Nat.zero_le _⟩) fun h3 => ?_))
  rw [h2, h3]
  refine ok_bde e4 (ok_bde e5 (ok_ifnb (fun h4 => ok_some ⟨by rw [h4]; rfl, Nat.zero_le _, Nat.zero_le _, Nat.zero_le _⟩) fun h4 => ok_ifnb (fun h5 => ok_some ⟨by rw [h4, h5]; rfl, Nat.zero_le _, Nat.zero_le _, Nat.zero_le _⟩) fun h5 => ?_))
  rw [h4, h5]
  simp only [Bool.not_true, cond_false]
  refine ok_bde e6 (ok_jn (fun j => j = if A.2 = true then (J.2.1, J.1.Origin, J.1.As, J.1.Hop, J.1.Otc, J.2.2.Code, J.2.2.Sub, J.2.2.Data) else (1, 0, [], 0, 0, 0, 0, [])) (fun k hk => ok_ifb (fun h6 => ok_bde e7 (hk _ (by rw [if_pos h6]))) fun h6 => hk _ (by rw [if_neg (by rw [h6]; exact Bool.noConfusion)])) fun j hj => ?_)
  subst hj
  by_cases h6 : A.2 = true
  · rw [if_pos h6, h6]
    simp only [cond_true]
    rcases hjk with ⟨k2, kc⟩ | ⟨k01, kn⟩
    · rw [decide_eq_true k2, cond_true]
      exact ok_ine (fun _ => ok_some ⟨rfl, Nat.zero_le _, Nat.zero_le _, Nat.zero_le _⟩) fun h => absurd h kc
    · rw [decide_eq_false (show ¬ J.2.1 = 2 by omega), cond_false, kn]
      refine ok_ine (fun h => absurd rfl h) fun _ => ok_if (fun h0 => ok_some ⟨by rw [decide_eq_true h0]; rfl, by dsimp only; omega, Nat.zero_le _, Nat.zero_le _⟩) fun h0 => ?_
      rw [decide_eq_false h0, cond_false]
      refine ok_ine (fun h1 => ok_bde hap (ok_some ⟨?_, by dsimp only; rw [List.length_append]; omega, Nat.zero_le _, Nat.zero_le _⟩)) fun h1 => ok_some ⟨?_, by dsimp only; omega, by dsimp only; omega, hjl⟩
      · rw [decide_eq_true (show J.2.1 = 1 by omega), cond_true, hap, bd_some]
      · rw [decide_eq_false (show ¬ J.2.1 = 1 by omega), cond_false]
  · have h6' : A.2 = false := by cases h : A.2 with | false => rfl | true => exact absurd h h6
    rw [if_neg h6, h6']
    simp only [cond_false]
    refine ok_ine (fun h => absurd trivial h) fun _ => ok_if (fun h0 => ok_some ⟨by rw [decide_eq_true h0]; rfl, by dsimp only; omega, Nat.zero_le _, Nat.zero_le _⟩) fun h0 => ?_
    rw [decide_eq_false h0, cond_false]
    refine ok_ine (fun h1 => ok_bde hap (ok_some ⟨?_, by dsimp only; rw [List.length_append]; omega, Nat.zero_le _, Nat.zero_le _⟩)) fun h1 => absurd h1 (by decide)
    rw [hap, bd_some]
theorem sameX_refl (l : List Prefix) (h : l.length ≤ 100000) : m_ridgewayref02_Same l l = some true := by
  refine ok_outk ?_
  unfold m_ridgewayref02_Same
  refine ok_ine (fun h => absurd rfl h) fun _ => ok_idx l.length (fun _ => True) (by omega) trivial (fun i hi _ nx hnx => ?_) (fun _ nx => ?_)
  · rw [s_ridgewayref02_Same1]
    exact ok_if (fun _ => ok_ix (by omega) (by omega) fun _ => ok_ix (by omega) (by omega) fun _ => ok_ifnb (fun h => by simp at h) fun _ => hnx trivial) fun h => by omega
  · rw [s_ridgewayref02_Same1]
    exact ok_if (fun h => by omega) fun _ => ok_some rfl
theorem sameMsg (x : Msg) : m_ridgewayref03_Same x x = some true := by
  unfold m_ridgewayref03_Same
  rw [decide_eq_true rfl, cond_true, beq_self_eq_true]
theorem updateIs_true (n : News) (m : Msg) (_hb : m.Body.length ≤ 9223372036854775807) : m_ridgewaylaw08_UpdateIs n m = some true := by
  refine ok_true ?_
  unfold m_ridgewaylaw08_UpdateIs m_ridgewayref08_Few
  refine ok_bde law08_awake ?_
  have few : Ok (bif decide ((n.Gone.length : Int) ≤ (40 : Int)) then bif decide ((n.Nlri.length : Int) ≤ (40 : Int)) then some (decide ((n.P.As.length : Int) ≤ (300 : Int))) else some false else some false) fun b => b = true → n.Gone.length ≤ 40 ∧ n.Nlri.length ≤ 40 ∧ n.P.As.length ≤ 300 :=
    ok_if (fun h1 => ok_if (fun h2 => ok_some fun h => by have := of_decide_eq_true h; omega) fun _ => ok_some fun h => Bool.noConfusion h) fun _ => ok_some fun h => Bool.noConfusion h
  refine ok_bd few fun b _ hb => ok_ifnb (fun _ => ok_some rfl) fun h => ok_if (fun _ => ok_some rfl) fun hbody => ?_
  obtain ⟨hg, hn, hp⟩ := hb h
  obtain ⟨r, er, er', rg, rn, ra⟩ := get_both m (by omega)
  refine ok_bde er (ok_bde er' (ok_ifb (fun _ => ?_) fun h => Bool.noConfusion h))
  have hsame : m_ridgewayref08_Same r.1 r.1 = some true := by
    refine ok_outk ?_
    unfold m_ridgewayref08_Same
    exact ok_bde (sameX_refl _ (by omega)) (ok_ifb (fun _ => ok_bde (same_refl _ (by omega)) (ok_ifb (fun _ => ok_bde (sameX_refl _ (by omega)) (ok_some rfl)) fun h => Bool.noConfusion h)) fun h => Bool.noConfusion h)
  refine ok_bde hsame (ok_ifb (fun _ => ok_bde (note_same' _) (ok_ifb (fun _ => ?_) fun h => Bool.noConfusion h)) fun h => Bool.noConfusion h)
  obtain ⟨s, es, hs⟩ := t_uSane n (by omega) (by omega) (by omega)
  obtain ⟨t, et, ht⟩ := t_refNews n (by omega) (by omega) (by omega)
  refine ok_bde es (ok_bde et ?_)
  by_cases hok : NewsOk n
  · have e1 := hs.2 hok
    have e2 := ht.2 hok
    subst e1 e2
    exact ok_ifb (fun _ => ok_bde (uPut_eq n hg hn hp hok).1 (ok_bde (refPutN_eq n hg hn hp hok) (ok_bde (sameMsg _) (ok_some rfl)))) fun h => by simp at h
  · have e1 : s = false := by cases s with | false => rfl | true => exact absurd (hs.1 rfl) hok
    have e2 : t = false := by cases t with | false => rfl | true => exact absurd (ht.1 rfl) hok
    subst e1 e2
    have p1 : m_update_Put n = some ⟨0, []⟩ := by
      unfold m_update_Put
      rw [es, bd_some]
      rfl
    have p2 : m_ridgewayref08_Put n = some ⟨0, []⟩ := by
      unfold m_ridgewayref08_Put
      rw [et, bd_some]
      rfl
    exact ok_ifb (fun _ => ok_bde p1 (ok_bde p2 (ok_bde (sameMsg _) (ok_some rfl)))) fun h => by simp at h
end Go.Proofs.Ytkdodhkiemfpeaa
