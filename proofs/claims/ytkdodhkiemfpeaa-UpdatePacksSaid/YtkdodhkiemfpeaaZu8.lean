/- What the models come to. -/
import Derived.Test.YtkdodhkiemfpeaaWords
import Derived.Test.YtkdodhkiemfpeaaNum
import Derived.Test.YtkdodhkiemfpeaaMo
import Derived.Test.YtkdodhkiemfpeaaMu8
import Derived.KernelRfl
namespace Go.Proofs.Ytkdodhkiemfpeaa
set_option linter.unusedVariables false
set_option linter.unusedSimpArgs false

/-- The number that octets are. -/
def num : List UInt8 → Nat := fun l => l.foldl (fun v x => v * 256 + x.toNat) 0
theorem num_snoc (l : List UInt8) (x : UInt8) : num (l ++ [x]) = num l * 256 + x.toNat := by simp [num]
theorem num_step (l : List UInt8) (j : Nat) (h : j < l.length) : num (l.take (j + 1)) = num (l.take j) * 256 + l[j].toNat := by
  rw [List.take_succ_eq_append_getElem h, num_snoc]
theorem num_lt (l : List UInt8) : num l < 256 ^ l.length := by
  suffices h : ∀ (m : Nat) (l : List UInt8), l.length = m → num l < 256 ^ m from h _ l rfl
  intro m
  induction m with
  | zero => intro l h; rw [List.eq_nil_of_length_eq_zero h]; simp [num]
  | succ m ih =>
    intro l h
    obtain ⟨l', x, rfl⟩ : ∃ l' x, l = l' ++ [x] := ⟨l.dropLast, l.getLast (by intro e; simp [e] at h), (List.dropLast_concat_getLast _).symm⟩
    have := ih l' (by simpa using h)
    have hx := x.toNat_lt
    rw [num_snoc, Nat.pow_succ]
    omega

/-- Octet number j of a number, from the low end. -/
def octAt (v : Int) (j : Nat) : UInt8 := UInt8.ofNat ((v / (2 : Int) ^ (8 * j)) % 256).toNat
/-- The k octets of a number. -/
def putL (v : Int) (k : Nat) : List UInt8 := (List.range k).map fun i => octAt v (k - 1 - i)

theorem bv_octAt (v : Int) (j : Nat) : bv (octAt v j) = .int .u8 (v / (2 : Int) ^ (8 * j) % 256) := by
  have h1 := Int.emod_nonneg (v / (2 : Int) ^ (8 * j)) (show (256 : Int) ≠ 0 by decide)
  have h2 := Int.emod_lt_of_pos (v / (2 : Int) ^ (8 * j)) (show (0 : Int) < 256 by decide)
  unfold bv octAt
  rw [show (UInt8.ofNat (v / 2 ^ (8 * j) % 256).toNat).toNat = (v / 2 ^ (8 * j) % 256).toNat from by rw [UInt8.toNat_ofNat']; omega]
  congr 1
  omega
theorem putL_length (v : Int) (k : Nat) : (putL v k).length = k := by simp [putL]
theorem putL_step (v : Int) (k j : Nat) (h : j < k) : (putL v k).take (j + 1) = (putL v k).take j ++ [octAt v (k - 1 - j)] := by
  rw [List.take_succ_eq_append_getElem (by rw [putL_length]; exact h)]
  simp [putL]

theorem octAt_div (v : Int) (i j : Nat) : octAt (v / 2 ^ (8 * i)) j = octAt v (i + j) := by
  unfold octAt
  rw [Int.ediv_ediv, if_neg (by have := Int.pow_pos (n := 2) (m := 8 * i) (by decide); omega), Int.sub_zero, ← Int.pow_add, Nat.mul_add]
theorem putL_4 (v : Int) : [] ++ putL v 4 = [] ++ putL (v / 65536) 2 ++ putL v 2 := by
  have h := octAt_div v 2
  rw [show (2 : Int) ^ (8 * 2) = 65536 by decide] at h
  simp [putL, List.range_succ, h]
theorem putL_3 (v : Int) : putL v 3 = [] ++ putL (v / 65536) 1 ++ putL (v / 256) 1 ++ putL v 1 := by
  have h := octAt_div v 2
  have h' := octAt_div v 1
  rw [show (2 : Int) ^ (8 * 2) = 65536 by decide] at h
  rw [show (2 : Int) ^ (8 * 1) = 256 by decide] at h'
  simp [putL, List.range_succ, h, h']

theorem putL_num (l : List UInt8) : putL (num l : Nat) l.length = l := by
  suffices h : ∀ (m : Nat) (l : List UInt8), l.length = m → ∀ (x : Int), putL (x * 256 ^ m + (num l : Nat)) m = l by
    have := h _ l rfl 0
    simpa using this
  intro m
  induction m with
  | zero => intro l h x; rw [List.eq_nil_of_length_eq_zero h]; rfl
  | succ m ih =>
    intro l h x
    obtain ⟨l', y, rfl⟩ : ∃ l' y, l = l' ++ [y] := ⟨l.dropLast, l.getLast (by intro e; simp [e] at h), (List.dropLast_concat_getLast _).symm⟩
    have hl : l'.length = m := by simpa using h
    have hy := y.toNat_lt
    have ih' := ih l' hl x
    have e0 : (x * 256 ^ (m + 1) + (num (l' ++ [y]) : Nat)) / (2 : Int) ^ (8 * 1) = x * 256 ^ m + (num l' : Nat) := by
      rw [num_snoc, Int.pow_succ]
      have : x * (256 ^ m * 256) + ((num l' * 256 + y.toNat : Nat) : Int) = (x * 256 ^ m + (num l' : Nat)) * 256 + (y.toNat : Int) := by
        rw [← Int.mul_assoc]
        generalize x * 256 ^ m = X
        omega
      rw [this, show (2 : Int) ^ (8 * 1) = 256 by decide]
      omega
    have e1 : octAt (x * 256 ^ (m + 1) + (num (l' ++ [y]) : Nat)) 0 = y := by
      unfold octAt
      rw [num_snoc, Int.pow_succ]
      have : x * (256 ^ m * 256) + ((num l' * 256 + y.toNat : Nat) : Int) = (x * 256 ^ m + (num l' : Nat)) * 256 + (y.toNat : Int) := by
        rw [← Int.mul_assoc]
        generalize x * 256 ^ m = X
        omega
      rw [this]
      have : (((x * 256 ^ m + (num l' : Nat)) * 256 + (y.toNat : Int)) / 2 ^ (8 * 0) % 256).toNat = y.toNat := by
        simp only [Nat.mul_zero, Int.pow_zero, Int.ediv_one]
        omega
      rw [this]
      exact UInt8.ofNat_toNat
    refine Eq.trans ?_ (congrArg (· ++ [y]) ih')
    unfold putL
    rw [List.range_succ, List.map_append, List.map_singleton]
    congr 1
    · apply List.map_congr_left
      intro i hi
      rw [List.mem_range] at hi
      rw [show m + 1 - 1 - i = 1 + (m - 1 - i) by omega, ← octAt_div _ 1, e0]
    · rw [show m + 1 - 1 - m = 0 by omega, e1]

theorem num_putL (v : Int) : ∀ k : Nat, ((num (putL v k) : Nat) : Int) = v % (256 : Int) ^ k := by
  intro k
  induction k generalizing v with
  | zero => simp [putL, num]
  | succ k ih =>
    have e : putL v (k + 1) = putL (v / 256) k ++ [octAt v 0] := by
      unfold putL
      rw [List.range_succ, List.map_append, List.map_singleton]
      congr 1
      · apply List.map_congr_left
        intro i hi
        rw [List.mem_range] at hi
        rw [show k + 1 - 1 - i = 1 + (k - 1 - i) by omega, ← octAt_div _ 1, show (2 : Int) ^ (8 * 1) = 256 by decide]
      · rw [show k + 1 - 1 - k = 0 by omega]
    have e0 : ((octAt v 0).toNat : Int) = v % 256 := by
      have := bv_octAt v 0
      unfold bv at this
      injection this with _ h
      simpa using h
    rw [e, num_snoc, Int.natCast_add, Int.natCast_mul, ih, e0, Int.pow_succ, Int.mul_comm ((256 : Int) ^ k) 256]
    have hp : (0 : Int) < 256 ^ k := Int.pow_pos (by decide)
    generalize (256 : Int) ^ k = p at *
    have h1 := Int.emod_add_mul_ediv v (256 * p)
    have h2 := Int.emod_add_mul_ediv (v / 256) p
    have h3 : v / (256 * p) = v / 256 / p := by rw [Int.ediv_ediv, if_neg (by omega), Int.sub_zero]
    rw [h3, Int.mul_assoc] at h1
    generalize v / 256 / p = q at *
    generalize p * q = r at *
    omega

end Go.Proofs.Ytkdodhkiemfpeaa
namespace Go.Proofs.Ytkdodhkiemfpeaa
open Go.RowKit
set_option linter.unusedVariables false
set_option linter.unusedSimpArgs false

/-- A loop comes to what its rounds come to. -/
theorem loopC_ind {σ ε R : Type} {step : σ → (σ → Option R) → (ε → Option R) → Option R} {bk : ε → Option R} {out : Option R} (I : σ → Prop) (μ : σ → Nat)
    (hstep : ∀ s, I s → ∀ nx : σ → Option R, (∀ s', I s' → μ s' < μ s → nx s' = out) → step s nx bk = out) : ∀ (n : Nat) (s : σ), I s → μ s < n → loopC step bk n s = out
  | 0, s, _, h => absurd h (Nat.not_lt_zero _)
  | n + 1, s, hI, h => by
    rw [loopC_succ]
    exact hstep s hI _ fun s' h1 h2 => loopC_ind I μ hstep n s' h1 (by omega)
theorem big_lt {n : Nat} (h : n ≤ 1180591620717411303000) : n < BIG := by
  unfold BIG
  omega
theorem ix_some {α : Type} {xs : List α} {i : Int} {y : α} (h0 : 0 ≤ i) (h : xs[i.toNat]? = some y) : ix xs i = some y := by
  rw [ix_eq, if_pos h0, h]
theorem ix_nat {α : Type} {xs : List α} {i : Nat} (h : i < xs.length) : ix xs (i : Int) = some xs[i] :=
  ix_some (by omega) (by rw [Int.toNat_natCast, List.getElem?_eq_getElem h])
theorem ap_some {α : Type} {b : Nat} {xs ys : List α} (h : (xs.length + ys.length) * b ≤ 140737488355328) (h2 : xs.length + ys.length ≤ 140737488355328) : ap b xs ys = some (xs ++ ys) := by
  rw [ap_eq, if_pos ⟨h, by unfold maxLen; omega⟩]
theorem sl_some {α : Type} {xs : List α} {lo hi : Int} (h : 0 ≤ lo ∧ lo ≤ hi ∧ hi ≤ xs.length) : sl xs lo hi = some ((xs.take hi.toNat).drop lo.toNat) := by
  rw [sl_eq, if_pos h]
theorem sl_all {α : Type} {xs : List α} {lo : Int} (h : 0 ≤ lo ∧ lo ≤ xs.length) : sl xs lo xs.length = some (xs.drop lo.toNat) := by
  rw [sl_some (by omega), Int.toNat_natCast, List.take_length]
theorem sl_pre {α : Type} {xs : List α} {hi : Int} (h : 0 ≤ hi ∧ hi ≤ xs.length) : sl xs 0 hi = some (xs.take hi.toNat) := by
  rw [sl_some (by omega)]
  rfl
theorem nn_some {R : Type} {b : Int} {m : Option R} (h : 0 ≤ b) : nn b m = m := by rw [nn_eq, if_neg (by omega)]
theorem nz_some {R : Type} {b : Int} {m : Option R} (h : b ≠ 0) : nz b m = m := by rw [nz_eq, if_neg h]
theorem w64 {x : Int} (h1 : -9223372036854775808 ≤ x) (h2 : x ≤ 9223372036854775807) : IntKind.i64.wrap x = x := wrap64 h1 h2
theorem u8wrap_eq (x : Int) : IntKind.u8.wrap x = x % 256 := by
  simp only [IntKind.wrap, IntKind.signed, IntKind.bits, Bool.false_and, Bool.false_eq_true, if_false]
  rfl
theorem toB_toNat (x : Int) (h : 0 ≤ x ∧ x < 256) : (toB x).toNat = x.toNat := by
  have := toB_of h
  omega
end Go.Proofs.Ytkdodhkiemfpeaa
namespace Go.Proofs.Ytkdodhkiemfpeaa
open Go.RowKit
set_option linter.unusedVariables false
set_option linter.unusedSimpArgs false

/-- A walk along a list: what each element makes of the rest. -/
def walk {α R : Type} (F : Nat → α → R → R) (e : R) : Nat → List α → R
  | _, [] => e
  | i, x :: xs => F i x (walk F e (i + 1) xs)
theorem w64s {i : Nat} (h : i ≤ 140737488355328) : IntKind.i64.wrap ((i : Int) + 1) = ((i + 1 : Nat) : Int) := by
  rw [w64 (by omega) (by omega)]
  rfl
/-- A loop whose state is where it stands in a list. -/
theorem loop_idx {α ε R : Type} (l : List α) (F : Nat → α → Option R → Option R) (e : Option R) {step : Int → (Int → Option R) → (ε → Option R) → Option R} {bk : ε → Option R} (hl : l.length ≤ 140737488355328)
    (hs : ∀ (i : Nat) (h : i < l.length) (nx : Int → Option R), step (i : Int) nx bk = F i l[i] (nx (IntKind.i64.wrap ((i : Int) + 1))))
    (he : ∀ nx, step (l.length : Int) nx bk = e) : loopC step bk BIG 0 = walk F e 0 l := by
  suffices h : ∀ (m n i : Nat), i + m = l.length → m < n → loopC step bk n (i : Int) = walk F e i (l.drop i) from by
    have := h l.length BIG 0 (by omega) (big_lt (by omega))
    simpa using this
  intro m
  induction m with
  | zero =>
    intro n i hi hn
    obtain ⟨k, rfl⟩ : ∃ k, n = k + 1 := ⟨n - 1, by omega⟩
    rw [loopC_succ, List.drop_eq_nil_of_le (by omega), show i = l.length by omega, he]
    rfl
  | succ m ih =>
    intro n i hi hn
    obtain ⟨k, rfl⟩ : ∃ k, n = k + 1 := ⟨n - 1, by omega⟩
    rw [loopC_succ, hs i (by omega), w64s (by omega), ih k (i + 1) (by omega) (by omega), List.drop_eq_getElem_cons (by omega : i < l.length)]
    rfl
/-- The same, with what was gathered so far. -/
def walkA {α β R : Type} (F : Nat → α → (β → R) → β → R) (e : β → R) : Nat → List α → β → R
  | _, [], b => e b
  | i, x :: xs, b => F i x (walkA F e (i + 1) xs) b
theorem loop_acc {α β ε R : Type} (l : List α) (F : Nat → α → (β → Option R) → β → Option R) (e : β → Option R) {step : β × Int → (β × Int → Option R) → (ε → Option R) → Option R} {bk : ε → Option R} (b0 : β) (I : Nat → β → Prop) (hI0 : I 0 b0) (hl : l.length ≤ 140737488355328)
    (hs : ∀ (i : Nat) (h : i < l.length) (b : β) (nx nx' : β → Option R), I i b → (∀ b', I (i + 1) b' → nx b' = nx' b') → ∀ go : β × Int → Option R, (∀ b', go (b', IntKind.i64.wrap ((i : Int) + 1)) = nx b') → step (b, (i : Int)) go bk = F i l[i] nx' b)
    (he : ∀ b nx, I l.length b → step (b, (l.length : Int)) nx bk = e b) : loopC step bk BIG (b0, 0) = walkA F e 0 l b0 := by
  suffices h : ∀ (m n i : Nat) (b : β), I i b → i + m = l.length → m < n → loopC step bk n (b, (i : Int)) = walkA F e i (l.drop i) b from by
    have := h l.length BIG 0 b0 hI0 (by omega) (big_lt (by omega))
    simpa using this
  intro m
  induction m with
  | zero =>
    intro n i b hb hi hn
    obtain ⟨k, rfl⟩ : ∃ k, n = k + 1 := ⟨n - 1, by omega⟩
    obtain rfl : i = l.length := by omega
    rw [loopC_succ, List.drop_eq_nil_of_le (by omega), he b _ hb]
    rfl
  | succ m ih =>
    intro n i b hb hi hn
    obtain ⟨k, rfl⟩ : ∃ k, n = k + 1 := ⟨n - 1, by omega⟩
    rw [loopC_succ, List.drop_eq_getElem_cons (by omega : i < l.length)]
    refine hs i (by omega) b (fun b' => loopC step bk k (b', ((i + 1 : Nat) : Int))) (walkA F e (i + 1) (l.drop (i + 1))) hb (fun b' hb' => ih k (i + 1) b' hb' (by omega) (by omega)) _ fun b' => ?_
    rw [w64s (by omega)]
end Go.Proofs.Ytkdodhkiemfpeaa
namespace Go.Proofs.Ytkdodhkiemfpeaa
open Go.RowKit
set_option linter.unusedVariables false
set_option linter.unusedSimpArgs false

/-- A model comes to an answer of which Q holds. -/
def Ok {α : Type} (m : Option α) (Q : α → Prop) : Prop := ∃ x, m = some x ∧ Q x
section
variable {α β R τ : Type} {Q : R → Prop}
theorem ok_some {x : R} (h : Q x) : Ok (some x) Q := ⟨x, rfl, h⟩
theorem ok_eq {m : Option R} {x : R} (h : m = some x) (k : Q x) : Ok m Q := ⟨x, h, k⟩
theorem ok_mono {m : Option R} {Q' : R → Prop} (h : Ok m Q') (k : ∀ x, Q' x → Q x) : Ok m Q := by
  obtain ⟨x, e, q⟩ := h
  exact ⟨x, e, k x q⟩
theorem ok_bd {m : Option α} {k : α → Option R} {P : α → Prop} (h : Ok m P) (h2 : ∀ x, m = some x → P x → Ok (k x) Q) : Ok (bd m k) Q := by
  obtain ⟨x, e, p⟩ := h
  rw [e, bd_some]
  exact h2 x e p
theorem ok_bde {m : Option α} {k : α → Option R} {x : α} (h : m = some x) (h2 : Ok (k x) Q) : Ok (bd m k) Q := by
  rw [h, bd_some]
  exact h2
theorem ok_if {p : Prop} {_ : Decidable p} {A B : Option R} (h1 : p → Ok A Q) (h2 : ¬ p → Ok B Q) : Ok (bif decide p then A else B) Q := by
  by_cases hp : p
  · rw [decide_eq_true hp]; exact h1 hp
  · rw [decide_eq_false hp]; exact h2 hp
theorem ok_ifn {p : Prop} {_ : Decidable p} {A B : Option R} (h1 : ¬ p → Ok A Q) (h2 : p → Ok B Q) : Ok (bif !decide p then A else B) Q := by
  by_cases hp : p
  · rw [decide_eq_true hp]; exact h2 hp
  · rw [decide_eq_false hp]; exact h1 hp
theorem ok_ifb {b : Bool} {A B : Option R} (h1 : b = true → Ok A Q) (h2 : b = false → Ok B Q) : Ok (bif b then A else B) Q := by
  cases b
  · exact h2 rfl
  · exact h1 rfl
theorem ok_ifnb {b : Bool} {A B : Option R} (h1 : b = false → Ok A Q) (h2 : b = true → Ok B Q) : Ok (bif !b then A else B) Q := by
  cases b
  · exact h1 rfl
  · exact h2 rfl
theorem ok_ix {xs : List α} {i : Int} {k : α → Option R} (h0 : 0 ≤ i) (h1 : i < xs.length) (h : ∀ (hlt : i.toNat < xs.length), Ok (k xs[i.toNat]) Q) : Ok (bd (ix xs i) k) Q :=
  ok_bde (ix_some h0 (List.getElem?_eq_getElem (by omega))) (h (by omega))
theorem ok_ap {b : Nat} {xs ys : List α} {k : List α → Option R} (h : (xs.length + ys.length) * b ≤ 140737488355328) (h2 : xs.length + ys.length ≤ 140737488355328) (hk : Ok (k (xs ++ ys)) Q) : Ok (bd (ap b xs ys) k) Q :=
  ok_bde (ap_some h h2) hk
theorem ok_jn {i : Nat} {f : (τ → Option R) → Option R} {k : τ → Option R} (J : τ → Prop) (h2 : ∀ k', (∀ j, J j → Ok (k' j) Q) → Ok (f k') Q) (h1 : ∀ j, J j → Ok (k j) Q) : Ok (jn i f k) Q := by
  rw [jn_eq]
  exact h2 k h1
theorem ok_jn' {i : Nat} {f : (τ → Option R) → Option R} {k : τ → Option R} (h : Ok (f k) Q) : Ok (jn i f k) Q := by
  rw [jn_eq]
  exact h
/-- A loop whose rounds keep I, and count down. -/
theorem ok_loop {σ ε : Type} {step : σ → (σ → Option R) → (ε → Option R) → Option R} {bk : ε → Option R} {s0 : σ} (I : σ → Prop) (μ : σ → Nat) (h0 : I s0) (hm : μ s0 ≤ 1180591620717411303000)
    (hs : ∀ s, I s → ∀ nx : σ → Option R, (∀ s', I s' → μ s' < μ s → Ok (nx s') Q) → Ok (step s nx bk) Q) : Ok (loopC step bk BIG s0) Q := by
  suffices h : ∀ (n : Nat) (s : σ), I s → μ s < n → Ok (loopC step bk n s) Q from h BIG s0 h0 (big_lt hm)
  intro n
  induction n with
  | zero => intro s _ h; omega
  | succ n ih =>
    intro s hI h
    rw [loopC_succ]
    exact hs s hI _ fun s' h1 h2 => ih s' h1 (by omega)
/-- A loop over the places of a list. -/
theorem ok_idx {ε : Type} {step : Int → (Int → Option R) → (ε → Option R) → Option R} {bk : ε → Option R} (n : Nat) (I : Nat → Prop) (hn : n ≤ 9223372036854775807) (h0 : I 0)
    (hs : ∀ i, i < n → I i → ∀ nx : Int → Option R, (I (i + 1) → Ok (nx (IntKind.i64.wrap ((i : Int) + 1))) Q) → Ok (step (i : Int) nx bk) Q) (he : I n → ∀ nx, Ok (step (n : Int) nx bk) Q) : Ok (loopC step bk BIG 0) Q := by
  refine ok_loop (fun st => ∃ j : Nat, st = (j : Int) ∧ j ≤ n ∧ I j) (fun st => ((n : Int) - st).toNat) ⟨0, rfl, Nat.zero_le _, h0⟩ (by omega) ?_
  rintro _ ⟨j, rfl, hj, hI⟩ nx hnx
  by_cases hlt : j < n
  · have hw : IntKind.i64.wrap ((j : Int) + 1) = ((j + 1 : Nat) : Int) := by rw [w64 (by omega) (by omega)]; rfl
    refine hs j hlt hI nx fun h => hnx _ ⟨j + 1, hw, hlt, h⟩ (by rw [hw]; omega)
  · obtain rfl : j = n := by omega
    exact he hI nx
/-- The same, with something gathered. -/
theorem ok_acc {γ ε : Type} {step : γ × Int → (γ × Int → Option R) → (ε → Option R) → Option R} {bk : ε → Option R} {b0 : γ} (n : Nat) (I : Nat → γ → Prop) (hn : n ≤ 9223372036854775807) (h0 : I 0 b0)
    (hs : ∀ i b, i < n → I i b → ∀ nx : γ × Int → Option R, (∀ b', I (i + 1) b' → Ok (nx (b', IntKind.i64.wrap ((i : Int) + 1))) Q) → Ok (step (b, (i : Int)) nx bk) Q) (he : ∀ b, I n b → ∀ nx, Ok (step (b, (n : Int)) nx bk) Q) : Ok (loopC step bk BIG (b0, 0)) Q := by
  refine ok_loop (fun st => ∃ j : Nat, st.2 = (j : Int) ∧ j ≤ n ∧ I j st.1) (fun st => ((n : Int) - st.2).toNat) ⟨0, rfl, Nat.zero_le _, h0⟩ (by simp only; omega) ?_
  rintro ⟨b, _⟩ ⟨j, rfl, hj, hI⟩ nx hnx
  dsimp only at hj hI hnx
  by_cases hlt : j < n
  · have hw : IntKind.i64.wrap ((j : Int) + 1) = ((j + 1 : Nat) : Int) := by rw [w64 (by omega) (by omega)]; rfl
    refine hs j b hlt hI nx fun b' h => hnx _ ⟨j + 1, hw, hlt, h⟩ (by simp only [hw]; omega)
  · obtain rfl : j = n := by omega
    exact he b hI nx
/-- The same, the place first. -/
theorem ok_acc' {γ ε : Type} {step : Int × γ → (Int × γ → Option R) → (ε → Option R) → Option R} {bk : ε → Option R} {b0 : γ} (n : Nat) (I : Nat → γ → Prop) (hn : n ≤ 9223372036854775807) (h0 : I 0 b0)
    (hs : ∀ i b, i < n → I i b → ∀ nx : Int × γ → Option R, (∀ b', I (i + 1) b' → Ok (nx (IntKind.i64.wrap ((i : Int) + 1), b')) Q) → Ok (step ((i : Int), b) nx bk) Q) (he : ∀ b, I n b → ∀ nx, Ok (step ((n : Int), b) nx bk) Q) : Ok (loopC step bk BIG (0, b0)) Q := by
  refine ok_loop (fun st => ∃ j : Nat, st.1 = (j : Int) ∧ j ≤ n ∧ I j st.2) (fun st => ((n : Int) - st.1).toNat) ⟨0, rfl, Nat.zero_le _, h0⟩ (by simp only; omega) ?_
  rintro ⟨_, b⟩ ⟨j, rfl, hj, hI⟩ nx hnx
  dsimp only at hj hI hnx
  by_cases hlt : j < n
  · have hw : IntKind.i64.wrap ((j : Int) + 1) = ((j + 1 : Nat) : Int) := by rw [w64 (by omega) (by omega)]; rfl
    refine hs j b hlt hI nx fun b' h => hnx _ ⟨j + 1, hw, hlt, h⟩ (by simp only [hw]; omega)
  · obtain rfl : j = n := by omega
    exact he b hI nx
theorem ok_true {m : Option Bool} (h : Ok m (· = true)) : m = some true := by
  obtain ⟨x, e, rfl⟩ := h
  exact e
end
end Go.Proofs.Ytkdodhkiemfpeaa
namespace Go.Proofs.Ytkdodhkiemfpeaa
open Go.RowKit
set_option linter.unusedVariables false
set_option linter.unusedSimpArgs false

theorem octTake_eq (l : List UInt8) (n : Int) : m_octet_Take l n = some (if 0 ≤ n ∧ n ≤ l.length then (l.take n.toNat, l.drop n.toNat, true) else ([], [], false)) := by
  unfold m_octet_Take
  by_cases h1 : n < 0
  · rw [decide_eq_true h1, cond_true, if_neg (by omega)]
  rw [decide_eq_false h1, cond_false]
  by_cases h2 : n > (l.length : Int)
  · rw [decide_eq_true h2, cond_true, if_neg (by omega)]
  rw [decide_eq_false h2, cond_false, sl_pre (by omega), bd_some, sl_all (by omega), bd_some, if_pos (by omega)]
theorem octGet_eq (l : List UInt8) (a : Int) (h1 : 1 ≤ a) (h4 : a ≤ 4) : m_octet_Get l a = some (if a ≤ l.length then (((num (l.take a.toNat) : Nat) : Int), l.drop a.toNat, true) else (0, [], false)) := by
  unfold m_octet_Get
  rw [decide_eq_false (by omega), cond_false, decide_eq_false (by omega), cond_false, octTake_eq, bd_some]
  by_cases hk : a ≤ l.length
  · rw [if_pos (by omega), if_pos hk]
    refine loopC_ind (fun st => ∃ j : Nat, j ≤ a.toNat ∧ st = (((num (l.take j) : Nat) : Int), (j : Int))) (fun st => (a - st.2).toNat) ?_ _ _ ⟨0, Nat.zero_le _, by simp [num]⟩ (big_lt (by simp; omega))
    rintro st ⟨j, hj, rfl⟩ nx hnx
    unfold s_octet_Get1
    have hlen : (l.take a.toNat).length = a.toNat := by rw [List.length_take]; omega
    simp only [hlen]
    by_cases hlt : j < a.toNat
    · rw [decide_eq_true (by omega), cond_true, ix_nat (by rw [hlen]; exact hlt), bd_some, List.getElem_take]
      have hb : l[j].toNat < 256 := l[j].toNat_lt
      have hnl : num (l.take j) < 16777216 := by
        have := num_lt (l.take j)
        have : 256 ^ (l.take j).length ≤ 256 ^ 3 := Nat.pow_le_pow_right (by omega) (by rw [List.length_take]; omega)
        omega
      have e1 : IntKind.i64.wrap ((num (l.take j) : Nat) * 2 ^ (min (8 : Int).toNat IntKind.i64.bits) : Int) = (num (l.take j) : Nat) * 256 := by
        rw [show (2 : Int) ^ (min (8 : Int).toNat IntKind.i64.bits) = 256 from rfl, w64 (by omega) (by omega)]
      have e2 : IntKind.i64.wrap (l[j].toNat : Int) = l[j].toNat := w64 (by omega) (by omega)
      have e3 := or_byte (num (l.take j)) l[j].toNat hb hnl
      simp only [bits] at e3
      have e4 := num_step l j (by omega)
      rw [e1, e2, e3, ← e4, w64 (by omega) (by omega)]
      exact hnx _ ⟨j + 1, by omega, by simp⟩ (by simp; omega)
    · obtain rfl : j = a.toNat := by omega
      rw [decide_eq_false (by omega), cond_false]
  · rw [if_neg (by omega), if_neg hk]
    rw [show BIG = (BIG - 1) + 1 from rfl, loopC_succ]
    rfl
theorem u8_fdiv' (v : Int) (j : Nat) (h : j ≤ 3) : toB (IntKind.u8.wrap (v.fdiv (2 ^ (min (8 * j) 64)))) = octAt v j := by
  have : v.fdiv (2 ^ (8 * j)) = v / 2 ^ (8 * j) := by
    rw [Int.fdiv_eq_ediv_of_nonneg]
    exact Int.le_of_lt (Int.pow_pos (by decide))
  rw [Nat.min_eq_left (by omega), this, u8wrap_eq]
  rfl
theorem octPut_eq (l : List UInt8) (v a : Int) (h1 : 1 ≤ a) (h4 : a ≤ 4) (hl : l.length ≤ 140737488355000) : m_octet_Put l v a = some (l ++ putL v a.toNat) := by
  unfold m_octet_Put
  rw [decide_eq_false (by omega), cond_false, decide_eq_false (by omega), cond_false, sl_pre (by omega), bd_some, Int.toNat_natCast, List.take_length]
  refine loopC_ind (fun st => ∃ j : Nat, j ≤ a.toNat ∧ st = (l ++ (putL v a.toNat).take j, (j : Int))) (fun st => (a - st.2).toNat) ?_ _ _ ⟨0, Nat.zero_le _, by simp⟩ (big_lt (by simp; omega))
  rintro st ⟨j, hj, rfl⟩ nx hnx
  unfold s_octet_Put1
  by_cases hlt : j < a.toNat
  · rw [decide_eq_true (by simp only; omega), cond_true]
    have e1 : IntKind.i64.wrap (8 * IntKind.i64.wrap (IntKind.i64.wrap (a - 1) - (j : Int))) = ((8 * (a.toNat - 1 - j) : Nat) : Int) := by
      rw [w64 (x := a - 1) (by omega) (by omega), w64 (x := a - 1 - (j : Int)) (by omega) (by omega), w64 (by omega) (by omega)]
      omega
    simp only [e1]
    rw [nn_some (by omega), Int.toNat_natCast, show IntKind.i64.bits = 64 from rfl, u8_fdiv' v _ (by omega), ap_some (by simp; omega) (by simp; omega), bd_some, w64 (by omega) (by omega), List.append_assoc, ← putL_step v a.toNat j hlt]
    exact hnx _ ⟨j + 1, by omega, by simp⟩ (by simp; omega)
  · obtain rfl : j = a.toNat := by omega
    rw [decide_eq_false (by simp only; omega), cond_false, List.take_of_length_le (by rw [putL_length]; exact Nat.le_refl _)]
end Go.Proofs.Ytkdodhkiemfpeaa
namespace Go.Proofs.Ytkdodhkiemfpeaa
open Go.RowKit
set_option linter.unusedVariables false
set_option linter.unusedSimpArgs false
set_option maxRecDepth 100000
set_option maxHeartbeats 1000000
theorem wrap_rng (x : Int) : -9223372036854775808 ≤ IntKind.i64.wrap x ∧ IntKind.i64.wrap x ≤ 9223372036854775807 := by
  rw [IntKind.wrap_i64]
  omega
def takeR (l : List UInt8) (n : Int) : List UInt8 × List UInt8 × Bool := if 0 ≤ n ∧ n ≤ l.length then (l.take n.toNat, l.drop n.toNat, true) else ([], [], false)
theorem take_eq (l : List UInt8) (n : Int) : m_octet_Take l n = some (takeR l n) := by
  refine (?_ : Ok (m_octet_Take l n) (· = takeR l n)).elim fun x h => by rw [h.1, h.2]
  unfold m_octet_Take takeR
  refine ok_if (fun h => ok_some (by rw [if_neg (by omega)])) fun h => ok_if (fun h2 => ok_some (by rw [if_neg (by omega)])) fun h2 => ok_bde (sl_pre (by omega)) (ok_bde (sl_all (by omega)) (ok_some (by rw [if_pos (by omega)])))
theorem t_get (l : List UInt8) (n : Int) (hl : l.length ≤ 1000000) : Ok (m_octet_Get l n) fun r => r.2.1.length ≤ l.length ∧ (-9223372036854775808 ≤ r.1 ∧ r.1 ≤ 9223372036854775807) ∧ (¬ r.1 = 0 → 1 ≤ n ∧ n ≤ 4 ∧ r.2.1.length + n.toNat = l.length) := by
  unfold m_octet_Get
  refine ok_if (fun h => ok_some ⟨Nat.zero_le _, by simp, fun k => absurd rfl k⟩) fun h => ok_if (fun h2 => ok_some ⟨Nat.zero_le _, by simp, fun k => absurd rfl k⟩) fun h2 => ok_bde (take_eq _ _) ?_
  unfold takeR
  by_cases hn : 0 ≤ n ∧ n ≤ l.length
  · rw [if_pos hn]
    have ht : (l.take n.toNat).length = n.toNat := by rw [List.length_take]; omega
    have hd : (l.drop n.toNat).length = l.length - n.toNat := List.length_drop
    refine ok_acc n.toNat (fun _ b => -9223372036854775808 ≤ b ∧ b ≤ 9223372036854775807) (by omega) (by simp) (fun i b hi hI nx hnx => ?_) (fun b hI nx => ?_)
    · rw [s_octet_Get1]
      exact ok_if (fun _ => ok_ix (by dsimp only; omega) (by dsimp only; omega) fun hlt => hnx _ (wrap_rng _)) fun h => absurd (show (i : Int) < ((l.take n.toNat).length : Int) by omega) h
    · rw [s_octet_Get1]
      exact ok_if (fun h => absurd h (by dsimp only; omega)) fun _ => ok_some ⟨by dsimp only; omega, hI, fun _ => ⟨by omega, by omega, by dsimp only; omega⟩⟩
  · rw [if_neg hn]
    refine ok_acc 0 (fun _ b => b = 0) (by omega) rfl (fun i b hi hI nx hnx => by omega) (fun b hI nx => ?_)
    rw [s_octet_Get1]
    exact ok_if (fun h => absurd h (by simp)) fun _ => ok_some ⟨Nat.zero_le _, by dsimp only; omega, fun k => absurd hI k⟩
theorem t_put (l : List UInt8) (v n : Int) (hl : l.length ≤ 1000000) : Ok (m_octet_Put l v n) fun r => r.length ≤ l.length + 4 := by
  unfold m_octet_Put
  refine ok_if (fun _ => ok_some (by omega)) fun h1 => ok_if (fun _ => ok_some (by omega)) fun h2 => ok_bde (sl_pre (by omega)) ?_
  rw [Int.toNat_natCast, List.take_length]
  refine ok_acc n.toNat (fun i b => b.length = l.length + i) (by omega) rfl (fun i b hi hI nx hnx => ?_) (fun b hI nx => ?_)
  · rw [s_octet_Put1]
    refine ok_if (fun _ => ?_) fun h => absurd (show (i : Int) < n by omega) h
    have hw : 0 ≤ IntKind.i64.wrap ((8 : Int) * (IntKind.i64.wrap ((IntKind.i64.wrap (n - (1 : Int))) - (i : Int)))) := by
      rw [w64 (x := n - 1) (by omega) (by omega), w64 (x := n - 1 - i) (by omega) (by omega), w64 (by omega) (by omega)]
      omega
    dsimp only
    rw [nn_some hw]
    exact ok_ap (by simp; omega) (by simp; omega) (hnx _ (by simp; omega))
  · rw [s_octet_Put1]
    exact ok_if (fun h => absurd h (by dsimp only; omega)) fun _ => ok_some (by dsimp only; omega)
theorem oct_eq (n : Int) : m_attr_octetSized n = some (decide (0 ≤ n ∧ n ≤ 255)) := by
  refine (?_ : Ok (m_attr_octetSized n) (· = decide (0 ≤ n ∧ n ≤ 255))).elim fun x h => by rw [h.1, h.2]
  unfold m_attr_octetSized
  refine ok_if (fun h => ok_some ?_) fun h => ok_some ?_
  · by_cases h2 : n ≤ 255
    · rw [decide_eq_true h2, decide_eq_true (by omega)]
    · rw [decide_eq_false h2, decide_eq_false (by omega)]
  · rw [decide_eq_false (by omega)]
theorem t_attrPut (l : List UInt8) (y : Attr) (hl : l.length ≤ 500000) (hy : y.Data.length ≤ 10000) : Ok (m_attr_Put l y) fun r => r.length ≤ l.length + 12 + y.Data.length := by
  unfold m_attr_Put
  refine ok_bde (oct_eq _) (ok_ifnb (fun _ => ok_some (by omega)) fun h1 => ok_bde (oct_eq _) (ok_ifnb (fun _ => ok_some (by omega)) fun h2 => ok_if (fun h => by omega) fun _ => ok_if (fun h => ?_) fun h => ?_))
  · exact ok_bd (t_put _ _ _ (by omega)) fun r3 _ h3 => ok_bd (t_put _ _ _ (by omega)) fun r4 _ h4 => ok_bd (t_put _ _ _ (by omega)) fun r5 _ h5 => ok_ap (by omega) (by omega) (ok_some (by simp; omega))
  · exact ok_bd (t_put _ _ _ (by omega)) fun r3 _ h3 => ok_bd (t_put _ _ _ (by omega)) fun r4 _ h4 => ok_bd (t_put _ _ _ (by omega)) fun r5 _ h5 => ok_ap (by omega) (by omega) (ok_some (by simp; omega))
def fatalB (y : Attr) : Bool := (m_attr_fatal y).getD false
theorem fatal_eq (y : Attr) : m_attr_fatal y = some (fatalB y) := by
  have h : Ok (m_attr_fatal y) fun _ => True := by
    unfold m_attr_fatal
    exact ok_if (fun _ => ok_if (fun _ => ok_some trivial) fun _ => ok_ifnb (fun _ => ok_some trivial) fun _ => ok_some trivial) fun _ => ok_ifnb (fun _ => ok_some trivial) fun _ => ok_some trivial
  obtain ⟨b, e, _⟩ := h
  unfold fatalB
  rw [e]
  rfl
theorem t_num (l : List UInt8) (hl : l.length ≤ 1000000) : Ok (m_attr_number l) fun _ => True := by
  unfold m_attr_number
  exact ok_bd (t_get l 4 hl) fun r1 _ h1 => ok_if (fun _ => ok_some trivial) fun _ => ok_some trivial
theorem if_cong {R : Type} {b : Bool} {A A' B B' : R} (h1 : A = A') (h2 : b = false → B = B') : (bif b then A else B) = bif b then A' else B' := by
  cases b
  · exact h2 rfl
  · exact h1
theorem if_cong1 {R : Type} {b : Bool} {A A' B B' : R} (h1 : b = true → A = A') (h2 : B = B') : (bif b then A else B) = bif b then A' else B' := by
  cases b
  · exact h2
  · exact h1 rfl
theorem bd_cong {α R : Type} {m m' : Option α} {k k' : α → Option R} (h : m = m') (h2 : ∀ x, k x = k' x) : bd m k = bd m' k' := by
  rw [h, funext h2]
theorem jn_cong {τ R : Type} {i : Nat} {f f' : (τ → Option R) → Option R} {k k' : τ → Option R} (h : ∀ k, f k = f' k) (h2 : ∀ x, k x = k' x) : jn i f k = jn i f' k' := by
  rw [funext h, funext h2]

def c0 (f : Int) : Int := IntKind.i64.wrap ((BitVec.ofInt IntKind.i64.bits f &&& BitVec.ofInt IntKind.i64.bits (239 : Int)).toNat : Int)
def c1 (f : Int) : Int := IntKind.i64.wrap ((BitVec.ofInt IntKind.i64.bits f ||| BitVec.ofInt IntKind.i64.bits (16 : Int)).toNat : Int)
def b16 (f : Int) : Int := IntKind.i64.wrap ((BitVec.ofInt IntKind.i64.bits f &&& BitVec.ofInt IntKind.i64.bits (16 : Int)).toNat : Int)
def n16 (f : Int) : Int := IntKind.i64.wrap ((BitVec.ofInt IntKind.i64.bits f &&& ~~~ BitVec.ofInt IntKind.i64.bits (16 : Int)).toNat : Int)
theorem fl_fin : ∀ f : Fin 256, (0 ≤ c0 (f.val : Int) ∧ c0 (f.val : Int) ≤ 255) ∧ b16 (c0 (f.val : Int)) = 0 ∧ n16 (f.val : Int) = c0 (f.val : Int) ∧ (0 ≤ c1 (c0 (f.val : Int)) ∧ c1 (c0 (f.val : Int)) ≤ 255) ∧ ¬ b16 (c1 (c0 (f.val : Int))) = 0 := by decide
theorem fl_all (f : Int) (h : 0 ≤ f ∧ f ≤ 255) : (0 ≤ c0 f ∧ c0 f ≤ 255) ∧ b16 (c0 f) = 0 ∧ n16 f = c0 f ∧ (0 ≤ c1 (c0 f) ∧ c1 (c0 f) ≤ 255) ∧ ¬ b16 (c1 (c0 f)) = 0 := by
  have := fl_fin ⟨f.toNat, by omega⟩
  rwa [show ((f.toNat : Nat) : Int) = f by omega] at this
/-- The octets of an attribute. -/
def encA (y : Attr) : List UInt8 := putL y.Flags 1 ++ (putL y.Typ 1 ++ (putL (y.Data.length : Int) (if y.Data.length > 255 then 2 else 1) ++ y.Data))
/-- As it comes back. -/
def canon (y : Attr) : Attr := ⟨if y.Data.length > 255 then c1 (c0 y.Flags) else c0 y.Flags, y.Typ, y.Data⟩
structure Canon (y : Attr) : Prop where
  fl : 0 ≤ y.Flags ∧ y.Flags ≤ 255
  ty : 0 ≤ y.Typ ∧ y.Typ ≤ 255
  len : y.Data.length ≤ 65535
  bit : b16 y.Flags = 0 ↔ y.Data.length ≤ 255
theorem canon_ok (y : Attr) (hf : 0 ≤ y.Flags ∧ y.Flags ≤ 255) (ht : 0 ≤ y.Typ ∧ y.Typ ≤ 255) (hl : y.Data.length ≤ 65535) : Canon (canon y) := by
  obtain ⟨h1, h2, h3, h4, h5⟩ := fl_all y.Flags hf
  unfold canon
  by_cases h : y.Data.length > 255
  · rw [if_pos h]
    exact ⟨h4, ht, hl, ⟨fun k => absurd k h5, fun k => by dsimp only at k; omega⟩⟩
  · rw [if_neg h]
    exact ⟨h1, ht, hl, ⟨fun _ => by dsimp only; omega, fun _ => h2⟩⟩
theorem enc_len (y : Attr) : (encA y).length ≤ y.Data.length + 4 := by
  unfold encA
  simp only [List.length_append, putL_length]
  split <;> omega
theorem attrPut_eq (l : List UInt8) (y : Attr) (hb : l.length ≤ 1000000) (hf : 0 ≤ y.Flags ∧ y.Flags ≤ 255) (ht : 0 ≤ y.Typ ∧ y.Typ ≤ 255) (hl : y.Data.length ≤ 65535) : m_attr_Put l y = some (l ++ encA (canon y)) := by
  obtain ⟨h1, h2, h3, h4, h5⟩ := fl_all y.Flags hf
  refine (?_ : Ok (m_attr_Put l y) (· = l ++ encA (canon y))).elim fun x h => by rw [h.1, h.2]
  have p1 : ∀ v : Int, (putL v 1).length = 1 := fun v => putL_length v 1
  have p2 : ∀ v : Int, (putL v 2).length = 2 := fun v => putL_length v 2
  unfold m_attr_Put encA canon
  refine ok_bde (oct_eq _) (ok_ifnb (fun h => absurd (of_decide_eq_false h) (fun k => k ⟨hf.1, hf.2⟩)) fun _ => ok_bde (oct_eq _) (ok_ifnb (fun h => absurd (of_decide_eq_false h) (fun k => k ⟨ht.1, ht.2⟩)) fun _ => ok_if (fun h => by omega) fun _ => ok_if (fun h => ?_) fun h => ?_))
  · rw [if_pos (by omega), if_pos (by dsimp only; omega)]
    refine ok_bde (octPut_eq _ _ 1 (by omega) (by omega) (by omega)) (ok_bde (octPut_eq _ _ 1 (by omega) (by omega) (by simp [putL_length]; omega)) (ok_bde (octPut_eq _ _ 2 (by omega) (by omega) (by simp [putL_length]; omega)) (ok_ap (by simp [putL_length]; omega) (by simp [putL_length]; omega) (ok_some ?_))))
    show l ++ putL (c1 (n16 y.Flags)) 1 ++ putL y.Typ 1 ++ putL (y.Data.length : Int) 2 ++ y.Data = _
    rw [h3]
    simp only [List.append_assoc]
  · rw [if_neg (by omega), if_neg (by dsimp only; omega)]
    refine ok_bde (octPut_eq _ _ 1 (by omega) (by omega) (by omega)) (ok_bde (octPut_eq _ _ 1 (by omega) (by omega) (by simp [putL_length]; omega)) (ok_bde (octPut_eq _ _ 1 (by omega) (by omega) (by simp [putL_length]; omega)) (ok_ap (by simp [putL_length]; omega) (by simp [putL_length]; omega) (ok_some ?_))))
    show l ++ putL (n16 y.Flags) 1 ++ putL y.Typ 1 ++ putL (y.Data.length : Int) 1 ++ y.Data = _
    rw [h3]
    simp only [List.append_assoc]
theorem attrPut_no (l : List UInt8) (y : Attr) (h : ¬ ((0 ≤ y.Flags ∧ y.Flags ≤ 255) ∧ (0 ≤ y.Typ ∧ y.Typ ≤ 255))) : m_attr_Put l y = some l := by
  refine (?_ : Ok (m_attr_Put l y) (· = l)).elim fun x h => by rw [h.1, h.2]
  unfold m_attr_Put
  refine ok_bde (oct_eq _) (ok_ifnb (fun _ => ok_some rfl) fun h1 => ok_bde (oct_eq _) (ok_ifnb (fun _ => ok_some rfl) fun h2 => ?_))
  exact absurd ⟨of_decide_eq_true h1, of_decide_eq_true h2⟩ h
theorem get_put (v : Int) (k : Nat) (t : List UInt8) (a : Int) (ha : a = (k : Int)) (hk : 1 ≤ k ∧ k ≤ 4) (hv : 0 ≤ v ∧ v < (256 : Int) ^ k) : m_octet_Get (putL v k ++ t) a = some (v, t, true) := by
  subst ha
  rw [octGet_eq _ _ (by omega) (by omega), if_pos (by rw [List.length_append, putL_length]; omega)]
  simp only [Int.toNat_natCast]
  rw [List.take_append_of_le_length (by rw [putL_length]; omega), List.take_of_length_le (by rw [putL_length]; omega), List.drop_append_of_le_length (by rw [putL_length]; omega), List.drop_of_length_le (by rw [putL_length]; omega), num_putL, Int.emod_eq_of_lt hv.1 hv.2]
  rfl
theorem attrGet_eq (y : Attr) (t : List UInt8) (c : Canon y) : m_attr_Get (encA y ++ t) = some (y, t, true) := by
  obtain ⟨hf, ht, hl, hb⟩ := c
  refine (?_ : Ok (m_attr_Get (encA y ++ t)) (· = (y, t, true))).elim fun x h => by rw [h.1, h.2]
  have tk : m_octet_Take (y.Data ++ t) (y.Data.length : Int) = some (y.Data, t, true) := by
    rw [octTake_eq, if_pos (by simp only [List.length_append]; omega)]
    simp
  unfold m_attr_Get encA
  simp only [List.append_assoc]
  refine ok_bde (get_put _ 1 _ 1 rfl (by omega) (by omega)) (ok_bde (get_put _ 1 _ 1 rfl (by omega) (by omega)) (ok_jn (fun j => j = if y.Data.length > 255 then 2 else 1) (fun k hk => ok_if (fun h => hk _ ?_) fun h => hk _ ?_) fun j hj => ?_))
  · have : ¬ b16 y.Flags = 0 := h
    rw [if_pos (by omega)]
  · have : b16 y.Flags = 0 := Decidable.not_not.1 h
    rw [if_neg (by omega)]
  · refine ok_bde (x := ((y.Data.length : Int), y.Data ++ t, true)) ?_ (ok_bde tk (ok_ifnb (fun h => Bool.noConfusion h) fun _ => ok_ifnb (fun h => Bool.noConfusion h) fun _ => ok_some rfl))
    rw [hj]
    split
    · exact get_put _ 2 _ 2 rfl (by omega) (by omega)
    · exact get_put _ 1 _ 1 rfl (by omega) (by omega)
theorem enc_pos (y : Attr) : 0 < (encA y).length := by
  unfold encA
  simp only [List.length_append, putL_length]
  omega
theorem attrAll_eq (L : List Attr) (hc : ∀ y ∈ L, Canon y) (hl : L.length ≤ 1000) : m_attr_All (L.flatMap encA) = some (L, true) := by
  refine (?_ : Ok (m_attr_All (L.flatMap encA)) (· = (L, true))).elim fun x h => by rw [h.1, h.2]
  unfold m_attr_All
  refine ok_loop (fun st => ∃ i : Nat, i ≤ L.length ∧ st.1 = (L.drop i).flatMap encA ∧ st.2 = L.take i) (fun st => L.length - st.2.length) ⟨0, Nat.zero_le _, rfl, rfl⟩ (by dsimp only; omega) ?_
  rintro ⟨_, _⟩ ⟨i, hi, rfl, rfl⟩ nx hnx
  rw [s_attr_All1]
  dsimp only at hnx ⊢
  by_cases hlt : i < L.length
  · rw [List.drop_eq_getElem_cons hlt, List.flatMap_cons]
    have := enc_pos L[i]
    refine ok_if (fun _ => ok_bde (attrGet_eq _ _ (hc _ (List.getElem_mem hlt))) (ok_ifnb (fun h => Bool.noConfusion h) fun _ => ok_ap (by simp; omega) (by simp; omega) (hnx _ ⟨i + 1, hlt, rfl, List.take_append_getElem hlt⟩ ?_))) fun h => absurd (by simp only [List.length_append]; omega) h
    simp only [List.length_append, List.length_take, List.length_singleton]
    omega
  · rw [List.drop_of_length_le (by omega), List.take_of_length_le (by omega)]
    exact ok_if (fun h => absurd h (by simp)) fun _ => ok_some rfl
/-- The first of each kind; nothing if one is fatal. -/
def gat : List (Int × Attr) → List Attr → Option (List (Int × Attr))
  | e, [] => some e
  | e, y :: ys => if (mget e y.Typ).isSome = true then gat e ys else if fatalB y = true then none else gat (e ++ [(y.Typ, y)]) ys
theorem set_new {e : List (Int × Attr)} {k : Int} {y : Attr} (h : mget e k = none) : msetL e k y = e ++ [(k, y)] := by
  rw [mget_eq] at h
  induction e with
  | nil => rfl
  | cons p e ih =>
    obtain ⟨a, b⟩ := p
    rw [List.find?_cons] at h
    rw [msetL]
    by_cases hk : a = k
    · rw [decide_eq_true hk] at h; cases h
    · rw [decide_eq_false hk] at h
      rw [if_neg hk, ih h]
      rfl
theorem mget_app {e : List (Int × Attr)} {k t : Int} {y z : Attr} (h : mget (e ++ [(k, y)]) t = some z) : mget e t = some z ∨ z = y := by
  rw [mget_eq, List.find?_append, Option.map_or] at h
  cases he : mget e t with
  | some w => rw [mget_eq] at he; rw [he] at h; exact .inl h
  | none =>
    rw [mget_eq] at he
    rw [he, Option.none_or, List.find?_cons] at h
    by_cases hk : k = t
    · rw [decide_eq_true hk] at h
      cases h
      exact .inr rfl
    · rw [decide_eq_false hk] at h
      cases h
theorem same_refl (p : Path) (h : p.As.length ≤ 10000) : m_ridgewayref07_SamePath p p = some true := by
  refine ok_true ?_
  unfold m_ridgewayref07_SamePath
  refine ok_if (fun h => absurd rfl h) fun _ => ok_if (fun h => absurd rfl h) fun _ => ok_if (fun h => absurd rfl h) fun _ => ok_if (fun h => absurd rfl h) fun _ => ok_idx p.As.length (fun _ => True) (by omega) trivial (fun i hi _ nx hnx => ?_) (fun _ nx => ?_)
  · rw [s_ridgewayref07_SamePath1]
    exact ok_if (fun _ => ok_ix (by omega) (by omega) fun _ => ok_ix (by omega) (by omega) fun _ => ok_if (fun h => absurd rfl h) fun _ => hnx trivial) fun h => absurd (Int.ofNat_lt.2 hi) h
  · rw [s_ridgewayref07_SamePath1]
    exact ok_if (fun h => by omega) fun _ => ok_some rfl

/-- No kind twice. -/
def Once (l : List Attr) : Prop := l.Pairwise fun a b => ¬ a.Typ = b.Typ
theorem gat_once : ∀ (l : List Attr) (e : List (Int × Attr)), Once l → (∀ y ∈ l, mget e y.Typ = none) → gat e l = if l.any fatalB = true then none else some (e ++ l.map fun y => (y.Typ, y))
  | [], e, _, _ => by simp [gat]
  | y :: ys, e, ho, hn => by
    rw [gat, hn y List.mem_cons_self, if_neg (show ¬ (none : Option Attr).isSome = true by decide), List.any_cons]
    cases hf : fatalB y with
    | true => rw [if_pos rfl, Bool.true_or, if_pos rfl]
    | false =>
      rw [if_neg (by decide), Bool.false_or, gat_once ys (e ++ [(y.Typ, y)]) (List.pairwise_cons.1 ho).2 fun z hz => ?_]
      · split
        · rfl
        · rw [List.map_cons, List.append_assoc]; rfl
      · have h1 := hn z (List.mem_cons_of_mem _ hz)
        have h2 := (List.pairwise_cons.1 ho).1 z hz
        rw [mget_eq] at h1 ⊢
        rw [List.find?_append]
        rw [Option.map_eq_none_iff] at h1
        rw [h1, Option.none_or, List.find?_cons, decide_eq_false h2]
        rfl
theorem mget_once (t : Int) : ∀ (l : List Attr), Once l → ∀ z, mget (l.map fun y => (y.Typ, y)) t = some z ↔ z ∈ l ∧ z.Typ = t
  | [], _, z => by simp [mget_eq]
  | y :: ys, ho, z => by
    have ih := mget_once t ys (List.pairwise_cons.1 ho).2 z
    have hn := (List.pairwise_cons.1 ho).1
    rw [mget_eq] at ih
    rw [mget_eq, List.map_cons, List.find?_cons]
    by_cases hk : y.Typ = t
    · rw [decide_eq_true hk]
      constructor
      · intro h
        cases h
        exact ⟨List.mem_cons_self, hk⟩
      · rintro ⟨hz, ht⟩
        rcases List.mem_cons.1 hz with rfl | hz
        · rfl
        · exact absurd (hk.trans ht.symm) (hn z hz)
    · rw [decide_eq_false hk]
      refine ih.trans ⟨fun ⟨h1, h2⟩ => ⟨List.mem_cons_of_mem _ h1, h2⟩, fun ⟨h1, h2⟩ => ?_⟩
      rcases List.mem_cons.1 h1 with rfl | h1
      · exact absurd h2 hk
      · exact ⟨h1, h2⟩
/-- A path that may be. -/
def PathOk (p : Path) : Prop := (∀ x ∈ p.As, 1 ≤ x ∧ x ≤ 4294967295) ∧ (0 ≤ p.Origin ∧ p.Origin ≤ 2) ∧ p.As.length ≤ 255 ∧ (1 ≤ p.Hop ∧ p.Hop ≤ 4294967295) ∧ 0 ≤ p.Otc ∧ p.Otc ≤ 4294967295
theorem t_attrSane (p : Path) (hl : p.As.length ≤ 9223372036854775807) : Ok (m_attr_Sane p) fun b => b = true ↔ PathOk p := by
  unfold m_attr_Sane
  have no : ∀ {A : Prop}, ¬ A → Ok (some false : Option Bool) (fun b => b = true ↔ A) := fun h => ok_some ⟨fun k => Bool.noConfusion k, fun k => absurd k h⟩
  refine ok_idx p.As.length (fun j => ∀ i (h : i < p.As.length), i < j → 1 ≤ p.As[i] ∧ p.As[i] ≤ 4294967295) hl (fun _ _ h => absurd h (Nat.not_lt_zero _)) (fun i hi hI nx hnx => ?_) (fun hI nx => ?_)
  · rw [s_attr_Sane1]
    have hm := List.getElem_mem hi
    refine ok_if (fun _ => ok_ix (by omega) (by omega) fun hlt => ok_if (fun h1 => no fun k => ?_) fun h1 => ok_if (fun h2 => no fun k => ?_) fun h2 => hnx fun j hj hji => ?_) fun h => absurd (Int.ofNat_lt.2 hi) h
    · have := k.1 _ hm; simp only [Int.toNat_natCast] at h1; omega
    · have := k.1 _ hm; simp only [Int.toNat_natCast] at h2; omega
    · simp only [Int.toNat_natCast] at h1 h2
      rcases Nat.lt_succ_iff_lt_or_eq.1 hji with g | rfl
      · exact hI j hj g
      · exact ⟨by omega, by omega⟩
  · rw [s_attr_Sane1]
    have hall : ∀ x ∈ p.As, 1 ≤ x ∧ x ≤ 4294967295 := fun x hx => by
      obtain ⟨i, h, rfl⟩ := List.getElem_of_mem hx
      exact hI i h h
    refine ok_if (fun h => by omega) fun _ => ok_if (fun h1 => ok_if (fun h2 => ok_if (fun h3 => ok_if (fun h4 => ok_if (fun h5 => ok_if (fun h6 => ok_some ?_) fun h => no fun k => ?_) fun h => no fun k => ?_) fun h => no fun k => ?_) fun h => no fun k => ?_) fun h => no fun k => ?_) fun h => no fun k => ?_
    · rw [decide_eq_true_eq]
      exact ⟨fun h7 => ⟨hall, ⟨h1, h2⟩, by omega, ⟨h4, h5⟩, h6, h7⟩, fun k => k.2.2.2.2.2⟩
    all_goals (obtain ⟨_, _, _, _, _, _⟩ := k; omega)
theorem byte0 (v : Int) : toB (IntKind.u8.wrap v) = octAt v 0 := by
  unfold toB octAt
  rw [u8wrap_eq]
  simp
theorem get1c (x : UInt8) (t : List UInt8) : m_octet_Get (x :: t) 1 = some ((x.toNat : Int), t, true) := by
  rw [octGet_eq _ _ (by omega) (by omega), if_pos (by simp; omega)]
  simp [num]
theorem seg_eq (as : List Int) (hl : as.length ≤ 1000) : m_attr_segment as = some (if as.length = 0 then [] else (2 : UInt8) :: octAt (as.length : Int) 0 :: as.flatMap fun x => putL x 4) := by
  refine (?_ : Ok (m_attr_segment as) (· = if as.length = 0 then [] else (2 : UInt8) :: octAt (as.length : Int) 0 :: as.flatMap fun x => putL x 4)).elim fun x h => by rw [h.1, h.2]
  unfold m_attr_segment
  refine ok_if (fun h => ok_some (by rw [if_pos (by omega)])) fun h => ?_
  rw [if_neg (by omega), byte0]
  refine ok_acc as.length (fun i b => b = (2 : UInt8) :: octAt (as.length : Int) 0 :: (as.take i).flatMap (fun x => putL x 4) ∧ b.length ≤ 2 + 4 * i) (by omega) ⟨by simp, by simp⟩ (fun i b hi hI nx hnx => ?_) (fun b hI nx => ?_)
  · obtain ⟨hI, hb⟩ := hI
    rw [s_attr_segment1]
    refine ok_if (fun _ => ok_ix (by omega) (by omega) fun hlt => ok_bde (octPut_eq [] _ 4 (by omega) (by omega) (by simp)) ?_) fun h => absurd (Int.ofNat_lt.2 hi) h
    simp only [Int.toNat_natCast, List.nil_append]
    have hp : (putL as[i] (4 : Int).toNat).length = 4 := putL_length _ _
    refine ok_ap (by rw [hp]; omega) (by rw [hp]; omega) (hnx _ ⟨?_, by rw [List.length_append, hp]; omega⟩)
    rw [hI, ← List.take_append_getElem hi, List.flatMap_append]
    simp
  · rw [s_attr_segment1]
    refine ok_if (fun h => by dsimp only at h; omega) fun _ => ok_some ?_
    have := hI.1
    rwa [List.take_length] at this

theorem ok_out {R : Type} {m : Option R} {r : R} (h : Ok m (· = r)) : m = some r := by
  obtain ⟨x, e, rfl⟩ := h
  exact e
/-- The octets of a path's numbers. -/
def segL (as : List Int) : List UInt8 := if as.length = 0 then [] else (2 : UInt8) :: octAt (as.length : Int) 0 :: as.flatMap fun x => putL x 4
/-- The attributes of a path. -/
def ofL (p : Path) : List Attr := [⟨64, 1, putL p.Origin 1⟩, ⟨64, 2, segL p.As⟩, ⟨64, 3, putL p.Hop 4⟩] ++ (if p.Otc = 0 then [] else [⟨192, 35, putL p.Otc 4⟩])
theorem of_eq (p : Path) (h : PathOk p) : m_attr_Of p = some (ofL p) := by
  have hl := h.2.2.1
  obtain ⟨b, e, hb⟩ := t_attrSane p (by omega)
  have hb := hb.2 h
  subst hb
  refine (?_ : Ok (m_attr_Of p) (· = ofL p)).elim fun x h => by rw [h.1, h.2]
  unfold m_attr_Of ofL
  refine ok_bde e (ok_ifnb (fun h => Bool.noConfusion h) fun h => ok_bde (octPut_eq [] _ 1 (by omega) (by omega) (by simp)) (ok_bde (seg_eq _ (by omega)) (ok_bde (octPut_eq [] _ 4 (by omega) (by omega) (by simp)) ?_)))
  refine ok_if (fun ho => ok_bde (octPut_eq [] _ 4 (by omega) (by omega) (by simp)) (ok_ap (by simp) (by simp) (ok_some ?_))) fun ho => ok_some ?_
  · rw [if_neg ho]; rfl
  · rw [if_pos (Decidable.not_not.1 ho)]; rfl
theorem num_eq (v : Int) (h : 1 ≤ v ∧ v ≤ 4294967295) : m_attr_number (putL v 4) = some (v, true) := by
  refine (?_ : Ok (m_attr_number (putL v 4)) (· = (v, true))).elim fun x h => by rw [h.1, h.2]
  unfold m_attr_number
  have := get_put v 4 [] 4 rfl (by omega) ⟨by omega, by omega⟩
  rw [List.append_nil] at this
  exact ok_bde this (ok_if (fun _ => ok_some rfl) fun k => by dsimp only at k; omega)
theorem fl64 : (IntKind.i64.wrap ((BitVec.ofInt IntKind.i64.bits (64 : Int) &&& BitVec.ofInt IntKind.i64.bits (192 : Int)).toNat : Int)) = 64 := by decide
theorem fl192 : (IntKind.i64.wrap ((BitVec.ofInt IntKind.i64.bits (192 : Int) &&& BitVec.ofInt IntKind.i64.bits (192 : Int)).toNat : Int)) = 192 := by decide
/-- Where these attributes are first, the path comes back. -/
theorem judge_of : ∃ bk : List (Int × Attr) → Option (Path × Int × Note), (∀ l, m_attr_Judge l = loopC (s_attr_Judge1 l) bk BIG ((0 : Int), [])) ∧
    ∀ p, PathOk p → ∀ e f1 f2 f3 f35, mget e 1 = some ⟨f1, 1, putL p.Origin 1⟩ → mget e 2 = some ⟨f2, 2, segL p.As⟩ → mget e 3 = some ⟨f3, 3, putL p.Hop 4⟩ → mget e 4 = none → mget e 35 = (if p.Otc = 0 then none else some ⟨f35, 35, putL p.Otc 4⟩) → IntKind.i64.wrap ((BitVec.ofInt IntKind.i64.bits f1 &&& BitVec.ofInt IntKind.i64.bits (192 : Int)).toNat : Int) = 64 → IntKind.i64.wrap ((BitVec.ofInt IntKind.i64.bits f2 &&& BitVec.ofInt IntKind.i64.bits (192 : Int)).toNat : Int) = 64 → IntKind.i64.wrap ((BitVec.ofInt IntKind.i64.bits f3 &&& BitVec.ofInt IntKind.i64.bits (192 : Int)).toNat : Int) = 64 → IntKind.i64.wrap ((BitVec.ofInt IntKind.i64.bits f35 &&& BitVec.ofInt IntKind.i64.bits (192 : Int)).toNat : Int) = 192 → bk e = some (p, 0, ⟨0, 0, []⟩) := by
  refine ⟨_, fun l => by unfold m_attr_Judge; rfl, fun p hp e f1 f2 f3 f35 h1 h2 h3 h4 h35 q1 q2 q3 q35 => ?_⟩
  obtain ⟨has, hor, hlen, hhop, hotc0, hotc⟩ := hp
  refine ok_out ?_
  have some_ : ∀ {t : Int} {y : Attr} {F : Attr → Option (Path × Int × Note)} {A : Option (Path × Int × Note)}, mget e t = some y → Ok (F y) (· = (p, 0, ⟨0, 0, []⟩)) → Ok (bif mhas e t then bd (mget e t) F else A) (· = (p, 0, ⟨0, 0, []⟩)) := fun h k => by
    rw [mhas_get, h, bd_some]; exact k
  have none_ : ∀ {t : Int} {F : Attr → Option (Path × Int × Note)} {A : Option (Path × Int × Note)}, mget e t = none → Ok A (· = (p, 0, ⟨0, 0, []⟩)) → Ok (bif mhas e t then bd (mget e t) F else A) (· = (p, 0, ⟨0, 0, []⟩)) := fun h k => by
    rw [mhas_get, h]; exact k
  have ho0 : ((octAt p.Origin 0).toNat : Int) = p.Origin := by
    rw [← byte0, toB_of (by rw [u8wrap_eq]; omega), u8wrap_eq]; omega
  have p1 : putL p.Origin 1 = [octAt p.Origin 0] := rfl
  refine some_ h1 (ok_if (fun h => (h q1).elim) fun _ => ok_jn (fun j => j = (true, p.Origin)) (fun k hk => ok_if (fun h => (h (by rw [putL_length]; rfl)).elim) fun _ => ?_) fun i1 hi1 => ?_)
  · rw [p1]
    have hix : ix [octAt p.Origin 0] 0 = some (octAt p.Origin 0) := ix_some (by omega) rfl
    refine ok_bde hix (ok_if (fun h => by omega) fun _ => ok_bde hix (hk _ ?_))
    rw [w64 (by omega) (by omega), ho0]
  subst hi1
  refine ok_ifnb (fun h => Bool.noConfusion h) fun _ => some_ h2 (ok_if (fun h => (h q2).elim) fun _ => ok_jn (fun j => j = (true, p.As)) (fun k hk => ?_) fun i2 hi2 => ?_)
  · dsimp only
    refine ok_loop (fun st => (¬ p.As.length = 0 ∧ st = (segL p.As, [])) ∨ st = ([], p.As)) (fun st => st.1.length) ?_ ?_ ?_
    · by_cases h0 : p.As.length = 0
      · refine .inr ?_
        unfold segL
        rw [if_pos h0, List.length_eq_zero_iff.1 h0]
      · exact .inl ⟨h0, rfl⟩
    · have hfl : (p.As.flatMap fun x => putL x 4).length = 4 * p.As.length := by
        generalize p.As = as
        induction as with
        | nil => rfl
        | cons x xs ih => rw [List.flatMap_cons, List.length_append, ih, putL_length, List.length_cons]; omega
      unfold segL
      split
      · simp
      · simp only [List.length_cons, hfl]; omega
    · rintro st (⟨h0, rfl⟩ | rfl) nx hnx
      · rw [s_attr_Judge2]
        have hs : segL p.As = (2 : UInt8) :: octAt (p.As.length : Int) 0 :: p.As.flatMap fun x => putL x 4 := by unfold segL; rw [if_neg h0]
        rw [hs]
        have ho : ((octAt (p.As.length : Int) 0).toNat : Int) = p.As.length := by
          rw [← byte0, toB_of (by rw [u8wrap_eq]; omega), u8wrap_eq]; omega
        refine ok_if (fun _ => ok_bde (get1c _ _) (ok_bde (get1c _ _) (ok_if (fun h => (h rfl).elim) fun _ => ok_if (fun h => by dsimp only at h; omega) fun _ => ?_))) fun h => (h (by simp; omega)).elim
        dsimp only
        refine ok_loop (fun s => ∃ i : Nat, i ≤ p.As.length ∧ s = ((p.As.drop i).flatMap (fun x => putL x 4), (i : Int), p.As.take i)) (fun s => ((p.As.length : Int) - s.2.1).toNat) ⟨0, Nat.zero_le _, rfl⟩ (by dsimp only; omega) ?_
        rintro _ ⟨i, hi, rfl⟩ nx3 hnx3
        rw [s_attr_Judge3]
        dsimp only at hnx3 ⊢
        rw [ho]
        by_cases hlt : i < p.As.length
        · have hx := has _ (List.getElem_mem hlt)
          rw [List.drop_eq_getElem_cons hlt, List.flatMap_cons]
          have hw : IntKind.i64.wrap ((i : Int) + 1) = ((i + 1 : Nat) : Int) := by rw [w64 (by omega) (by omega)]; rfl
          refine ok_if (fun _ => ok_bde (get_put _ 4 _ 4 rfl (by omega) ⟨by omega, by omega⟩) (ok_if (fun h => by dsimp only at h; omega) fun _ => ok_ap (by simp; omega) (by simp; omega) (hnx3 _ ⟨i + 1, hlt, ?_⟩ (by dsimp only; rw [hw]; omega)))) fun h => by omega
          rw [hw, List.take_append_getElem hlt]
        · rw [List.drop_of_length_le (by omega), List.take_of_length_le (by omega)]
          exact ok_if (fun h => by omega) fun _ => hnx _ (.inr rfl) (by rw [hs]; simp)
      · rw [s_attr_Judge2]
        exact ok_if (fun h => by simp at h) fun _ => hk _ rfl
  subst hi2
  refine ok_ifnb (fun h => Bool.noConfusion h) fun _ => some_ h3 (ok_if (fun h => (h q3).elim) fun _ => ok_bde (num_eq _ hhop) (ok_ifnb (fun h => Bool.noConfusion h) fun _ => none_ h4 ?_))
  by_cases h0 : p.Otc = 0
  · rw [if_pos h0] at h35
    refine none_ h35 (ok_some ?_)
    rw [← h0]
  · rw [if_neg h0] at h35
    exact some_ h35 (ok_if (fun h => (h q35).elim) fun _ => ok_bde (num_eq _ ⟨by omega, hotc⟩) (ok_ifnb (fun h => Bool.noConfusion h) fun _ => ok_some rfl))
theorem judge_some {bk : List (Int × Attr) → Option (Path × Int × Note)} (h0 : ∀ l, m_attr_Judge l = loopC (s_attr_Judge1 l) bk BIG ((0 : Int), [])) (l : List Attr) (hl : l.length ≤ 1000) {e : List (Int × Attr)} {r : Path × Int × Note} (hg : gat [] l = some e) (hb : bk e = some r) : m_attr_Judge l = some r := by
  refine (?_ : Ok (m_attr_Judge l) (· = r)).elim fun x h => by rw [h.1, h.2]
  rw [h0]
  refine ok_acc' l.length (fun i e' => gat e' (l.drop i) = some e) (by omega) hg (fun i e' hi hI nx hnx => ?_) (fun e' hI nx => ?_)
  · rw [List.drop_eq_getElem_cons hi, gat] at hI
    rw [s_attr_Judge1]
    refine ok_if (fun _ => ok_ix (by dsimp only; omega) (by dsimp only; omega) fun hlt => ?_) fun h => absurd (Int.ofNat_lt.2 hi) h
    simp only [Int.toNat_natCast]
    rw [mhas_get]
    cases hg : mget e' l[i].Typ with
    | some z =>
      rw [hg, if_pos (show (some z).isSome = true from rfl)] at hI
      rw [show (some z).isSome = true from rfl, cond_true]
      exact ok_bde rfl (hnx _ hI)
    | none =>
      rw [hg, if_neg (show ¬ (none : Option Attr).isSome = true by decide)] at hI
      rw [show (none : Option Attr).isSome = false from rfl, cond_false]
      refine ok_bde (ms_eq _ _ _) (ok_bde (fatal_eq _) (ok_ifb (fun hf => ?_) fun hf => hnx _ ?_))
      · rw [if_pos hf] at hI; cases hI
      · rw [if_neg (by rw [hf]; decide)] at hI
        rw [set_new hg]
        exact hI
  · rw [List.drop_length, gat] at hI
    cases hI
    rw [s_attr_Judge1]
    exact ok_if (fun h => by dsimp only at h; omega) fun _ => ⟨r, hb, rfl⟩
theorem gat_app : ∀ (l r : List Attr) (e e' : List (Int × Attr)), gat e l = some e' → gat e (l ++ r) = gat e' r
  | [], r, e, e', h => by rw [gat] at h; cases h; rfl
  | y :: ys, r, e, e', h => by
    rw [gat] at h
    rw [List.cons_append, gat]
    split at h
    · rename_i g; rw [if_pos g]; exact gat_app ys r _ _ h
    · rename_i g
      rw [if_neg g]
      split at h
      · cases h
      · rename_i g; rw [if_neg g]; exact gat_app ys r _ _ h
theorem once_of (p : Path) : Once (ofL p) := by
  unfold Once ofL
  split <;> simp
theorem fatal_known (y : Attr) (h : (1 ≤ y.Typ ∧ y.Typ ≤ 7) ∨ y.Typ = 35 ∨ ¬ (IntKind.i64.wrap ((BitVec.ofInt IntKind.i64.bits y.Flags &&& BitVec.ofInt IntKind.i64.bits (128 : Int)).toNat : Int)) = 0) : fatalB y = false := by
  obtain ⟨b, e, hb⟩ : Ok (m_attr_fatal y) (· = false) := by
    unfold m_attr_fatal
    exact ok_if (fun _ => ok_if (fun _ => ok_some rfl) fun _ => ok_ifn (fun _ => ok_some (decide_eq_false (by omega))) fun _ => ok_some rfl) fun _ => ok_ifn (fun _ => ok_some (decide_eq_false (by omega))) fun _ => ok_some rfl
  unfold fatalB
  rw [e, hb]
  rfl
theorem mem_ofL {p : Path} {z : Attr} (h : z ∈ ofL p) : z.Typ = 1 ∨ z.Typ = 2 ∨ z.Typ = 3 ∨ z.Typ = 35 := by
  unfold ofL at h
  split at h <;> simp at h
  · rcases h with rfl | rfl | rfl <;> simp
  · rcases h with rfl | rfl | rfl | rfl <;> simp
theorem lo_eq (v : Int) : IntKind.i64.wrap ((BitVec.ofInt IntKind.i64.bits v &&& BitVec.ofInt IntKind.i64.bits (4294967295 : Int)).toNat : Int) = v % 4294967296 := by
  have h := and_mask v 32 (by omega)
  rw [show ((2 : Int) ^ 32 - 1) = 4294967295 by decide, show ((2 : Int) ^ 32) = 4294967296 by decide] at h
  exact h
/-- What is left under a mask. -/
def lowCut (a n : Int) : Int := a % 4294967296 - a % 4294967296 % (2 : Int) ^ (32 - n).toNat
theorem cut_rng (a n : Int) : 0 ≤ lowCut a n ∧ lowCut a n < 4294967296 := by
  have h0 := Int.emod_nonneg a (show (4294967296 : Int) ≠ 0 by decide)
  have h1 := Int.emod_lt_of_pos a (show (0 : Int) < 4294967296 by decide)
  have hp : (0 : Int) < 2 ^ (32 - n).toNat := Int.pow_pos (by decide)
  have h2 := Int.emod_nonneg (a % 4294967296) (show (2 : Int) ^ (32 - n).toNat ≠ 0 by omega)
  have h3 : a % 4294967296 % (2 : Int) ^ (32 - n).toNat ≤ a % 4294967296 := by
    have := Int.emod_def (a % 4294967296) ((2 : Int) ^ (32 - n).toNat)
    have hq : 0 ≤ (a % 4294967296) / (2 : Int) ^ (32 - n).toNat := Int.ediv_nonneg h0 (by omega)
    have := Int.mul_nonneg (Int.le_of_lt hp) hq
    omega
  unfold lowCut
  omega
theorem mask_val (a n : Int) (h : 0 ≤ n ∧ n ≤ 32) : m_prefix_Mask a n = some (lowCut a n) := by
  unfold m_prefix_Mask
  have e1 : (if (0 : Int) > n then (0 : Int) else n) = n := if_neg (by omega)
  have e2 : (if (32 : Int) < n then (32 : Int) else n) = n := if_neg (by omega)
  have e3 : IntKind.i64.wrap (32 - n) = 32 - n := w64 (by omega) (by omega)
  have e4 : min (32 - n).toNat IntKind.i64.bits = (32 - n).toNat := Nat.min_eq_left (show (32 - n).toNat ≤ 64 by omega)
  rw [e1, e2, e3, nn_some (by omega), nn_some (by omega), e4, lo_eq]
  have hp : (0 : Int) < 2 ^ (32 - n).toNat := Int.pow_pos (by decide)
  have hr := cut_rng a n
  rw [Int.fdiv_eq_ediv_of_nonneg _ (Int.le_of_lt hp)]
  have hd := Int.emod_def (a % 4294967296) ((2 : Int) ^ (32 - n).toNat)
  have he : a % 4294967296 / (2 : Int) ^ (32 - n).toNat * (2 : Int) ^ (32 - n).toNat = lowCut a n := by
    unfold lowCut
    rw [hd, Int.mul_comm]
    omega
  rw [he, w64 (by omega) (by omega)]
/-- A prefix that may be. -/
def PrefixOk (x : Prefix) : Prop := (0 ≤ x.N ∧ x.N ≤ 32) ∧ lowCut x.A x.N = x.A
theorem t_psane (x : Prefix) : Ok (m_prefix_Sane x) fun b => b = true ↔ PrefixOk x := by
  unfold m_prefix_Sane PrefixOk
  refine ok_if (fun h1 => ok_if (fun h2 => ok_bde (mask_val _ _ ⟨h1, h2⟩) (ok_some ?_)) fun h => ok_some ?_) fun h => ok_some ?_
  · rw [decide_eq_true_eq]
    exact ⟨fun k => ⟨⟨h1, h2⟩, k⟩, fun k => k.2⟩
  · exact ⟨fun k => Bool.noConfusion k, fun k => by omega⟩
  · exact ⟨fun k => Bool.noConfusion k, fun k => by omega⟩
theorem lowCut_idem (a n : Int) : lowCut (lowCut a n) n = lowCut a n := by
  have hr := cut_rng a n
  have e : lowCut a n = (2 : Int) ^ (32 - n).toNat * (a % 4294967296 / (2 : Int) ^ (32 - n).toNat) := by
    unfold lowCut
    rw [Int.emod_def (a % 4294967296) ((2 : Int) ^ (32 - n).toNat)]
    omega
  have h1 : lowCut a n % 4294967296 = lowCut a n := Int.emod_eq_of_lt hr.1 hr.2
  have h2 : lowCut a n % (2 : Int) ^ (32 - n).toNat = 0 := by rw [e, Int.mul_emod_right]
  show lowCut a n % 4294967296 - lowCut a n % 4294967296 % (2 : Int) ^ (32 - n).toNat = _
  rw [h1, h2]
  omega

/-- How many octets a prefix's number has. -/
def sizeP (n : Int) : Int := (n + 7) / 8
theorem size_eq (n : Int) (h : 0 ≤ n ∧ n ≤ 255) : m_prefix_size n = some (sizeP n) := by
  unfold m_prefix_size sizeP
  rw [w64 (x := n + 7) (by omega) (by omega), Int.tdiv_eq_ediv_of_nonneg (by omega), w64 (by omega) (by omega)]
/-- The octets of a prefix. -/
def encP (x : Prefix) : List UInt8 := putL x.N 1 ++ putL (x.A / (2 : Int) ^ (32 - 8 * sizeP x.N).toNat) (sizeP x.N).toNat
theorem pfx_val {x : Prefix} (h : PrefixOk x) : (0 ≤ x.A ∧ x.A < 4294967296) ∧ (2 : Int) ^ (32 - x.N).toNat ∣ x.A := by
  obtain ⟨h1, h2⟩ := h
  have hr := cut_rng x.A x.N
  rw [h2] at hr
  refine ⟨hr, ?_⟩
  have e : lowCut x.A x.N = (2 : Int) ^ (32 - x.N).toNat * (x.A % 4294967296 / (2 : Int) ^ (32 - x.N).toNat) := by
    unfold lowCut
    rw [Int.emod_def (x.A % 4294967296) ((2 : Int) ^ (32 - x.N).toNat)]
    omega
  rw [h2] at e
  rw [e]
  exact Int.dvd_mul_right _ _
theorem pow_dvd {a b : Nat} (h : a ≤ b) : (2 : Int) ^ a ∣ 2 ^ b := by
  have := Nat.pow_dvd_pow 2 h
  exact_mod_cast this
theorem pfx_oct {x : Prefix} (h : PrefixOk x) : (0 ≤ sizeP x.N ∧ sizeP x.N ≤ 4) ∧ (2 : Int) ^ (32 - 8 * sizeP x.N).toNat ∣ x.A ∧ 0 ≤ x.A / (2 : Int) ^ (32 - 8 * sizeP x.N).toNat ∧ x.A / (2 : Int) ^ (32 - 8 * sizeP x.N).toNat < (256 : Int) ^ (sizeP x.N).toNat := by
  obtain ⟨hr, hd⟩ := pfx_val h
  have hN := h.1
  have hs : 0 ≤ sizeP x.N ∧ sizeP x.N ≤ 4 := by unfold sizeP; omega
  have hle : (32 - 8 * sizeP x.N).toNat ≤ (32 - x.N).toNat := by unfold sizeP; omega
  have hp : (0 : Int) < 2 ^ (32 - 8 * sizeP x.N).toNat := Int.pow_pos (by decide)
  refine ⟨hs, Int.dvd_trans (pow_dvd hle) hd, Int.ediv_nonneg hr.1 (Int.le_of_lt hp), ?_⟩
  refine Int.ediv_lt_of_lt_mul hp ?_
  have : (256 : Int) ^ (sizeP x.N).toNat * 2 ^ (32 - 8 * sizeP x.N).toNat = 4294967296 := by
    have : sizeP x.N = 0 ∨ sizeP x.N = 1 ∨ sizeP x.N = 2 ∨ sizeP x.N = 3 ∨ sizeP x.N = 4 := by omega
    rcases this with e | e | e | e | e <;> rw [e] <;> decide
  rw [this]
  exact hr.2
theorem prefixPut_eq (l : List UInt8) (x : Prefix) (hl : l.length ≤ 1000000) (h : PrefixOk x) : m_prefix_Put l x = some (l ++ encP x) := by
  refine (?_ : Ok (m_prefix_Put l x) (· = l ++ encP x)).elim fun x h => by rw [h.1, h.2]
  obtain ⟨hs, hd, h0, h1⟩ := pfx_oct h
  have hN := h.1
  obtain ⟨b, e, hb⟩ := t_psane x
  have hb := hb.2 h
  subst hb
  unfold m_prefix_Put encP
  refine ok_bde e (ok_ifnb (fun k => Bool.noConfusion k) fun _ => ok_bde (size_eq _ (by omega)) (ok_bde (octPut_eq _ _ 1 (by omega) (by omega) (by omega)) ?_))
  have hw : IntKind.i64.wrap ((32 : Int) - IntKind.i64.wrap ((8 : Int) * sizeP x.N)) = 32 - 8 * sizeP x.N := by
    rw [w64 (x := 8 * sizeP x.N) (by omega) (by omega), w64 (by omega) (by omega)]
  have hm : min (32 - 8 * sizeP x.N).toNat IntKind.i64.bits = (32 - 8 * sizeP x.N).toNat := Nat.min_eq_left (show _ ≤ 64 by omega)
  have hp : (0 : Int) < 2 ^ (32 - 8 * sizeP x.N).toNat := Int.pow_pos (by decide)
  rw [hw, nn_some (by omega), hm, Int.fdiv_eq_ediv_of_nonneg _ (Int.le_of_lt hp)]
  by_cases hz : sizeP x.N = 0
  · have : m_octet_Put (l ++ putL x.N (1 : Int).toNat) (x.A / (2 : Int) ^ (32 - 8 * sizeP x.N).toNat) (sizeP x.N) = some (l ++ putL x.N (1 : Int).toNat) := by
      unfold m_octet_Put
      rw [decide_eq_true (by omega), cond_true]
    refine ok_bde this (ok_some ?_)
    rw [hz]
    simp [putL]
  · refine ok_bde (octPut_eq _ _ _ (by omega) (by omega) (by simp [putL_length]; omega)) (ok_some ?_)
    rw [List.append_assoc]
    rfl
theorem encP_pos (x : Prefix) : 0 < (encP x).length := by
  unfold encP
  simp only [List.length_append, putL_length]
  omega
theorem encP_len {x : Prefix} (h : PrefixOk x) : (encP x).length ≤ 5 := by
  have := (pfx_oct h).1
  unfold encP
  simp only [List.length_append, putL_length]
  omega
theorem prefixGet_eq (x : Prefix) (t : List UInt8) (h : PrefixOk x) : m_prefix_Get (encP x ++ t) = some (x, t, true) := by
  refine (?_ : Ok (m_prefix_Get (encP x ++ t)) (· = (x, t, true))).elim fun x h => by rw [h.1, h.2]
  obtain ⟨hs, hd, h0, h1⟩ := pfx_oct h
  obtain ⟨hr, _⟩ := pfx_val h
  have hN := h.1
  have hp : (0 : Int) < 2 ^ (32 - 8 * sizeP x.N).toNat := Int.pow_pos (by decide)
  unfold m_prefix_Get encP
  rw [List.append_assoc]
  refine ok_bde (get_put _ 1 _ 1 rfl (by omega) (by omega)) (ok_ifnb (fun k => Bool.noConfusion k) fun _ => ok_if (fun k => by dsimp only at k; omega) fun _ => ok_bde (size_eq _ (by dsimp only; omega)) (ok_if (fun hz => ok_some ?_) fun hz => ?_))
  · dsimp only at hz
    have hN0 : x.N = 0 := by unfold sizeP at hz; omega
    have hA := h.2
    rw [hN0] at hA
    have hA0 : x.A = 0 := by
      unfold lowCut at hA
      rw [show (2 : Int) ^ ((32 : Int) - 0).toNat = 4294967296 by decide] at hA
      omega
    obtain ⟨a, n⟩ := x
    dsimp only at hN0 hA0
    subst hN0 hA0
    rfl
  · dsimp only at hz ⊢
    have hw : IntKind.i64.wrap ((32 : Int) - IntKind.i64.wrap ((8 : Int) * sizeP x.N)) = 32 - 8 * sizeP x.N := by
      rw [w64 (x := 8 * sizeP x.N) (by omega) (by omega), w64 (by omega) (by omega)]
    have hm : min (32 - 8 * sizeP x.N).toNat IntKind.i64.bits = (32 - 8 * sizeP x.N).toNat := Nat.min_eq_left (show _ ≤ 64 by omega)
    refine ok_bde (get_put _ (sizeP x.N).toNat _ _ (by omega) (by omega) ⟨h0, h1⟩) (ok_ifnb (fun k => Bool.noConfusion k) fun _ => ?_)
    rw [hw, nn_some (by omega), hm, Int.ediv_mul_cancel hd, w64 (by omega) (by omega), mask_val _ _ hN, h.2, bd_some]
    exact ok_some rfl
theorem prefixAll_eq (L : List Prefix) (hc : ∀ x ∈ L, PrefixOk x) (hl : L.length ≤ 10000) : m_prefix_All (L.flatMap encP) = some (L, true) := by
  refine (?_ : Ok (m_prefix_All (L.flatMap encP)) (· = (L, true))).elim fun x h => by rw [h.1, h.2]
  unfold m_prefix_All
  refine ok_loop (fun st => ∃ i : Nat, i ≤ L.length ∧ st.1 = (L.drop i).flatMap encP ∧ st.2 = L.take i) (fun st => L.length - st.2.length) ⟨0, Nat.zero_le _, rfl, rfl⟩ (by dsimp only; omega) ?_
  rintro ⟨_, _⟩ ⟨i, hi, rfl, rfl⟩ nx hnx
  rw [s_prefix_All1]
  dsimp only at hnx ⊢
  by_cases hlt : i < L.length
  · rw [List.drop_eq_getElem_cons hlt, List.flatMap_cons]
    refine ok_bde (prefixGet_eq _ _ (hc _ (List.getElem_mem hlt))) (ok_ifb (fun _ => ok_ap (by simp; omega) (by simp; omega) (hnx _ ⟨i + 1, hlt, rfl, List.take_append_getElem hlt⟩ ?_)) fun h => Bool.noConfusion h)
    simp only [List.length_append, List.length_take, List.length_singleton]
    omega
  · rw [List.drop_of_length_le (by omega), List.take_of_length_le (by omega)]
    have : m_prefix_Get [] = some (⟨0, 0⟩, [], false) := by
      unfold m_prefix_Get
      rw [octGet_eq [] 1 (by omega) (by omega), bd_some, if_neg (by simp)]
      rfl
    exact ok_bde this (ok_ifb (fun h => Bool.noConfusion h) fun _ => ok_if (fun h => absurd h (by simp)) fun _ => ok_some rfl)
theorem prefixes_eq (L : List Prefix) (hc : ∀ x ∈ L, PrefixOk x) (hl : L.length ≤ 10000) : m_update_prefixes L = some (L.flatMap encP) := by
  refine (?_ : Ok (m_update_prefixes L) (· = L.flatMap encP)).elim fun x h => by rw [h.1, h.2]
  unfold m_update_prefixes
  refine ok_acc L.length (fun i b => b = (L.take i).flatMap encP ∧ b.length ≤ 5 * i) (by omega) ⟨rfl, Nat.zero_le _⟩ (fun i b hi hI nx hnx => ?_) (fun b hI nx => ?_)
  · obtain ⟨hI, hb⟩ := hI
    have hx := hc _ (List.getElem_mem hi)
    have hxl := encP_len hx
    rw [s_update_prefixes1]
    refine ok_if (fun _ => ok_ix (by dsimp only; omega) (by dsimp only; omega) fun hlt => ?_) fun h => absurd (Int.ofNat_lt.2 hi) h
    simp only [Int.toNat_natCast]
    refine ok_bde (prefixPut_eq [] _ (by simp) hx) ?_
    rw [List.nil_append]
    refine ok_ap (by omega) (by omega) (hnx _ ⟨?_, by rw [List.length_append]; omega⟩)
    rw [hI, ← List.take_append_getElem hi, List.flatMap_append]
    simp
  · rw [s_update_prefixes1]
    refine ok_if (fun h => by dsimp only at h; omega) fun _ => ok_some ?_
    have := hI.1
    rwa [List.take_length] at this

theorem canon_fl (y : Attr) : (y.Flags = 64 → IntKind.i64.wrap ((BitVec.ofInt IntKind.i64.bits (canon y).Flags &&& BitVec.ofInt IntKind.i64.bits (192 : Int)).toNat : Int) = 64) ∧ (y.Flags = 192 → IntKind.i64.wrap ((BitVec.ofInt IntKind.i64.bits (canon y).Flags &&& BitVec.ofInt IntKind.i64.bits (192 : Int)).toNat : Int) = 192) := by
  have a1 : IntKind.i64.wrap ((BitVec.ofInt IntKind.i64.bits (c1 (c0 64)) &&& BitVec.ofInt IntKind.i64.bits (192 : Int)).toNat : Int) = 64 := by decide
  have a2 : IntKind.i64.wrap ((BitVec.ofInt IntKind.i64.bits (c0 64) &&& BitVec.ofInt IntKind.i64.bits (192 : Int)).toNat : Int) = 64 := by decide
  have a3 : IntKind.i64.wrap ((BitVec.ofInt IntKind.i64.bits (c1 (c0 192)) &&& BitVec.ofInt IntKind.i64.bits (192 : Int)).toNat : Int) = 192 := by decide
  have a4 : IntKind.i64.wrap ((BitVec.ofInt IntKind.i64.bits (c0 192) &&& BitVec.ofInt IntKind.i64.bits (192 : Int)).toNat : Int) = 192 := by decide
  unfold canon
  dsimp only
  split
  · exact ⟨fun h => by rw [h]; exact a1, fun h => by rw [h]; exact a3⟩
  · exact ⟨fun h => by rw [h]; exact a2, fun h => by rw [h]; exact a4⟩
theorem seg_len (as : List Int) (h : as.length ≤ 255) : (segL as).length ≤ 1022 := by
  have hfl : (as.flatMap fun x => putL x 4).length = 4 * as.length := by
    generalize as = l
    induction l with
    | nil => rfl
    | cons x xs ih => rw [List.flatMap_cons, List.length_append, ih, putL_length, List.length_cons]; omega
  unfold segL
  split
  · simp
  · simp only [List.length_cons, hfl]; omega
theorem ofL_ok {p : Path} (hp : PathOk p) {y : Attr} (h : y ∈ ofL p) : (0 ≤ y.Flags ∧ y.Flags ≤ 255) ∧ (0 ≤ y.Typ ∧ y.Typ ≤ 255) ∧ y.Data.length ≤ 1022 := by
  have hs := seg_len p.As hp.2.2.1
  unfold ofL at h
  split at h <;> simp at h
  · rcases h with rfl | rfl | rfl <;> simp [putL_length, hs]
  · rcases h with rfl | rfl | rfl | rfl <;> simp [putL_length, hs]
theorem ofL_len (p : Path) : (ofL p).length ≤ 4 := by
  unfold ofL
  split <;> simp
/-- What is said of a path. -/
def saidL (p : Path) : List Attr := (ofL p).map canon
theorem judge_said (p : Path) (hp : PathOk p) : m_attr_Judge (saidL p) = some (p, 0, ⟨0, 0, []⟩) := by
  obtain ⟨bk, h0, hof⟩ := judge_of
  have hoL : Once (saidL p) := List.pairwise_map.2 (once_of p)
  have hmem : ∀ z ∈ saidL p, ∃ y ∈ ofL p, z = canon y := fun z hz => by
    obtain ⟨y, hy, e⟩ := List.mem_map.1 hz
    exact ⟨y, hy, e.symm⟩
  have hfat : (saidL p).any fatalB = false := by
    rw [List.any_eq_false]
    intro z hz
    rw [Bool.not_eq_true]
    obtain ⟨y, hy, rfl⟩ := hmem z hz
    have := mem_ofL hy
    exact fatal_known _ (by show (1 ≤ y.Typ ∧ y.Typ ≤ 7) ∨ y.Typ = 35 ∨ _; omega)
  have hg : gat [] (saidL p) = some ((saidL p).map fun y => (y.Typ, y)) := by
    rw [gat_once _ [] hoL fun y _ => by simp [mget_eq], hfat]
    rfl
  have hmg := fun t z => mget_once t (saidL p) hoL z
  have hin : ∀ {y : Attr}, y ∈ ofL p → mget ((saidL p).map fun y => (y.Typ, y)) y.Typ = some (canon y) := fun hy => (hmg _ _).2 ⟨List.mem_map_of_mem hy, rfl⟩
  have hno : ∀ t, (∀ y ∈ ofL p, ¬ y.Typ = t) → mget ((saidL p).map fun y => (y.Typ, y)) t = none := fun t h => by
    cases hm : mget ((saidL p).map fun y => (y.Typ, y)) t with
    | none => rfl
    | some z =>
      obtain ⟨q1, q2⟩ := (hmg t z).1 hm
      obtain ⟨y, hy, rfl⟩ := hmem z q1
      exact absurd q2 (h y hy)
  have hlen := ofL_len p
  refine judge_some h0 _ (by unfold saidL; rw [List.length_map]; omega) hg (hof p hp _ (canon ⟨64, 1, putL p.Origin 1⟩).Flags (canon ⟨64, 2, segL p.As⟩).Flags (canon ⟨64, 3, putL p.Hop 4⟩).Flags (canon ⟨192, 35, putL p.Otc 4⟩).Flags
    (hin (y := ⟨64, 1, putL p.Origin 1⟩) (by simp [ofL])) (hin (y := ⟨64, 2, segL p.As⟩) (by simp [ofL])) (hin (y := ⟨64, 3, putL p.Hop 4⟩) (by simp [ofL])) (hno 4 fun z hz => by have := mem_ofL hz; omega) ?_ ((canon_fl _).1 rfl) ((canon_fl _).1 rfl) ((canon_fl _).1 rfl) ((canon_fl _).2 rfl))
  by_cases ho : p.Otc = 0
  · rw [if_pos ho]
    refine hno 35 fun z hz => ?_
    unfold ofL at hz
    rw [if_pos ho] at hz
    simp at hz
    rcases hz with rfl | rfl | rfl <;> simp
  · rw [if_neg ho]
    exact hin (y := ⟨192, 35, putL p.Otc 4⟩) (by simp [ofL, ho])
theorem attrs_eq (p : Path) (hp : PathOk p) : m_update_attributes p = some ((saidL p).flatMap encA) := by
  refine (?_ : Ok (m_update_attributes p) (· = (saidL p).flatMap encA)).elim fun x h => by rw [h.1, h.2]
  have hlen := ofL_len p
  unfold m_update_attributes
  refine ok_bde (of_eq p hp) (ok_acc (ofL p).length (fun i b => b = (((ofL p).take i).map canon).flatMap encA ∧ b.length ≤ 2000 * i) (by omega) ⟨by simp, by simp⟩ (fun i b hi hI nx hnx => ?_) (fun b hI nx => ?_))
  · obtain ⟨hI, hb⟩ := hI
    obtain ⟨hf, ht, hd⟩ := ofL_ok hp (List.getElem_mem hi)
    have hel := enc_len (canon (ofL p)[i])
    have hcd : (canon (ofL p)[i]).Data = (ofL p)[i].Data := rfl
    rw [hcd] at hel
    rw [s_update_attributes1]
    refine ok_if (fun _ => ok_ix (by dsimp only; omega) (by dsimp only; omega) fun hlt => ?_) fun h => absurd (Int.ofNat_lt.2 hi) h
    simp only [Int.toNat_natCast]
    refine ok_bde (attrPut_eq b _ (by omega) hf ht (by omega)) (hnx _ ⟨?_, by rw [List.length_append]; omega⟩)
    rw [hI, ← List.take_append_getElem hi, List.map_append, List.flatMap_append]
    simp
  · rw [s_update_attributes1]
    refine ok_if (fun h => by dsimp only at h; omega) fun _ => ok_some ?_
    have := hI.1
    rwa [List.take_length] at this
theorem said_canon {p : Path} (hp : PathOk p) : ∀ y ∈ saidL p, Canon y := fun z hz => by
  obtain ⟨y, hy, rfl⟩ := List.mem_map.1 hz
  obtain ⟨hf, ht, hd⟩ := ofL_ok hp hy
  exact canon_ok y hf ht (by omega)
theorem said_len {p : Path} (hp : PathOk p) : ((saidL p).flatMap encA).length ≤ 5000 := by
  have hb : ∀ l : List Attr, (∀ y ∈ l, y.Data.length ≤ 1022) → (l.flatMap encA).length ≤ 1026 * l.length := fun l => by
    induction l with
    | nil => intro _; simp
    | cons x xs ih =>
      intro h
      have h1 := enc_len x
      have h2 := h x List.mem_cons_self
      have := ih fun y hy => h y (List.mem_cons_of_mem _ hy)
      rw [List.flatMap_cons, List.length_append, List.length_cons]
      omega
  have hlen := ofL_len p
  have := hb (saidL p) fun z hz => by
    obtain ⟨y, hy, rfl⟩ := List.mem_map.1 hz
    exact (ofL_ok hp hy).2.2
  have hl2 : (saidL p).length = (ofL p).length := List.length_map _
  omega
end Go.Proofs.Ytkdodhkiemfpeaa
namespace Go.Proofs.Ytkdodhkiemfpeaa
open Go.RowKit
set_option linter.unusedVariables false
set_option linter.unusedSimpArgs false
set_option maxRecDepth 100000
set_option maxHeartbeats 1000000

/-- News that may be. -/
structure NewsOk (n : News) : Prop where
  gone : ∀ x ∈ n.Gone, PrefixOk x
  nlri : ∀ x ∈ n.Nlri, PrefixOk x
  path : ¬ n.Nlri.length = 0 → PathOk n.P
  none : n.Nlri.length = 0 → n.P = ⟨0, [], 0, 0⟩
theorem t_uSane (n : News) (hg : n.Gone.length ≤ 1000) (hn : n.Nlri.length ≤ 1000) (hp : n.P.As.length ≤ 1000) : Ok (m_update_Sane n) fun b => b = true ↔ NewsOk n := by
  unfold m_update_Sane
  have no : ∀ {A : Prop}, ¬ A → Ok (some false : Option Bool) (fun b => b = true ↔ A) := fun h => ok_some ⟨fun k => Bool.noConfusion k, fun k => absurd k h⟩
  refine ok_idx n.Gone.length (fun m => ∀ i (h : i < n.Gone.length), i < m → PrefixOk n.Gone[i]) (by omega) (fun _ _ h => absurd h (Nat.not_lt_zero _)) (fun i hi hI nx hnx => ?_) (fun hI nx => ?_)
  · rw [s_update_Sane1]
    refine ok_if (fun _ => ok_ix (by omega) (by omega) fun hlt => ?_) fun h => absurd (Int.ofNat_lt.2 hi) h
    simp only [Int.toNat_natCast]
    refine ok_bd (t_psane _) fun r _ hr => ok_ifnb (fun h => no fun k => by rw [hr.2 (k.gone _ (List.getElem_mem hi))] at h; cases h) fun h => hnx fun m hm hmi => ?_
    rcases Nat.lt_succ_iff_lt_or_eq.1 hmi with g | rfl
    · exact hI m hm g
    · exact hr.1 h
  rw [s_update_Sane1]
  have hG : ∀ x ∈ n.Gone, PrefixOk x := fun x hx => by
    obtain ⟨i, hi, rfl⟩ := List.getElem_of_mem hx
    exact hI i hi hi
  refine ok_if (fun h => by omega) fun _ => ok_idx n.Nlri.length (fun m => ∀ i (h : i < n.Nlri.length), i < m → PrefixOk n.Nlri[i]) (by omega) (fun _ _ h => absurd h (Nat.not_lt_zero _)) (fun i hi hJ nx2 hnx => ?_) (fun hJ nx2 => ?_)
  · rw [s_update_Sane2]
    refine ok_if (fun _ => ok_ix (by omega) (by omega) fun hlt => ?_) fun h => absurd (Int.ofNat_lt.2 hi) h
    simp only [Int.toNat_natCast]
    refine ok_bd (t_psane _) fun r _ hr => ok_ifnb (fun h => no fun k => by rw [hr.2 (k.nlri _ (List.getElem_mem hi))] at h; cases h) fun h => hnx fun m hm hmi => ?_
    rcases Nat.lt_succ_iff_lt_or_eq.1 hmi with g | rfl
    · exact hJ m hm g
    · exact hr.1 h
  rw [s_update_Sane2]
  have hN : ∀ x ∈ n.Nlri, PrefixOk x := fun x hx => by
    obtain ⟨i, hi, rfl⟩ := List.getElem_of_mem hx
    exact hJ i hi hi
  refine ok_if (fun h => by omega) fun _ => ok_if (fun h0 => ok_bd (t_attrSane _ (by omega)) fun b _ hb => ok_some ⟨fun h => ⟨hG, hN, fun _ => hb.1 h, fun h => by omega⟩, fun k => hb.2 (k.path (by omega))⟩) fun h0 => ?_
  have hz : n.Nlri.length = 0 := by omega
  refine ok_if (fun p1 => ok_if (fun p2 => ok_if (fun p3 => ok_some ?_) fun p3 => no fun k => p3 (by rw [k.none hz])) fun p2 => no fun k => p2 (by rw [k.none hz]; rfl)) fun p1 => no fun k => p1 (by rw [k.none hz])
  rw [decide_eq_true_eq]
  refine ⟨fun p4 => ⟨hG, hN, fun h => absurd hz h, fun _ => ?_⟩, fun k => by rw [k.none hz]⟩
  have e : n.P = ⟨n.P.Origin, n.P.As, n.P.Hop, n.P.Otc⟩ := rfl
  rw [e, p1, p3, p4, List.length_eq_zero_iff.1 (by omega : n.P.As.length = 0)]
/-- What is said of the news' path. -/
def saidN (n : News) : List Attr := if n.Nlri.length = 0 then [] else saidL n.P
theorem attrs_none : m_update_attributes ⟨0, [], 0, 0⟩ = some [] := by kernel_rfl
theorem attrsN (n : News) (h : NewsOk n) : m_update_attributes n.P = some ((saidN n).flatMap encA) := by
  unfold saidN
  split
  · rename_i hz
    rw [h.none hz]
    exact attrs_none
  · rename_i hz
    exact attrs_eq _ (h.path hz)
theorem msgSane_eq (b : List UInt8) (h4 : 4 ≤ b.length) (hl : b.length ≤ 1000000) : m_msg_Sane ⟨2, b⟩ = some (decide (b.length ≤ 4077)) := by
  refine (?_ : Ok (m_msg_Sane ⟨2, b⟩) (· = decide (b.length ≤ 4077))).elim fun x h => by rw [h.1, h.2]
  unfold m_msg_Sane m_msg_wrong m_msg_Least
  dsimp only
  have hw : IntKind.i64.wrap ((19 : Int) + (b.length : Int)) = 19 + (b.length : Int) := w64 (by omega) (by omega)
  have h23 : IntKind.i64.wrap ((4 : Int) + (19 : Int)) = 23 := w64 (by omega) (by omega)
  rw [hw, h23]
  rw [decide_eq_false (show ¬ (2 : Int) = 1 by decide), decide_eq_true (show (2 : Int) = 2 by decide), decide_eq_false (show ¬ (2 : Int) = 4 by decide)]
  simp only [cond_true, cond_false, bd_some]
  refine ok_if (fun _ => ok_bde (x := false) ?_ (ok_ifnb (fun _ => ok_some (decide_eq_decide.2 (by omega))) fun h => Bool.noConfusion h)) fun h => absurd (by decide) h
  rw [decide_eq_false (by omega)]
  rfl
/-- The octets of news. -/
def encN (n : News) : List UInt8 := putL ((n.Gone.flatMap encP).length : Int) 2 ++ (n.Gone.flatMap encP ++ (putL (((saidN n).flatMap encA).length : Int) 2 ++ ((saidN n).flatMap encA ++ n.Nlri.flatMap encP)))
theorem encPs_len : ∀ {l : List Prefix}, (∀ x ∈ l, PrefixOk x) → (l.flatMap encP).length ≤ 5 * l.length
  | [], _ => by simp
  | x :: xs, h => by
    have h1 := encP_len (h x List.mem_cons_self)
    have := encPs_len (l := xs) fun y hy => h y (List.mem_cons_of_mem _ hy)
    rw [List.flatMap_cons, List.length_append, List.length_cons]
    omega
theorem saidN_len {n : News} (h : NewsOk n) : ((saidN n).flatMap encA).length ≤ 1062 := by
  unfold saidN
  split
  · simp
  · rename_i hz
    have hp := h.path hz
    unfold saidL ofL
    have hs := seg_len n.P.As hp.2.2.1
    have e1 := enc_len (canon ⟨64, 1, putL n.P.Origin 1⟩)
    have e2 := enc_len (canon ⟨64, 2, segL n.P.As⟩)
    have e3 := enc_len (canon ⟨64, 3, putL n.P.Hop 4⟩)
    have e4 := enc_len (canon ⟨192, 35, putL n.P.Otc 4⟩)
    have d1 : (canon ⟨64, 1, putL n.P.Origin 1⟩).Data.length = 1 := putL_length _ _
    have d2 : (canon ⟨64, 2, segL n.P.As⟩).Data.length = (segL n.P.As).length := rfl
    have d3 : (canon ⟨64, 3, putL n.P.Hop 4⟩).Data.length = 4 := putL_length _ _
    have d4 : (canon ⟨192, 35, putL n.P.Otc 4⟩).Data.length = 4 := putL_length _ _
    split <;> simp only [List.append_nil, List.cons_append, List.nil_append, List.map_cons, List.map_nil, List.flatMap_cons, List.flatMap_nil, List.length_append, List.length_nil] <;> omega
theorem uPut_eq (n : News) (hg : n.Gone.length ≤ 40) (hn : n.Nlri.length ≤ 40) (hp : n.P.As.length ≤ 300) (h : NewsOk n) : m_update_Put n = some ⟨2, encN n⟩ ∧ (encN n).length ≤ 2000 ∧ 4 ≤ (encN n).length := by
  obtain ⟨b, e, hb⟩ := t_uSane n (by omega) (by omega) (by omega)
  have hb := hb.2 h
  subst hb
  have l1 := encPs_len h.gone
  have l2 := encPs_len h.nlri
  have l3 := saidN_len h
  have hlen : (encN n).length = 4 + (n.Gone.flatMap encP).length + ((saidN n).flatMap encA).length + (n.Nlri.flatMap encP).length := by
    unfold encN
    simp only [List.length_append, putL_length]
    omega
  refine ⟨?_, by omega, by omega⟩
  refine (?_ : Ok (m_update_Put n) (· = ⟨2, encN n⟩)).elim fun x h => by rw [h.1, h.2]
  unfold m_update_Put
  refine ok_bde e (ok_ifnb (fun k => Bool.noConfusion k) fun _ => ok_bde (prefixes_eq _ h.gone (by omega)) (ok_bde (attrsN n h) (ok_bde (prefixes_eq _ h.nlri (by omega)) (ok_bde (x := encN n) ?_ (ok_bde (msgSane_eq _ (by omega) (by omega)) (ok_ifn (fun k => absurd (by omega) k) fun _ => ok_some rfl))))))
  refine (?_ : Ok (m_update_body _ _ _) (· = encN n)).elim fun x h => by rw [h.1, h.2]
  unfold m_update_body
  refine ok_bde (octPut_eq [] _ 2 (by omega) (by omega) (by simp)) (ok_ap (by simp only [List.length_append, List.length_nil, putL_length]; omega) (by simp only [List.length_append, List.length_nil, putL_length]; omega) (ok_bde (octPut_eq [] _ 2 (by omega) (by omega) (by simp)) (ok_ap (by simp only [List.length_append, List.length_nil, putL_length]; omega) (by simp only [List.length_append, List.length_nil, putL_length]; omega) (ok_ap (by simp only [List.length_append, List.length_nil, putL_length]; omega) (by simp only [List.length_append, List.length_nil, putL_length]; omega) (ok_ap (by simp only [List.length_append, List.length_nil, putL_length]; omega) (by simp only [List.length_append, List.length_nil, putL_length]; omega) (ok_some ?_))))))
  unfold encN
  simp only [List.nil_append, List.append_assoc]
  rfl
theorem counted_eq (v t : List UInt8) (hv : v.length < 65536) : m_update_counted (putL (v.length : Int) 2 ++ (v ++ t)) = some (v, t, true) := by
  refine (?_ : Ok (m_update_counted (putL (v.length : Int) 2 ++ (v ++ t))) (· = (v, t, true))).elim fun x h => by rw [h.1, h.2]
  unfold m_update_counted
  refine ok_bde (get_put _ 2 _ 2 rfl (by omega) ⟨by omega, by omega⟩) (ok_ifnb (fun k => Bool.noConfusion k) fun _ => ok_bde (x := (v, t, true)) ?_ (ok_some rfl))
  dsimp only
  rw [octTake_eq, if_pos (by simp only [List.length_append]; omega)]
  simp
theorem judge_none : m_attr_Judge [] = some (⟨0, [], 0, 0⟩, 1, ⟨0, 0, []⟩) := by kernel_rfl
theorem uGet_eq (n : News) (hg : n.Gone.length ≤ 40) (hn : n.Nlri.length ≤ 40) (h : NewsOk n) (hl : (encN n).length ≤ 2000) (h4 : 4 ≤ (encN n).length) : m_update_Get ⟨2, encN n⟩ = some (n, ⟨0, 0, []⟩) := by
  have l1 := encPs_len h.gone
  have l3 := saidN_len h
  have hsaid : ∀ y ∈ saidN n, Canon y := fun y hy => by
    unfold saidN at hy
    split at hy
    · cases hy
    · rename_i hz
      exact said_canon (h.path hz) y hy
  have hsl : (saidN n).length ≤ 4 := by
    unfold saidN
    split
    · simp
    · unfold saidL; rw [List.length_map]; exact ofL_len _
  refine (?_ : Ok (m_update_Get ⟨2, encN n⟩) (· = (n, ⟨0, 0, []⟩))).elim fun x h => by rw [h.1, h.2]
  unfold m_update_Get
  refine ok_if (fun k => absurd rfl k) fun _ => ok_bde (msgSane_eq _ h4 (by omega)) (ok_ifn (fun k => absurd (by omega) k) fun _ => ?_)
  unfold encN
  refine ok_bde (counted_eq _ _ (by omega)) (ok_bde (counted_eq _ _ (by omega)) (ok_ifnb (fun k => Bool.noConfusion k) fun _ => ok_ifnb (fun k => Bool.noConfusion k) fun _ => ok_bde (prefixAll_eq _ h.gone (by omega)) (ok_bde (prefixAll_eq _ h.nlri (by omega)) (ok_ifnb (fun k => Bool.noConfusion k) fun _ => ok_ifnb (fun k => Bool.noConfusion k) fun _ => ok_bde (attrAll_eq _ hsaid (by omega)) ?_))))
  by_cases hz : n.Nlri.length = 0
  · have hs : saidN n = [] := by unfold saidN; rw [if_pos hz]
    rw [hs]
    refine ok_jn (fun j => j = (1, 0, [], 0, 0, 0, 0, [])) (fun k hk => ok_ifb (fun _ => ok_bde judge_none (hk _ rfl)) fun k => Bool.noConfusion k) fun j hj => ?_
    subst hj
    refine ok_if (fun k => absurd rfl k) fun _ => ok_if (fun _ => ok_some ?_) fun k => absurd (by dsimp only; omega) k
    have hP := h.none hz
    have hN := List.length_eq_zero_iff.1 hz
    obtain ⟨g, p, l⟩ := n
    dsimp only at hP hN ⊢
    rw [hP, hN]
  · have hs : saidN n = saidL n.P := by unfold saidN; rw [if_neg hz]
    rw [hs]
    refine ok_jn (fun j => j = (0, n.P.Origin, n.P.As, n.P.Hop, n.P.Otc, 0, 0, [])) (fun k hk => ok_ifb (fun _ => ok_bde (judge_said _ (h.path hz)) (hk _ rfl)) fun k => Bool.noConfusion k) fun j hj => ?_
    subst hj
    exact ok_if (fun k => absurd rfl k) fun _ => ok_if (fun k => by dsimp only at k; omega) fun _ => ok_if (fun k => absurd rfl k) fun _ => ok_some rfl
theorem law08_awake : m_ridgewaylaw08_awake = some true := by kernel_rfl
end Go.Proofs.Ytkdodhkiemfpeaa
namespace Go.Proofs.Ytkdodhkiemfpeaa
open Go.RowKit
set_option linter.unusedVariables false
set_option linter.unusedSimpArgs false
set_option maxRecDepth 100000
set_option maxHeartbeats 1000000

theorem least2 : m_msg_Least 2 = some 23 := by kernel_rfl
theorem encPs_app (l : List Prefix) (i : Nat) (h : i < l.length) : ((l.take (i + 1)).flatMap encP).length = ((l.take i).flatMap encP).length + (encP l[i]).length := by
  rw [← List.take_append_getElem h, List.flatMap_append, List.length_append, List.flatMap_cons, List.flatMap_nil, List.append_nil]
/-- The messages of what is gone, of what is new. -/
def goneM (n : News) : List Msg := if n.Gone.length = 0 then [] else [⟨2, encN ⟨n.Gone, ⟨0, [], 0, 0⟩, []⟩⟩]
def newM (n : News) : List Msg := if n.Nlri.length = 0 then [] else [⟨2, encN ⟨[], n.P, n.Nlri⟩⟩]
theorem ok1 {n : News} (h : NewsOk n) : NewsOk ⟨n.Gone, ⟨0, [], 0, 0⟩, []⟩ := ⟨h.gone, fun x hx => (by cases hx), fun h => (h rfl).elim, fun _ => rfl⟩
theorem ok2 {n : News} (h : NewsOk n) : NewsOk ⟨[], n.P, n.Nlri⟩ := ⟨fun x hx => (by cases hx), h.nlri, h.path, h.none⟩
theorem packG_eq (n : News) (hg : n.Gone.length ≤ 40) (h : NewsOk n) : m_update_pack_s1 n.Gone 0 = some (goneM n) := by
  refine (?_ : Ok (m_update_pack_s1 n.Gone 0) (· = goneM n)).elim fun x h => by rw [h.1, h.2]
  have hall := encPs_len h.gone
  unfold m_update_pack_s1
  refine ok_bde least2 ?_
  have h23 : IntKind.i64.wrap ((23 : Int) + 0) = 23 := w64 (by omega) (by omega)
  rw [h23]
  refine ok_loop (fun st => ∃ i : Nat, i ≤ n.Gone.length ∧ st = ([], (i : Int), ((23 + ((n.Gone.take i).flatMap encP).length : Nat) : Int), 0)) (fun st => ((n.Gone.length : Int) - st.2.1).toNat) ⟨0, Nat.zero_le _, by simp⟩ (by dsimp only; omega) ?_
  rintro _ ⟨i, hi, rfl⟩ nx hnx
  rw [s_update_pack_s11]
  dsimp only at hnx ⊢
  by_cases hlt : i < n.Gone.length
  · have hx := h.gone _ (List.getElem_mem hlt)
    have hxl := encP_len hx
    have hti := encPs_len (l := n.Gone.take i) fun x hx => h.gone x (List.mem_of_mem_take hx)
    rw [List.length_take] at hti
    have hap := encPs_app n.Gone i hlt
    have hw : IntKind.i64.wrap ((i : Int) + 1) = ((i + 1 : Nat) : Int) := by rw [w64 (by omega) (by omega)]; rfl
    refine ok_if (fun _ => ok_ix (by omega) (by omega) fun _ => ?_) fun h => by omega
    simp only [Int.toNat_natCast]
    refine ok_bde (prefixPut_eq [] _ (by simp) hx) ?_
    rw [List.nil_append, w64 (x := ((23 + ((n.Gone.take i).flatMap encP).length : Nat) : Int) + ((encP n.Gone[i]).length : Int)) (by omega) (by omega)]
    refine ok_ifn (fun k => by omega) fun _ => hnx _ ⟨i + 1, hlt, ?_⟩ (by dsimp only; rw [hw]; omega)
    rw [hw, hap]
    congr 3
    omega
  · have hie : i = n.Gone.length := by omega
    subst hie
    refine ok_if (fun h => by omega) fun _ => ok_if (fun h0 => ok_bde (sl_all (by omega)) ?_) fun h0 => ok_some ?_
    · rw [show (0 : Int).toNat = 0 from rfl, List.drop_zero]
      obtain ⟨p1, l1, g1⟩ := uPut_eq ⟨n.Gone, ⟨0, [], 0, 0⟩, []⟩ hg (Nat.zero_le _) (Nat.zero_le _) (ok1 h)
      refine ok_bde (x := ⟨n.Gone, ⟨0, [], 0, 0⟩, []⟩) rfl (ok_bde p1 (ok_ap (by simp) (by simp) (ok_some ?_)))
      unfold goneM
      rw [if_neg (by omega)]
      rfl
    · unfold goneM
      rw [if_pos (by omega)]
theorem pack_eq (n : News) (hg : n.Gone.length ≤ 40) (hn : n.Nlri.length ≤ 40) (hp : n.P.As.length ≤ 300) (h : NewsOk n) : m_update_Pack n = some (goneM n ++ newM n) := by
  refine (?_ : Ok (m_update_Pack n) (· = goneM n ++ newM n)).elim fun x h => by rw [h.1, h.2]
  obtain ⟨s, es, hs⟩ := t_uSane n (by omega) (by omega) (by omega)
  have hs := hs.2 h
  subst hs
  have hsl := saidN_len h
  have lg : (goneM n).length ≤ 1 := by unfold goneM; split <;> simp
  unfold m_update_Pack
  refine ok_bde es (ok_ifnb (fun k => Bool.noConfusion k) fun _ => ok_bde (packG_eq n hg h) (ok_bde (attrsN n h) (ok_jn (fun j => j = newM n) (fun k hk => ok_bde least2 ?_) fun j hj => ?_)))
  · refine ok_loop (fun st => ∃ i : Nat, i ≤ n.Nlri.length ∧ st = ([], (i : Int), ((23 + ((saidN n).flatMap encA).length + ((n.Nlri.take i).flatMap encP).length : Nat) : Int), 0)) (fun st => ((n.Nlri.length : Int) - st.2.1).toNat) ⟨0, Nat.zero_le _, by rw [w64 (by omega) (by omega)]; simp⟩ (by dsimp only; omega) ?_
    rintro _ ⟨i, hi, rfl⟩ nx hnx
    rw [s_update_Pack1]
    dsimp only at hnx ⊢
    by_cases hlt : i < n.Nlri.length
    · have hx := h.nlri _ (List.getElem_mem hlt)
      have hxl := encP_len hx
      have hti := encPs_len (l := n.Nlri.take i) fun x hx => h.nlri x (List.mem_of_mem_take hx)
      rw [List.length_take] at hti
      have hap := encPs_app n.Nlri i hlt
      have hw : IntKind.i64.wrap ((i : Int) + 1) = ((i + 1 : Nat) : Int) := by rw [w64 (by omega) (by omega)]; rfl
      refine ok_if (fun _ => ok_ix (by omega) (by omega) fun _ => ?_) fun h => by omega
      simp only [Int.toNat_natCast]
      refine ok_bde (prefixPut_eq [] _ (by simp) hx) ?_
      rw [List.nil_append, w64 (x := ((23 + ((saidN n).flatMap encA).length + ((n.Nlri.take i).flatMap encP).length : Nat) : Int) + ((encP n.Nlri[i]).length : Int)) (by omega) (by omega)]
      refine ok_ifn (fun k => by omega) fun _ => hnx _ ⟨i + 1, hlt, ?_⟩ (by dsimp only; rw [hw]; omega)
      rw [hw, hap]
      congr 3
      omega
    · have hie : i = n.Nlri.length := by omega
      subst hie
      refine ok_if (fun h => by omega) fun _ => ok_if (fun h0 => ok_bde (sl_all (by omega)) ?_) fun h0 => hk _ ?_
      · rw [show (0 : Int).toNat = 0 from rfl, List.drop_zero]
        obtain ⟨p2, l2, g2⟩ := uPut_eq ⟨[], n.P, n.Nlri⟩ (Nat.zero_le _) hn hp (ok2 h)
        refine ok_bde p2 (ok_ap (by simp) (by simp) (hk _ ?_))
        unfold newM
        rw [if_neg (by omega)]
        rfl
      · unfold newM
        rw [if_pos (by omega)]
  · subst hj
    have ln : (newM n).length ≤ 1 := by unfold newM; split <;> simp
    exact ok_ap (by omega) (by omega) (ok_some rfl)
end Go.Proofs.Ytkdodhkiemfpeaa
namespace Go.Proofs.Ytkdodhkiemfpeaa
open Go.RowKit
set_option linter.unusedVariables false
set_option linter.unusedSimpArgs false
set_option maxRecDepth 100000
set_option maxHeartbeats 1000000

theorem ok_ine {R : Type} {Q : R → Prop} {p : Prop} {_ : Decidable p} {A B : Option R} (h1 : ¬ p → Ok A Q) (h2 : p → Ok B Q) : Ok (bif decide (¬ p) then A else B) Q := ok_if h1 fun h => h2 (Decidable.not_not.1 h)
theorem ok_outk {R : Type} {m : Option R} {r : R} (h : Ok m (· = r)) : m = some r := by
  obtain ⟨x, h1, h2⟩ := h
  rw [h1, h2]
theorem size_all : (List.range 33).all (fun k => m_ridgewayref02_size (k : Int) == some ((2 : Int) ^ (32 - k))) = true := by kernel_rfl
theorem sizeL (n : Int) (h : 0 ≤ n ∧ n ≤ 32) : m_ridgewayref02_size n = some ((2 : Int) ^ (32 - n).toNat) := by
  have := List.all_eq_true.1 size_all n.toNat (List.mem_range.2 (by omega))
  rw [beq_iff_eq] at this
  rwa [show ((n.toNat : Nat) : Int) = n by omega, show 32 - n.toNat = (32 - n).toNat by omega] at this
theorem refMask_eq (a n : Int) (h : 0 ≤ n ∧ n ≤ 32) : m_ridgewayref02_Mask a n = some (lowCut a n) := by
  unfold m_ridgewayref02_Mask
  rw [sizeL n h, bd_some, lo_eq]
  have hp : (0 : Int) < 2 ^ (32 - n).toNat := Int.pow_pos (by decide)
  have h0 := Int.emod_nonneg a (show (4294967296 : Int) ≠ 0 by decide)
  have hr := cut_rng a n
  rw [nz_some (by omega), Int.tmod_eq_emod_of_nonneg h0]
  unfold lowCut at hr ⊢
  rw [w64 (by omega) (by omega)]
theorem t_refPsane (x : Prefix) : Ok (m_ridgewayref02_Sane x) fun b => b = true ↔ PrefixOk x := by
  unfold m_ridgewayref02_Sane PrefixOk
  refine ok_if (fun h1 => ok_if (fun h2 => ok_if (fun h3 => ok_if (fun h4 => ok_bde (refMask_eq _ _ ⟨h1, h2⟩) (ok_some ?_)) fun h => ok_some ?_) fun h => ok_some ?_) fun h => ok_some ?_) fun h => ok_some ?_
  · rw [decide_eq_true_eq]
    exact ⟨fun k => ⟨⟨h1, h2⟩, k⟩, fun k => k.2⟩
  · have := cut_rng x.A x.N
    exact ⟨fun k => Bool.noConfusion k, fun k => by omega⟩
  · have := cut_rng x.A x.N
    exact ⟨fun k => Bool.noConfusion k, fun k => by omega⟩
  · exact ⟨fun k => Bool.noConfusion k, fun k => by omega⟩
  · exact ⟨fun k => Bool.noConfusion k, fun k => by omega⟩
theorem byteK (v : Int) : toB (IntKind.u8.wrap v) = octAt v 0 := by
  unfold toB octAt
  rw [u8wrap_eq]
  simp
theorem u64wK {x : Int} (h : 0 ≤ x ∧ x < 18446744073709551616) : IntKind.u64.wrap x = x := by
  simp only [IntKind.wrap, IntKind.signed, IntKind.bits, Bool.false_and, Bool.false_eq_true, if_false]
  exact Int.emod_eq_of_lt h.1 h.2
theorem octs {a : Int} {s : Nat} (hs : s ≤ 4) (ha : 0 ≤ a) (hd : (2 : Int) ^ (32 - 8 * s) ∣ a) (i : Nat) (hi : i < s) : octAt a (3 - i) = octAt (a / (2 : Int) ^ (32 - 8 * s)) (s - 1 - i) := by
  unfold octAt
  rw [Int.ediv_ediv_of_nonneg (Int.le_of_lt (Int.pow_pos (by decide))), ← Int.pow_add, show 32 - 8 * s + 8 * (s - 1 - i) = 8 * (3 - i) by omega]
theorem refPfx_eq (l : List UInt8) (x : Prefix) (hl : l.length ≤ 1000000) (h : PrefixOk x) : m_ridgewayref02_Put l x = some (l ++ encP x) := by
  obtain ⟨hs, hd, h0, h1⟩ := pfx_oct h
  have hv := pfx_val h
  have hN := h.1
  obtain ⟨b, e, hb⟩ := t_refPsane x
  have hb := hb.2 h
  subst hb
  have hsz : IntKind.i64.wrap ((IntKind.i64.wrap (x.N + (7 : Int))).tdiv (8 : Int)) = sizeP x.N := by
    unfold sizeP
    rw [w64 (x := x.N + 7) (by omega) (by omega), Int.tdiv_eq_ediv_of_nonneg (by omega), w64 (by omega) (by omega)]
  refine ok_outk ?_
  unfold m_ridgewayref02_Put
  refine ok_ap (by simp; omega) (by simp; omega) (ok_bde e (ok_ifnb (fun k => Bool.noConfusion k) fun _ => ok_ap (by simp; omega) (by simp; omega) ?_))
  rw [List.nil_append, byteK]
  have hk : ((sizeP x.N).toNat : Int) = sizeP x.N := by omega
  refine ok_loop (fun st => ∃ i : Nat, i ≤ (sizeP x.N).toNat ∧ st = (l ++ putL x.N 1 ++ (putL (x.A / (2 : Int) ^ (32 - 8 * sizeP x.N).toNat) (sizeP x.N).toNat).take i, (i : Int))) (fun st => (4 - st.2).toNat) ⟨0, by omega, by simp [putL]⟩ (by dsimp only; omega) ?_
  rintro _ ⟨i, hi, rfl⟩ nx hnx
  rw [s_ridgewayref02_Put1, hsz]
  dsimp only at hnx ⊢
  refine ok_if (fun h => ?_) fun h => ok_some ?_
  · have hi4 : i < (sizeP x.N).toNat := by omega
    have hw : IntKind.i64.wrap ((24 : Int) - IntKind.i64.wrap ((8 : Int) * (i : Int))) = ((8 * (3 - i) : Nat) : Int) := by rw [w64 (x := 8 * (i : Int)) (by omega) (by omega), w64 (by omega) (by omega)]; omega
    have hu : IntKind.u64.wrap ((8 * (3 - i) : Nat) : Int) = ((8 * (3 - i) : Nat) : Int) := u64wK ⟨by omega, by omega⟩
    rw [hw, hu, nn_some (by omega), Int.toNat_natCast, show IntKind.i64.bits = 64 from rfl, u8_fdiv' _ _ (by omega)]
    have hpow : (32 - 8 * sizeP x.N).toNat = 32 - 8 * (sizeP x.N).toNat := by omega
    have ho := octs (a := x.A) (s := (sizeP x.N).toNat) (by omega) hv.1.1 (by rw [← hpow]; exact hd) i hi4
    rw [ho, ← hpow]
    have hlen : ((putL (x.A / (2 : Int) ^ (32 - 8 * sizeP x.N).toNat) (sizeP x.N).toNat).take i).length ≤ 4 := by rw [List.length_take, putL_length]; omega
    have hw2 : IntKind.i64.wrap ((i : Int) + 1) = ((i + 1 : Nat) : Int) := by rw [w64 (by omega) (by omega)]; rfl
    refine ok_ap (by simp only [List.length_append, putL_length, List.length_singleton]; omega) (by simp only [List.length_append, putL_length, List.length_singleton]; omega) (hnx _ ⟨i + 1, by omega, ?_⟩ (by dsimp only; rw [hw2]; omega))
    rw [putL_step _ _ i hi4, hw2]
    simp only [List.append_assoc]
  · have : i = (sizeP x.N).toNat := by omega
    rw [this, List.take_of_length_le (by rw [putL_length]; omega)]
    unfold encP
    rw [List.append_assoc]
theorem octets_eq (L : List Prefix) (hc : ∀ x ∈ L, PrefixOk x) (hl : L.length ≤ 10000) : m_ridgewayref08_octets L = some (L.flatMap encP) := by
  refine ok_outk ?_
  unfold m_ridgewayref08_octets
  refine ok_acc L.length (fun i b => b = (L.take i).flatMap encP ∧ b.length ≤ 5 * i) (by omega) ⟨rfl, Nat.zero_le _⟩ (fun i b hi hI nx hnx => ?_) (fun b hI nx => ?_)
  · obtain ⟨hI, hb⟩ := hI
    rw [s_ridgewayref08_octets1]
    refine ok_if (fun _ => ok_ix (by omega) (by omega) fun hlt => ?_) fun h => absurd (Int.ofNat_lt.2 hi) h
    simp only [Int.toNat_natCast]
    have hx := hc _ (List.getElem_mem hi)
    have hxl := encP_len hx
    refine ok_bde (refPfx_eq _ _ (by omega) hx) (hnx _ ⟨?_, by rw [List.length_append]; omega⟩)
    rw [hI, ← List.take_append_getElem hi, List.flatMap_append]
    simp
  · rw [s_ridgewayref08_octets1]
    refine ok_if (fun h => by dsimp only at h; omega) fun _ => ok_some ?_
    have := hI.1
    rwa [List.take_length] at this
theorem t_refPrefixes (L : List Prefix) (hl : L.length ≤ 9223372036854775807) : Ok (m_ridgewayref08_prefixes L) fun b => b = true ↔ ∀ x ∈ L, PrefixOk x := by
  unfold m_ridgewayref08_prefixes
  refine ok_idx L.length (fun m => ∀ i (h : i < L.length), i < m → PrefixOk L[i]) hl (fun _ _ h => absurd h (Nat.not_lt_zero _)) (fun i hi hI nx hnx => ?_) (fun hI nx => ?_)
  · rw [s_ridgewayref08_prefixes1]
    refine ok_if (fun _ => ok_ix (by omega) (by omega) fun hlt => ?_) fun h => absurd (Int.ofNat_lt.2 hi) h
    simp only [Int.toNat_natCast]
    refine ok_bd (t_refPsane _) fun r _ hr => ok_ifnb (fun h => ok_some ⟨fun k => Bool.noConfusion k, fun k => ?_⟩) fun h => hnx fun m hm hmi => ?_
    · rw [hr.2 (k _ (List.getElem_mem hi))] at h; cases h
    · rcases Nat.lt_succ_iff_lt_or_eq.1 hmi with g | rfl
      · exact hI m hm g
      · exact hr.1 h
  · rw [s_ridgewayref08_prefixes1]
    refine ok_if (fun h => by omega) fun _ => ok_some ⟨fun _ x hx => ?_, fun _ => rfl⟩
    obtain ⟨i, hi, rfl⟩ := List.getElem_of_mem hx
    exact hI i hi hi
theorem t_refSaneK (p : Path) (hl : p.As.length ≤ 9223372036854775807) : Ok (m_ridgewayref07_Sane p) fun b => b = true ↔ PathOk p := by
  unfold m_ridgewayref07_Sane
  have no : ∀ {A : Prop}, ¬ A → Ok (some false : Option Bool) (fun b => b = true ↔ A) := fun h => ok_some ⟨fun k => Bool.noConfusion k, fun k => absurd k h⟩
  refine ok_idx p.As.length (fun j => ∀ i (h : i < p.As.length), i < j → 1 ≤ p.As[i] ∧ p.As[i] ≤ 4294967295) hl (fun _ _ h => absurd h (Nat.not_lt_zero _)) (fun i hi hI nx hnx => ?_) (fun hI nx => ?_)
  · rw [s_ridgewayref07_Sane1]
    have hm := List.getElem_mem hi
    refine ok_if (fun _ => ok_ix (by omega) (by omega) fun hlt => ok_if (fun h1 => no fun k => ?_) fun h1 => ok_ix (by omega) (by omega) fun hlt => ok_if (fun h2 => no fun k => ?_) fun h2 => hnx fun j hj hji => ?_) fun h => absurd (Int.ofNat_lt.2 hi) h
    · have := k.1 _ hm; simp only [Int.toNat_natCast] at h1; omega
    · have := k.1 _ hm; simp only [Int.toNat_natCast] at h2; omega
    · simp only [Int.toNat_natCast] at h1 h2
      rcases Nat.lt_succ_iff_lt_or_eq.1 hji with g | rfl
      · exact hI j hj g
      · exact ⟨by omega, by omega⟩
  · rw [s_ridgewayref07_Sane1]
    have hall : ∀ x ∈ p.As, 1 ≤ x ∧ x ≤ 4294967295 := fun x hx => by
      obtain ⟨i, h, rfl⟩ := List.getElem_of_mem hx
      exact hI i h h
    refine ok_if (fun h => by omega) fun _ => ok_if (fun h1 => ok_if (fun h2 => ok_if (fun h3 => ok_if (fun h4 => ok_if (fun h5 => ok_if (fun h6 => ok_some ?_) fun h => no fun k => ?_) fun h => no fun k => ?_) fun h => no fun k => ?_) fun h => no fun k => ?_) fun h => no fun k => ?_) fun h => no fun k => ?_
    · rw [decide_eq_true_eq]
      exact ⟨fun h7 => ⟨hall, ⟨h1, h2⟩, by omega, ⟨h4, h5⟩, h6, h7⟩, fun k => k.2.2.2.2.2⟩
    all_goals (obtain ⟨_, _, _, _, _, _⟩ := k; omega)
/-- The reference's word on news. -/
theorem t_refNews (n : News) (hg : n.Gone.length ≤ 1000) (hn : n.Nlri.length ≤ 1000) (hp : n.P.As.length ≤ 1000) : Ok (m_ridgewayref08_Sane n) fun b => b = true ↔ NewsOk n := by
  unfold m_ridgewayref08_Sane
  have no : ∀ {A : Prop}, ¬ A → Ok (some false : Option Bool) (fun b => b = true ↔ A) := fun h => ok_some ⟨fun k => Bool.noConfusion k, fun k => absurd k h⟩
  refine ok_bd (t_refPrefixes _ (by omega)) fun r1 _ h1 => ok_ifnb (fun h => no fun k => ?_) fun g1 => ok_bd (t_refPrefixes _ (by omega)) fun r2 _ h2 => ok_ifnb (fun h => no fun k => ?_) fun g2 => ok_if (fun h0 => ?_) fun h0 => ?_
  · rw [h1.2 k.gone] at h; cases h
  · rw [h2.2 k.nlri] at h; cases h
  · unfold m_ridgewayref07_SamePath
    have hz : n.Nlri.length = 0 := by omega
    refine ok_bd (P := fun b => b = true ↔ n.P = ⟨0, [], 0, 0⟩) (ok_ine (fun h => ?_) fun p1 => ok_ine (fun h => ?_) fun p3 => ok_ine (fun h => ?_) fun p4 => ok_ine (fun h => ?_) fun p2 => ?_) fun b _ hb => ok_some ⟨fun h => ⟨h1.1 g1, h2.1 g2, fun h => absurd hz h, fun _ => hb.1 h⟩, fun k => hb.2 (k.none hz)⟩
    · exact no fun k => h (by rw [k])
    · exact no fun k => h (by rw [k])
    · exact no fun k => h (by rw [k])
    · exact no fun k => h (by rw [k])
    · have hA : n.P.As = [] := List.length_eq_zero_iff.1 (by simpa using p2)
      refine ok_idx 0 (fun _ => True) (by omega) trivial (fun i hi _ nx hnx => absurd hi (Nat.not_lt_zero _)) (fun _ nx => ?_)
      rw [s_ridgewayref07_SamePath1]
      refine ok_if (fun h => by rw [hA] at h; simp at h) fun _ => ok_some ⟨fun _ => ?_, fun _ => rfl⟩
      have e : n.P = ⟨n.P.Origin, n.P.As, n.P.Hop, n.P.Otc⟩ := rfl
      rw [e, hA, show n.P.Origin = 0 from p1, show n.P.Hop = 0 from p3, show n.P.Otc = 0 from p4]
  · exact ok_bd (t_refSaneK _ (by omega)) fun b _ hb => ok_some ⟨fun h => ⟨h1.1 g1, h2.1 g2, fun _ => hb.1 h, fun h => absurd h (by omega)⟩, fun k => hb.2 (k.path (by omega))⟩
end Go.Proofs.Ytkdodhkiemfpeaa
namespace Go.Proofs.Ytkdodhkiemfpeaa
open Go.RowKit
set_option linter.unusedVariables false
set_option linter.unusedSimpArgs false
set_option maxRecDepth 100000
set_option maxHeartbeats 1000000

theorem fl2_fin : ∀ f : Fin 256, toB (IntKind.u8.wrap (IntKind.i64.wrap ((f.val : Int) - (IntKind.i64.wrap (((IntKind.i64.wrap ((f.val : Int).tdiv (16 : Int))).tmod (2 : Int)) * (16 : Int)))))) = octAt (c0 (f.val : Int)) 0 ∧
    toB (IntKind.u8.wrap (IntKind.i64.wrap ((IntKind.i64.wrap ((f.val : Int) - (IntKind.i64.wrap (((IntKind.i64.wrap ((f.val : Int).tdiv (16 : Int))).tmod (2 : Int)) * (16 : Int))))) + (16 : Int)))) = octAt (c1 (c0 (f.val : Int))) 0 := by decide
theorem fl2 (f : Int) (h : 0 ≤ f ∧ f ≤ 255) : toB (IntKind.u8.wrap (IntKind.i64.wrap (f - (IntKind.i64.wrap (((IntKind.i64.wrap (f.tdiv (16 : Int))).tmod (2 : Int)) * (16 : Int)))))) = octAt (c0 f) 0 ∧
    toB (IntKind.u8.wrap (IntKind.i64.wrap ((IntKind.i64.wrap (f - (IntKind.i64.wrap (((IntKind.i64.wrap (f.tdiv (16 : Int))).tmod (2 : Int)) * (16 : Int))))) + (16 : Int)))) = octAt (c1 (c0 f)) 0 := by
  have := fl2_fin ⟨f.toNat, by omega⟩
  rwa [show ((f.toNat : Nat) : Int) = f by omega] at this
theorem byte1 (n : Nat) (h : n ≤ 65535) : toB (IntKind.u8.wrap (IntKind.i64.wrap ((n : Int).tdiv (256 : Int)))) = octAt (n : Int) 1 := by
  rw [Int.tdiv_eq_ediv_of_nonneg (by omega), w64 (by omega) (by omega), byte0]
  unfold octAt
  simp
theorem byte0m (n : Nat) : toB (IntKind.u8.wrap ((n : Int).tmod (256 : Int))) = octAt (n : Int) 0 := by
  rw [Int.tmod_eq_emod_of_nonneg (by omega), byte0]
  unfold octAt
  simp
theorem right_eq (y : Attr) (hl : y.Data.length ≤ 65535) : m_ridgewayref07_right y = some (decide ((0 ≤ y.Flags ∧ y.Flags ≤ 255) ∧ (0 ≤ y.Typ ∧ y.Typ ≤ 255))) := by
  refine (?_ : Ok (m_ridgewayref07_right y) (· = decide ((0 ≤ y.Flags ∧ y.Flags ≤ 255) ∧ (0 ≤ y.Typ ∧ y.Typ ≤ 255)))).elim fun x h => by rw [h.1, h.2]
  unfold m_ridgewayref07_right
  refine ok_if (fun h1 => ok_if (fun h2 => ok_if (fun h3 => ok_if (fun h4 => ok_some ?_) fun h => ok_some ?_) fun h => ok_some ?_) fun h => ok_some ?_) fun h => ok_some ?_
  · rw [decide_eq_true (by omega), decide_eq_true (by omega)]
  all_goals rw [decide_eq_false (by omega)]
theorem refAput_eq (l : List UInt8) (y : Attr) (hb : l.length ≤ 1000000) (hf : 0 ≤ y.Flags ∧ y.Flags ≤ 255) (ht : 0 ≤ y.Typ ∧ y.Typ ≤ 255) (hl : y.Data.length ≤ 2000) : m_ridgewayref07_Put l y = some (l ++ encA (canon y)) := by
  obtain ⟨g1, g2⟩ := fl2 y.Flags hf
  refine ok_outk ?_
  unfold m_ridgewayref07_Put
  refine ok_ap (by simp; omega) (by simp; omega) (ok_bde (right_eq y (by omega)) (ok_ifn (fun h => absurd ⟨hf, ht⟩ h) fun _ => ok_if (fun h => ?_) fun h => ?_))
  · refine ok_ap (by simp; omega) (by simp; omega) (ok_ap (by simp; omega) (by simp; omega) (ok_some ?_))
    rw [g2, byte0, byte1 _ (by omega), byte0m]
    unfold encA canon
    rw [if_pos (by omega), if_pos (by dsimp only; omega)]
    simp [putL, List.range_succ]
  · refine ok_ap (by simp; omega) (by simp; omega) (ok_ap (by simp; omega) (by simp; omega) (ok_some ?_))
    rw [g1, byte0, byte0]
    unfold encA canon
    rw [if_neg (by omega), if_neg (by dsimp only; omega)]
    simp [putL]
theorem ref1Put_eq (l : List UInt8) (v : Int) (k : Nat) (hk : 1 ≤ k ∧ k ≤ 4) (hb : l.length ≤ 1000000) : m_ridgewayref01_Put l v (k : Int) = some (l ++ putL v k) := by
  refine ok_outk ?_
  unfold m_ridgewayref01_Put
  refine ok_ap (by simp; omega) (by simp; omega) (ok_if (fun h => by omega) fun _ => ok_if (fun h => by omega) fun _ => ?_)
  rw [List.nil_append, w64 (x := (k : Int) - 1) (by omega) (by omega)]
  refine ok_loop (fun st => ∃ i : Nat, i ≤ k ∧ st = (l ++ (putL v k).take i, (k : Int) - 1 - (i : Int))) (fun st => (st.2 + 1).toNat) ⟨0, by omega, by simp⟩ (by dsimp only; omega) ?_
  rintro _ ⟨i, hi, rfl⟩ nx hnx
  rw [s_ridgewayref01_Put1]
  dsimp only at hnx ⊢
  refine ok_if (fun h => ?_) fun h => ok_some ?_
  · have hw : IntKind.i64.wrap ((8 : Int) * ((k : Int) - 1 - (i : Int))) = ((8 * (k - 1 - i) : Nat) : Int) := by rw [w64 (by omega) (by omega)]; omega
    have hu : IntKind.u64.wrap ((8 * (k - 1 - i) : Nat) : Int) = ((8 * (k - 1 - i) : Nat) : Int) := u64wK ⟨by omega, by omega⟩
    rw [hw, hu, nn_some (by omega), Int.toNat_natCast, show IntKind.i64.bits = 64 from rfl, u8_fdiv' _ _ (by omega)]
    have hw2 : IntKind.i64.wrap ((k : Int) - 1 - (i : Int) - 1) = (k : Int) - 1 - ((i + 1 : Nat) : Int) := by rw [w64 (by omega) (by omega)]; omega
    have hlen : ((putL v k).take i).length ≤ 4 := by rw [List.length_take, putL_length]; omega
    refine ok_ap (by simp only [List.length_append, List.length_singleton]; omega) (by simp only [List.length_append, List.length_singleton]; omega) (hnx _ ⟨i + 1, by omega, ?_⟩ (by dsimp only; rw [hw2]; omega))
    rw [putL_step _ _ i (by omega), hw2, List.append_assoc]
  · rw [show i = k by omega, List.take_of_length_le (by rw [putL_length]; omega)]
theorem refOf_eq (p : Path) (h : PathOk p) : m_ridgewayref07_Of p = some (ofL p) := by
  have hl := h.2.2.1
  obtain ⟨b, e, hb⟩ := t_refSaneK p (by omega)
  have hb := hb.2 h
  subst hb
  refine ok_outk ?_
  unfold m_ridgewayref07_Of
  refine ok_bde e (ok_ifnb (fun h => Bool.noConfusion h) fun _ => ok_jn (fun j => j = if p.As.length = 0 then [] else [(2 : UInt8), octAt (p.As.length : Int) 0]) (fun k hk => ok_if (fun h => hk _ (by rw [if_neg (by omega), byte0])) fun h => hk _ (by rw [if_pos (by omega)])) fun j hj => ?_)
  refine ok_acc p.As.length (fun i b => b = j ++ (p.As.take i).flatMap (fun x => putL x 4) ∧ b.length ≤ 2 + 4 * i) (by omega) ⟨by simp, by rw [hj]; split <;> simp⟩ (fun i b hi hI nx hnx => ?_) (fun b hI nx => ?_)
  · obtain ⟨hI, hb⟩ := hI
    rw [s_ridgewayref07_Of1]
    refine ok_if (fun _ => ok_ix (by omega) (by omega) fun hlt => ok_bde (ref1Put_eq _ _ 4 (by omega) (by dsimp only; omega)) ?_) fun h => absurd (Int.ofNat_lt.2 hi) h
    simp only [Int.toNat_natCast]
    refine hnx _ ⟨?_, by simp only [List.length_append, putL_length]; omega⟩
    rw [hI, ← List.take_append_getElem hi, List.flatMap_append]
    simp
  · rw [s_ridgewayref07_Of1]
    have hI := hI.1
    rw [List.take_length] at hI
    have hbS : b = segL p.As := by
      rw [hI, hj]
      unfold segL
      split
      · rename_i h0; rw [List.length_eq_zero_iff.1 h0]; rfl
      · rfl
    have h1 : [toB (IntKind.u8.wrap p.Origin)] = putL p.Origin 1 := by rw [byte0]; simp [putL]
    unfold ofL
    refine ok_if (fun h => by dsimp only at h; omega) fun _ => ok_bde (ref1Put_eq [] _ 4 (by omega) (by simp)) (ok_if (fun ho => ok_bde (ref1Put_eq [] _ 4 (by omega) (by simp)) (ok_ap (by simp) (by simp) (ok_some ?_))) fun ho => ok_some ?_)
    · rw [if_neg ho, hbS, h1]; rfl
    · rw [if_pos (Decidable.not_not.1 ho), hbS, h1]; rfl
theorem refPutN_eq (n : News) (hg : n.Gone.length ≤ 40) (hn : n.Nlri.length ≤ 40) (hp : n.P.As.length ≤ 300) (h : NewsOk n) : m_ridgewayref08_Put n = some ⟨2, encN n⟩ := by
  obtain ⟨b, e, hb⟩ := t_refNews n (by omega) (by omega) (by omega)
  have hb := hb.2 h
  subst hb
  have l1 := encPs_len h.gone
  have l2 := encPs_len h.nlri
  have l3 := saidN_len h
  refine ok_outk ?_
  unfold m_ridgewayref08_Put
  refine ok_bde e (ok_ifnb (fun k => Bool.noConfusion k) fun _ => ok_bde (octets_eq _ h.gone (by omega)) (ok_bde (octets_eq _ h.nlri (by omega)) (ok_jn (fun j => j = (saidN n).flatMap encA) (fun k hk => ok_if (fun h0 => ?_) fun h0 => hk _ ?_) fun j hj => ?_)))
  · have hP := h.path (by omega)
    have hs : saidN n = saidL n.P := by unfold saidN; rw [if_neg (by omega)]
    have hlen := ofL_len n.P
    refine ok_bde (refOf_eq _ hP) (ok_acc (ofL n.P).length (fun i b => b = (((ofL n.P).take i).map canon).flatMap encA ∧ b.length ≤ 2000 * i) (by omega) ⟨by simp, by simp⟩ (fun i b hi hI nx hnx => ?_) (fun b hI nx => ?_))
    · obtain ⟨hI, hb⟩ := hI
      obtain ⟨hf, ht, hd⟩ := ofL_ok hP (List.getElem_mem hi)
      have hel := enc_len (canon (ofL n.P)[i])
      have hcd : (canon (ofL n.P)[i]).Data = (ofL n.P)[i].Data := rfl
      rw [hcd] at hel
      rw [s_ridgewayref08_Put1]
      refine ok_if (fun _ => ok_ix (by omega) (by omega) fun hlt => ?_) fun h => absurd (Int.ofNat_lt.2 hi) h
      simp only [Int.toNat_natCast]
      refine ok_bde (refAput_eq _ _ (by omega) hf ht (by omega)) (hnx _ ⟨?_, by rw [List.length_append]; omega⟩)
      rw [hI, ← List.take_append_getElem hi, List.map_append, List.flatMap_append]
      simp
    · rw [s_ridgewayref08_Put1]
      refine ok_if (fun h => by dsimp only at h; omega) fun _ => hk _ ?_
      have := hI.1
      rw [List.take_length] at this
      rw [this, hs]
      rfl
  · unfold saidN
    rw [if_pos (by omega)]
    rfl
  · subst hj
    rw [w64 (x := 23 + _) (by omega) (by omega), w64 (x := 23 + _ + _) (by omega) (by omega), w64 (x := 23 + _ + _ + _) (by omega) (by omega)]
    refine ok_if (fun h => by omega) fun _ => ok_bde (ref1Put_eq [] _ 2 (by omega) (by simp)) (ok_ap (by simp only [List.length_append, List.length_nil, putL_length]; omega) (by simp only [List.length_append, List.length_nil, putL_length]; omega) (ok_bde (ref1Put_eq _ _ 2 (by omega) (by simp only [List.length_append, List.length_nil, putL_length]; omega)) (ok_ap (by simp only [List.length_append, List.length_nil, putL_length]; omega) (by simp only [List.length_append, List.length_nil, putL_length]; omega) (ok_ap (by simp only [List.length_append, List.length_nil, putL_length]; omega) (by simp only [List.length_append, List.length_nil, putL_length]; omega) (ok_some ?_)))))
    unfold encN
    simp only [List.nil_append, List.append_assoc]
end Go.Proofs.Ytkdodhkiemfpeaa
namespace Go.Proofs.Ytkdodhkiemfpeaa
open Go.RowKit
set_option linter.unusedVariables false
set_option linter.unusedSimpArgs false
set_option maxRecDepth 100000
set_option maxHeartbeats 1000000

theorem refPack_eq (l : List Prefix) (p : Path) (g : Bool) (f : List Prefix → News) (hl : l.length ≤ 40) (hf : ∀ x, m_ridgewayref08_news x p g = some (f x)) (hput : ∀ i, i < l.length → m_ridgewayref08_Put (f (l.take (i + 1))) = some ⟨2, encN (f (l.take (i + 1)))⟩) : m_ridgewayref08_pack l p g = some (if l.length = 0 then [] else [⟨2, encN (f l)⟩]) := by
  refine ok_outk ?_
  unfold m_ridgewayref08_pack
  refine ok_loop (fun st => (st = (l, [])) ∨ (st = ([], [⟨2, encN (f l)⟩]) ∧ ¬ l.length = 0)) (fun st => st.1.length) (.inl rfl) (by dsimp only; omega) ?_
  rintro st (rfl | ⟨rfl, h0⟩) nx hnx
  · rw [s_ridgewayref08_pack1]
    refine ok_if (fun h => ?_) fun h => ok_some ?_
    · dsimp only at h
      refine ok_loop (fun st2 => ∃ i : Nat, i ≤ l.length ∧ ((i = 0 ∧ st2 = (0, 0, [])) ∨ (0 < i ∧ st2 = ((i : Int), 2, encN (f (l.take i)))))) (fun st2 => ((l.length : Int) - st2.1).toNat) ⟨0, Nat.zero_le _, .inl ⟨rfl, rfl⟩⟩ (by dsimp only; omega) ?_
      rintro st2 ⟨i, hi, hst⟩ nx2 hnx2
      have h1 : st2.1 = (i : Int) := by rcases hst with ⟨rfl, rfl⟩ | ⟨_, rfl⟩ <;> rfl
      rw [s_ridgewayref08_pack2, h1]
      refine ok_if (fun hlt => ?_) fun hge => ?_
      · dsimp only at hlt ⊢
        have hw : IntKind.i64.wrap ((i : Int) + 1) = ((i + 1 : Nat) : Int) := by rw [w64 (by omega) (by omega)]; rfl
        rw [hw]
        have hsl : sl l 0 ((i + 1 : Nat) : Int) = some (l.take (i + 1)) := by
          rw [sl_some (by omega)]
          simp
        refine ok_bde hsl (ok_bde (hf _) (ok_bde (hput i (by omega)) (ok_if (fun k => absurd (show (2 : Int) = 0 from k) (by decide)) fun _ => hnx2 _ ⟨i + 1, by omega, .inr ⟨by omega, rfl⟩⟩ (by dsimp only; omega))))
      · dsimp only at hge ⊢
        have hie : i = l.length := by omega
        subst hie
        obtain ⟨h0, _⟩ | ⟨h0, rfl⟩ := hst
        · omega
        · refine ok_if (fun k => by omega) fun _ => ok_ap (by simp) (by simp) (ok_bde (sl_all (by omega)) (hnx _ (.inr ⟨?_, by omega⟩) ?_))
          · simp
          · simp; omega
    · dsimp only at h
      rw [if_pos (by omega)]
  · rw [s_ridgewayref08_pack1]
    refine ok_if (fun h => by simp at h) fun _ => ok_some ?_
    rw [if_neg h0]
theorem sameAll_refl (l : List Msg) (hl : l.length ≤ 100000) : m_ridgewayref03_SameAll l l = some true := by
  refine ok_outk ?_
  unfold m_ridgewayref03_SameAll
  refine ok_ine (fun h => absurd rfl h) fun _ => ok_idx l.length (fun _ => True) (by omega) trivial (fun i hi _ nx hnx => ?_) (fun _ nx => ?_)
  · rw [s_ridgewayref03_SameAll1]
    have hs : ∀ x : Msg, m_ridgewayref03_Same x x = some true := fun x => by
      unfold m_ridgewayref03_Same
      rw [decide_eq_true rfl, cond_true, beq_self_eq_true]
    exact ok_if (fun _ => ok_ix (by omega) (by omega) fun _ => ok_ix (by omega) (by omega) fun _ => ok_bde (hs _) (ok_ifnb (fun h => Bool.noConfusion h) fun _ => hnx trivial)) fun h => by omega
  · rw [s_ridgewayref03_SameAll1]
    exact ok_if (fun h => by omega) fun _ => ok_some rfl
theorem updatePacks_true (n : News) : m_ridgewaylaw08_UpdatePacks n = some true := by
  refine ok_true ?_
  unfold m_ridgewaylaw08_UpdatePacks m_ridgewayref08_Few
  refine ok_bde law08_awake ?_
  have few : Ok (bif decide ((n.Gone.length : Int) ≤ (40 : Int)) then bif decide ((n.Nlri.length : Int) ≤ (40 : Int)) then some (decide ((n.P.As.length : Int) ≤ (300 : Int))) else some false else some false) fun b => b = true → n.Gone.length ≤ 40 ∧ n.Nlri.length ≤ 40 ∧ n.P.As.length ≤ 300 :=
    ok_if (fun h1 => ok_if (fun h2 => ok_some fun h => by have := of_decide_eq_true h; omega) fun _ => ok_some fun h => Bool.noConfusion h) fun _ => ok_some fun h => Bool.noConfusion h
  refine ok_bd few fun b _ hb => ok_ifnb (fun _ => ok_some rfl) fun h => ok_ifb (fun _ => ?_) fun h => Bool.noConfusion h
  obtain ⟨hg, hn, hp⟩ := hb h
  obtain ⟨s, es, hs⟩ := t_uSane n (by omega) (by omega) (by omega)
  obtain ⟨r, er, hr⟩ := t_refNews n (by omega) (by omega) (by omega)
  by_cases hok : NewsOk n
  · have e2 := hr.2 hok
    subst e2
    have href : m_ridgewayref08_Pack n = some (goneM n ++ newM n) := by
      refine ok_outk ?_
      unfold m_ridgewayref08_Pack
      have hG := refPack_eq n.Gone ⟨0, [], 0, 0⟩ true (fun x => ⟨x, ⟨0, [], 0, 0⟩, []⟩) hg (fun x => rfl) fun i hi => refPutN_eq _ (by dsimp only; rw [List.length_take]; omega) (Nat.zero_le _) (Nat.zero_le _) ⟨fun x hx => hok.gone x (List.mem_of_mem_take hx), fun x hx => (by cases hx), fun h => (h rfl).elim, fun _ => rfl⟩
      have hN := refPack_eq n.Nlri n.P false (fun x => ⟨[], n.P, x⟩) hn (fun x => rfl) fun i hi => refPutN_eq _ (Nat.zero_le _) (by dsimp only; rw [List.length_take]; omega) hp ⟨fun x hx => (by cases hx), fun x hx => hok.nlri x (List.mem_of_mem_take hx), fun _ => hok.path (by omega), fun h => by dsimp only at h; rw [List.length_take] at h; omega⟩
      refine ok_bde er (ok_ifnb (fun k => Bool.noConfusion k) fun _ => ok_bde hG (ok_bde hN (ok_ap ?_ ?_ (ok_some rfl))))
      all_goals (repeat' split) <;> simp
    have lg : (goneM n).length ≤ 1 := by unfold goneM; split <;> simp
    have ln : (newM n).length ≤ 1 := by unfold newM; split <;> simp
    exact ok_bde (pack_eq n hg hn hp hok) (ok_bde href (ok_bde (sameAll_refl _ (by rw [List.length_append]; omega)) (ok_some rfl)))
  · have e1 : s = false := by cases s with | false => rfl | true => exact absurd (hs.1 rfl) hok
    have e2 : r = false := by cases r with | false => rfl | true => exact absurd (hr.1 rfl) hok
    subst e1 e2
    have hpack : m_update_Pack n = some [] := by
      unfold m_update_Pack
      rw [es, bd_some]
      rfl
    have href : m_ridgewayref08_Pack n = some [] := by
      unfold m_ridgewayref08_Pack
      rw [er, bd_some]
      rfl
    exact ok_bde hpack (ok_bde href (ok_bde (sameAll_refl _ (by simp)) (ok_some rfl)))
end Go.Proofs.Ytkdodhkiemfpeaa
