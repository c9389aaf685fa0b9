/- What the models come to. -/
import Derived.Test.YtppekacobjdhnaaDoorWords
import Derived.Test.YtppekacobjdhnaaDoorNum
import Derived.Test.YtppekacobjdhnaaDoorMo
import Derived.Test.YtppekacobjdhnaaDoorMp5
import Derived.KernelRfl
namespace Go.Proofs.YtppekacobjdhnaaDoor
set_option linter.unusedVariables false
set_option linter.unusedSimpArgs false

/-- The number that octets are. -/
def num : List UInt8 → Nat := fun l => l.foldl (fun v x => v * 256 + x.toNat) 0
theorem num_snoc (l : List UInt8) (x : UInt8) : num (l ++ [x]) = num l * 256 + x.toNat := by simp [num]
theorem num_step (l : List UInt8) (j : Nat) (h : j < l.length) : num (l.take (j + 1)) = num (l.take j) * 256 + l[j].toNat := by
  rw [List.take_succ_eq_append_getElem h, num_snoc]
theorem num_lt (l : List UInt8) : num l < 256 ^ l.length := by
  suffices h : ∀ (m : Nat) (l : List UInt8), l.length = m → num l < 256 ^ m from h _ l rfl
  intro m
  induction m with
  | zero => intro l h; rw [List.eq_nil_of_length_eq_zero h]; simp [num]
  | succ m ih =>
    intro l h
    obtain ⟨l', x, rfl⟩ : ∃ l' x, l = l' ++ [x] := ⟨l.dropLast, l.getLast (by intro e; simp [e] at h), (List.dropLast_concat_getLast _).symm⟩
    have := ih l' (by simpa using h)
    have hx := x.toNat_lt
    rw [num_snoc, Nat.pow_succ]
    omega

/-- Octet number j of a number, from the low end. -/
def octAt (v : Int) (j : Nat) : UInt8 := UInt8.ofNat ((v / (2 : Int) ^ (8 * j)) % 256).toNat
/-- The k octets of a number. -/
def putL (v : Int) (k : Nat) : List UInt8 := (List.range k).map fun i => octAt v (k - 1 - i)

theorem bv_octAt (v : Int) (j : Nat) : bv (octAt v j) = .int .u8 (v / (2 : Int) ^ (8 * j) % 256) := by
  have h1 := Int.emod_nonneg (v / (2 : Int) ^ (8 * j)) (show (256 : Int) ≠ 0 by decide)
  have h2 := Int.emod_lt_of_pos (v / (2 : Int) ^ (8 * j)) (show (0 : Int) < 256 by decide)
  unfold bv octAt
  rw [show (UInt8.ofNat (v / 2 ^ (8 * j) % 256).toNat).toNat = (v / 2 ^ (8 * j) % 256).toNat from by rw [UInt8.toNat_ofNat']; omega]
  congr 1
  omega
theorem putL_length (v : Int) (k : Nat) : (putL v k).length = k := by simp [putL]
theorem putL_step (v : Int) (k j : Nat) (h : j < k) : (putL v k).take (j + 1) = (putL v k).take j ++ [octAt v (k - 1 - j)] := by
  rw [List.take_succ_eq_append_getElem (by rw [putL_length]; exact h)]
  simp [putL]

theorem octAt_div (v : Int) (i j : Nat) : octAt (v / 2 ^ (8 * i)) j = octAt v (i + j) := by
  unfold octAt
  rw [Int.ediv_ediv, if_neg (by have := Int.pow_pos (n := 2) (m := 8 * i) (by decide); omega), Int.sub_zero, ← Int.pow_add, Nat.mul_add]
theorem putL_4 (v : Int) : [] ++ putL v 4 = [] ++ putL (v / 65536) 2 ++ putL v 2 := by
  have h := octAt_div v 2
  rw [show (2 : Int) ^ (8 * 2) = 65536 by decide] at h
  simp [putL, List.range_succ, h]
theorem putL_3 (v : Int) : putL v 3 = [] ++ putL (v / 65536) 1 ++ putL (v / 256) 1 ++ putL v 1 := by
  have h := octAt_div v 2
  have h' := octAt_div v 1
  rw [show (2 : Int) ^ (8 * 2) = 65536 by decide] at h
  rw [show (2 : Int) ^ (8 * 1) = 256 by decide] at h'
  simp [putL, List.range_succ, h, h']

theorem putL_num (l : List UInt8) : putL (num l : Nat) l.length = l := by
  suffices h : ∀ (m : Nat) (l : List UInt8), l.length = m → ∀ (x : Int), putL (x * 256 ^ m + (num l : Nat)) m = l by
    have := h _ l rfl 0
    simpa using this
  intro m
  induction m with
  | zero => intro l h x; rw [List.eq_nil_of_length_eq_zero h]; rfl
  | succ m ih =>
    intro l h x
    obtain ⟨l', y, rfl⟩ : ∃ l' y, l = l' ++ [y] := ⟨l.dropLast, l.getLast (by intro e; simp [e] at h), (List.dropLast_concat_getLast _).symm⟩
    have hl : l'.length = m := by simpa using h
    have hy := y.toNat_lt
    have ih' := ih l' hl x
    have e0 : (x * 256 ^ (m + 1) + (num (l' ++ [y]) : Nat)) / (2 : Int) ^ (8 * 1) = x * 256 ^ m + (num l' : Nat) := by
      rw [num_snoc, Int.pow_succ]
      have : x * (256 ^ m * 256) + ((num l' * 256 + y.toNat : Nat) : Int) = (x * 256 ^ m + (num l' : Nat)) * 256 + (y.toNat : Int) := by
        rw [← Int.mul_assoc]
        generalize x * 256 ^ m = X
        omega
      rw [this, show (2 : Int) ^ (8 * 1) = 256 by decide]
      omega
    have e1 : octAt (x * 256 ^ (m + 1) + (num (l' ++ [y]) : Nat)) 0 = y := by
      unfold octAt
      rw [num_snoc, Int.pow_succ]
      have : x * (256 ^ m * 256) + ((num l' * 256 + y.toNat : Nat) : Int) = (x * 256 ^ m + (num l' : Nat)) * 256 + (y.toNat : Int) := by
        rw [← Int.mul_assoc]
        generalize x * 256 ^ m = X
        omega
      rw [this]
      have : (((x * 256 ^ m + (num l' : Nat)) * 256 + (y.toNat : Int)) / 2 ^ (8 * 0) % 256).toNat = y.toNat := by
        simp only [Nat.mul_zero, Int.pow_zero, Int.ediv_one]
        omega
      rw [this]
      exact UInt8.ofNat_toNat
    refine Eq.trans ?_ (congrArg (· ++ [y]) ih')
    unfold putL
    rw [List.range_succ, List.map_append, List.map_singleton]
    congr 1
    · apply List.map_congr_left
      intro i hi
      rw [List.mem_range] at hi
      rw [show m + 1 - 1 - i = 1 + (m - 1 - i) by omega, ← octAt_div _ 1, e0]
    · rw [show m + 1 - 1 - m = 0 by omega, e1]

theorem num_putL (v : Int) : ∀ k : Nat, ((num (putL v k) : Nat) : Int) = v % (256 : Int) ^ k := by
  intro k
  induction k generalizing v with
  | zero => simp [putL, num]
  | succ k ih =>
    have e : putL v (k + 1) = putL (v / 256) k ++ [octAt v 0] := by
      unfold putL
      rw [List.range_succ, List.map_append, List.map_singleton]
      congr 1
      · apply List.map_congr_left
        intro i hi
        rw [List.mem_range] at hi
        rw [show k + 1 - 1 - i = 1 + (k - 1 - i) by omega, ← octAt_div _ 1, show (2 : Int) ^ (8 * 1) = 256 by decide]
      · rw [show k + 1 - 1 - k = 0 by omega]
    have e0 : ((octAt v 0).toNat : Int) = v % 256 := by
      have := bv_octAt v 0
      unfold bv at this
      injection this with _ h
      simpa using h
    rw [e, num_snoc, Int.natCast_add, Int.natCast_mul, ih, e0, Int.pow_succ, Int.mul_comm ((256 : Int) ^ k) 256]
    have hp : (0 : Int) < 256 ^ k := Int.pow_pos (by decide)
    generalize (256 : Int) ^ k = p at *
    have h1 := Int.emod_add_mul_ediv v (256 * p)
    have h2 := Int.emod_add_mul_ediv (v / 256) p
    have h3 : v / (256 * p) = v / 256 / p := by rw [Int.ediv_ediv, if_neg (by omega), Int.sub_zero]
    rw [h3, Int.mul_assoc] at h1
    generalize v / 256 / p = q at *
    generalize p * q = r at *
    omega

end Go.Proofs.YtppekacobjdhnaaDoor
namespace Go.Proofs.YtppekacobjdhnaaDoor
open Go.RowKit
set_option linter.unusedVariables false
set_option linter.unusedSimpArgs false

/-- A loop comes to what its rounds come to. -/
theorem loopC_ind {σ ε R : Type} {step : σ → (σ → Option R) → (ε → Option R) → Option R} {bk : ε → Option R} {out : Option R} (I : σ → Prop) (μ : σ → Nat)
    (hstep : ∀ s, I s → ∀ nx : σ → Option R, (∀ s', I s' → μ s' < μ s → nx s' = out) → step s nx bk = out) : ∀ (n : Nat) (s : σ), I s → μ s < n → loopC step bk n s = out
  | 0, s, _, h => absurd h (Nat.not_lt_zero _)
  | n + 1, s, hI, h => by
    rw [loopC_succ]
    exact hstep s hI _ fun s' h1 h2 => loopC_ind I μ hstep n s' h1 (by omega)
theorem big_lt {n : Nat} (h : n ≤ 1180591620717411303000) : n < BIG := by
  unfold BIG
  omega
theorem ix_some {α : Type} {xs : List α} {i : Int} {y : α} (h0 : 0 ≤ i) (h : xs[i.toNat]? = some y) : ix xs i = some y := by
  rw [ix_eq, if_pos h0, h]
theorem ix_nat {α : Type} {xs : List α} {i : Nat} (h : i < xs.length) : ix xs (i : Int) = some xs[i] :=
  ix_some (by omega) (by rw [Int.toNat_natCast, List.getElem?_eq_getElem h])
theorem ap_some {α : Type} {b : Nat} {xs ys : List α} (h : (xs.length + ys.length) * b ≤ 140737488355328) (h2 : xs.length + ys.length ≤ 140737488355328) : ap b xs ys = some (xs ++ ys) := by
  rw [ap_eq, if_pos ⟨h, by unfold maxLen; omega⟩]
theorem sl_some {α : Type} {xs : List α} {lo hi : Int} (h : 0 ≤ lo ∧ lo ≤ hi ∧ hi ≤ xs.length) : sl xs lo hi = some ((xs.take hi.toNat).drop lo.toNat) := by
  rw [sl_eq, if_pos h]
theorem sl_all {α : Type} {xs : List α} {lo : Int} (h : 0 ≤ lo ∧ lo ≤ xs.length) : sl xs lo xs.length = some (xs.drop lo.toNat) := by
  rw [sl_some (by omega), Int.toNat_natCast, List.take_length]
theorem sl_pre {α : Type} {xs : List α} {hi : Int} (h : 0 ≤ hi ∧ hi ≤ xs.length) : sl xs 0 hi = some (xs.take hi.toNat) := by
  rw [sl_some (by omega)]
  rfl
theorem nn_some {R : Type} {b : Int} {m : Option R} (h : 0 ≤ b) : nn b m = m := by rw [nn_eq, if_neg (by omega)]
theorem nz_some {R : Type} {b : Int} {m : Option R} (h : b ≠ 0) : nz b m = m := by rw [nz_eq, if_neg h]
theorem w64 {x : Int} (h1 : -9223372036854775808 ≤ x) (h2 : x ≤ 9223372036854775807) : IntKind.i64.wrap x = x := wrap64 h1 h2
theorem u8wrap_eq (x : Int) : IntKind.u8.wrap x = x % 256 := by
  simp only [IntKind.wrap, IntKind.signed, IntKind.bits, Bool.false_and, Bool.false_eq_true, if_false]
  rfl
theorem toB_toNat (x : Int) (h : 0 ≤ x ∧ x < 256) : (toB x).toNat = x.toNat := by
  have := toB_of h
  omega
end Go.Proofs.YtppekacobjdhnaaDoor
namespace Go.Proofs.YtppekacobjdhnaaDoor
open Go.RowKit
set_option linter.unusedVariables false
set_option linter.unusedSimpArgs false

/-- A walk along a list: what each element makes of the rest. -/
def walk {α R : Type} (F : Nat → α → R → R) (e : R) : Nat → List α → R
  | _, [] => e
  | i, x :: xs => F i x (walk F e (i + 1) xs)
theorem w64s {i : Nat} (h : i ≤ 140737488355328) : IntKind.i64.wrap ((i : Int) + 1) = ((i + 1 : Nat) : Int) := by
  rw [w64 (by omega) (by omega)]
  rfl
/-- A loop whose state is where it stands in a list. -/
theorem loop_idx {α ε R : Type} (l : List α) (F : Nat → α → Option R → Option R) (e : Option R) {step : Int → (Int → Option R) → (ε → Option R) → Option R} {bk : ε → Option R} (hl : l.length ≤ 140737488355328)
    (hs : ∀ (i : Nat) (h : i < l.length) (nx : Int → Option R), step (i : Int) nx bk = F i l[i] (nx (IntKind.i64.wrap ((i : Int) + 1))))
    (he : ∀ nx, step (l.length : Int) nx bk = e) : loopC step bk BIG 0 = walk F e 0 l := by
  suffices h : ∀ (m n i : Nat), i + m = l.length → m < n → loopC step bk n (i : Int) = walk F e i (l.drop i) from by
    have := h l.length BIG 0 (by omega) (big_lt (by omega))
    simpa using this
  intro m
  induction m with
  | zero =>
    intro n i hi hn
    obtain ⟨k, rfl⟩ : ∃ k, n = k + 1 := ⟨n - 1, by omega⟩
    rw [loopC_succ, List.drop_eq_nil_of_le (by omega), show i = l.length by omega, he]
    rfl
  | succ m ih =>
    intro n i hi hn
    obtain ⟨k, rfl⟩ : ∃ k, n = k + 1 := ⟨n - 1, by omega⟩
    rw [loopC_succ, hs i (by omega), w64s (by omega), ih k (i + 1) (by omega) (by omega), List.drop_eq_getElem_cons (by omega : i < l.length)]
    rfl
/-- The same, with what was gathered so far. -/
def walkA {α β R : Type} (F : Nat → α → (β → R) → β → R) (e : β → R) : Nat → List α → β → R
  | _, [], b => e b
  | i, x :: xs, b => F i x (walkA F e (i + 1) xs) b
theorem loop_acc {α β ε R : Type} (l : List α) (F : Nat → α → (β → Option R) → β → Option R) (e : β → Option R) {step : β × Int → (β × Int → Option R) → (ε → Option R) → Option R} {bk : ε → Option R} (b0 : β) (I : Nat → β → Prop) (hI0 : I 0 b0) (hl : l.length ≤ 140737488355328)
    (hs : ∀ (i : Nat) (h : i < l.length) (b : β) (nx nx' : β → Option R), I i b → (∀ b', I (i + 1) b' → nx b' = nx' b') → ∀ go : β × Int → Option R, (∀ b', go (b', IntKind.i64.wrap ((i : Int) + 1)) = nx b') → step (b, (i : Int)) go bk = F i l[i] nx' b)
    (he : ∀ b nx, I l.length b → step (b, (l.length : Int)) nx bk = e b) : loopC step bk BIG (b0, 0) = walkA F e 0 l b0 := by
  suffices h : ∀ (m n i : Nat) (b : β), I i b → i + m = l.length → m < n → loopC step bk n (b, (i : Int)) = walkA F e i (l.drop i) b from by
    have := h l.length BIG 0 b0 hI0 (by omega) (big_lt (by omega))
    simpa using this
  intro m
  induction m with
  | zero =>
    intro n i b hb hi hn
    obtain ⟨k, rfl⟩ : ∃ k, n = k + 1 := ⟨n - 1, by omega⟩
    obtain rfl : i = l.length := by omega
    rw [loopC_succ, List.drop_eq_nil_of_le (by omega), he b _ hb]
    rfl
  | succ m ih =>
    intro n i b hb hi hn
    obtain ⟨k, rfl⟩ : ∃ k, n = k + 1 := ⟨n - 1, by omega⟩
    rw [loopC_succ, List.drop_eq_getElem_cons (by omega : i < l.length)]
    refine hs i (by omega) b (fun b' => loopC step bk k (b', ((i + 1 : Nat) : Int))) (walkA F e (i + 1) (l.drop (i + 1))) hb (fun b' hb' => ih k (i + 1) b' hb' (by omega) (by omega)) _ fun b' => ?_
    rw [w64s (by omega)]
end Go.Proofs.YtppekacobjdhnaaDoor
namespace Go.Proofs.YtppekacobjdhnaaDoor
open Go.RowKit
set_option linter.unusedVariables false
set_option linter.unusedSimpArgs false

/-- A model comes to an answer of which Q holds. -/
def Ok {α : Type} (m : Option α) (Q : α → Prop) : Prop := ∃ x, m = some x ∧ Q x
section
variable {α β R τ : Type} {Q : R → Prop}
theorem ok_some {x : R} (h : Q x) : Ok (some x) Q := ⟨x, rfl, h⟩
theorem ok_eq {m : Option R} {x : R} (h : m = some x) (k : Q x) : Ok m Q := ⟨x, h, k⟩
theorem ok_mono {m : Option R} {Q' : R → Prop} (h : Ok m Q') (k : ∀ x, Q' x → Q x) : Ok m Q := by
  obtain ⟨x, e, q⟩ := h
  exact ⟨x, e, k x q⟩
theorem ok_bd {m : Option α} {k : α → Option R} {P : α → Prop} (h : Ok m P) (h2 : ∀ x, m = some x → P x → Ok (k x) Q) : Ok (bd m k) Q := by
  obtain ⟨x, e, p⟩ := h
  rw [e, bd_some]
  exact h2 x e p
theorem ok_bde {m : Option α} {k : α → Option R} {x : α} (h : m = some x) (h2 : Ok (k x) Q) : Ok (bd m k) Q := by
  rw [h, bd_some]
  exact h2
theorem ok_if {p : Prop} {_ : Decidable p} {A B : Option R} (h1 : p → Ok A Q) (h2 : ¬ p → Ok B Q) : Ok (bif decide p then A else B) Q := by
  by_cases hp : p
  · rw [decide_eq_true hp]; exact h1 hp
  · rw [decide_eq_false hp]; exact h2 hp
theorem ok_ifn {p : Prop} {_ : Decidable p} {A B : Option R} (h1 : ¬ p → Ok A Q) (h2 : p → Ok B Q) : Ok (bif !decide p then A else B) Q := by
  by_cases hp : p
  · rw [decide_eq_true hp]; exact h2 hp
  · rw [decide_eq_false hp]; exact h1 hp
theorem ok_ifb {b : Bool} {A B : Option R} (h1 : b = true → Ok A Q) (h2 : b = false → Ok B Q) : Ok (bif b then A else B) Q := by
  cases b
  · exact h2 rfl
  · exact h1 rfl
theorem ok_ifnb {b : Bool} {A B : Option R} (h1 : b = false → Ok A Q) (h2 : b = true → Ok B Q) : Ok (bif !b then A else B) Q := by
  cases b
  · exact h1 rfl
  · exact h2 rfl
theorem ok_ix {xs : List α} {i : Int} {k : α → Option R} (h0 : 0 ≤ i) (h1 : i < xs.length) (h : ∀ (hlt : i.toNat < xs.length), Ok (k xs[i.toNat]) Q) : Ok (bd (ix xs i) k) Q :=
  ok_bde (ix_some h0 (List.getElem?_eq_getElem (by omega))) (h (by omega))
theorem ok_ap {b : Nat} {xs ys : List α} {k : List α → Option R} (h : (xs.length + ys.length) * b ≤ 140737488355328) (h2 : xs.length + ys.length ≤ 140737488355328) (hk : Ok (k (xs ++ ys)) Q) : Ok (bd (ap b xs ys) k) Q :=
  ok_bde (ap_some h h2) hk
theorem ok_jn {i : Nat} {f : (τ → Option R) → Option R} {k : τ → Option R} (J : τ → Prop) (h2 : ∀ k', (∀ j, J j → Ok (k' j) Q) → Ok (f k') Q) (h1 : ∀ j, J j → Ok (k j) Q) : Ok (jn i f k) Q := by
  rw [jn_eq]
  exact h2 k h1
theorem ok_jn' {i : Nat} {f : (τ → Option R) → Option R} {k : τ → Option R} (h : Ok (f k) Q) : Ok (jn i f k) Q := by
  rw [jn_eq]
  exact h
/-- A loop whose rounds keep I, and count down. -/
theorem ok_loop {σ ε : Type} {step : σ → (σ → Option R) → (ε → Option R) → Option R} {bk : ε → Option R} {s0 : σ} (I : σ → Prop) (μ : σ → Nat) (h0 : I s0) (hm : μ s0 ≤ 1180591620717411303000)
    (hs : ∀ s, I s → ∀ nx : σ → Option R, (∀ s', I s' → μ s' < μ s → Ok (nx s') Q) → Ok (step s nx bk) Q) : Ok (loopC step bk BIG s0) Q := by
  suffices h : ∀ (n : Nat) (s : σ), I s → μ s < n → Ok (loopC step bk n s) Q from h BIG s0 h0 (big_lt hm)
  intro n
  induction n with
  | zero => intro s _ h; omega
  | succ n ih =>
    intro s hI h
    rw [loopC_succ]
    exact hs s hI _ fun s' h1 h2 => ih s' h1 (by omega)
/-- A loop over the places of a list. -/
theorem ok_idx {ε : Type} {step : Int → (Int → Option R) → (ε → Option R) → Option R} {bk : ε → Option R} (n : Nat) (I : Nat → Prop) (hn : n ≤ 9223372036854775807) (h0 : I 0)
    (hs : ∀ i, i < n → I i → ∀ nx : Int → Option R, (I (i + 1) → Ok (nx (IntKind.i64.wrap ((i : Int) + 1))) Q) → Ok (step (i : Int) nx bk) Q) (he : I n → ∀ nx, Ok (step (n : Int) nx bk) Q) : Ok (loopC step bk BIG 0) Q := by
  refine ok_loop (fun st => ∃ j : Nat, st = (j : Int) ∧ j ≤ n ∧ I j) (fun st => ((n : Int) - st).toNat) ⟨0, rfl, Nat.zero_le _, h0⟩ (by omega) ?_
  rintro _ ⟨j, rfl, hj, hI⟩ nx hnx
  by_cases hlt : j < n
  · have hw : IntKind.i64.wrap ((j : Int) + 1) = ((j + 1 : Nat) : Int) := by rw [w64 (by omega) (by omega)]; rfl
    refine hs j hlt hI nx fun h => hnx _ ⟨j + 1, hw, hlt, h⟩ (by rw [hw]; omega)
  · obtain rfl : j = n := by omega
    exact he hI nx
/-- The same, with something gathered. -/
theorem ok_acc {γ ε : Type} {step : γ × Int → (γ × Int → Option R) → (ε → Option R) → Option R} {bk : ε → Option R} {b0 : γ} (n : Nat) (I : Nat → γ → Prop) (hn : n ≤ 9223372036854775807) (h0 : I 0 b0)
    (hs : ∀ i b, i < n → I i b → ∀ nx : γ × Int → Option R, (∀ b', I (i + 1) b' → Ok (nx (b', IntKind.i64.wrap ((i : Int) + 1))) Q) → Ok (step (b, (i : Int)) nx bk) Q) (he : ∀ b, I n b → ∀ nx, Ok (step (b, (n : Int)) nx bk) Q) : Ok (loopC step bk BIG (b0, 0)) Q := by
  refine ok_loop (fun st => ∃ j : Nat, st.2 = (j : Int) ∧ j ≤ n ∧ I j st.1) (fun st => ((n : Int) - st.2).toNat) ⟨0, rfl, Nat.zero_le _, h0⟩ (by simp only; omega) ?_
  rintro ⟨b, _⟩ ⟨j, rfl, hj, hI⟩ nx hnx
  dsimp only at hj hI hnx
  by_cases hlt : j < n
  · have hw : IntKind.i64.wrap ((j : Int) + 1) = ((j + 1 : Nat) : Int) := by rw [w64 (by omega) (by omega)]; rfl
    refine hs j b hlt hI nx fun b' h => hnx _ ⟨j + 1, hw, hlt, h⟩ (by simp only [hw]; omega)
  · obtain rfl : j = n := by omega
    exact he b hI nx
/-- The same, the place first. -/
theorem ok_acc' {γ ε : Type} {step : Int × γ → (Int × γ → Option R) → (ε → Option R) → Option R} {bk : ε → Option R} {b0 : γ} (n : Nat) (I : Nat → γ → Prop) (hn : n ≤ 9223372036854775807) (h0 : I 0 b0)
    (hs : ∀ i b, i < n → I i b → ∀ nx : Int × γ → Option R, (∀ b', I (i + 1) b' → Ok (nx (IntKind.i64.wrap ((i : Int) + 1), b')) Q) → Ok (step ((i : Int), b) nx bk) Q) (he : ∀ b, I n b → ∀ nx, Ok (step ((n : Int), b) nx bk) Q) : Ok (loopC step bk BIG (0, b0)) Q := by
  refine ok_loop (fun st => ∃ j : Nat, st.1 = (j : Int) ∧ j ≤ n ∧ I j st.2) (fun st => ((n : Int) - st.1).toNat) ⟨0, rfl, Nat.zero_le _, h0⟩ (by simp only; omega) ?_
  rintro ⟨_, b⟩ ⟨j, rfl, hj, hI⟩ nx hnx
  dsimp only at hj hI hnx
  by_cases hlt : j < n
  · have hw : IntKind.i64.wrap ((j : Int) + 1) = ((j + 1 : Nat) : Int) := by rw [w64 (by omega) (by omega)]; rfl
    refine hs j b hlt hI nx fun b' h => hnx _ ⟨j + 1, hw, hlt, h⟩ (by simp only [hw]; omega)
  · obtain rfl : j = n := by omega
    exact he b hI nx
theorem ok_true {m : Option Bool} (h : Ok m (· = true)) : m = some true := by
  obtain ⟨x, e, rfl⟩ := h
  exact e
end
end Go.Proofs.YtppekacobjdhnaaDoor
namespace Go.Proofs.YtppekacobjdhnaaDoor
open Go.RowKit
set_option linter.unusedVariables false
set_option linter.unusedSimpArgs false

theorem octTake_eq (l : List UInt8) (n : Int) : m_octet_Take l n = some (if 0 ≤ n ∧ n ≤ l.length then (l.take n.toNat, l.drop n.toNat, true) else ([], [], false)) := by
  unfold m_octet_Take
  by_cases h1 : n < 0
  · rw [decide_eq_true h1, cond_true, if_neg (by omega)]
  rw [decide_eq_false h1, cond_false]
  by_cases h2 : n > (l.length : Int)
  · rw [decide_eq_true h2, cond_true, if_neg (by omega)]
  rw [decide_eq_false h2, cond_false, sl_pre (by omega), bd_some, sl_all (by omega), bd_some, if_pos (by omega)]
theorem octGet_eq (l : List UInt8) (a : Int) (h1 : 1 ≤ a) (h4 : a ≤ 4) : m_octet_Get l a = some (if a ≤ l.length then (((num (l.take a.toNat) : Nat) : Int), l.drop a.toNat, true) else (0, [], false)) := by
  unfold m_octet_Get
  rw [decide_eq_false (by omega), cond_false, decide_eq_false (by omega), cond_false, octTake_eq, bd_some]
  by_cases hk : a ≤ l.length
  · rw [if_pos (by omega), if_pos hk]
    refine loopC_ind (fun st => ∃ j : Nat, j ≤ a.toNat ∧ st = (((num (l.take j) : Nat) : Int), (j : Int))) (fun st => (a - st.2).toNat) ?_ _ _ ⟨0, Nat.zero_le _, by simp [num]⟩ (big_lt (by simp; omega))
    rintro st ⟨j, hj, rfl⟩ nx hnx
    unfold s_octet_Get1
    have hlen : (l.take a.toNat).length = a.toNat := by rw [List.length_take]; omega
    simp only [hlen]
    by_cases hlt : j < a.toNat
    · rw [decide_eq_true (by omega), cond_true, ix_nat (by rw [hlen]; exact hlt), bd_some, List.getElem_take]
      have hb : l[j].toNat < 256 := l[j].toNat_lt
      have hnl : num (l.take j) < 16777216 := by
        have := num_lt (l.take j)
        have : 256 ^ (l.take j).length ≤ 256 ^ 3 := Nat.pow_le_pow_right (by omega) (by rw [List.length_take]; omega)
        omega
      have e1 : IntKind.i64.wrap ((num (l.take j) : Nat) * 2 ^ (min (8 : Int).toNat IntKind.i64.bits) : Int) = (num (l.take j) : Nat) * 256 := by
        rw [show (2 : Int) ^ (min (8 : Int).toNat IntKind.i64.bits) = 256 from rfl, w64 (by omega) (by omega)]
      have e2 : IntKind.i64.wrap (l[j].toNat : Int) = l[j].toNat := w64 (by omega) (by omega)
      have e3 := or_byte (num (l.take j)) l[j].toNat hb hnl
      simp only [bits] at e3
      have e4 := num_step l j (by omega)
      rw [e1, e2, e3, ← e4, w64 (by omega) (by omega)]
      exact hnx _ ⟨j + 1, by omega, by simp⟩ (by simp; omega)
    · obtain rfl : j = a.toNat := by omega
      rw [decide_eq_false (by omega), cond_false]
  · rw [if_neg (by omega), if_neg hk]
    rw [show BIG = (BIG - 1) + 1 from rfl, loopC_succ]
    rfl
theorem u8_fdiv' (v : Int) (j : Nat) (h : j ≤ 3) : toB (IntKind.u8.wrap (v.fdiv (2 ^ (min (8 * j) 64)))) = octAt v j := by
  have : v.fdiv (2 ^ (8 * j)) = v / 2 ^ (8 * j) := by
    rw [Int.fdiv_eq_ediv_of_nonneg]
    exact Int.le_of_lt (Int.pow_pos (by decide))
  rw [Nat.min_eq_left (by omega), this, u8wrap_eq]
  rfl
theorem octPut_eq (l : List UInt8) (v a : Int) (h1 : 1 ≤ a) (h4 : a ≤ 4) (hl : l.length ≤ 140737488355000) : m_octet_Put l v a = some (l ++ putL v a.toNat) := by
  unfold m_octet_Put
  rw [decide_eq_false (by omega), cond_false, decide_eq_false (by omega), cond_false, sl_pre (by omega), bd_some, Int.toNat_natCast, List.take_length]
  refine loopC_ind (fun st => ∃ j : Nat, j ≤ a.toNat ∧ st = (l ++ (putL v a.toNat).take j, (j : Int))) (fun st => (a - st.2).toNat) ?_ _ _ ⟨0, Nat.zero_le _, by simp⟩ (big_lt (by simp; omega))
  rintro st ⟨j, hj, rfl⟩ nx hnx
  unfold s_octet_Put1
  by_cases hlt : j < a.toNat
  · rw [decide_eq_true (by simp only; omega), cond_true]
    have e1 : IntKind.i64.wrap (8 * IntKind.i64.wrap (IntKind.i64.wrap (a - 1) - (j : Int))) = ((8 * (a.toNat - 1 - j) : Nat) : Int) := by
      rw [w64 (x := a - 1) (by omega) (by omega), w64 (x := a - 1 - (j : Int)) (by omega) (by omega), w64 (by omega) (by omega)]
      omega
    simp only [e1]
    rw [nn_some (by omega), Int.toNat_natCast, show IntKind.i64.bits = 64 from rfl, u8_fdiv' v _ (by omega), ap_some (by simp; omega) (by simp; omega), bd_some, w64 (by omega) (by omega), List.append_assoc, ← putL_step v a.toNat j hlt]
    exact hnx _ ⟨j + 1, by omega, by simp⟩ (by simp; omega)
  · obtain rfl : j = a.toNat := by omega
    rw [decide_eq_false (by simp only; omega), cond_false, List.take_of_length_le (by rw [putL_length]; exact Nat.le_refl _)]
end Go.Proofs.YtppekacobjdhnaaDoor
namespace Go.Proofs.YtppekacobjdhnaaDoor
open Go.RowKit
set_option linter.unusedVariables false
set_option linter.unusedSimpArgs false
set_option maxRecDepth 100000
set_option maxHeartbeats 1000000

theorem ok_out1 {R : Type} {m : Option R} {r : R} (h : Ok m (· = r)) : m = some r := by
  obtain ⟨x, h1, h2⟩ := h
  rw [h1, h2]
theorem lo_eq (v : Int) : IntKind.i64.wrap ((BitVec.ofInt IntKind.i64.bits v &&& BitVec.ofInt IntKind.i64.bits (4294967295 : Int)).toNat : Int) = v % 4294967296 := by
  have h := and_mask v 32 (by omega)
  rw [show ((2 : Int) ^ 32 - 1) = 4294967295 by decide, show ((2 : Int) ^ 32) = 4294967296 by decide] at h
  exact h
/-- What is left under a mask. -/
def lowCut (a n : Int) : Int := a % 4294967296 - a % 4294967296 % (2 : Int) ^ (32 - n).toNat
theorem cut_rng (a n : Int) : 0 ≤ lowCut a n ∧ lowCut a n < 4294967296 := by
  have h0 := Int.emod_nonneg a (show (4294967296 : Int) ≠ 0 by decide)
  have h1 := Int.emod_lt_of_pos a (show (0 : Int) < 4294967296 by decide)
  have hp : (0 : Int) < 2 ^ (32 - n).toNat := Int.pow_pos (by decide)
  have h2 := Int.emod_nonneg (a % 4294967296) (show (2 : Int) ^ (32 - n).toNat ≠ 0 by omega)
  have h3 : a % 4294967296 % (2 : Int) ^ (32 - n).toNat ≤ a % 4294967296 := by
    have := Int.emod_def (a % 4294967296) ((2 : Int) ^ (32 - n).toNat)
    have hq : 0 ≤ (a % 4294967296) / (2 : Int) ^ (32 - n).toNat := Int.ediv_nonneg h0 (by omega)
    have := Int.mul_nonneg (Int.le_of_lt hp) hq
    omega
  unfold lowCut
  omega
theorem mask_val (a n : Int) (h : 0 ≤ n ∧ n ≤ 32) : m_prefix_Mask a n = some (lowCut a n) := by
  unfold m_prefix_Mask
  have e1 : (if (0 : Int) > n then (0 : Int) else n) = n := if_neg (by omega)
  have e2 : (if (32 : Int) < n then (32 : Int) else n) = n := if_neg (by omega)
  have e3 : IntKind.i64.wrap (32 - n) = 32 - n := w64 (by omega) (by omega)
  have e4 : min (32 - n).toNat IntKind.i64.bits = (32 - n).toNat := Nat.min_eq_left (show (32 - n).toNat ≤ 64 by omega)
  rw [e1, e2, e3, nn_some (by omega), nn_some (by omega), e4, lo_eq]
  have hp : (0 : Int) < 2 ^ (32 - n).toNat := Int.pow_pos (by decide)
  have hr := cut_rng a n
  rw [Int.fdiv_eq_ediv_of_nonneg _ (Int.le_of_lt hp)]
  have hd := Int.emod_def (a % 4294967296) ((2 : Int) ^ (32 - n).toNat)
  have he : a % 4294967296 / (2 : Int) ^ (32 - n).toNat * (2 : Int) ^ (32 - n).toNat = lowCut a n := by
    unfold lowCut
    rw [hd, Int.mul_comm]
    omega
  rw [he, w64 (by omega) (by omega)]
/-- A prefix that may be. -/
def PrefixOk (x : Prefix) : Prop := (0 ≤ x.N ∧ x.N ≤ 32) ∧ lowCut x.A x.N = x.A
theorem t_psane (x : Prefix) : Ok (m_prefix_Sane x) fun b => b = true ↔ PrefixOk x := by
  unfold m_prefix_Sane PrefixOk
  refine ok_if (fun h1 => ok_if (fun h2 => ok_bde (mask_val _ _ ⟨h1, h2⟩) (ok_some ?_)) fun h => ok_some ?_) fun h => ok_some ?_
  · rw [decide_eq_true_eq]
    exact ⟨fun k => ⟨⟨h1, h2⟩, k⟩, fun k => k.2⟩
  · exact ⟨fun k => Bool.noConfusion k, fun k => by omega⟩
  · exact ⟨fun k => Bool.noConfusion k, fun k => by omega⟩
theorem lowCut_idem (a n : Int) : lowCut (lowCut a n) n = lowCut a n := by
  have hr := cut_rng a n
  have e : lowCut a n = (2 : Int) ^ (32 - n).toNat * (a % 4294967296 / (2 : Int) ^ (32 - n).toNat) := by
    unfold lowCut
    rw [Int.emod_def (a % 4294967296) ((2 : Int) ^ (32 - n).toNat)]
    omega
  have h1 : lowCut a n % 4294967296 = lowCut a n := Int.emod_eq_of_lt hr.1 hr.2
  have h2 : lowCut a n % (2 : Int) ^ (32 - n).toNat = 0 := by rw [e, Int.mul_emod_right]
  show lowCut a n % 4294967296 - lowCut a n % 4294967296 % (2 : Int) ^ (32 - n).toNat = _
  rw [h1, h2]
  omega


def clamp (n : Int) : Int := if n < 0 then 0 else if n > 32 then 32 else n
theorem clamp_rng (n : Int) : 0 ≤ clamp n ∧ clamp n ≤ 32 := by
  unfold clamp
  split
  · omega
  · split <;> omega
theorem mask_any (a n : Int) : m_prefix_Mask a n = some (lowCut a (clamp n)) := by
  rw [← mask_val a (clamp n) (clamp_rng n)]
  have e : ∀ n : Int, (if (32 : Int) < (if (0 : Int) > n then (0 : Int) else n) then (32 : Int) else (if (0 : Int) > n then (0 : Int) else n)) = clamp n := fun n => by
    unfold clamp
    repeat' split
    all_goals omega
  have e2 : clamp (clamp n) = clamp n := by
    have := clamp_rng n
    generalize clamp n = k at this
    unfold clamp
    rw [if_neg (by omega), if_neg (by omega)]
  unfold m_prefix_Mask
  rw [e n, e (clamp n), e2]
theorem cut_mul (a n : Int) : lowCut a n = (2 : Int) ^ (32 - n).toNat * (a % 4294967296 / (2 : Int) ^ (32 - n).toNat) := by
  unfold lowCut
  rw [Int.emod_def (a % 4294967296) ((2 : Int) ^ (32 - n).toNat)]
  omega
theorem cut_cut (a m n : Int) (hm : 0 ≤ m ∧ m ≤ 32) (hn : 0 ≤ n ∧ n ≤ 32) : lowCut (lowCut a m) n = lowCut a (if n < m then n else m) := by
  have hr := cut_rng a m
  have h1 : lowCut a m % 4294967296 = lowCut a m := Int.emod_eq_of_lt hr.1 hr.2
  rw [cut_mul (lowCut a m) n, h1]
  split
  · rename_i h
    rw [cut_mul a m, cut_mul a n]
    have e : (2 : Int) ^ (32 - n).toNat = 2 ^ (32 - m).toNat * 2 ^ (m - n).toNat := by
      rw [← Int.pow_add, show (32 - m).toNat + (m - n).toNat = (32 - n).toNat by omega]
    have hp : (0 : Int) < 2 ^ (32 - m).toNat := Int.pow_pos (by decide)
    rw [e, Int.mul_ediv_mul_of_pos _ _ hp, Int.ediv_ediv_of_nonneg (Int.le_of_lt hp)]
  · rename_i h
    have e : (2 : Int) ^ (32 - m).toNat = 2 ^ (32 - n).toNat * 2 ^ (n - m).toNat := by
      rw [← Int.pow_add, show (32 - n).toNat + (n - m).toNat = (32 - m).toNat by omega]
    have hp : (2 : Int) ^ (32 - n).toNat ≠ 0 := by have : (0 : Int) < 2 ^ (32 - n).toNat := Int.pow_pos (by decide); omega
    have hd : (2 : Int) ^ (32 - n).toNat ∣ lowCut a m := by
      rw [cut_mul a m, e, Int.mul_assoc]
      exact Int.dvd_mul_right _ _
    exact Int.mul_ediv_cancel' hd
theorem cut_le (a n : Int) (h : 0 ≤ a ∧ a < 4294967296) : lowCut a n ≤ a := by
  unfold lowCut
  have hp : (0 : Int) < 2 ^ (32 - n).toNat := Int.pow_pos (by decide)
  rw [Int.emod_eq_of_lt h.1 h.2]
  have := Int.emod_nonneg a (show (2 : Int) ^ (32 - n).toNat ≠ 0 by omega)
  omega
theorem cut_32 (a : Int) : lowCut a 32 = a % 4294967296 := by
  unfold lowCut
  rw [show (2 : Int) ^ ((32 : Int) - 32).toNat = 1 from rfl, Int.emod_one]
  omega
theorem saneP_eq (x : Prefix) : ∃ b, m_prefix_Sane x = some b ∧ (b = true ↔ PrefixOk x) := by
  obtain ⟨b, h1, h2⟩ := t_psane x
  exact ⟨b, h1, h2⟩
theorem cutOk (a n : Int) (h : 0 ≤ n ∧ n ≤ 32) : PrefixOk ⟨lowCut a n, n⟩ := ⟨h, lowCut_idem a n⟩
instance (x : Prefix) : Decidable (PrefixOk x) := by unfold PrefixOk; infer_instance
theorem sane_dec (x : Prefix) : m_prefix_Sane x = some (decide (PrefixOk x)) := by
  obtain ⟨b, h1, h2⟩ := t_psane x
  rw [h1]
  congr 1
  rw [Bool.eq_iff_iff, h2, decide_eq_true_eq]
end Go.Proofs.YtppekacobjdhnaaDoor
namespace Go.Proofs.YtppekacobjdhnaaDoor
open Go.RowKit
set_option linter.unusedVariables false
set_option linter.unusedSimpArgs false
set_option maxRecDepth 100000
set_option maxHeartbeats 1000000

theorem get_put (v : Int) (k : Nat) (t : List UInt8) (a : Int) (ha : a = (k : Int)) (hk : 1 ≤ k ∧ k ≤ 4) (hv : 0 ≤ v ∧ v < (256 : Int) ^ k) : m_octet_Get (putL v k ++ t) a = some (v, t, true) := by
  subst ha
  rw [octGet_eq _ _ (by omega) (by omega), if_pos (by rw [List.length_append, putL_length]; omega)]
  simp only [Int.toNat_natCast]
  rw [List.take_append_of_le_length (by rw [putL_length]; omega), List.take_of_length_le (by rw [putL_length]; omega), List.drop_append_of_le_length (by rw [putL_length]; omega), List.drop_of_length_le (by rw [putL_length]; omega), num_putL, Int.emod_eq_of_lt hv.1 hv.2]
  rfl
/-- How many octets a prefix's number has. -/
def sizeP (n : Int) : Int := (n + 7) / 8
theorem size_eq (n : Int) (h : 0 ≤ n ∧ n ≤ 255) : m_prefix_size n = some (sizeP n) := by
  unfold m_prefix_size sizeP
  rw [w64 (x := n + 7) (by omega) (by omega), Int.tdiv_eq_ediv_of_nonneg (by omega), w64 (by omega) (by omega)]
/-- The octets of a prefix. -/
def encP (x : Prefix) : List UInt8 := putL x.N 1 ++ putL (x.A / (2 : Int) ^ (32 - 8 * sizeP x.N).toNat) (sizeP x.N).toNat
theorem pfx_val {x : Prefix} (h : PrefixOk x) : (0 ≤ x.A ∧ x.A < 4294967296) ∧ (2 : Int) ^ (32 - x.N).toNat ∣ x.A := by
  obtain ⟨h1, h2⟩ := h
  have hr := cut_rng x.A x.N
  rw [h2] at hr
  refine ⟨hr, ?_⟩
  have e : lowCut x.A x.N = (2 : Int) ^ (32 - x.N).toNat * (x.A % 4294967296 / (2 : Int) ^ (32 - x.N).toNat) := by
    unfold lowCut
    rw [Int.emod_def (x.A % 4294967296) ((2 : Int) ^ (32 - x.N).toNat)]
    omega
  rw [h2] at e
  rw [e]
  exact Int.dvd_mul_right _ _
theorem pow_dvd {a b : Nat} (h : a ≤ b) : (2 : Int) ^ a ∣ 2 ^ b := by
  have := Nat.pow_dvd_pow 2 h
  exact_mod_cast this
theorem pfx_oct {x : Prefix} (h : PrefixOk x) : (0 ≤ sizeP x.N ∧ sizeP x.N ≤ 4) ∧ (2 : Int) ^ (32 - 8 * sizeP x.N).toNat ∣ x.A ∧ 0 ≤ x.A / (2 : Int) ^ (32 - 8 * sizeP x.N).toNat ∧ x.A / (2 : Int) ^ (32 - 8 * sizeP x.N).toNat < (256 : Int) ^ (sizeP x.N).toNat := by
  obtain ⟨hr, hd⟩ := pfx_val h
  have hN := h.1
  have hs : 0 ≤ sizeP x.N ∧ sizeP x.N ≤ 4 := by unfold sizeP; omega
  have hle : (32 - 8 * sizeP x.N).toNat ≤ (32 - x.N).toNat := by unfold sizeP; omega
  have hp : (0 : Int) < 2 ^ (32 - 8 * sizeP x.N).toNat := Int.pow_pos (by decide)
  refine ⟨hs, Int.dvd_trans (pow_dvd hle) hd, Int.ediv_nonneg hr.1 (Int.le_of_lt hp), ?_⟩
  refine Int.ediv_lt_of_lt_mul hp ?_
  have : (256 : Int) ^ (sizeP x.N).toNat * 2 ^ (32 - 8 * sizeP x.N).toNat = 4294967296 := by
    have : sizeP x.N = 0 ∨ sizeP x.N = 1 ∨ sizeP x.N = 2 ∨ sizeP x.N = 3 ∨ sizeP x.N = 4 := by omega
    rcases this with e | e | e | e | e <;> rw [e] <;> decide
  rw [this]
  exact hr.2
theorem prefixPut_eq (l : List UInt8) (x : Prefix) (hl : l.length ≤ 1000000) (h : PrefixOk x) : m_prefix_Put l x = some (l ++ encP x) := by
  refine (?_ : Ok (m_prefix_Put l x) (· = l ++ encP x)).elim fun x h => by rw [h.1, h.2]
  obtain ⟨hs, hd, h0, h1⟩ := pfx_oct h
  have hN := h.1
  obtain ⟨b, e, hb⟩ := t_psane x
  have hb := hb.2 h
  subst hb
  unfold m_prefix_Put encP
  refine ok_bde e (ok_ifnb (fun k => Bool.noConfusion k) fun _ => ok_bde (size_eq _ (by omega)) (ok_bde (octPut_eq _ _ 1 (by omega) (by omega) (by omega)) ?_))
  have hw : IntKind.i64.wrap ((32 : Int) - IntKind.i64.wrap ((8 : Int) * sizeP x.N)) = 32 - 8 * sizeP x.N := by
    rw [w64 (x := 8 * sizeP x.N) (by omega) (by omega), w64 (by omega) (by omega)]
  have hm : min (32 - 8 * sizeP x.N).toNat IntKind.i64.bits = (32 - 8 * sizeP x.N).toNat := Nat.min_eq_left (show _ ≤ 64 by omega)
  have hp : (0 : Int) < 2 ^ (32 - 8 * sizeP x.N).toNat := Int.pow_pos (by decide)
  rw [hw, nn_some (by omega), hm, Int.fdiv_eq_ediv_of_nonneg _ (Int.le_of_lt hp)]
  by_cases hz : sizeP x.N = 0
  · have : m_octet_Put (l ++ putL x.N (1 : Int).toNat) (x.A / (2 : Int) ^ (32 - 8 * sizeP x.N).toNat) (sizeP x.N) = some (l ++ putL x.N (1 : Int).toNat) := by
      unfold m_octet_Put
      rw [decide_eq_true (by omega), cond_true]
    refine ok_bde this (ok_some ?_)
    rw [hz]
    simp [putL]
  · refine ok_bde (octPut_eq _ _ _ (by omega) (by omega) (by simp [putL_length]; omega)) (ok_some ?_)
    rw [List.append_assoc]
    rfl
theorem encP_pos (x : Prefix) : 0 < (encP x).length := by
  unfold encP
  simp only [List.length_append, putL_length]
  omega
theorem encP_len {x : Prefix} (h : PrefixOk x) : (encP x).length ≤ 5 := by
  have := (pfx_oct h).1
  unfold encP
  simp only [List.length_append, putL_length]
  omega
theorem prefixGet_eq (x : Prefix) (t : List UInt8) (h : PrefixOk x) : m_prefix_Get (encP x ++ t) = some (x, t, true) := by
  refine (?_ : Ok (m_prefix_Get (encP x ++ t)) (· = (x, t, true))).elim fun x h => by rw [h.1, h.2]
  obtain ⟨hs, hd, h0, h1⟩ := pfx_oct h
  obtain ⟨hr, _⟩ := pfx_val h
  have hN := h.1
  have hp : (0 : Int) < 2 ^ (32 - 8 * sizeP x.N).toNat := Int.pow_pos (by decide)
  unfold m_prefix_Get encP
  rw [List.append_assoc]
  refine ok_bde (get_put _ 1 _ 1 rfl (by omega) (by omega)) (ok_ifnb (fun k => Bool.noConfusion k) fun _ => ok_if (fun k => by dsimp only at k; omega) fun _ => ok_bde (size_eq _ (by dsimp only; omega)) (ok_if (fun hz => ok_some ?_) fun hz => ?_))
  · dsimp only at hz
    have hN0 : x.N = 0 := by unfold sizeP at hz; omega
    have hA := h.2
    rw [hN0] at hA
    have hA0 : x.A = 0 := by
      unfold lowCut at hA
      rw [show (2 : Int) ^ ((32 : Int) - 0).toNat = 4294967296 by decide] at hA
      omega
    obtain ⟨a, n⟩ := x
    dsimp only at hN0 hA0
    subst hN0 hA0
    rfl
  · dsimp only at hz ⊢
    have hw : IntKind.i64.wrap ((32 : Int) - IntKind.i64.wrap ((8 : Int) * sizeP x.N)) = 32 - 8 * sizeP x.N := by
      rw [w64 (x := 8 * sizeP x.N) (by omega) (by omega), w64 (by omega) (by omega)]
    have hm : min (32 - 8 * sizeP x.N).toNat IntKind.i64.bits = (32 - 8 * sizeP x.N).toNat := Nat.min_eq_left (show _ ≤ 64 by omega)
    refine ok_bde (get_put _ (sizeP x.N).toNat _ _ (by omega) (by omega) ⟨h0, h1⟩) (ok_ifnb (fun k => Bool.noConfusion k) fun _ => ?_)
    rw [hw, nn_some (by omega), hm, Int.ediv_mul_cancel hd, w64 (by omega) (by omega), mask_val _ _ hN, h.2, bd_some]
    exact ok_some rfl
theorem prefixAll_eq (L : List Prefix) (hc : ∀ x ∈ L, PrefixOk x) (hl : L.length ≤ 10000) : m_prefix_All (L.flatMap encP) = some (L, true) := by
  refine (?_ : Ok (m_prefix_All (L.flatMap encP)) (· = (L, true))).elim fun x h => by rw [h.1, h.2]
  unfold m_prefix_All
  refine ok_loop (fun st => ∃ i : Nat, i ≤ L.length ∧ st.1 = (L.drop i).flatMap encP ∧ st.2 = L.take i) (fun st => L.length - st.2.length) ⟨0, Nat.zero_le _, rfl, rfl⟩ (by dsimp only; omega) ?_
  rintro ⟨_, _⟩ ⟨i, hi, rfl, rfl⟩ nx hnx
  rw [s_prefix_All1]
  dsimp only at hnx ⊢
  by_cases hlt : i < L.length
  · rw [List.drop_eq_getElem_cons hlt, List.flatMap_cons]
    refine ok_bde (prefixGet_eq _ _ (hc _ (List.getElem_mem hlt))) (ok_ifb (fun _ => ok_ap (by simp; omega) (by simp; omega) (hnx _ ⟨i + 1, hlt, rfl, List.take_append_getElem hlt⟩ ?_)) fun h => Bool.noConfusion h)
    simp only [List.length_append, List.length_take, List.length_singleton]
    omega
  · rw [List.drop_of_length_le (by omega), List.take_of_length_le (by omega)]
    have : m_prefix_Get [] = some (⟨0, 0⟩, [], false) := by
      unfold m_prefix_Get
      rw [octGet_eq [] 1 (by omega) (by omega), bd_some, if_neg (by simp)]
      rfl
    exact ok_bde this (ok_ifb (fun h => Bool.noConfusion h) fun _ => ok_if (fun h => absurd h (by simp)) fun _ => ok_some rfl)
theorem getN (l : List UInt8) (n : Int) (h : 1 ≤ n ∧ n ≤ 4) : Ok (m_octet_Get l n) fun r => r.2.1.length ≤ l.length ∧ (0 ≤ r.1 ∧ r.1 < (256 : Int) ^ n.toNat) ∧ (r.2.2 = true → r.2.1.length + n.toNat = l.length) ∧ (r.2.2 = false → r.1 = 0) := by
  refine ok_eq (octGet_eq l n h.1 h.2) ?_
  have hp : (0 : Int) < 256 ^ n.toNat := Int.pow_pos (by decide)
  split
  · have := num_lt (l.take n.toNat)
    rw [List.length_take, Nat.min_eq_left (by omega)] at this
    refine ⟨by simp, ⟨by dsimp only; omega, ?_⟩, fun _ => by simp; omega, fun h => Bool.noConfusion h⟩
    dsimp only
    exact_mod_cast this
  · exact ⟨Nat.zero_le _, ⟨Int.le_refl _, hp⟩, fun h => Bool.noConfusion h, fun _ => rfl⟩
theorem p1' : (256 : Int) ^ (1 : Int).toNat = 256 := by decide
theorem zeroOk : PrefixOk ⟨0, 0⟩ := ⟨⟨by decide, by decide⟩, by decide⟩
end Go.Proofs.YtppekacobjdhnaaDoor
namespace Go.Proofs.YtppekacobjdhnaaDoor
open Go.RowKit
set_option linter.unusedVariables false
set_option linter.unusedSimpArgs false
set_option maxRecDepth 100000
set_option maxHeartbeats 1000000

theorem encP_len' (x : Prefix) : (encP x).length = 1 + (sizeP x.N).toNat := by
  unfold encP
  rw [List.length_append, putL_length, putL_length]
theorem t_pget (l : List UInt8) : Ok (m_prefix_Get l) fun r => r.2.2 = true → PrefixOk r.1 ∧ (encP r.1).length + r.2.1.length = l.length := by
  unfold m_prefix_Get m_prefix_size
  have no : ∀ {q : Prefix}, Ok (some (q, ([] : List UInt8), false)) fun r : Prefix × List UInt8 × Bool => r.2.2 = true → PrefixOk r.1 ∧ (encP r.1).length + r.2.1.length = l.length := ok_some fun k => Bool.noConfusion k
  refine ok_bd (getN l 1 (by omega)) fun r1 _ h1 => ok_ifnb (fun _ => no) fun q1 => ok_if (fun _ => no) fun q2 => ?_
  rw [p1'] at h1
  have hl := h1.2.2.1 q1
  have hs : IntKind.i64.wrap ((IntKind.i64.wrap (r1.1 + (7 : Int))).tdiv (8 : Int)) = (r1.1 + 7) / 8 := by
    rw [w64 (x := r1.1 + 7) (by omega) (by omega), Int.tdiv_eq_ediv_of_nonneg (by omega), w64 (by omega) (by omega)]
  rw [hs, bd_some]
  refine ok_if (fun q3 => ok_some fun _ => ⟨zeroOk, ?_⟩) fun q3 => ok_bd (getN r1.2.1 _ (by omega)) fun r3 _ h3 => ok_ifnb (fun _ => no) fun q4 => ?_
  · have e0 : (encP ⟨0, 0⟩).length = 1 := by decide
    dsimp only
    rw [e0]
    omega
  have hl3 := h3.2.2.1 q4
  have hw : IntKind.i64.wrap ((32 : Int) - IntKind.i64.wrap ((8 : Int) * ((r1.1 + 7) / 8))) = 32 - 8 * ((r1.1 + 7) / 8) := by
    rw [w64 (x := 8 * ((r1.1 + 7) / 8)) (by omega) (by omega), w64 (by omega) (by omega)]
  rw [hw, nn_some (by omega), mask_val _ _ (by omega), bd_some]
  refine ok_some fun _ => ⟨⟨by dsimp only; omega, lowCut_idem _ _⟩, ?_⟩
  rw [encP_len']
  dsimp only
  unfold sizeP
  omega
def getR (l : List UInt8) : Prefix × List UInt8 × Bool := (m_prefix_Get l).getD (⟨0, 0⟩, [], false)
theorem get_eq (l : List UInt8) : m_prefix_Get l = some (getR l) ∧ ((getR l).2.2 = true → PrefixOk (getR l).1 ∧ (encP (getR l).1).length + (getR l).2.1.length = l.length) := by
  obtain ⟨r, h1, h2⟩ := t_pget l
  unfold getR
  rw [h1]
  exact ⟨rfl, h2⟩
def allF : Nat → List UInt8 → Option (List Prefix)
  | 0, _ => none
  | f + 1, l => if l.length = 0 then some [] else if (getR l).2.2 = true then (allF f (getR l).2.1).map ((getR l).1 :: ·) else none
theorem allF_ne {f : Nat} {l : List UInt8} (h : ¬ l.length = 0) : allF (f + 1) l = if (getR l).2.2 = true then (allF f (getR l).2.1).map ((getR l).1 :: ·) else none := by rw [allF, if_neg h]
theorem get_nil : m_prefix_Get [] = some (⟨0, 0⟩, [], false) := by
  unfold m_prefix_Get
  rw [octGet_eq [] 1 (by omega) (by omega), bd_some, if_neg (by simp)]
  rfl
def outA : Option (List Prefix) → List Prefix × Bool
  | some L => (L, true)
  | none => ([], false)
theorem map_app {acc : List Prefix} {p : Prefix} {o : Option (List Prefix)} : (o.map (p :: ·)).map (acc ++ ·) = o.map ((acc ++ [p]) ++ ·) := by
  cases o <;> simp
theorem all_eq (l : List UInt8) (hl : l.length ≤ 10000) : m_prefix_All l = some (outA (allF (l.length + 1) l)) := by
  refine ok_out1 ?_
  unfold m_prefix_All
  refine ok_loop (fun st => ∃ f, st.1.length + 1 ≤ f ∧ allF (l.length + 1) l = (allF f st.1).map (st.2 ++ ·) ∧ st.2.length + st.1.length ≤ l.length) (fun st => st.1.length) ⟨l.length + 1, Nat.le_refl _, by cases allF (l.length + 1) l <;> simp, by simp⟩ (by dsimp only; omega) ?_
  rintro ⟨r, acc⟩ ⟨f, hf, he, hlen⟩ nx hnx
  dsimp only at hf he hlen hnx
  obtain ⟨f, rfl⟩ : ∃ g, f = g + 1 := ⟨f - 1, by omega⟩
  rw [s_prefix_All1]
  dsimp only
  by_cases hr : r.length = 0
  · obtain rfl := List.length_eq_zero_iff.1 hr
    refine ok_bde get_nil (ok_ifb (fun h => Bool.noConfusion h) fun _ => ok_if (fun h => absurd h (by simp)) fun _ => ok_some ?_)
    rw [he]
    simp [allF, outA]
  · obtain ⟨g1, g2⟩ := get_eq r
    rw [allF_ne (l := r) hr] at he
    refine ok_bde g1 (ok_ifb (fun h => ?_) fun h => ok_if (fun _ => ok_some ?_) fun k => by omega)
    · obtain ⟨g3, g4⟩ := g2 h
      have := encP_pos (getR r).1
      rw [if_pos h, map_app] at he
      exact ok_ap (by simp only [List.length_cons, List.length_nil]; omega) (by simp only [List.length_cons, List.length_nil]; omega) (hnx _ ⟨f, by dsimp only; omega, he, by simp only [List.length_append, List.length_cons, List.length_nil]; omega⟩ (by dsimp only; omega))
    · rw [if_neg (by rw [h]; decide)] at he
      rw [he]
      rfl
theorem prefixGot_true (l : List UInt8) (_h : l.length ≤ 9223372036854775807) : m_ridgewaylaw02_PrefixGot l = some true := by
  refine ok_true ?_
  unfold m_ridgewaylaw02_PrefixGot
  refine ok_bde (x := true) rfl (ok_if (fun _ => ok_some rfl) fun h1 => ok_bde (all_eq l (by omega)) ?_)
  generalize hA : allF (l.length + 1) l = A
  refine ok_loop (fun st => ∃ f acc, st.2.1.length + 1 ≤ f ∧ A = (allF f st.2.1).map (acc ++ ·) ∧ acc.length + st.2.1.length ≤ l.length ∧ st.1 = (outA A).2 ∧ st.2.2 = (acc.length : Int)) (fun st => st.2.1.length) ⟨l.length + 1, [], Nat.le_refl _, by rw [← hA]; cases allF (l.length + 1) l <;> simp, by simp, rfl, rfl⟩ (by dsimp only; omega) ?_
  rintro ⟨al, r, _⟩ ⟨f, acc, hf, he, hlen, rfl, rfl⟩ nx hnx
  dsimp only at hf he hlen hnx
  obtain ⟨f, rfl⟩ : ∃ g, f = g + 1 := ⟨f - 1, by omega⟩
  rw [s_ridgewaylaw02_PrefixGot1]
  dsimp only
  refine ok_if (fun hr => ?_) fun hr => ok_ifb (fun _ => ok_some ?_) fun h => Bool.noConfusion h
  · have hr : ¬ r.length = 0 := by omega
    obtain ⟨g1, g2⟩ := get_eq r
    rw [allF_ne (l := r) hr] at he
    refine ok_bde g1 (ok_ifnb (fun h => ?_) fun h => ?_)
    · rw [if_neg (by rw [h]; decide)] at he
      subst he
      exact ok_ifb (fun _ => ok_ifnb (fun _ => ok_some rfl) fun h => Bool.noConfusion h) fun h => Bool.noConfusion h
    · obtain ⟨g3, g4⟩ := g2 h
      have hpos := encP_pos (getR r).1
      have hlen5 := encP_len g3
      have hget := prefixGet_eq (getR r).1 [] g3
      rw [List.append_nil] at hget
      rw [if_pos h, map_app] at he
      have hwr : IntKind.i64.wrap ((acc.length : Int) + 1) = ((acc ++ [(getR r).1]).length : Int) := by
        rw [w64 (by omega) (by omega)]; simp
      refine ok_bde (prefixPut_eq [] _ (by simp) g3) ?_
      rw [List.nil_append]
      refine ok_bde hget (ok_bde (sane_dec _) (ok_ifn (fun k => absurd g3 k) fun _ => ok_if (fun k => absurd ?_ k) fun _ => ok_ifnb (fun k => Bool.noConfusion k) fun _ => ok_ifb (fun k => by simp at k) fun _ => ?_))
      · rw [w64 (by omega) (by omega)]; omega
      · have next : ∀ {al : Bool}, al = (outA A).2 → Ok (nx (al, (getR r).2.1, IntKind.i64.wrap ((acc.length : Int) + 1))) (· = true) := fun {al} ha => hnx _ ⟨f, acc ++ [(getR r).1], by dsimp only; omega, he, by simp only [List.length_append, List.length_cons, List.length_nil]; omega, ha, hwr⟩ (by dsimp only; omega)
        cases hB : allF f (getR r).2.1 with
        | none =>
          rw [hB] at he
          subst he
          exact ok_ifb (fun k => Bool.noConfusion k) fun _ => next rfl
        | some L =>
          rw [hB] at he
          subst he
          have hL : (outA (Option.map (fun x => acc ++ [(getR r).1] ++ x) (some L))).1 = acc ++ (getR r).1 :: L := by simp [outA]
          refine ok_ifb (fun _ => ok_if (fun k => ?_) fun _ => ok_ix (by omega) ?_ fun hlt => ok_ifb (fun k => ?_) fun _ => next rfl) fun k => Bool.noConfusion k
          · rw [hL, List.length_append, List.length_cons] at k; omega
          · rw [hL, List.length_append, List.length_cons]; omega
          · exfalso
            have hx : (outA (Option.map (fun x => acc ++ [(getR r).1] ++ x) (some L))).1[((acc.length : Nat) : Int).toNat] = (getR r).1 := by
              simp only [hL, Int.toNat_natCast]
              rw [List.getElem_append_right (Nat.le_refl _)]
              simp
            rw [hx] at k
            simp at k
  · have hr : r.length = 0 := by omega
    rw [allF, if_pos hr] at he
    subst he
    rfl
end Go.Proofs.YtppekacobjdhnaaDoor
