/- What the models come to. -/
import Derived.Test.YtppekacobjdhnaaDoorWords
import Derived.Test.YtppekacobjdhnaaDoorNum
import Derived.Test.YtppekacobjdhnaaDoorMo
import Derived.Test.YtppekacobjdhnaaDoorMp3
import Derived.KernelRfl
namespace Go.Proofs.YtppekacobjdhnaaDoor
set_option linter.unusedVariables false
set_option linter.unusedSimpArgs false

/-- The number that octets are. -/
def num : List UInt8 → Nat := fun l => l.foldl (fun v x => v * 256 + x.toNat) 0
theorem num_snoc (l : List UInt8) (x : UInt8) : num (l ++ [x]) = num l * 256 + x.toNat := by simp [num]
theorem num_step (l : List UInt8) (j : Nat) (h : j < l.length) : num (l.take (j + 1)) = num (l.take j) * 256 + l[j].toNat := by
  rw [List.take_succ_eq_append_getElem h, num_snoc]
theorem num_lt (l : List UInt8) : num l < 256 ^ l.length := by
  suffices h : ∀ (m : Nat) (l : List UInt8), l.length = m → num l < 256 ^ m from h _ l rfl
  intro m
  induction m with
  | zero => intro l h; rw [List.eq_nil_of_length_eq_zero h]; simp [num]
  | succ m ih =>
    intro l h
    obtain ⟨l', x, rfl⟩ : ∃ l' x, l = l' ++ [x] := ⟨l.dropLast, l.getLast (by intro e; simp [e] at h), (List.dropLast_concat_getLast _).symm⟩
    have := ih l' (by simpa using h)
    have hx := x.toNat_lt
    rw [num_snoc, Nat.pow_succ]
    omega

/-- Octet number j of a number, from the low end. -/
def octAt (v : Int) (j : Nat) : UInt8 := UInt8.ofNat ((v / (2 : Int) ^ (8 * j)) % 256).toNat
/-- The k octets of a number. -/
def putL (v : Int) (k : Nat) : List UInt8 := (List.range k).map fun i => octAt v (k - 1 - i)

theorem bv_octAt (v : Int) (j : Nat) : bv (octAt v j) = .int .u8 (v / (2 : Int) ^ (8 * j) % 256) := by
  have h1 := Int.emod_nonneg (v / (2 : Int) ^ (8 * j)) (show (256 : Int) ≠ 0 by decide)
  have h2 := Int.emod_lt_of_pos (v / (2 : Int) ^ (8 * j)) (show (0 : Int) < 256 by decide)
  unfold bv octAt
  rw [show (UInt8.ofNat (v / 2 ^ (8 * j) % 256).toNat).toNat = (v / 2 ^ (8 * j) % 256).toNat from by rw [UInt8.toNat_ofNat']; omega]
  congr 1
  omega
theorem putL_length (v : Int) (k : Nat) : (putL v k).length = k := by simp [putL]
theorem putL_step (v : Int) (k j : Nat) (h : j < k) : (putL v k).take (j + 1) = (putL v k).take j ++ [octAt v (k - 1 - j)] := by
  rw [List.take_succ_eq_append_getElem (by rw [putL_length]; exact h)]
  simp [putL]

theorem octAt_div (v : Int) (i j : Nat) : octAt (v / 2 ^ (8 * i)) j = octAt v (i + j) := by
  unfold octAt
  rw [Int.ediv_ediv, if_neg (by have := Int.pow_pos (n := 2) (m := 8 * i) (by decide); omega), Int.sub_zero, ← Int.pow_add, Nat.mul_add]
theorem putL_4 (v : Int) : [] ++ putL v 4 = [] ++ putL (v / 65536) 2 ++ putL v 2 := by
  have h := octAt_div v 2
  rw [show (2 : Int) ^ (8 * 2) = 65536 by decide] at h
  simp [putL, List.range_succ, h]
theorem putL_3 (v : Int) : putL v 3 = [] ++ putL (v / 65536) 1 ++ putL (v / 256) 1 ++ putL v 1 := by
  have h := octAt_div v 2
  have h' := octAt_div v 1
  rw [show (2 : Int) ^ (8 * 2) = 65536 by decide] at h
  rw [show (2 : Int) ^ (8 * 1) = 256 by decide] at h'
  simp [putL, List.range_succ, h, h']

theorem putL_num (l : List UInt8) : putL (num l : Nat) l.length = l := by
  suffices h : ∀ (m : Nat) (l : List UInt8), l.length = m → ∀ (x : Int), putL (x * 256 ^ m + (num l : Nat)) m = l by
    have := h _ l rfl 0
    simpa using this
  intro m
  induction m with
  | zero => intro l h x; rw [List.eq_nil_of_length_eq_zero h]; rfl
  | succ m ih =>
    intro l h x
    obtain ⟨l', y, rfl⟩ : ∃ l' y, l = l' ++ [y] := ⟨l.dropLast, l.getLast (by intro e; simp [e] at h), (List.dropLast_concat_getLast _).symm⟩
    have hl : l'.length = m := by simpa using h
    have hy := y.toNat_lt
    have ih' := ih l' hl x
    have e0 : (x * 256 ^ (m + 1) + (num (l' ++ [y]) : Nat)) / (2 : Int) ^ (8 * 1) = x * 256 ^ m + (num l' : Nat) := by
      rw [num_snoc, Int.pow_succ]
      have : x * (256 ^ m * 256) + ((num l' * 256 + y.toNat : Nat) : Int) = (x * 256 ^ m + (num l' : Nat)) * 256 + (y.toNat : Int) := by
        rw [← Int.mul_assoc]
        generalize x * 256 ^ m = X
        omega
      rw [this, show (2 : Int) ^ (8 * 1) = 256 by decide]
      omega
    have e1 : octAt (x * 256 ^ (m + 1) + (num (l' ++ [y]) : Nat)) 0 = y := by
      unfold octAt
      rw [num_snoc, Int.pow_succ]
      have : x * (256 ^ m * 256) + ((num l' * 256 + y.toNat : Nat) : Int) = (x * 256 ^ m + (num l' : Nat)) * 256 + (y.toNat : Int) := by
        rw [← Int.mul_assoc]
        generalize x * 256 ^ m = X
        omega
      rw [this]
      have : (((x * 256 ^ m + (num l' : Nat)) * 256 + (y.toNat : Int)) / 2 ^ (8 * 0) % 256).toNat = y.toNat := by
        simp only [Nat.mul_zero, Int.pow_zero, Int.ediv_one]
        omega
      rw [this]
      exact UInt8.ofNat_toNat
    refine Eq.trans ?_ (congrArg (· ++ [y]) ih')
    unfold putL
    rw [List.range_succ, List.map_append, List.map_singleton]
    congr 1
    · apply List.map_congr_left
      intro i hi
      rw [List.mem_range] at hi
      rw [show m + 1 - 1 - i = 1 + (m - 1 - i) by omega, ← octAt_div _ 1, e0]
    · rw [show m + 1 - 1 - m = 0 by omega, e1]

theorem num_putL (v : Int) : ∀ k : Nat, ((num (putL v k) : Nat) : Int) = v % (256 : Int) ^ k := by
  intro k
  induction k generalizing v with
  | zero => simp [putL, num]
  | succ k ih =>
    have e : putL v (k + 1) = putL (v / 256) k ++ [octAt v 0] := by
      unfold putL
      rw [List.range_succ, List.map_append, List.map_singleton]
      congr 1
      · apply List.map_congr_left
        intro i hi
        rw [List.mem_range] at hi
        rw [show k + 1 - 1 - i = 1 + (k - 1 - i) by omega, ← octAt_div _ 1, show (2 : Int) ^ (8 * 1) = 256 by decide]
      · rw [show k + 1 - 1 - k = 0 by omega]
    have e0 : ((octAt v 0).toNat : Int) = v % 256 := by
      have := bv_octAt v 0
      unfold bv at this
      injection this with _ h
      simpa using h
    rw [e, num_snoc, Int.natCast_add, Int.natCast_mul, ih, e0, Int.pow_succ, Int.mul_comm ((256 : Int) ^ k) 256]
    have hp : (0 : Int) < 256 ^ k := Int.pow_pos (by decide)
    generalize (256 : Int) ^ k = p at *
    have h1 := Int.emod_add_mul_ediv v (256 * p)
    have h2 := Int.emod_add_mul_ediv (v / 256) p
    have h3 : v / (256 * p) = v / 256 / p := by rw [Int.ediv_ediv, if_neg (by omega), Int.sub_zero]
    rw [h3, Int.mul_assoc] at h1
    generalize v / 256 / p = q at *
    generalize p * q = r at *
    omega

end Go.Proofs.YtppekacobjdhnaaDoor
namespace Go.Proofs.YtppekacobjdhnaaDoor
open Go.RowKit
set_option linter.unusedVariables false
set_option linter.unusedSimpArgs false

/-- A loop comes to what its rounds come to. -/
theorem loopC_ind {σ ε R : Type} {step : σ → (σ → Option R) → (ε → Option R) → Option R} {bk : ε → Option R} {out : Option R} (I : σ → Prop) (μ : σ → Nat)
    (hstep : ∀ s, I s → ∀ nx : σ → Option R, (∀ s', I s' → μ s' < μ s → nx s' = out) → step s nx bk = out) : ∀ (n : Nat) (s : σ), I s → μ s < n → loopC step bk n s = out
  | 0, s, _, h => absurd h (Nat.not_lt_zero _)
  | n + 1, s, hI, h => by
    rw [loopC_succ]
    exact hstep s hI _ fun s' h1 h2 => loopC_ind I μ hstep n s' h1 (by omega)
theorem big_lt {n : Nat} (h : n ≤ 1180591620717411303000) : n < BIG := by
  unfold BIG
  omega
theorem ix_some {α : Type} {xs : List α} {i : Int} {y : α} (h0 : 0 ≤ i) (h : xs[i.toNat]? = some y) : ix xs i = some y := by
  rw [ix_eq, if_pos h0, h]
theorem ix_nat {α : Type} {xs : List α} {i : Nat} (h : i < xs.length) : ix xs (i : Int) = some xs[i] :=
  ix_some (by omega) (by rw [Int.toNat_natCast, List.getElem?_eq_getElem h])
theorem ap_some {α : Type} {b : Nat} {xs ys : List α} (h : (xs.length + ys.length) * b ≤ 140737488355328) (h2 : xs.length + ys.length ≤ 140737488355328) : ap b xs ys = some (xs ++ ys) := by
  rw [ap_eq, if_pos ⟨h, by unfold maxLen; omega⟩]
theorem sl_some {α : Type} {xs : List α} {lo hi : Int} (h : 0 ≤ lo ∧ lo ≤ hi ∧ hi ≤ xs.length) : sl xs lo hi = some ((xs.take hi.toNat).drop lo.toNat) := by
  rw [sl_eq, if_pos h]
theorem sl_all {α : Type} {xs : List α} {lo : Int} (h : 0 ≤ lo ∧ lo ≤ xs.length) : sl xs lo xs.length = some (xs.drop lo.toNat) := by
  rw [sl_some (by omega), Int.toNat_natCast, List.take_length]
theorem sl_pre {α : Type} {xs : List α} {hi : Int} (h : 0 ≤ hi ∧ hi ≤ xs.length) : sl xs 0 hi = some (xs.take hi.toNat) := by
  rw [sl_some (by omega)]
  rfl
theorem nn_some {R : Type} {b : Int} {m : Option R} (h : 0 ≤ b) : nn b m = m := by rw [nn_eq, if_neg (by omega)]
theorem nz_some {R : Type} {b : Int} {m : Option R} (h : b ≠ 0) : nz b m = m := by rw [nz_eq, if_neg h]
theorem w64 {x : Int} (h1 : -9223372036854775808 ≤ x) (h2 : x ≤ 9223372036854775807) : IntKind.i64.wrap x = x := wrap64 h1 h2
theorem u8wrap_eq (x : Int) : IntKind.u8.wrap x = x % 256 := by
  simp only [IntKind.wrap, IntKind.signed, IntKind.bits, Bool.false_and, Bool.false_eq_true, if_false]
  rfl
theorem toB_toNat (x : Int) (h : 0 ≤ x ∧ x < 256) : (toB x).toNat = x.toNat := by
  have := toB_of h
  omega
end Go.Proofs.YtppekacobjdhnaaDoor
namespace Go.Proofs.YtppekacobjdhnaaDoor
open Go.RowKit
set_option linter.unusedVariables false
set_option linter.unusedSimpArgs false

/-- A walk along a list: what each element makes of the rest. -/
def walk {α R : Type} (F : Nat → α → R → R) (e : R) : Nat → List α → R
  | _, [] => e
  | i, x :: xs => F i x (walk F e (i + 1) xs)
theorem w64s {i : Nat} (h : i ≤ 140737488355328) : IntKind.i64.wrap ((i : Int) + 1) = ((i + 1 : Nat) : Int) := by
  rw [w64 (by omega) (by omega)]
  rfl
/-- A loop whose state is where it stands in a list. -/
theorem loop_idx {α ε R : Type} (l : List α) (F : Nat → α → Option R → Option R) (e : Option R) {step : Int → (Int → Option R) → (ε → Option R) → Option R} {bk : ε → Option R} (hl : l.length ≤ 140737488355328)
    (hs : ∀ (i : Nat) (h : i < l.length) (nx : Int → Option R), step (i : Int) nx bk = F i l[i] (nx (IntKind.i64.wrap ((i : Int) + 1))))
    (he : ∀ nx, step (l.length : Int) nx bk = e) : loopC step bk BIG 0 = walk F e 0 l := by
  suffices h : ∀ (m n i : Nat), i + m = l.length → m < n → loopC step bk n (i : Int) = walk F e i (l.drop i) from by
    have := h l.length BIG 0 (by omega) (big_lt (by omega))
    simpa using this
  intro m
  induction m with
  | zero =>
    intro n i hi hn
    obtain ⟨k, rfl⟩ : ∃ k, n = k + 1 := ⟨n - 1, by omega⟩
    rw [loopC_succ, List.drop_eq_nil_of_le (by omega), show i = l.length by omega, he]
    rfl
  | succ m ih =>
    intro n i hi hn
    obtain ⟨k, rfl⟩ : ∃ k, n = k + 1 := ⟨n - 1, by omega⟩
    rw [loopC_succ, hs i (by omega), w64s (by omega), ih k (i + 1) (by omega) (by omega), List.drop_eq_getElem_cons (by omega : i < l.length)]
    rfl
/-- The same, with what was gathered so far. -/
def walkA {α β R : Type} (F : Nat → α → (β → R) → β → R) (e : β → R) : Nat → List α → β → R
  | _, [], b => e b
  | i, x :: xs, b => F i x (walkA F e (i + 1) xs) b
theorem loop_acc {α β ε R : Type} (l : List α) (F : Nat → α → (β → Option R) → β → Option R) (e : β → Option R) {step : β × Int → (β × Int → Option R) → (ε → Option R) → Option R} {bk : ε → Option R} (b0 : β) (I : Nat → β → Prop) (hI0 : I 0 b0) (hl : l.length ≤ 140737488355328)
    (hs : ∀ (i : Nat) (h : i < l.length) (b : β) (nx nx' : β → Option R), I i b → (∀ b', I (i + 1) b' → nx b' = nx' b') → ∀ go : β × Int → Option R, (∀ b', go (b', IntKind.i64.wrap ((i : Int) + 1)) = nx b') → step (b, (i : Int)) go bk = F i l[i] nx' b)
    (he : ∀ b nx, I l.length b → step (b, (l.length : Int)) nx bk = e b) : loopC step bk BIG (b0, 0) = walkA F e 0 l b0 := by
  suffices h : ∀ (m n i : Nat) (b : β), I i b → i + m = l.length → m < n → loopC step bk n (b, (i : Int)) = walkA F e i (l.drop i) b from by
    have := h l.length BIG 0 b0 hI0 (by omega) (big_lt (by omega))
    simpa using this
  intro m
  induction m with
  | zero =>
    intro n i b hb hi hn
    obtain ⟨k, rfl⟩ : ∃ k, n = k + 1 := ⟨n - 1, by omega⟩
    obtain rfl : i = l.length := by omega
    rw [loopC_succ, List.drop_eq_nil_of_le (by omega), he b _ hb]
    rfl
  | succ m ih =>
    intro n i b hb hi hn
    obtain ⟨k, rfl⟩ : ∃ k, n = k + 1 := ⟨n - 1, by omega⟩
    rw [loopC_succ, List.drop_eq_getElem_cons (by omega : i < l.length)]
    refine hs i (by omega) b (fun b' => loopC step bk k (b', ((i + 1 : Nat) : Int))) (walkA F e (i + 1) (l.drop (i + 1))) hb (fun b' hb' => ih k (i + 1) b' hb' (by omega) (by omega)) _ fun b' => ?_
    rw [w64s (by omega)]
end Go.Proofs.YtppekacobjdhnaaDoor
namespace Go.Proofs.YtppekacobjdhnaaDoor
open Go.RowKit
set_option linter.unusedVariables false
set_option linter.unusedSimpArgs false

/-- A model comes to an answer of which Q holds. -/
def Ok {α : Type} (m : Option α) (Q : α → Prop) : Prop := ∃ x, m = some x ∧ Q x
section
variable {α β R τ : Type} {Q : R → Prop}
theorem ok_some {x : R} (h : Q x) : Ok (some x) Q := ⟨x, rfl, h⟩
theorem ok_eq {m : Option R} {x : R} (h : m = some x) (k : Q x) : Ok m Q := ⟨x, h, k⟩
theorem ok_mono {m : Option R} {Q' : R → Prop} (h : Ok m Q') (k : ∀ x, Q' x → Q x) : Ok m Q := by
  obtain ⟨x, e, q⟩ := h
  exact ⟨x, e, k x q⟩
theorem ok_bd {m : Option α} {k : α → Option R} {P : α → Prop} (h : Ok m P) (h2 : ∀ x, m = some x → P x → Ok (k x) Q) : Ok (bd m k) Q := by
  obtain ⟨x, e, p⟩ := h
  rw [e, bd_some]
  exact h2 x e p
theorem ok_bde {m : Option α} {k : α → Option R} {x : α} (h : m = some x) (h2 : Ok (k x) Q) : Ok (bd m k) Q := by
  rw [h, bd_some]
  exact h2
theorem ok_if {p : Prop} {_ : Decidable p} {A B : Option R} (h1 : p → Ok A Q) (h2 : ¬ p → Ok B Q) : Ok (bif decide p then A else B) Q := by
  by_cases hp : p
  · rw [decide_eq_true hp]; exact h1 hp
  · rw [decide_eq_false hp]; exact h2 hp
theorem ok_ifn {p : Prop} {_ : Decidable p} {A B : Option R} (h1 : ¬ p → Ok A Q) (h2 : p → Ok B Q) : Ok (bif !decide p then A else B) Q := by
  by_cases hp : p
  · rw [decide_eq_true hp]; exact h2 hp
  · rw [decide_eq_false hp]; exact h1 hp
theorem ok_ifb {b : Bool} {A B : Option R} (h1 : b = true → Ok A Q) (h2 : b = false → Ok B Q) : Ok (bif b then A else B) Q := by
  cases b
  · exact h2 rfl
  · exact h1 rfl
theorem ok_ifnb {b : Bool} {A B : Option R} (h1 : b = false → Ok A Q) (h2 : b = true → Ok B Q) : Ok (bif !b then A else B) Q := by
  cases b
  · exact h1 rfl
  · exact h2 rfl
theorem ok_ix {xs : List α} {i : Int} {k : α → Option R} (h0 : 0 ≤ i) (h1 : i < xs.length) (h : ∀ (hlt : i.toNat < xs.length), Ok (k xs[i.toNat]) Q) : Ok (bd (ix xs i) k) Q :=
  ok_bde (ix_some h0 (List.getElem?_eq_getElem (by omega))) (h (by omega))
theorem ok_ap {b : Nat} {xs ys : List α} {k : List α → Option R} (h : (xs.length + ys.length) * b ≤ 140737488355328) (h2 : xs.length + ys.length ≤ 140737488355328) (hk : Ok (k (xs ++ ys)) Q) : Ok (bd (ap b xs ys) k) Q :=
  ok_bde (ap_some h h2) hk
theorem ok_jn {i : Nat} {f : (τ → Option R) → Option R} {k : τ → Option R} (J : τ → Prop) (h2 : ∀ k', (∀ j, J j → Ok (k' j) Q) → Ok (f k') Q) (h1 : ∀ j, J j → Ok (k j) Q) : Ok (jn i f k) Q := by
  rw [jn_eq]
  exact h2 k h1
theorem ok_jn' {i : Nat} {f : (τ → Option R) → Option R} {k : τ → Option R} (h : Ok (f k) Q) : Ok (jn i f k) Q := by
  rw [jn_eq]
  exact h
/-- A loop whose rounds keep I, and count down. -/
theorem ok_loop {σ ε : Type} {step : σ → (σ → Option R) → (ε → Option R) → Option R} {bk : ε → Option R} {s0 : σ} (I : σ → Prop) (μ : σ → Nat) (h0 : I s0) (hm : μ s0 ≤ 1180591620717411303000)
    (hs : ∀ s, I s → ∀ nx : σ → Option R, (∀ s', I s' → μ s' < μ s → Ok (nx s') Q) → Ok (step s nx bk) Q) : Ok (loopC step bk BIG s0) Q := by
  suffices h : ∀ (n : Nat) (s : σ), I s → μ s < n → Ok (loopC step bk n s) Q from h BIG s0 h0 (big_lt hm)
  intro n
  induction n with
  | zero => intro s _ h; omega
  | succ n ih =>
    intro s hI h
    rw [loopC_succ]
    exact hs s hI _ fun s' h1 h2 => ih s' h1 (by omega)
/-- A loop over the places of a list. -/
theorem ok_idx {ε : Type} {step : Int → (Int → Option R) → (ε → Option R) → Option R} {bk : ε → Option R} (n : Nat) (I : Nat → Prop) (hn : n ≤ 9223372036854775807) (h0 : I 0)
    (hs : ∀ i, i < n → I i → ∀ nx : Int → Option R, (I (i + 1) → Ok (nx (IntKind.i64.wrap ((i : Int) + 1))) Q) → Ok (step (i : Int) nx bk) Q) (he : I n → ∀ nx, Ok (step (n : Int) nx bk) Q) : Ok (loopC step bk BIG 0) Q := by
  refine ok_loop (fun st => ∃ j : Nat, st = (j : Int) ∧ j ≤ n ∧ I j) (fun st => ((n : Int) - st).toNat) ⟨0, rfl, Nat.zero_le _, h0⟩ (by omega) ?_
  rintro _ ⟨j, rfl, hj, hI⟩ nx hnx
  by_cases hlt : j < n
  · have hw : IntKind.i64.wrap ((j : Int) + 1) = ((j + 1 : Nat) : Int) := by rw [w64 (by omega) (by omega)]; rfl
    refine hs j hlt hI nx fun h => hnx _ ⟨j + 1, hw, hlt, h⟩ (by rw [hw]; omega)
  · obtain rfl : j = n := by omega
    exact he hI nx
/-- The same, with something gathered. -/
theorem ok_acc {γ ε : Type} {step : γ × Int → (γ × Int → Option R) → (ε → Option R) → Option R} {bk : ε → Option R} {b0 : γ} (n : Nat) (I : Nat → γ → Prop) (hn : n ≤ 9223372036854775807) (h0 : I 0 b0)
    (hs : ∀ i b, i < n → I i b → ∀ nx : γ × Int → Option R, (∀ b', I (i + 1) b' → Ok (nx (b', IntKind.i64.wrap ((i : Int) + 1))) Q) → Ok (step (b, (i : Int)) nx bk) Q) (he : ∀ b, I n b → ∀ nx, Ok (step (b, (n : Int)) nx bk) Q) : Ok (loopC step bk BIG (b0, 0)) Q := by
  refine ok_loop (fun st => ∃ j : Nat, st.2 = (j : Int) ∧ j ≤ n ∧ I j st.1) (fun st => ((n : Int) - st.2).toNat) ⟨0, rfl, Nat.zero_le _, h0⟩ (by simp only; omega) ?_
  rintro ⟨b, _⟩ ⟨j, rfl, hj, hI⟩ nx hnx
  dsimp only at hj hI hnx
  by_cases hlt : j < n
  · have hw : IntKind.i64.wrap ((j : Int) + 1) = ((j + 1 : Nat) : Int) := by rw [w64 (by omega) (by omega)]; rfl
    refine hs j b hlt hI nx fun b' h => hnx _ ⟨j + 1, hw, hlt, h⟩ (by simp only [hw]; omega)
  · obtain rfl : j = n := by omega
    exact he b hI nx
/-- The same, the place first. -/
theorem ok_acc' {γ ε : Type} {step : Int × γ → (Int × γ → Option R) → (ε → Option R) → Option R} {bk : ε → Option R} {b0 : γ} (n : Nat) (I : Nat → γ → Prop) (hn : n ≤ 9223372036854775807) (h0 : I 0 b0)
    (hs : ∀ i b, i < n → I i b → ∀ nx : Int × γ → Option R, (∀ b', I (i + 1) b' → Ok (nx (IntKind.i64.wrap ((i : Int) + 1), b')) Q) → Ok (step ((i : Int), b) nx bk) Q) (he : ∀ b, I n b → ∀ nx, Ok (step ((n : Int), b) nx bk) Q) : Ok (loopC step bk BIG (0, b0)) Q := by
  refine ok_loop (fun st => ∃ j : Nat, st.1 = (j : Int) ∧ j ≤ n ∧ I j st.2) (fun st => ((n : Int) - st.1).toNat) ⟨0, rfl, Nat.zero_le _, h0⟩ (by simp only; omega) ?_
  rintro ⟨_, b⟩ ⟨j, rfl, hj, hI⟩ nx hnx
  dsimp only at hj hI hnx
  by_cases hlt : j < n
  · have hw : IntKind.i64.wrap ((j : Int) + 1) = ((j + 1 : Nat) : Int) := by rw [w64 (by omega) (by omega)]; rfl
    refine hs j b hlt hI nx fun b' h => hnx _ ⟨j + 1, hw, hlt, h⟩ (by simp only [hw]; omega)
  · obtain rfl : j = n := by omega
    exact he b hI nx
theorem ok_true {m : Option Bool} (h : Ok m (· = true)) : m = some true := by
  obtain ⟨x, e, rfl⟩ := h
  exact e
end
end Go.Proofs.YtppekacobjdhnaaDoor
namespace Go.Proofs.YtppekacobjdhnaaDoor
open Go.RowKit
set_option linter.unusedVariables false
set_option linter.unusedSimpArgs false
set_option maxRecDepth 100000
set_option maxHeartbeats 1000000

theorem ok_out1 {R : Type} {m : Option R} {r : R} (h : Ok m (· = r)) : m = some r := by
  obtain ⟨x, h1, h2⟩ := h
  rw [h1, h2]
theorem lo_eq (v : Int) : IntKind.i64.wrap ((BitVec.ofInt IntKind.i64.bits v &&& BitVec.ofInt IntKind.i64.bits (4294967295 : Int)).toNat : Int) = v % 4294967296 := by
  have h := and_mask v 32 (by omega)
  rw [show ((2 : Int) ^ 32 - 1) = 4294967295 by decide, show ((2 : Int) ^ 32) = 4294967296 by decide] at h
  exact h
/-- What is left under a mask. -/
def lowCut (a n : Int) : Int := a % 4294967296 - a % 4294967296 % (2 : Int) ^ (32 - n).toNat
theorem cut_rng (a n : Int) : 0 ≤ lowCut a n ∧ lowCut a n < 4294967296 := by
  have h0 := Int.emod_nonneg a (show (4294967296 : Int) ≠ 0 by decide)
  have h1 := Int.emod_lt_of_pos a (show (0 : Int) < 4294967296 by decide)
  have hp : (0 : Int) < 2 ^ (32 - n).toNat := Int.pow_pos (by decide)
  have h2 := Int.emod_nonneg (a % 4294967296) (show (2 : Int) ^ (32 - n).toNat ≠ 0 by omega)
  have h3 : a % 4294967296 % (2 : Int) ^ (32 - n).toNat ≤ a % 4294967296 := by
    have := Int.emod_def (a % 4294967296) ((2 : Int) ^ (32 - n).toNat)
    have hq : 0 ≤ (a % 4294967296) / (2 : Int) ^ (32 - n).toNat := Int.ediv_nonneg h0 (by omega)
    have := Int.mul_nonneg (Int.le_of_lt hp) hq
    omega
  unfold lowCut
  omega
theorem mask_val (a n : Int) (h : 0 ≤ n ∧ n ≤ 32) : m_prefix_Mask a n = some (lowCut a n) := by
  unfold m_prefix_Mask
  have e1 : (if (0 : Int) > n then (0 : Int) else n) = n := if_neg (by omega)
  have e2 : (if (32 : Int) < n then (32 : Int) else n) = n := if_neg (by omega)
  have e3 : IntKind.i64.wrap (32 - n) = 32 - n := w64 (by omega) (by omega)
  have e4 : min (32 - n).toNat IntKind.i64.bits = (32 - n).toNat := Nat.min_eq_left (show (32 - n).toNat ≤ 64 by omega)
  rw [e1, e2, e3, nn_some (by omega), nn_some (by omega), e4, lo_eq]
  have hp : (0 : Int) < 2 ^ (32 - n).toNat := Int.pow_pos (by decide)
  have hr := cut_rng a n
  rw [Int.fdiv_eq_ediv_of_nonneg _ (Int.le_of_lt hp)]
  have hd := Int.emod_def (a % 4294967296) ((2 : Int) ^ (32 - n).toNat)
  have he : a % 4294967296 / (2 : Int) ^ (32 - n).toNat * (2 : Int) ^ (32 - n).toNat = lowCut a n := by
    unfold lowCut
    rw [hd, Int.mul_comm]
    omega
  rw [he, w64 (by omega) (by omega)]
/-- A prefix that may be. -/
def PrefixOk (x : Prefix) : Prop := (0 ≤ x.N ∧ x.N ≤ 32) ∧ lowCut x.A x.N = x.A
theorem t_psane (x : Prefix) : Ok (m_prefix_Sane x) fun b => b = true ↔ PrefixOk x := by
  unfold m_prefix_Sane PrefixOk
  refine ok_if (fun h1 => ok_if (fun h2 => ok_bde (mask_val _ _ ⟨h1, h2⟩) (ok_some ?_)) fun h => ok_some ?_) fun h => ok_some ?_
  · rw [decide_eq_true_eq]
    exact ⟨fun k => ⟨⟨h1, h2⟩, k⟩, fun k => k.2⟩
  · exact ⟨fun k => Bool.noConfusion k, fun k => by omega⟩
  · exact ⟨fun k => Bool.noConfusion k, fun k => by omega⟩
theorem lowCut_idem (a n : Int) : lowCut (lowCut a n) n = lowCut a n := by
  have hr := cut_rng a n
  have e : lowCut a n = (2 : Int) ^ (32 - n).toNat * (a % 4294967296 / (2 : Int) ^ (32 - n).toNat) := by
    unfold lowCut
    rw [Int.emod_def (a % 4294967296) ((2 : Int) ^ (32 - n).toNat)]
    omega
  have h1 : lowCut a n % 4294967296 = lowCut a n := Int.emod_eq_of_lt hr.1 hr.2
  have h2 : lowCut a n % (2 : Int) ^ (32 - n).toNat = 0 := by rw [e, Int.mul_emod_right]
  show lowCut a n % 4294967296 - lowCut a n % 4294967296 % (2 : Int) ^ (32 - n).toNat = _
  rw [h1, h2]
  omega


def clamp (n : Int) : Int := if n < 0 then 0 else if n > 32 then 32 else n
theorem clamp_rng (n : Int) : 0 ≤ clamp n ∧ clamp n ≤ 32 := by
  unfold clamp
  split
  · omega
  · split <;> omega
theorem mask_any (a n : Int) : m_prefix_Mask a n = some (lowCut a (clamp n)) := by
  rw [← mask_val a (clamp n) (clamp_rng n)]
  have e : ∀ n : Int, (if (32 : Int) < (if (0 : Int) > n then (0 : Int) else n) then (32 : Int) else (if (0 : Int) > n then (0 : Int) else n)) = clamp n := fun n => by
    unfold clamp
    repeat' split
    all_goals omega
  have e2 : clamp (clamp n) = clamp n := by
    have := clamp_rng n
    generalize clamp n = k at this
    unfold clamp
    rw [if_neg (by omega), if_neg (by omega)]
  unfold m_prefix_Mask
  rw [e n, e (clamp n), e2]
theorem cut_mul (a n : Int) : lowCut a n = (2 : Int) ^ (32 - n).toNat * (a % 4294967296 / (2 : Int) ^ (32 - n).toNat) := by
  unfold lowCut
  rw [Int.emod_def (a % 4294967296) ((2 : Int) ^ (32 - n).toNat)]
  omega
theorem cut_cut (a m n : Int) (hm : 0 ≤ m ∧ m ≤ 32) (hn : 0 ≤ n ∧ n ≤ 32) : lowCut (lowCut a m) n = lowCut a (if n < m then n else m) := by
  have hr := cut_rng a m
  have h1 : lowCut a m % 4294967296 = lowCut a m := Int.emod_eq_of_lt hr.1 hr.2
  rw [cut_mul (lowCut a m) n, h1]
  split
  · rename_i h
    rw [cut_mul a m, cut_mul a n]
    have e : (2 : Int) ^ (32 - n).toNat = 2 ^ (32 - m).toNat * 2 ^ (m - n).toNat := by
      rw [← Int.pow_add, show (32 - m).toNat + (m - n).toNat = (32 - n).toNat by omega]
    have hp : (0 : Int) < 2 ^ (32 - m).toNat := Int.pow_pos (by decide)
    rw [e, Int.mul_ediv_mul_of_pos _ _ hp, Int.ediv_ediv_of_nonneg (Int.le_of_lt hp)]
  · rename_i h
    have e : (2 : Int) ^ (32 - m).toNat = 2 ^ (32 - n).toNat * 2 ^ (n - m).toNat := by
      rw [← Int.pow_add, show (32 - n).toNat + (n - m).toNat = (32 - m).toNat by omega]
    have hp : (2 : Int) ^ (32 - n).toNat ≠ 0 := by have : (0 : Int) < 2 ^ (32 - n).toNat := Int.pow_pos (by decide); omega
    have hd : (2 : Int) ^ (32 - n).toNat ∣ lowCut a m := by
      rw [cut_mul a m, e, Int.mul_assoc]
      exact Int.dvd_mul_right _ _
    exact Int.mul_ediv_cancel' hd
theorem cut_le (a n : Int) (h : 0 ≤ a ∧ a < 4294967296) : lowCut a n ≤ a := by
  unfold lowCut
  have hp : (0 : Int) < 2 ^ (32 - n).toNat := Int.pow_pos (by decide)
  rw [Int.emod_eq_of_lt h.1 h.2]
  have := Int.emod_nonneg a (show (2 : Int) ^ (32 - n).toNat ≠ 0 by omega)
  omega
theorem cut_32 (a : Int) : lowCut a 32 = a % 4294967296 := by
  unfold lowCut
  rw [show (2 : Int) ^ ((32 : Int) - 32).toNat = 1 from rfl, Int.emod_one]
  omega
theorem saneP_eq (x : Prefix) : ∃ b, m_prefix_Sane x = some b ∧ (b = true ↔ PrefixOk x) := by
  obtain ⟨b, h1, h2⟩ := t_psane x
  exact ⟨b, h1, h2⟩
theorem cutOk (a n : Int) (h : 0 ≤ n ∧ n ≤ 32) : PrefixOk ⟨lowCut a n, n⟩ := ⟨h, lowCut_idem a n⟩
instance (x : Prefix) : Decidable (PrefixOk x) := by unfold PrefixOk; infer_instance
theorem sane_dec (x : Prefix) : m_prefix_Sane x = some (decide (PrefixOk x)) := by
  obtain ⟨b, h1, h2⟩ := t_psane x
  rw [h1]
  congr 1
  rw [Bool.eq_iff_iff, h2, decide_eq_true_eq]
end Go.Proofs.YtppekacobjdhnaaDoor
namespace Go.Proofs.YtppekacobjdhnaaDoor
open Go.RowKit
set_option linter.unusedVariables false
set_option linter.unusedSimpArgs false
set_option maxRecDepth 100000
set_option maxHeartbeats 1000000

def HasP (p q : Prefix) : Prop := PrefixOk p ∧ PrefixOk q ∧ p.N ≤ q.N ∧ lowCut q.A p.N = p.A
instance (p q : Prefix) : Decidable (HasP p q) := by unfold HasP; infer_instance
theorem has_eq (p q : Prefix) : m_prefix_Has p q = some (decide (HasP p q)) := by
  refine ok_out1 ?_
  unfold m_prefix_Has
  have no : ¬ HasP p q → Ok (some false) (· = decide (HasP p q)) := fun h => ok_some (decide_eq_false h).symm
  exact ok_bde (sane_dec p) (ok_if (fun h1 => ok_bde (sane_dec q) (ok_if (fun h2 => ok_if (fun h3 => ok_bde (mask_val _ _ h1.1) (ok_some (decide_eq_decide.2 ⟨fun h => ⟨h1, h2, h3, h⟩, fun h => h.2.2.2⟩))) fun h => no fun k => h k.2.2.1) fun h => no fun k => h k.2.1)) fun h => no fun k => h k.1)
theorem ok_rng {x : Prefix} (h : PrefixOk x) : 0 ≤ x.A ∧ x.A < 4294967296 := by
  have := cut_rng x.A x.N
  rw [h.2] at this
  exact this
end Go.Proofs.YtppekacobjdhnaaDoor
namespace Go.Proofs.YtppekacobjdhnaaDoor
open Go.RowKit
set_option linter.unusedVariables false
set_option linter.unusedSimpArgs false
set_option maxRecDepth 100000
set_option maxHeartbeats 1000000

theorem and31 (a : Int) : ∃ n : Nat, IntKind.i64.wrap ((BitVec.ofInt IntKind.i64.bits a &&& BitVec.ofInt IntKind.i64.bits (31 : Int)).toNat : Int) = (n : Int) ∧ n ≤ 31 := by
  have hle : (BitVec.ofInt IntKind.i64.bits a &&& BitVec.ofInt IntKind.i64.bits (31 : Int)).toNat ≤ 31 := by
    rw [BitVec.toNat_and]
    exact Nat.and_le_right
  exact ⟨_, w64 (by omega) (by omega), hle⟩
theorem has_self (p : Prefix) : HasP p p ↔ PrefixOk p := ⟨fun h => h.1, fun h => ⟨h, h, Int.le_refl _, h.2⟩⟩
theorem has_anti {p q : Prefix} (h : HasP p q) (k : HasP q p) : p.A = q.A ∧ p.N = q.N := by
  have hN : p.N = q.N := by have := h.2.2.1; have := k.2.2.1; omega
  refine ⟨?_, hN⟩
  have := h.2.2.2
  rw [hN, h.2.1.2] at this
  exact this.symm
theorem has_trans {p q r : Prefix} (h : HasP p q) (k : HasP q r) : HasP p r := by
  have h1 := h.2.2.1
  have h2 := k.2.2.1
  refine ⟨h.1, k.2.1, by omega, ?_⟩
  have e := cut_cut r.A q.N p.N k.1.1 h.1.1
  rw [k.2.2.2, h.2.2.2] at e
  rw [e]
  congr 1
  split <;> omega
theorem has_tail (a : Int) (n m : Nat) (hn : n ≤ 31) (hm : m ≤ 31) : Ok (bd (m_prefix_Mask a (n : Int)) fun r9 => bd (m_prefix_Mask a (m : Int)) fun r10 => bif true then bd (m_prefix_Sane (Prefix.mk r9 (n : Int))) fun r11 => bif r11 then bd (m_prefix_Sane (Prefix.mk r10 (m : Int))) fun r12 => bif r12 then bd (m_prefix_Has (Prefix.mk r9 (n : Int)) (Prefix.mk r10 (m : Int))) fun r13 => bif (r13 == decide ((n : Int) ≤ (m : Int))) then bd (m_prefix_Has (Prefix.mk r9 (n : Int)) (Prefix.mk (IntKind.i64.wrap ((BitVec.ofInt IntKind.i64.bits a &&& BitVec.ofInt IntKind.i64.bits (4294967295 : Int)).toNat : Int)) (32 : Int))) fun r14 => some r14 else some false else some false else some false else some false) (· = true) := by
  have o1 := cutOk a n (by omega)
  have o2 := cutOk a m (by omega)
  refine ok_bde (mask_val _ _ (by omega)) (ok_bde (mask_val _ _ (by omega)) (ok_ifb (fun _ => ok_bde (sane_dec _) (ok_if (fun _ => ok_bde (sane_dec _) (ok_if (fun _ => ok_bde (has_eq _ _) (ok_ifb (fun _ => ok_bde (has_eq _ _) (ok_some (decide_eq_true ?_))) fun h => ?_)) fun h => absurd o2 h)) fun h => absurd o1 h)) fun h => Bool.noConfusion h))
  · rw [lo_eq]
    have hr : 0 ≤ a % 4294967296 ∧ a % 4294967296 < 4294967296 := ⟨Int.emod_nonneg _ (by decide), Int.emod_lt_of_pos _ (by decide)⟩
    refine ⟨o1, ⟨⟨by show (0 : Int) ≤ 32; decide, by show (32 : Int) ≤ 32; decide⟩, ?_⟩, by show (n : Int) ≤ 32; omega, ?_⟩
    · show lowCut (a % 4294967296) 32 = a % 4294967296
      rw [cut_32, Int.emod_emod_of_dvd _ (Int.dvd_refl _)]
    · show lowCut (a % 4294967296) n = lowCut a n
      unfold lowCut
      rw [Int.emod_emod_of_dvd _ (Int.dvd_refl _)]
  · exfalso
    revert h
    rw [Bool.eq_false_iff]
    intro h
    apply h
    rw [beq_iff_eq, Bool.eq_iff_iff, decide_eq_true_eq, decide_eq_true_eq]
    constructor
    · exact fun h => h.2.2.1
    · intro hle
      refine ⟨o1, o2, hle, ?_⟩
      show lowCut (lowCut a m) n = lowCut a n
      rw [cut_cut a m n (by omega) (by omega)]
      congr 1
      split <;> omega
theorem has_second (p q r : Prefix) (a : Int) (n m : Nat) (hn : n ≤ 31) (hm : m ≤ 31) : Ok (bd (m_prefix_Has p q) fun r6 => bif r6 then bd (m_prefix_Has q r) fun r7 => bif r7 then bd (m_prefix_Has p r) fun r8 => bif (!r8) then some false else bd (m_prefix_Mask a (n : Int)) fun r9 => bd (m_prefix_Mask a (m : Int)) fun r10 => bif true then bd (m_prefix_Sane (Prefix.mk r9 (n : Int))) fun r11 => bif r11 then bd (m_prefix_Sane (Prefix.mk r10 (m : Int))) fun r12 => bif r12 then bd (m_prefix_Has (Prefix.mk r9 (n : Int)) (Prefix.mk r10 (m : Int))) fun r13 => bif (r13 == decide ((n : Int) ≤ (m : Int))) then bd (m_prefix_Has (Prefix.mk r9 (n : Int)) (Prefix.mk (IntKind.i64.wrap ((BitVec.ofInt IntKind.i64.bits a &&& BitVec.ofInt IntKind.i64.bits (4294967295 : Int)).toNat : Int)) (32 : Int))) fun r14 => some r14 else some false else some false else some false else some false else bd (m_prefix_Mask a (n : Int)) fun r15 => bd (m_prefix_Mask a (m : Int)) fun r16 => bif true then bd (m_prefix_Sane (Prefix.mk r15 (n : Int))) fun r17 => bif r17 then bd (m_prefix_Sane (Prefix.mk r16 (m : Int))) fun r18 => bif r18 then bd (m_prefix_Has (Prefix.mk r15 (n : Int)) (Prefix.mk r16 (m : Int))) fun r19 => bif (r19 == decide ((n : Int) ≤ (m : Int))) then bd (m_prefix_Has (Prefix.mk r15 (n : Int)) (Prefix.mk (IntKind.i64.wrap ((BitVec.ofInt IntKind.i64.bits a &&& BitVec.ofInt IntKind.i64.bits (4294967295 : Int)).toNat : Int)) (32 : Int))) fun r20 => some r20 else some false else some false else some false else some false else bd (m_prefix_Mask a (n : Int)) fun r21 => bd (m_prefix_Mask a (m : Int)) fun r22 => bif true then bd (m_prefix_Sane (Prefix.mk r21 (n : Int))) fun r23 => bif r23 then bd (m_prefix_Sane (Prefix.mk r22 (m : Int))) fun r24 => bif r24 then bd (m_prefix_Has (Prefix.mk r21 (n : Int)) (Prefix.mk r22 (m : Int))) fun r25 => bif (r25 == decide ((n : Int) ≤ (m : Int))) then bd (m_prefix_Has (Prefix.mk r21 (n : Int)) (Prefix.mk (IntKind.i64.wrap ((BitVec.ofInt IntKind.i64.bits a &&& BitVec.ofInt IntKind.i64.bits (4294967295 : Int)).toNat : Int)) (32 : Int))) fun r26 => some r26 else some false else some false else some false else some false) (· = true) := by
  have t := has_tail a n m hn hm
  exact ok_bde (has_eq _ _) (ok_if (fun h => ok_bde (has_eq _ _) (ok_if (fun k => ok_bde (has_eq _ _) (ok_ifn (fun z => absurd (has_trans h k) z) fun _ => t)) fun _ => t)) fun _ => t)
theorem prefixHas_true (p q r : Prefix) (a b c : Int) : m_ridgewaylaw02_PrefixHas p q r a b c = some true := by
  refine ok_true ?_
  unfold m_ridgewaylaw02_PrefixHas
  obtain ⟨n, hn, hn2⟩ := and31 b
  obtain ⟨m, hm, hm2⟩ := and31 c
  rw [hn, hm]
  have s := has_second p q r a n m hn2 hm2
  refine ok_bde (x := true) rfl (ok_bde (has_eq p p) (ok_bde (sane_dec p) (ok_ifb (fun h => ?_) fun _ => ok_bde (has_eq p q) (ok_if (fun h => ok_bde (has_eq q p) (ok_if (fun k => ok_ifb (fun z => ?_) fun _ => s) fun _ => s)) fun _ => s))))
  · exfalso
    simp [has_self] at h
  · exfalso
    obtain ⟨e1, e2⟩ := has_anti h k
    rw [decide_eq_true e1, decide_eq_true e2] at z
    exact Bool.noConfusion z
end Go.Proofs.YtppekacobjdhnaaDoor
