/- Models, reckoned with: loops, and the words of their steps. -/
import Derived.Test.YtibploaibljcmaaDoorMo
import Derived.Test.YtibploaibljcmaaDoorOctL
namespace Go.Proofs.YtibploaibljcmaaDoor
open Go.RowKit
set_option linter.unusedVariables false
set_option linter.unusedSimpArgs false

/-- A loop comes to what its rounds come to. -/
theorem loopC_ind {σ ε R : Type} {step : σ → (σ → Option R) → (ε → Option R) → Option R} {bk : ε → Option R} {out : Option R} (I : σ → Prop) (μ : σ → Nat)
    (hstep : ∀ s, I s → ∀ nx : σ → Option R, (∀ s', I s' → μ s' < μ s → nx s' = out) → step s nx bk = out) : ∀ (n : Nat) (s : σ), I s → μ s < n → loopC step bk n s = out
  | 0, s, _, h => absurd h (Nat.not_lt_zero _)
  | n + 1, s, hI, h => by
    rw [loopC_succ]
    exact hstep s hI _ fun s' h1 h2 => loopC_ind I μ hstep n s' h1 (by omega)
theorem big_lt {n : Nat} (h : n ≤ 1180591620717411303000) : n < BIG := by
  unfold BIG
  omega
theorem ix_some {α : Type} {xs : List α} {i : Int} {y : α} (h0 : 0 ≤ i) (h : xs[i.toNat]? = some y) : ix xs i = some y := by
  rw [ix_eq, if_pos h0, h]
theorem ix_nat {α : Type} {xs : List α} {i : Nat} (h : i < xs.length) : ix xs (i : Int) = some xs[i] :=
  ix_some (by omega) (by rw [Int.toNat_natCast, List.getElem?_eq_getElem h])
theorem ap_some {α : Type} {b : Nat} {xs ys : List α} (h : (xs.length + ys.length) * b ≤ 140737488355328) (h2 : xs.length + ys.length ≤ 140737488355328) : ap b xs ys = some (xs ++ ys) := by
  rw [ap_eq, if_pos ⟨h, by unfold maxLen; omega⟩]
theorem sl_some {α : Type} {xs : List α} {lo hi : Int} (h : 0 ≤ lo ∧ lo ≤ hi ∧ hi ≤ xs.length) : sl xs lo hi = some ((xs.take hi.toNat).drop lo.toNat) := by
  rw [sl_eq, if_pos h]
theorem sl_all {α : Type} {xs : List α} {lo : Int} (h : 0 ≤ lo ∧ lo ≤ xs.length) : sl xs lo xs.length = some (xs.drop lo.toNat) := by
  rw [sl_some (by omega), Int.toNat_natCast, List.take_length]
theorem sl_pre {α : Type} {xs : List α} {hi : Int} (h : 0 ≤ hi ∧ hi ≤ xs.length) : sl xs 0 hi = some (xs.take hi.toNat) := by
  rw [sl_some (by omega)]
  rfl
theorem nn_some {R : Type} {b : Int} {m : Option R} (h : 0 ≤ b) : nn b m = m := by rw [nn_eq, if_neg (by omega)]
theorem nz_some {R : Type} {b : Int} {m : Option R} (h : b ≠ 0) : nz b m = m := by rw [nz_eq, if_neg h]
theorem w64 {x : Int} (h1 : -9223372036854775808 ≤ x) (h2 : x ≤ 9223372036854775807) : IntKind.i64.wrap x = x := wrap64 h1 h2
theorem u8wrap_eq (x : Int) : IntKind.u8.wrap x = x % 256 := by
  simp only [IntKind.wrap, IntKind.signed, IntKind.bits, Bool.false_and, Bool.false_eq_true, if_false]
  rfl
theorem toB_toNat (x : Int) (h : 0 ≤ x ∧ x < 256) : (toB x).toNat = x.toNat := by
  have := toB_of h
  omega
end Go.Proofs.YtibploaibljcmaaDoor
