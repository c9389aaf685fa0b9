/- Loops over a list. -/
import Derived.Test.YtibploaibljcmaaDoorPu0
namespace Go.Proofs.YtibploaibljcmaaDoor
open Go.RowKit
set_option linter.unusedVariables false
set_option linter.unusedSimpArgs false

/-- A walk along a list: what each element makes of the rest. -/
def walk {α R : Type} (F : Nat → α → R → R) (e : R) : Nat → List α → R
  | _, [] => e
  | i, x :: xs => F i x (walk F e (i + 1) xs)
theorem w64s {i : Nat} (h : i ≤ 140737488355328) : IntKind.i64.wrap ((i : Int) + 1) = ((i + 1 : Nat) : Int) := by
  rw [w64 (by omega) (by omega)]
  rfl
/-- A loop whose state is where it stands in a list. -/
theorem loop_idx {α ε R : Type} (l : List α) (F : Nat → α → Option R → Option R) (e : Option R) {step : Int → (Int → Option R) → (ε → Option R) → Option R} {bk : ε → Option R} (hl : l.length ≤ 140737488355328)
    (hs : ∀ (i : Nat) (h : i < l.length) (nx : Int → Option R), step (i : Int) nx bk = F i l[i] (nx (IntKind.i64.wrap ((i : Int) + 1))))
    (he : ∀ nx, step (l.length : Int) nx bk = e) : loopC step bk BIG 0 = walk F e 0 l := by
  suffices h : ∀ (m n i : Nat), i + m = l.length → m < n → loopC step bk n (i : Int) = walk F e i (l.drop i) from by
    have := h l.length BIG 0 (by omega) (big_lt (by omega))
    simpa using this
  intro m
  induction m with
  | zero =>
    intro n i hi hn
    obtain ⟨k, rfl⟩ : ∃ k, n = k + 1 := ⟨n - 1, by omega⟩
    rw [loopC_succ, List.drop_eq_nil_of_le (by omega), show i = l.length by omega, he]
    rfl
  | succ m ih =>
    intro n i hi hn
    obtain ⟨k, rfl⟩ : ∃ k, n = k + 1 := ⟨n - 1, by omega⟩
    rw [loopC_succ, hs i (by omega), w64s (by omega), ih k (i + 1) (by omega) (by omega), List.drop_eq_getElem_cons (by omega : i < l.length)]
    rfl
/-- The same, with what was gathered so far. -/
def walkA {α β R : Type} (F : Nat → α → (β → R) → β → R) (e : β → R) : Nat → List α → β → R
  | _, [], b => e b
  | i, x :: xs, b => F i x (walkA F e (i + 1) xs) b
theorem loop_acc {α β ε R : Type} (l : List α) (F : Nat → α → (β → Option R) → β → Option R) (e : β → Option R) {step : β × Int → (β × Int → Option R) → (ε → Option R) → Option R} {bk : ε → Option R} (b0 : β) (I : Nat → β → Prop) (hI0 : I 0 b0) (hl : l.length ≤ 140737488355328)
    (hs : ∀ (i : Nat) (h : i < l.length) (b : β) (nx nx' : β → Option R), I i b → (∀ b', I (i + 1) b' → nx b' = nx' b') → ∀ go : β × Int → Option R, (∀ b', go (b', IntKind.i64.wrap ((i : Int) + 1)) = nx b') → step (b, (i : Int)) go bk = F i l[i] nx' b)
    (he : ∀ b nx, I l.length b → step (b, (l.length : Int)) nx bk = e b) : loopC step bk BIG (b0, 0) = walkA F e 0 l b0 := by
  suffices h : ∀ (m n i : Nat) (b : β), I i b → i + m = l.length → m < n → loopC step bk n (b, (i : Int)) = walkA F e i (l.drop i) b from by
    have := h l.length BIG 0 b0 hI0 (by omega) (big_lt (by omega))
    simpa using this
  intro m
  induction m with
  | zero =>
    intro n i b hb hi hn
    obtain ⟨k, rfl⟩ : ∃ k, n = k + 1 := ⟨n - 1, by omega⟩
    obtain rfl : i = l.length := by omega
    rw [loopC_succ, List.drop_eq_nil_of_le (by omega), he b _ hb]
    rfl
  | succ m ih =>
    intro n i b hb hi hn
    obtain ⟨k, rfl⟩ : ∃ k, n = k + 1 := ⟨n - 1, by omega⟩
    rw [loopC_succ, List.drop_eq_getElem_cons (by omega : i < l.length)]
    refine hs i (by omega) b (fun b' => loopC step bk k (b', ((i + 1 : Nat) : Int))) (walkA F e (i + 1) (l.drop (i + 1))) hb (fun b' hb' => ih k (i + 1) b' hb' (by omega) (by omega)) _ fun b' => ?_
    rw [w64s (by omega)]
end Go.Proofs.YtibploaibljcmaaDoor
