/- Models come to an end, and what is so then. -/
import Derived.Test.YtibploaibljcmaaDoorPl0
namespace Go.Proofs.YtibploaibljcmaaDoor
open Go.RowKit
set_option linter.unusedVariables false
set_option linter.unusedSimpArgs false

/-- A model comes to an answer of which Q holds. -/
def Ok {α : Type} (m : Option α) (Q : α → Prop) : Prop := ∃ x, m = some x ∧ Q x
section
variable {α β R τ : Type} {Q : R → Prop}
theorem ok_some {x : R} (h : Q x) : Ok (some x) Q := ⟨x, rfl, h⟩
theorem ok_eq {m : Option R} {x : R} (h : m = some x) (k : Q x) : Ok m Q := ⟨x, h, k⟩
theorem ok_mono {m : Option R} {Q' : R → Prop} (h : Ok m Q') (k : ∀ x, Q' x → Q x) : Ok m Q := by
  obtain ⟨x, e, q⟩ := h
  exact ⟨x, e, k x q⟩
theorem ok_bd {m : Option α} {k : α → Option R} {P : α → Prop} (h : Ok m P) (h2 : ∀ x, m = some x → P x → Ok (k x) Q) : Ok (bd m k) Q := by
  obtain ⟨x, e, p⟩ := h
  rw [e, bd_some]
  exact h2 x e p
theorem ok_bde {m : Option α} {k : α → Option R} {x : α} (h : m = some x) (h2 : Ok (k x) Q) : Ok (bd m k) Q := by
  rw [h, bd_some]
  exact h2
theorem ok_if {p : Prop} {_ : Decidable p} {A B : Option R} (h1 : p → Ok A Q) (h2 : ¬ p → Ok B Q) : Ok (bif decide p then A else B) Q := by
  by_cases hp : p
  · rw [decide_eq_true hp]; exact h1 hp
  · rw [decide_eq_false hp]; exact h2 hp
theorem ok_ifn {p : Prop} {_ : Decidable p} {A B : Option R} (h1 : ¬ p → Ok A Q) (h2 : p → Ok B Q) : Ok (bif !decide p then A else B) Q := by
  by_cases hp : p
  · rw [decide_eq_true hp]; exact h2 hp
  · rw [decide_eq_false hp]; exact h1 hp
theorem ok_ifb {b : Bool} {A B : Option R} (h1 : b = true → Ok A Q) (h2 : b = false → Ok B Q) : Ok (bif b then A else B) Q := by
  cases b
  · exact h2 rfl
  · exact h1 rfl
theorem ok_ifnb {b : Bool} {A B : Option R} (h1 : b = false → Ok A Q) (h2 : b = true → Ok B Q) : Ok (bif !b then A else B) Q := by
  cases b
  · exact h1 rfl
  · exact h2 rfl
theorem ok_ix {xs : List α} {i : Int} {k : α → Option R} (h0 : 0 ≤ i) (h1 : i < xs.length) (h : ∀ (hlt : i.toNat < xs.length), Ok (k xs[i.toNat]) Q) : Ok (bd (ix xs i) k) Q :=
  ok_bde (ix_some h0 (List.getElem?_eq_getElem (by omega))) (h (by omega))
theorem ok_ap {b : Nat} {xs ys : List α} {k : List α → Option R} (h : (xs.length + ys.length) * b ≤ 140737488355328) (h2 : xs.length + ys.length ≤ 140737488355328) (hk : Ok (k (xs ++ ys)) Q) : Ok (bd (ap b xs ys) k) Q :=
  ok_bde (ap_some h h2) hk
theorem ok_jn {i : Nat} {f : (τ → Option R) → Option R} {k : τ → Option R} (J : τ → Prop) (h2 : ∀ k', (∀ j, J j → Ok (k' j) Q) → Ok (f k') Q) (h1 : ∀ j, J j → Ok (k j) Q) : Ok (jn i f k) Q := by
  rw [jn_eq]
  exact h2 k h1
theorem ok_jn' {i : Nat} {f : (τ → Option R) → Option R} {k : τ → Option R} (h : Ok (f k) Q) : Ok (jn i f k) Q := by
  rw [jn_eq]
  exact h
/-- A loop whose rounds keep I, and count down. -/
theorem ok_loop {σ ε : Type} {step : σ → (σ → Option R) → (ε → Option R) → Option R} {bk : ε → Option R} {s0 : σ} (I : σ → Prop) (μ : σ → Nat) (h0 : I s0) (hm : μ s0 ≤ 1180591620717411303000)
    (hs : ∀ s, I s → ∀ nx : σ → Option R, (∀ s', I s' → μ s' < μ s → Ok (nx s') Q) → Ok (step s nx bk) Q) : Ok (loopC step bk BIG s0) Q := by
  suffices h : ∀ (n : Nat) (s : σ), I s → μ s < n → Ok (loopC step bk n s) Q from h BIG s0 h0 (big_lt hm)
  intro n
  induction n with
  | zero => intro s _ h; omega
  | succ n ih =>
    intro s hI h
    rw [loopC_succ]
    exact hs s hI _ fun s' h1 h2 => ih s' h1 (by omega)
/-- A loop over the places of a list. -/
theorem ok_idx {ε : Type} {step : Int → (Int → Option R) → (ε → Option R) → Option R} {bk : ε → Option R} (n : Nat) (I : Nat → Prop) (hn : n ≤ 9223372036854775807) (h0 : I 0)
    (hs : ∀ i, i < n → I i → ∀ nx : Int → Option R, (I (i + 1) → Ok (nx (IntKind.i64.wrap ((i : Int) + 1))) Q) → Ok (step (i : Int) nx bk) Q) (he : I n → ∀ nx, Ok (step (n : Int) nx bk) Q) : Ok (loopC step bk BIG 0) Q := by
  refine ok_loop (fun st => ∃ j : Nat, st = (j : Int) ∧ j ≤ n ∧ I j) (fun st => ((n : Int) - st).toNat) ⟨0, rfl, Nat.zero_le _, h0⟩ (by omega) ?_
  rintro _ ⟨j, rfl, hj, hI⟩ nx hnx
  by_cases hlt : j < n
  · have hw : IntKind.i64.wrap ((j : Int) + 1) = ((j + 1 : Nat) : Int) := by rw [w64 (by omega) (by omega)]; rfl
    refine hs j hlt hI nx fun h => hnx _ ⟨j + 1, hw, hlt, h⟩ (by rw [hw]; omega)
  · obtain rfl : j = n := by omega
    exact he hI nx
/-- The same, with something gathered. -/
theorem ok_acc {γ ε : Type} {step : γ × Int → (γ × Int → Option R) → (ε → Option R) → Option R} {bk : ε → Option R} {b0 : γ} (n : Nat) (I : Nat → γ → Prop) (hn : n ≤ 9223372036854775807) (h0 : I 0 b0)
    (hs : ∀ i b, i < n → I i b → ∀ nx : γ × Int → Option R, (∀ b', I (i + 1) b' → Ok (nx (b', IntKind.i64.wrap ((i : Int) + 1))) Q) → Ok (step (b, (i : Int)) nx bk) Q) (he : ∀ b, I n b → ∀ nx, Ok (step (b, (n : Int)) nx bk) Q) : Ok (loopC step bk BIG (b0, 0)) Q := by
  refine ok_loop (fun st => ∃ j : Nat, st.2 = (j : Int) ∧ j ≤ n ∧ I j st.1) (fun st => ((n : Int) - st.2).toNat) ⟨0, rfl, Nat.zero_le _, h0⟩ (by simp only; omega) ?_
  rintro ⟨b, _⟩ ⟨j, rfl, hj, hI⟩ nx hnx
  dsimp only at hj hI hnx
  by_cases hlt : j < n
  · have hw : IntKind.i64.wrap ((j : Int) + 1) = ((j + 1 : Nat) : Int) := by rw [w64 (by omega) (by omega)]; rfl
    refine hs j b hlt hI nx fun b' h => hnx _ ⟨j + 1, hw, hlt, h⟩ (by simp only [hw]; omega)
  · obtain rfl : j = n := by omega
    exact he b hI nx
/-- The same, the place first. -/
theorem ok_acc' {γ ε : Type} {step : Int × γ → (Int × γ → Option R) → (ε → Option R) → Option R} {bk : ε → Option R} {b0 : γ} (n : Nat) (I : Nat → γ → Prop) (hn : n ≤ 9223372036854775807) (h0 : I 0 b0)
    (hs : ∀ i b, i < n → I i b → ∀ nx : Int × γ → Option R, (∀ b', I (i + 1) b' → Ok (nx (IntKind.i64.wrap ((i : Int) + 1), b')) Q) → Ok (step ((i : Int), b) nx bk) Q) (he : ∀ b, I n b → ∀ nx, Ok (step ((n : Int), b) nx bk) Q) : Ok (loopC step bk BIG (0, b0)) Q := by
  refine ok_loop (fun st => ∃ j : Nat, st.1 = (j : Int) ∧ j ≤ n ∧ I j st.2) (fun st => ((n : Int) - st.1).toNat) ⟨0, rfl, Nat.zero_le _, h0⟩ (by simp only; omega) ?_
  rintro ⟨_, b⟩ ⟨j, rfl, hj, hI⟩ nx hnx
  dsimp only at hj hI hnx
  by_cases hlt : j < n
  · have hw : IntKind.i64.wrap ((j : Int) + 1) = ((j + 1 : Nat) : Int) := by rw [w64 (by omega) (by omega)]; rfl
    refine hs j b hlt hI nx fun b' h => hnx _ ⟨j + 1, hw, hlt, h⟩ (by simp only [hw]; omega)
  · obtain rfl : j = n := by omega
    exact he b hI nx
theorem ok_true {m : Option Bool} (h : Ok m (· = true)) : m = some true := by
  obtain ⟨x, e, rfl⟩ := h
  exact e
end
end Go.Proofs.YtibploaibljcmaaDoor
