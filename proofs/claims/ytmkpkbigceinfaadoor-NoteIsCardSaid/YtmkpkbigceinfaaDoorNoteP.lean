/- Numerals and names of notes, as lists. -/
import Derived.Lib.ItoaNum
import Derived.Lib.ItoaLen
import Derived.Lib.ItoaMem
import Derived.Test.YtmkpkbigceinfaaDoorBytes
namespace Go.Proofs.YtmkpkbigceinfaaDoor
open Go.RowKit
set_option linter.unusedVariables false
set_option linter.unusedSimpArgs false

/-- The number that digits are. -/
def numD (l : List UInt8) : Nat := l.foldl (fun a x => a * 10 + (x.toNat - 48)) 0
theorem numD_snoc (l : List UInt8) (x : UInt8) : numD (l ++ [x]) = numD l * 10 + (x.toNat - 48) := by simp [numD]
theorem dig_toNat (k : Nat) (h : k < 10) : (UInt8.ofNat (48 + k)).toNat = 48 + k := by
  rw [UInt8.toNat_ofNat']
  omega
theorem numD_dec (u : Nat) : numD (Lib.decDigits u) = u := by
  induction u using Nat.strongRecOn with
  | _ u ih =>
    rw [Lib.decDigits]
    by_cases h : u < 10
    · rw [dif_pos h]
      have := numD_snoc [] (UInt8.ofNat (48 + u))
      rw [List.nil_append] at this
      rw [this, dig_toNat u h]
      simp [numD]
    · rw [dif_neg h, numD_snoc, ih (u / 10) (by omega), dig_toNat _ (by omega)]
      omega
theorem dec_range (u : Nat) : ∀ x ∈ Lib.decDigits u, 48 ≤ x.toNat ∧ x.toNat ≤ 57 := by
  induction u using Nat.strongRecOn with
  | _ u ih =>
    rw [Lib.decDigits]
    by_cases h : u < 10
    · rw [dif_pos h]
      intro x hx
      rw [List.mem_singleton.1 hx, dig_toNat u h]
      omega
    · rw [dif_neg h]
      intro x hx
      rcases List.mem_append.1 hx with hx | hx
      · exact ih (u / 10) (by omega) x hx
      · rw [List.mem_singleton.1 hx, dig_toNat _ (by omega)]
        omega
theorem dec_inj {u v : Nat} (h : Lib.decDigits u = Lib.decDigits v) : u = v := by rw [← numD_dec u, h, numD_dec]
theorem itoa_range (n : Int) : ∀ x ∈ Lib.itoa n, x.toNat ≠ 47 ∧ x.toNat ≤ 57 := by
  intro x hx
  unfold Lib.itoa at hx
  split at hx
  · rcases List.mem_cons.1 hx with rfl | hx
    · decide
    · have := dec_range _ x hx
      omega
  · have := dec_range _ x hx
    omega
theorem itoa_inj {a b : Int} (h : Lib.itoa a = Lib.itoa b) : a = b := by
  have key : ∀ (u v : Nat), Lib.decDigits u ≠ 45 :: Lib.decDigits v := by
    intro u v e
    have := dec_range u 45 (by rw [e]; simp)
    revert this
    decide
  unfold Lib.itoa at h
  split at h <;> split at h
  · injection h with _ h
    have := dec_inj h
    omega
  · exact absurd h.symm (key _ _)
  · exact absurd h (key _ _)
  · have := dec_inj h
    omega

theorem split47 : ∀ {a a' b b' : List UInt8}, (∀ x ∈ a, x.toNat ≠ 47) → (∀ x ∈ a', x.toNat ≠ 47) → a ++ 47 :: b = a' ++ 47 :: b' → a = a' ∧ b = b'
  | [], [], b, b', _, _, h => by simpa using h
  | [], y :: a', b, b', _, h2, h => by
    simp only [List.nil_append, List.cons_append, List.cons.injEq] at h
    exact absurd (by rw [← h.1]; rfl) (h2 y (by simp))
  | x :: a, [], b, b', h1, _, h => by
    simp only [List.nil_append, List.cons_append, List.cons.injEq] at h
    exact absurd (by rw [h.1]; rfl) (h1 x (by simp))
  | x :: a, y :: a', b, b', h1, h2, h => by
    simp only [List.cons_append, List.cons.injEq] at h
    have := split47 (fun z hz => h1 z (by simp [hz])) (fun z hz => h2 z (by simp [hz])) h.2
    exact ⟨by rw [h.1, this.1], this.2⟩

/-- What a code is called. -/
def nmL (c : Int) : List UInt8 :=
  if c = 1 then [104, 101, 97, 100, 101, 114] else if c = 2 then [111, 112, 101, 110] else if c = 3 then [117, 112, 100, 97, 116, 101] else if c = 4 then [104, 111, 108, 100] else if c = 5 then [102, 115, 109] else if c = 6 then [99, 101, 97, 115, 101] else Lib.itoa c
def nameL (c s : Int) : List UInt8 := nmL c ++ 47 :: Lib.itoa s
theorem nmL_cases (c : Int) : (c = 1 ∧ nmL c = [104, 101, 97, 100, 101, 114]) ∨ (c = 2 ∧ nmL c = [111, 112, 101, 110]) ∨ (c = 3 ∧ nmL c = [117, 112, 100, 97, 116, 101]) ∨ (c = 4 ∧ nmL c = [104, 111, 108, 100]) ∨ (c = 5 ∧ nmL c = [102, 115, 109]) ∨ (c = 6 ∧ nmL c = [99, 101, 97, 115, 101]) ∨ nmL c = Lib.itoa c := by
  unfold nmL
  repeat' split
  all_goals simp_all
theorem nmL_range (c : Int) : ∀ x ∈ nmL c, x.toNat ≠ 47 := by
  rcases nmL_cases c with ⟨_, h⟩ | ⟨_, h⟩ | ⟨_, h⟩ | ⟨_, h⟩ | ⟨_, h⟩ | ⟨_, h⟩ | h
  iterate 6
    rw [h]
    decide
  rw [h]
  exact fun x hx => (itoa_range c x hx).1
theorem itoa_not (n : Int) (x : UInt8) (l : List UInt8) (hx : 57 < x.toNat) : Lib.itoa n ≠ x :: l := by
  intro e
  have := (itoa_range n x (by rw [e]; simp)).2
  omega
theorem nmL_inj {c c' : Int} (h : nmL c = nmL c') : c = c' := by
  rcases nmL_cases c with ⟨e, k⟩ | ⟨e, k⟩ | ⟨e, k⟩ | ⟨e, k⟩ | ⟨e, k⟩ | ⟨e, k⟩ | k <;> rcases nmL_cases c' with ⟨e', k'⟩ | ⟨e', k'⟩ | ⟨e', k'⟩ | ⟨e', k'⟩ | ⟨e', k'⟩ | ⟨e', k'⟩ | k' <;> rw [k, k'] at h
  all_goals first
    | (rw [e, e']; done)
    | exact absurd h (by decide)
    | exact absurd h (itoa_not _ _ _ (by decide))
    | exact absurd h.symm (itoa_not _ _ _ (by decide))
    | exact itoa_inj h
theorem nameL_inj {c s c' s' : Int} (h : nameL c s = nameL c' s') : c = c' ∧ s = s' := by
  have := split47 (nmL_range c) (nmL_range c') h
  exact ⟨nmL_inj this.1, itoa_inj this.2⟩
theorem nmL_len (c : Int) (h0 : -9223372036854775808 ≤ c) (h1 : c ≤ 9223372036854775807) : (nmL c).length ≤ 21 := by
  rcases nmL_cases c with ⟨_, h⟩ | ⟨_, h⟩ | ⟨_, h⟩ | ⟨_, h⟩ | ⟨_, h⟩ | ⟨_, h⟩ | h
  iterate 6
    rw [h]
    decide
  rw [h]
  exact Lib.itoa_length_le c h0 h1
theorem str_ofList (l : List UInt8) : (⟨l.toArray⟩ : ByteArray) = str l := rfl
theorem str_inj {a b : List UInt8} (h : str a = str b) : a = b := by
  have := congrArg (fun x : ByteArray => x.data.toList) h
  simpa [str] using this
end Go.Proofs.YtmkpkbigceinfaaDoor
