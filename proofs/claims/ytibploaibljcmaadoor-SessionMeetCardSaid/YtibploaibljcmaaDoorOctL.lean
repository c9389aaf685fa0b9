/- Numbers and their octets, as lists. -/
import Derived.Test.YtibploaibljcmaaDoorWords
import Derived.Test.YtibploaibljcmaaDoorNum
namespace Go.Proofs.YtibploaibljcmaaDoor
set_option linter.unusedVariables false
set_option linter.unusedSimpArgs false

/-- The number that octets are. -/
def num : List UInt8 → Nat := fun l => l.foldl (fun v x => v * 256 + x.toNat) 0
theorem num_snoc (l : List UInt8) (x : UInt8) : num (l ++ [x]) = num l * 256 + x.toNat := by simp [num]
theorem num_step (l : List UInt8) (j : Nat) (h : j < l.length) : num (l.take (j + 1)) = num (l.take j) * 256 + l[j].toNat := by
  rw [List.take_succ_eq_append_getElem h, num_snoc]
theorem num_lt (l : List UInt8) : num l < 256 ^ l.length := by
  suffices h : ∀ (m : Nat) (l : List UInt8), l.length = m → num l < 256 ^ m from h _ l rfl
  intro m
  induction m with
  | zero => intro l h; rw [List.eq_nil_of_length_eq_zero h]; simp [num]
  | succ m ih =>
    intro l h
    obtain ⟨l', x, rfl⟩ : ∃ l' x, l = l' ++ [x] := ⟨l.dropLast, l.getLast (by intro e; simp [e] at h), (List.dropLast_concat_getLast _).symm⟩
    have := ih l' (by simpa using h)
    have hx := x.toNat_lt
    rw [num_snoc, Nat.pow_succ]
    omega

/-- Octet number j of a number, from the low end. -/
def octAt (v : Int) (j : Nat) : UInt8 := UInt8.ofNat ((v / (2 : Int) ^ (8 * j)) % 256).toNat
/-- The k octets of a number. -/
def putL (v : Int) (k : Nat) : List UInt8 := (List.range k).map fun i => octAt v (k - 1 - i)

theorem bv_octAt (v : Int) (j : Nat) : bv (octAt v j) = .int .u8 (v / (2 : Int) ^ (8 * j) % 256) := by
  have h1 := Int.emod_nonneg (v / (2 : Int) ^ (8 * j)) (show (256 : Int) ≠ 0 by decide)
  have h2 := Int.emod_lt_of_pos (v / (2 : Int) ^ (8 * j)) (show (0 : Int) < 256 by decide)
  unfold bv octAt
  rw [show (UInt8.ofNat (v / 2 ^ (8 * j) % 256).toNat).toNat = (v / 2 ^ (8 * j) % 256).toNat from by rw [UInt8.toNat_ofNat']; omega]
  congr 1
  omega
theorem putL_length (v : Int) (k : Nat) : (putL v k).length = k := by simp [putL]
theorem putL_step (v : Int) (k j : Nat) (h : j < k) : (putL v k).take (j + 1) = (putL v k).take j ++ [octAt v (k - 1 - j)] := by
  rw [List.take_succ_eq_append_getElem (by rw [putL_length]; exact h)]
  simp [putL]

theorem octAt_div (v : Int) (i j : Nat) : octAt (v / 2 ^ (8 * i)) j = octAt v (i + j) := by
  unfold octAt
  rw [Int.ediv_ediv, if_neg (by have := Int.pow_pos (n := 2) (m := 8 * i) (by decide); omega), Int.sub_zero, ← Int.pow_add, Nat.mul_add]
theorem putL_4 (v : Int) : [] ++ putL v 4 = [] ++ putL (v / 65536) 2 ++ putL v 2 := by
  have h := octAt_div v 2
  rw [show (2 : Int) ^ (8 * 2) = 65536 by decide] at h
  simp [putL, List.range_succ, h]
theorem putL_3 (v : Int) : putL v 3 = [] ++ putL (v / 65536) 1 ++ putL (v / 256) 1 ++ putL v 1 := by
  have h := octAt_div v 2
  have h' := octAt_div v 1
  rw [show (2 : Int) ^ (8 * 2) = 65536 by decide] at h
  rw [show (2 : Int) ^ (8 * 1) = 256 by decide] at h'
  simp [putL, List.range_succ, h, h']

theorem putL_num (l : List UInt8) : putL (num l : Nat) l.length = l := by
  suffices h : ∀ (m : Nat) (l : List UInt8), l.length = m → ∀ (x : Int), putL (x * 256 ^ m + (num l : Nat)) m = l by
    have := h _ l rfl 0
    simpa using this
  intro m
  induction m with
  | zero => intro l h x; rw [List.eq_nil_of_length_eq_zero h]; rfl
  | succ m ih =>
    intro l h x
    obtain ⟨l', y, rfl⟩ : ∃ l' y, l = l' ++ [y] := ⟨l.dropLast, l.getLast (by intro e; simp [e] at h), (List.dropLast_concat_getLast _).symm⟩
    have hl : l'.length = m := by simpa using h
    have hy := y.toNat_lt
    have ih' := ih l' hl x
    have e0 : (x * 256 ^ (m + 1) + (num (l' ++ [y]) : Nat)) / (2 : Int) ^ (8 * 1) = x * 256 ^ m + (num l' : Nat) := by
      rw [num_snoc, Int.pow_succ]
      have : x * (256 ^ m * 256) + ((num l' * 256 + y.toNat : Nat) : Int) = (x * 256 ^ m + (num l' : Nat)) * 256 + (y.toNat : Int) := by
        rw [← Int.mul_assoc]
        generalize x * 256 ^ m = X
        omega
      rw [this, show (2 : Int) ^ (8 * 1) = 256 by decide]
      omega
    have e1 : octAt (x * 256 ^ (m + 1) + (num (l' ++ [y]) : Nat)) 0 = y := by
      unfold octAt
      rw [num_snoc, Int.pow_succ]
      have : x * (256 ^ m * 256) + ((num l' * 256 + y.toNat : Nat) : Int) = (x * 256 ^ m + (num l' : Nat)) * 256 + (y.toNat : Int) := by
        rw [← Int.mul_assoc]
        generalize x * 256 ^ m = X
        omega
      rw [this]
      have : (((x * 256 ^ m + (num l' : Nat)) * 256 + (y.toNat : Int)) / 2 ^ (8 * 0) % 256).toNat = y.toNat := by
        simp only [Nat.mul_zero, Int.pow_zero, Int.ediv_one]
        omega
      rw [this]
      exact UInt8.ofNat_toNat
    refine Eq.trans ?_ (congrArg (· ++ [y]) ih')
    unfold putL
    rw [List.range_succ, List.map_append, List.map_singleton]
    congr 1
    · apply List.map_congr_left
      intro i hi
      rw [List.mem_range] at hi
      rw [show m + 1 - 1 - i = 1 + (m - 1 - i) by omega, ← octAt_div _ 1, e0]
    · rw [show m + 1 - 1 - m = 0 by omega, e1]

theorem num_putL (v : Int) : ∀ k : Nat, ((num (putL v k) : Nat) : Int) = v % (256 : Int) ^ k := by
  intro k
  induction k generalizing v with
  | zero => simp [putL, num]
  | succ k ih =>
    have e : putL v (k + 1) = putL (v / 256) k ++ [octAt v 0] := by
      unfold putL
      rw [List.range_succ, List.map_append, List.map_singleton]
      congr 1
      · apply List.map_congr_left
        intro i hi
        rw [List.mem_range] at hi
        rw [show k + 1 - 1 - i = 1 + (k - 1 - i) by omega, ← octAt_div _ 1, show (2 : Int) ^ (8 * 1) = 256 by decide]
      · rw [show k + 1 - 1 - k = 0 by omega]
    have e0 : ((octAt v 0).toNat : Int) = v % 256 := by
      have := bv_octAt v 0
      unfold bv at this
      injection this with _ h
      simpa using h
    rw [e, num_snoc, Int.natCast_add, Int.natCast_mul, ih, e0, Int.pow_succ, Int.mul_comm ((256 : Int) ^ k) 256]
    have hp : (0 : Int) < 256 ^ k := Int.pow_pos (by decide)
    generalize (256 : Int) ^ k = p at *
    have h1 := Int.emod_add_mul_ediv v (256 * p)
    have h2 := Int.emod_add_mul_ediv (v / 256) p
    have h3 : v / (256 * p) = v / 256 / p := by rw [Int.ediv_ediv, if_neg (by omega), Int.sub_zero]
    rw [h3, Int.mul_assoc] at h1
    generalize v / 256 / p = q at *
    generalize p * q = r at *
    omega

end Go.Proofs.YtibploaibljcmaaDoor
