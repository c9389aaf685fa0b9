/- The walks of package octet and of its reference: what is taken, got and put. -/
import Derived.Test.YtpoikmbogcggkaaRows
import Derived.Test.YtpoikmbogcggkaaWords
import Derived.Test.YtpoikmbogcggkaaNum
import Derived.WalkLawsBesides
import Derived.WalkSpells
import Derived.IntWalk
import Derived.Outline
import Derived.Deep.QuietTactic
import Derived.BigQuiet
import Derived.Deep.DeepFit
import Derived.Deep.DeepMust
namespace Go.Proofs.Ytpoikmbogcggkaa
open Go.RowKit
set_option maxHeartbeats 400000
set_option linter.unusedVariables false

theorem below_drewN {B : Nat} {w : World} (n : Nat) : Below B w (w.drewN n) := ⟨rfl, rfl, rfl, Nat.le_refl _, fun _ _ => rfl⟩

theorem take_no (A : Option Addr) (n c : Nat) (k : Int) (w : World) (hk : k < 0 ∨ n < k) :
    Calls Try.prog 11 #[.slice A n c, .int .i64 k] w fun e w' => e = .returned (.tuple #[.slice none 0 0, .slice none 0 0, .bool false]) ∧ w = w' := by
  by_cases h0 : k < 0
  · go_enter Try.func11, Try.ntmps11
    go_wp2
    go_ret3
    exact ⟨rfl, rfl⟩
  · have h1 : (n : Int) < k := by omega
    go_enter Try.func11, Try.ntmps11
    go_wp2
    go_ret3
    exact ⟨rfl, rfl⟩

theorem take_yes0 (A : Option Addr) (n c : Nat) (k : Nat) (w : World) (hk : k ≤ n) (hc : n ≤ c) (hm : c ≤ maxLen) :
    Calls Try.prog 11 #[.slice A n c, .int .i64 k] w fun e w' => e = .returned (.tuple #[.slice A k k, .slice (if c = k then A else A.map (·.add k)) (n - k) (c - k), .bool true]) ∧ ∃ m, w' = w.drewN m := by
  unfold maxLen at hm
  have h0 : ¬ (k : Int) < 0 := by omega
  have h1 : ¬ (n : Int) < k := by omega
  have h2 : (k : Int) ≤ n := by omega
  have h3 : (n : Int) ≤ c := by omega
  have h4 : (k : Int) ≤ c := by omega
  go_enter Try.func11, Try.ntmps11
  go_wp2
  go_quiet (fail)
  go_wp2
  all_goals
    go_ret3
    exact ⟨rfl, _, rfl⟩

/-- The two parts of what is taken. -/
def Taken (w : World) (A : Option Addr) (n k : Nat) (l : List UInt8) (e : Ending) (w' : World) : Prop :=
  ∃ A2 c2, e = .returned (.tuple #[.slice A k k, .slice A2 (n - k) c2, .bool true]) ∧ RdB w' A k k (l.take k) ∧ RdB w' A2 (n - k) c2 (l.drop k) ∧ Below w.heap.size w w'

theorem take_yes (A : Option Addr) (n c : Nat) (l : List UInt8) (k : Nat) (w : World) (h : RdB w A n c l) (hk : k ≤ n) :
    Calls Try.prog 11 #[.slice A n c, .int .i64 k] w (Taken w A n k l) :=
  (take_yes0 A n c k w hk h.le h.max).mono fun e w' ⟨he, m, hw⟩ => by
    subst hw
    exact ⟨_, _, he, (h.take hk (Nat.le_refl _) (Nat.le_trans hk h.le)).below (below_drewN m), (h.cut hk).below (below_drewN m), below_drewN m⟩

theorem rtake_no (A : Option Addr) (n c : Nat) (k : Int) (w : World) (hk : k < 0 ∨ n < k) :
    Calls Try.prog 12 #[.slice A n c, .int .i64 k] w fun e w' => e = .returned (.tuple #[.slice none 0 0, .slice none 0 0, .bool false]) ∧ w = w' := by
  by_cases h0 : k < 0
  · go_enter Try.func12, Try.ntmps12
    go_wp2
    go_ret3
    exact ⟨rfl, rfl⟩
  · have h1 : (n : Int) < k := by omega
    go_enter Try.func12, Try.ntmps12
    go_wp2
    go_ret3
    exact ⟨rfl, rfl⟩

theorem rtake_yes0 (A : Option Addr) (n c : Nat) (k : Nat) (w : World) (hk : k ≤ n) (hc : n ≤ c) (hm : c ≤ maxLen) :
    Calls Try.prog 12 #[.slice A n c, .int .i64 k] w fun e w' => e = .returned (.tuple #[.slice A k c, .slice (if c = k then A else A.map (·.add k)) (n - k) (c - k), .bool true]) ∧ ∃ m, w' = w.drewN m := by
  unfold maxLen at hm
  have h0 : ¬ (k : Int) < 0 := by omega
  have h1 : ¬ (n : Int) < k := by omega
  have h2 : (k : Int) ≤ n := by omega
  have h3 : (n : Int) ≤ c := by omega
  have h4 : (k : Int) ≤ c := by omega
  go_enter Try.func12, Try.ntmps12
  go_wp2
  go_quiet (fail)
  go_wp2
  all_goals
    go_ret3
    exact ⟨rfl, _, rfl⟩

def RTaken (w : World) (A : Option Addr) (n c k : Nat) (l : List UInt8) (e : Ending) (w' : World) : Prop :=
  ∃ A2 c2, e = .returned (.tuple #[.slice A k c, .slice A2 (n - k) c2, .bool true]) ∧ RdB w' A k c (l.take k) ∧ RdB w' A2 (n - k) c2 (l.drop k) ∧ Below w.heap.size w w'

theorem rtake_yes (A : Option Addr) (n c : Nat) (l : List UInt8) (k : Nat) (w : World) (h : RdB w A n c l) (hk : k ≤ n) :
    Calls Try.prog 12 #[.slice A n c, .int .i64 k] w (RTaken w A n c k l) :=
  (rtake_yes0 A n c k w hk h.le h.max).mono fun e w' ⟨he, m, hw⟩ => by
    subst hw
    exact ⟨_, _, he, (h.take hk (Nat.le_trans hk h.le) (Nat.le_refl _)).below (below_drewN m), (h.cut hk).below (below_drewN m), below_drewN m⟩

/-- The number that octets are. -/
def num : List UInt8 → Nat := fun l => l.foldl (fun v x => v * 256 + x.toNat) 0
theorem num_snoc (l : List UInt8) (x : UInt8) : num (l ++ [x]) = num l * 256 + x.toNat := by simp [num]
theorem num_step (l : List UInt8) (j : Nat) (h : j < l.length) : num (l.take (j + 1)) = num (l.take j) * 256 + l[j].toNat := by
  rw [List.take_succ_eq_append_getElem h, num_snoc]
theorem num_lt (l : List UInt8) : num l < 256 ^ l.length := by
  suffices h : ∀ (m : Nat) (l : List UInt8), l.length = m → num l < 256 ^ m from h _ l rfl
  intro m
  induction m with
  | zero => intro l h; rw [List.eq_nil_of_length_eq_zero h]; simp [num]
  | succ m ih =>
    intro l h
    obtain ⟨l', x, rfl⟩ : ∃ l' x, l = l' ++ [x] := ⟨l.dropLast, l.getLast (by intro e; simp [e] at h), (List.dropLast_concat_getLast _).symm⟩
    have := ih l' (by simpa using h)
    have hx := x.toNat_lt
    rw [num_snoc, Nat.pow_succ]
    omega

def Got (w : World) (n k : Nat) (l : List UInt8) (e : Ending) (w' : World) : Prop :=
  ∃ A2 c2, e = .returned (.tuple #[.int .i64 (num (l.take k) : Nat), .slice A2 (n - k) c2, .bool true]) ∧ RdB w' A2 (n - k) c2 (l.drop k) ∧ Below w.heap.size w w'

theorem get_no (A : Option Addr) (n c : Nat) (k : Int) (w : World) (hk : k < 1 ∨ 4 < k ∨ n < k) :
    Calls Try.prog 9 #[.slice A n c, .int .i64 k] w fun e w' => e = .returned (.tuple #[.int .i64 0, .slice none 0 0, .bool false]) ∧ w = w' := by
  by_cases h0 : k < 1
  · go_enter Try.func9, Try.ntmps9
    go_wp2
    go_ret3
    exact ⟨rfl, rfl⟩
  · by_cases h1 : 4 < k
    · go_enter Try.func9, Try.ntmps9
      go_wp2
      go_ret3
      exact ⟨rfl, rfl⟩
    · have h2 : (n : Int) < k := by omega
      go_enter Try.func9, Try.ntmps9
      go_wp2_with (go_at_call 11; refine (take_no _ _ _ _ _ (by omega)).mono ?_; rintro e w' ⟨rfl, rfl⟩)
      go_loop [10, 28] (fun v i => v = .int .i64 0 ∧ i = .int .i64 0) (fun v i => 0)
      case atStart => exact ⟨rfl, rfl⟩
      case round =>
        obtain ⟨rfl, rfl⟩ := hrel
        go_wp2
        go_ret3
        exact ⟨rfl, rfl⟩

theorem get_yes (A : Option Addr) (n c : Nat) (l : List UInt8) (k : Nat) (w : World) (h : RdB w A n c l) (h1 : 1 ≤ k) (h4 : k ≤ 4) (hk : k ≤ n) :
    Calls Try.prog 9 #[.slice A n c, .int .i64 k] w (Got w n k l) := by
  have g1 : ¬ (k : Int) < 1 := by omega
  have g2 : ¬ (4 : Int) < k := by omega
  go_enter Try.func9, Try.ntmps9
  go_wp2_with (go_at_call 11; refine (take_yes _ _ _ _ _ _ h hk).mono ?_; rintro e w' ⟨A2, c2, rfl, hr1, hr2, hb⟩)
  go_loop [10, 28] (fun v i => ∃ j : Nat, j ≤ k ∧ i = .int .i64 j ∧ v = .int .i64 (num ((l.take k).take j) : Nat)) (fun _ i => k - (intOf i).toNat)
  case atStart => exact ⟨0, Nat.zero_le _, rfl, rfl⟩
  case round =>
    obtain ⟨j, hj, rfl, rfl⟩ := hrel
    by_cases hlt : j < k
    · obtain ⟨b, o, rfl, hc⟩ := hr1.at_ (k := j) hlt
      have hll : j < (l.take k).length := by rw [hr1.len]; exact hlt
      have hc1 := hc j hll
      have hn := num_lt ((l.take k).take j)
      have hjl : ((l.take k).take j).length ≤ 3 := by rw [List.length_take]; omega
      have hn2 : num ((l.take k).take j) < 16777216 := Nat.lt_of_lt_of_le hn (Nat.pow_le_pow_right (by omega) hjl)
      have hlt' : (j : Int) < k := by omega
      have hi := (l.take k)[j].toNat_lt
      generalize hx : (l.take k)[j] = x at *
      generalize hnn : num ((l.take k).take j) = m at *
      have HX := Lib.hid hx
      have HN := Lib.hid hnn
      clear hx hnn hc hn hjl
      go_wp2
      go_round
      case rel => exact ⟨j + 1, by omega, by go_num, by rw [or_byte m _ (by omega) hn2, num_step _ _ hll, HX.out, HN.out]⟩
      case measure => simp [intOf]; omega
    · obtain rfl : j = k := by omega
      go_wp2
      go_ret3
      exact ⟨_, _, by rw [List.take_take, Nat.min_self]; rfl, hr2, hb⟩
end Go.Proofs.Ytpoikmbogcggkaa
