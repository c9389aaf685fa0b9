/- The law OctetTake. -/
import Derived.Test.YtpoikmbogcggkaaOct3
namespace Go.Proofs.Ytpoikmbogcggkaa
open Go.RowKit
set_option maxHeartbeats 1000000
set_option linter.unusedVariables false
set_option linter.unusedSimpArgs false

theorem takelaw_no (A : Option Addr) (n c : Nat) (l : List UInt8) (w0 : World) (h : RdB w0 A n c l) (k : Int) (hk : k < 0 ∨ n < k) (h400 : n ≤ 400) :
    Calls Try.prog 5 #[.slice A n c, .int .i64 k] w0 fun e w' => e = .returned (.bool true) ∧ Below w0.heap.size w0 w' := by
  have h4 : ¬ (400 : Int) < n := by omega
  have hr : decide (0 ≤ k) = true → ¬ k ≤ n := by intro h; have := of_decide_eq_true h; omega
  rcases (show k < 0 ∨ (0 ≤ k ∧ n < k) by omega) with h0 | ⟨h0, h1⟩
  all_goals
    go_enter Try.func5, Try.ntmps5
    go_wp2_with fail
    refine (awake_any _).mono ?_
    rintro e w1 ⟨rfl, hb1⟩
    go_wp2_with fail
    refine (take_no _ _ _ _ _ (by omega)).mono ?_
    rintro e w2 ⟨rfl, rfl⟩
    go_wp2_with fail
    refine (get_no _ _ _ _ _ (by omega)).mono ?_
    rintro e w3 ⟨rfl, rfl⟩
    go_wp2_with fail
    refine wp_region_rel (by kernel_rfl) (by decide +kernel) (by rfl) ?_
    repeat (first
      | (refine rel_skip ⟨_, _, _, _, rfl, rfl, rfl, ?_⟩ ?_
         focus (intro h; cases h; done))
      | refine rel_move _ (Just _) (.inl rfl) (by first | exact .inl rfl | exact .inr ⟨_, _, _, rfl, rfl, rfl⟩) rfl (lasts_just _) ?_
      | refine rel_move _ (Just _) (.inr rfl) (by first | exact .inl rfl | exact .inr ⟨_, _, _, rfl, rfl, rfl⟩) rfl (lasts_just _) ?_
      | refine rel_moveC _ (.inl rfl) (by first | exact .inl rfl | exact .inr ⟨_, _, _, rfl, rfl, rfl⟩) ?_
      | refine rel_moveC _ (.inr rfl) (by first | exact .inl rfl | exact .inr ⟨_, _, _, rfl, rfl, rfl⟩) ?_
      | refine rel_str _ _ rfl (by first | exact .inl rfl | exact .inr ⟨_, _, _, rfl, rfl, rfl⟩) rfl ?_
      | refine rel_lenB _ _ rfl (by first | exact .inl rfl | exact .inr ⟨_, _, _, rfl, rfl, rfl⟩) rfl ?_
      | refine rel_move _ (IsB _) (.inl rfl) (by first | exact .inl rfl | exact .inr ⟨_, _, _, rfl, rfl, rfl⟩) rfl (lasts_isB _) ?_
      | refine rel_move _ (IsB _) (.inr rfl) (by first | exact .inl rfl | exact .inr ⟨_, _, _, rfl, rfl, rfl⟩) rfl (lasts_isB _) ?_
      | (refine rel_exact ?_ (by first | exact .inl rfl | exact .inr ⟨_, _, _, rfl, rfl, rfl⟩) ?_ ?_
         rotate_left
         (intro ρ W hρ hC hk
          simp [known, looks, Op.operands, Call.operands, slotFact, Just, List.lookup] at hk
          obtain ⟨hρ1, hρ2, hρ3⟩ := hρ
          go_simp
          rfl)))
    refine rel_nil ?_
    intro a W hC hd hsz ht
    refine fin_exit hsz hd ht (of_decide_eq_true (by kernel_rfl)) ?_
    repeat (first
      | refine fin_just ?_
      | (intro _ _))
    refine fin_nil ?_
    simp only [Act.put, Option.getD_some, List.setIfInBounds_toArray, List.set_cons_zero, List.set_cons_succ]
    clear hd hsz ht
    go_wp2
    go_ret
    exact ⟨rfl, bstep hb1 hC⟩

theorem putL_num (l : List UInt8) : putL (num l : Nat) l.length = l := by
  suffices h : ∀ (m : Nat) (l : List UInt8), l.length = m → ∀ (x : Int), putL (x * 256 ^ m + (num l : Nat)) m = l by
    have := h _ l rfl 0
    simpa using this
  intro m
  induction m with
  | zero => intro l h x; rw [List.eq_nil_of_length_eq_zero h]; rfl
  | succ m ih =>
    intro l h x
    obtain ⟨l', y, rfl⟩ : ∃ l' y, l = l' ++ [y] := ⟨l.dropLast, l.getLast (by intro e; simp [e] at h), (List.dropLast_concat_getLast _).symm⟩
    have hl : l'.length = m := by simpa using h
    have hy := y.toNat_lt
    have ih' := ih l' hl x
    have e0 : (x * 256 ^ (m + 1) + (num (l' ++ [y]) : Nat)) / (2 : Int) ^ (8 * 1) = x * 256 ^ m + (num l' : Nat) := by
      rw [num_snoc, Int.pow_succ]
      have : x * (256 ^ m * 256) + ((num l' * 256 + y.toNat : Nat) : Int) = (x * 256 ^ m + (num l' : Nat)) * 256 + (y.toNat : Int) := by
        rw [← Int.mul_assoc]
        generalize x * 256 ^ m = X
        omega
      rw [this, show (2 : Int) ^ (8 * 1) = 256 by decide]
      omega
    have e1 : octAt (x * 256 ^ (m + 1) + (num (l' ++ [y]) : Nat)) 0 = y := by
      unfold octAt
      rw [num_snoc, Int.pow_succ]
      have : x * (256 ^ m * 256) + ((num l' * 256 + y.toNat : Nat) : Int) = (x * 256 ^ m + (num l' : Nat)) * 256 + (y.toNat : Int) := by
        rw [← Int.mul_assoc]
        generalize x * 256 ^ m = X
        omega
      rw [this]
      have : (((x * 256 ^ m + (num l' : Nat)) * 256 + (y.toNat : Int)) / 2 ^ (8 * 0) % 256).toNat = y.toNat := by
        simp only [Nat.mul_zero, Int.pow_zero, Int.ediv_one]
        omega
      rw [this]
      exact UInt8.ofNat_toNat
    refine Eq.trans ?_ (congrArg (· ++ [y]) ih')
    unfold putL
    rw [List.range_succ, List.map_append, List.map_singleton]
    congr 1
    · apply List.map_congr_left
      intro i hi
      rw [List.mem_range] at hi
      rw [show m + 1 - 1 - i = 1 + (m - 1 - i) by omega, ← octAt_div _ 1, e0]
    · rw [show m + 1 - 1 - m = 0 by omega, e1]

theorem str_append (a b : List UInt8) : str a ++ str b = str (a ++ b) := by
  apply ByteArray.ext
  simp [str, ByteArray.data_append]

theorem str_size (l : List UInt8) : (str l).size = l.length := by simp [str, ByteArray.size]
theorem str_split (l : List UInt8) (k : Nat) : str (l.take k) ++ str (l.drop k) = str l := by rw [str_append, List.take_append_drop]
theorem no_over (l : List UInt8) (k : Nat) (h : l.length ≤ 4000000) : ¬ 9223372036854775807 < (str (l.take k)).size + (str (l.drop k)).size := by
  rw [str_size, str_size, List.length_take, List.length_drop]; omega

theorem takelaw_mid (A : Option Addr) (n c : Nat) (l : List UInt8) (w0 : World) (h : RdB w0 A n c l) (k : Nat) (hk : k ≤ n) (hk' : k = 0 ∨ 4 < k) (h400 : n ≤ 400) :
    Calls Try.prog 5 #[.slice A n c, .int .i64 k] w0 fun e w' => e = .returned (.bool true) ∧ Below w0.heap.size w0 w' := by
  have h4 : ¬ (400 : Int) < n := by omega
  have h5 : (k : Int) ≤ n := by omega
  have h6 : 0 ≤ (k : Int) := by omega
  have HK := Lib.hid hk'
  have hd : (decide ((1 : Int) ≤ k) = false) ∨ (decide ((1 : Int) ≤ k) = true ∧ decide ((k : Int) ≤ 4) = false) := by
    rcases hk' with h | h
    · left; simp; omega
    · right; simp; omega
  clear hk'
  rcases hd with hd1 | ⟨hd1, hd2⟩
  all_goals
    go_enter Try.func5, Try.ntmps5
    go_wp2_with fail
    refine (awake_any _).mono ?_
    rintro e w1 ⟨rfl, hb1⟩
    go_wp2_with fail
    refine (take_yes _ _ _ _ k _ (h.below hb1) hk).mono ?_
    rintro e w2 ⟨A2, c2, rfl, hr1, hr2, hb2⟩
    go_wp2_with fail
    refine (get_no _ _ _ _ _ (by have := HK.out; omega)).mono ?_
    rintro e w3 ⟨rfl, rfl⟩
    go_wp2_with fail
    refine wp_region_rel (by kernel_rfl) (by decide +kernel) (by rfl) ?_
    repeat (first
      | (refine rel_skip ⟨_, _, _, _, rfl, rfl, rfl, ?_⟩ ?_
         focus (intro h; cases h; done))
      | refine rel_move _ (Just _) (.inl rfl) (by first | exact .inl rfl | exact .inr ⟨_, _, _, rfl, rfl, rfl⟩) rfl (lasts_just _) ?_
      | refine rel_move _ (Just _) (.inr rfl) (by first | exact .inl rfl | exact .inr ⟨_, _, _, rfl, rfl, rfl⟩) rfl (lasts_just _) ?_
      | refine rel_moveC _ (.inl rfl) (by first | exact .inl rfl | exact .inr ⟨_, _, _, rfl, rfl, rfl⟩) ?_
      | refine rel_moveC _ (.inr rfl) (by first | exact .inl rfl | exact .inr ⟨_, _, _, rfl, rfl, rfl⟩) ?_
      | refine rel_str _ _ rfl (by first | exact .inl rfl | exact .inr ⟨_, _, _, rfl, rfl, rfl⟩) rfl ?_
      | refine rel_lenB _ _ rfl (by first | exact .inl rfl | exact .inr ⟨_, _, _, rfl, rfl, rfl⟩) rfl ?_
      | refine rel_move _ (IsB _) (.inl rfl) (by first | exact .inl rfl | exact .inr ⟨_, _, _, rfl, rfl, rfl⟩) rfl (lasts_isB _) ?_
      | refine rel_move _ (IsB _) (.inr rfl) (by first | exact .inl rfl | exact .inr ⟨_, _, _, rfl, rfl, rfl⟩) rfl (lasts_isB _) ?_
      | (refine rel_exact ?_ (by first | exact .inl rfl | exact .inr ⟨_, _, _, rfl, rfl, rfl⟩) ?_ ?_
         rotate_left
         (intro ρ W hρ hC hk
          simp [known, looks, Op.operands, Call.operands, slotFact, Just, List.lookup] at hk
          obtain ⟨hρ1, hρ2, hρ3⟩ := hρ
          go_simp
          rfl)))
    refine rel_nil ?_
    intro a W hC hd hsz ht
    refine fin_exit hsz hd ht (of_decide_eq_true (by kernel_rfl)) ?_
    repeat (first
      | refine fin_just ?_
      | (intro _ _))
    refine fin_nil ?_
    simp only [Act.put, Option.getD_some, List.setIfInBounds_toArray, List.set_cons_zero, List.set_cons_succ]
    clear hd hsz ht
    have s1 := (hr1.below hC).str
    have s2 := (hr2.below hC).str
    have s3 := (h.below (bstep hb1 (bstep hb2 hC))).str
    have s4 := no_over l k (by have := h.len; omega)
    have s5 := str_split l k
    go_wp2
    go_ret
    exact ⟨rfl, bstep hb1 (bstep hb2 hC)⟩

theorem takelaw_yes (A : Option Addr) (n c : Nat) (l : List UInt8) (w0 : World) (h : RdB w0 A n c l) (k : Nat) (hk : k ≤ n) (h1 : 1 ≤ k) (h4' : k ≤ 4) (h400 : n ≤ 400) :
    Calls Try.prog 5 #[.slice A n c, .int .i64 k] w0 fun e w' => e = .returned (.bool true) ∧ Below w0.heap.size w0 w' := by
  have h4 : ¬ (400 : Int) < n := by omega
  have h5 : (k : Int) ≤ n := by omega
  have h6 : 0 ≤ (k : Int) := by omega
  have h7 : 1 ≤ (k : Int) := by omega
  have h8 : (k : Int) ≤ 4 := by omega
  go_enter Try.func5, Try.ntmps5
  go_wp2_with fail
  refine (awake_any _).mono ?_
  rintro e w1 ⟨rfl, hb1⟩
  go_wp2_with fail
  refine (take_yes _ _ _ _ k _ (h.below hb1) hk).mono ?_
  rintro e w2 ⟨A2, c2, rfl, hr1, hr2, hb2⟩
  go_wp2_with fail
  refine (get_yes _ _ _ _ k _ ((h.below hb1).below hb2) h1 h4' hk).mono ?_
  rintro e w3 ⟨A3, c3, rfl, hr3, hb3⟩
  have f1 := fun W (hC : Below w3.heap.size w3 W) => (hr1.below (bstep hb3 hC)).str
  have f2 := fun W (hC : Below w3.heap.size w3 W) => (hr2.below (bstep hb3 hC)).str
  have f3 := fun W (hC : Below w3.heap.size w3 W) => (hr3.below hC).str
  have HL := Lib.hid h.len
  go_wp2_with fail
  refine wp_region_rel (by kernel_rfl) (by decide +kernel) (by rfl) ?_
  repeat (first
    | (refine rel_skip ⟨_, _, _, _, rfl, rfl, rfl, ?_⟩ ?_
       focus (intro h; cases h; done))
    | refine rel_move _ (Just _) (.inl rfl) (by first | exact .inl rfl | exact .inr ⟨_, _, _, rfl, rfl, rfl⟩) rfl (lasts_just _) ?_
    | refine rel_move _ (Just _) (.inr rfl) (by first | exact .inl rfl | exact .inr ⟨_, _, _, rfl, rfl, rfl⟩) rfl (lasts_just _) ?_
    | refine rel_moveC _ (.inl rfl) (by first | exact .inl rfl | exact .inr ⟨_, _, _, rfl, rfl, rfl⟩) ?_
    | refine rel_moveC _ (.inr rfl) (by first | exact .inl rfl | exact .inr ⟨_, _, _, rfl, rfl, rfl⟩) ?_
    | refine rel_str _ _ rfl (by first | exact .inl rfl | exact .inr ⟨_, _, _, rfl, rfl, rfl⟩) rfl ?_
    | refine rel_lenB _ _ rfl (by first | exact .inl rfl | exact .inr ⟨_, _, _, rfl, rfl, rfl⟩) rfl ?_
    | refine rel_move _ (IsB _) (.inl rfl) (by first | exact .inl rfl | exact .inr ⟨_, _, _, rfl, rfl, rfl⟩) rfl (lasts_isB _) ?_
    | refine rel_move _ (IsB _) (.inr rfl) (by first | exact .inl rfl | exact .inr ⟨_, _, _, rfl, rfl, rfl⟩) rfl (lasts_isB _) ?_
    | (refine rel_exact ?_ (by first | exact .inl rfl | exact .inr ⟨_, _, _, rfl, rfl, rfl⟩) ?_ ?_
       rotate_left
       (intro ρ W hρ hC hk
        simp [known, looks, Op.operands, Call.operands, slotFact, Just, List.lookup] at hk
        obtain ⟨hρ1, hρ2, hρ3⟩ := hρ
        go_simp
        rfl)))
  refine rel_op (IsB (l.take k)) (lasts_isB _) (by first | exact .inl rfl | exact .inr ⟨_, _, _, rfl, rfl, rfl⟩) ?_ ?_
  · intro ρ W hρ hC hk
    simp [known, looks, Op.operands, Call.operands, slotFact, Just, List.lookup] at hk
    obtain ⟨hρ1, hρ2, hρ3⟩ := hρ
    go_simp
    refine ⟨Below.refl _ _, (put_isB _ _ _ _ _ k _ (RdB.nil _) h1 h4' (by omega)).mono ?_⟩
    have hp := putL_num (l.take k)
    rw [List.length_take, Nat.min_eq_left (by have := HL.out; omega)] at hp
    rw [hp]
    exact fun _ _ hh => hh
  repeat (first
    | (refine rel_skip ⟨_, _, _, _, rfl, rfl, rfl, ?_⟩ ?_
       focus (intro h; cases h; done))
    | refine rel_move _ (Just _) (.inl rfl) (by first | exact .inl rfl | exact .inr ⟨_, _, _, rfl, rfl, rfl⟩) rfl (lasts_just _) ?_
    | refine rel_move _ (Just _) (.inr rfl) (by first | exact .inl rfl | exact .inr ⟨_, _, _, rfl, rfl, rfl⟩) rfl (lasts_just _) ?_
    | refine rel_moveC _ (.inl rfl) (by first | exact .inl rfl | exact .inr ⟨_, _, _, rfl, rfl, rfl⟩) ?_
    | refine rel_moveC _ (.inr rfl) (by first | exact .inl rfl | exact .inr ⟨_, _, _, rfl, rfl, rfl⟩) ?_
    | refine rel_str _ _ rfl (by first | exact .inl rfl | exact .inr ⟨_, _, _, rfl, rfl, rfl⟩) rfl ?_
    | refine rel_lenB _ _ rfl (by first | exact .inl rfl | exact .inr ⟨_, _, _, rfl, rfl, rfl⟩) rfl ?_
    | refine rel_move _ (IsB _) (.inl rfl) (by first | exact .inl rfl | exact .inr ⟨_, _, _, rfl, rfl, rfl⟩) rfl (lasts_isB _) ?_
    | refine rel_move _ (IsB _) (.inr rfl) (by first | exact .inl rfl | exact .inr ⟨_, _, _, rfl, rfl, rfl⟩) rfl (lasts_isB _) ?_
    | (refine rel_exact ?_ (by first | exact .inl rfl | exact .inr ⟨_, _, _, rfl, rfl, rfl⟩) ?_ ?_
       rotate_left
       (intro ρ W hρ hC hk
        simp [known, looks, Op.operands, Call.operands, slotFact, Just, List.lookup] at hk
        obtain ⟨hρ1, hρ2, hρ3⟩ := hρ
        go_simp
        rfl)))
  refine rel_nil ?_
  intro a W hC hd hsz ht
  refine fin_exit hsz hd ht (of_decide_eq_true (by kernel_rfl)) ?_
  repeat (first
    | refine fin_just ?_
    | (intro _ _))
  refine fin_nil ?_
  simp only [Act.put, Option.getD_some, List.setIfInBounds_toArray, List.set_cons_zero, List.set_cons_succ]
  clear hd hsz ht
  have s1 := f1 _ hC
  have s2 := f2 _ hC
  have s3 := (h.below (bstep hb1 (bstep hb2 (bstep hb3 hC)))).str
  have s4 := no_over l k (by have := HL.out; omega)
  have s5 := str_split l k
  go_wp2
  go_ret
  exact ⟨rfl, bstep hb1 (bstep hb2 (bstep hb3 hC))⟩

theorem take_law (w0 : World) (A : Option Addr) (n c : Nat) (l : List UInt8) (h : RdB w0 A n c l) (k : Int) (hk : -9223372036854775808 ≤ k ∧ k ≤ 9223372036854775807) :
    Calls Try.prog 5 #[.slice A n c, .int .i64 k] w0 fun e w' => e = .returned (.bool true) ∧ Below w0.heap.size w0 w' := by
  by_cases h400 : n ≤ 400
  · by_cases hno : k < 0 ∨ n < k
    · exact takelaw_no A n c l w0 h k hno h400
    · obtain ⟨m, rfl⟩ := Int.eq_ofNat_of_zero_le (show 0 ≤ k by omega)
      by_cases hm : m = 0 ∨ 4 < m
      · exact takelaw_mid A n c l w0 h m (by omega) hm h400
      · exact takelaw_yes A n c l w0 h m (by omega) (by omega) (by omega) h400
  · have h4 : (400 : Int) < n := by omega
    clear hk
    go_enter Try.func5, Try.ntmps5
    go_wp2_with fail
    refine (awake_any _).mono ?_
    rintro e w1 ⟨rfl, hb1⟩
    go_wp2
    go_ret
    exact ⟨rfl, hb1⟩
end Go.Proofs.Ytpoikmbogcggkaa
