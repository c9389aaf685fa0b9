/- The law OctetIs: the walks of package octet and of its reference told by the same functions. -/
import Derived.Test.YtpoikmbogcggkaaOct3
import Derived.Test.YtpoikmbogcggkaaOct5
namespace Go.Proofs.Ytpoikmbogcggkaa
open Go.RowKit
set_option maxHeartbeats 1000000
set_option linter.unusedVariables false
set_option linter.unusedSimpArgs false

def putAll (l : List UInt8) (v k : Int) : List UInt8 := if 1 ≤ k ∧ k ≤ 4 then l ++ putL v k.toNat else l
def getOk (l : List UInt8) (k : Int) : Bool := decide (1 ≤ k ∧ k ≤ 4 ∧ k ≤ l.length)
def getX (l : List UInt8) (k : Int) : Int := if getOk l k then (num (l.take k.toNat) : Nat) else 0
def getR (l : List UInt8) (k : Int) : List UInt8 := if getOk l k then l.drop k.toNat else []
def takeOk (l : List UInt8) (k : Int) : Bool := decide (0 ≤ k ∧ k ≤ l.length)
def takeH (l : List UInt8) (k : Int) : List UInt8 := if takeOk l k then l.take k.toNat else []
def takeT (l : List UInt8) (k : Int) : List UInt8 := if takeOk l k then l.drop k.toNat else []

theorem put_any (A : Option Addr) (n c : Nat) (l : List UInt8) (v k : Int) (w : World) (h : RdB w A n c l) (hn : n ≤ 140737488355000) :
    Calls Try.prog 13 #[.slice A n c, .int .i64 v, .int .i64 k] w (Ret (IsB (putAll l v k)) w) := by
  unfold putAll
  by_cases hk : 1 ≤ k ∧ k ≤ 4
  · rw [if_pos hk]
    obtain ⟨m, rfl⟩ := Int.eq_ofNat_of_zero_le (show 0 ≤ k by omega)
    exact put_isB A n c l v m w h (by omega) (by omega) hn
  · rw [if_neg hk]
    exact (put_no A n c v k w (by omega)).mono fun e w' ⟨he, hw⟩ => by subst hw; exact ⟨_, he, ⟨_, _, _, rfl, h⟩, Below.refl _ _⟩
theorem rput_any (A : Option Addr) (n c : Nat) (l : List UInt8) (v k : Int) (w : World) (h : RdB w A n c l) (hn : n ≤ 140737488355000) :
    Calls Try.prog 14 #[.slice A n c, .int .i64 v, .int .i64 k] w (Ret (IsB (putAll l v k)) w) := by
  unfold putAll
  by_cases hk : 1 ≤ k ∧ k ≤ 4
  · rw [if_pos hk]
    obtain ⟨m, rfl⟩ := Int.eq_ofNat_of_zero_le (show 0 ≤ k by omega)
    exact rput_yes A n c l v m w h hn (by omega) (by omega)
  · rw [if_neg hk]
    exact rput_no A n c l v k w h hn (by omega)

def GotAny (w : World) (l : List UInt8) (k : Int) (e : Ending) (w' : World) : Prop :=
  ∃ A2 n2 c2, e = .returned (.tuple #[.int .i64 (getX l k), .slice A2 n2 c2, .bool (getOk l k)]) ∧ RdB w' A2 n2 c2 (getR l k) ∧ Below w.heap.size w w'
theorem gotAny_no {w : World} {l : List UInt8} {k : Int} (hk : ¬ (1 ≤ k ∧ k ≤ 4 ∧ k ≤ l.length)) (e : Ending) (w' : World) (h : e = .returned (.tuple #[.int .i64 0, .slice none 0 0, .bool false]) ∧ w = w') : GotAny w l k e w' := by
  obtain ⟨he, hw⟩ := h
  subst hw
  have ho : getOk l k = false := decide_eq_false hk
  refine ⟨none, 0, 0, ?_, ?_, Below.refl _ _⟩
  · rw [he]; simp [getX, ho]
  · simp [getR, ho, RdB.nil]
theorem gotAny_yes {w : World} {l : List UInt8} {n k : Nat} (h1 : 1 ≤ k) (h4 : k ≤ 4) (hk : k ≤ n) (hl : l.length = n) (e : Ending) (w' : World) (h : Got w n k l e w') : GotAny w l k e w' := by
  obtain ⟨A2, c2, he, hr, hb⟩ := h
  have ho : getOk l k = true := decide_eq_true (by omega)
  refine ⟨A2, n - k, c2, ?_, ?_, hb⟩
  · rw [he]; simp [getX, ho]
  · simpa [getR, ho] using hr
theorem get_any (A : Option Addr) (n c : Nat) (l : List UInt8) (k : Int) (w : World) (h : RdB w A n c l) :
    Calls Try.prog 9 #[.slice A n c, .int .i64 k] w (GotAny w l k) := by
  have hl := h.len
  by_cases hk : 1 ≤ k ∧ k ≤ 4 ∧ k ≤ l.length
  · obtain ⟨m, rfl⟩ := Int.eq_ofNat_of_zero_le (show 0 ≤ k by omega)
    exact (get_yes A n c l m w h (by omega) (by omega) (by omega)).mono (gotAny_yes (by omega) (by omega) (by omega) hl)
  · exact (get_no A n c k w (by omega)).mono (gotAny_no hk)
theorem rget_any (A : Option Addr) (n c : Nat) (l : List UInt8) (k : Int) (w : World) (h : RdB w A n c l) :
    Calls Try.prog 10 #[.slice A n c, .int .i64 k] w (GotAny w l k) := by
  have hl := h.len
  by_cases hk : 1 ≤ k ∧ k ≤ 4 ∧ k ≤ l.length
  · obtain ⟨m, rfl⟩ := Int.eq_ofNat_of_zero_le (show 0 ≤ k by omega)
    exact (rget_yes A n c l m w h (by omega) (by omega) (by omega)).mono (gotAny_yes (by omega) (by omega) (by omega) hl)
  · exact (rget_no A n c k w (by omega)).mono (gotAny_no hk)

def TakenAny (w : World) (l : List UInt8) (k : Int) (e : Ending) (w' : World) : Prop :=
  ∃ A1 n1 c1 A2 n2 c2, e = .returned (.tuple #[.slice A1 n1 c1, .slice A2 n2 c2, .bool (takeOk l k)]) ∧ RdB w' A1 n1 c1 (takeH l k) ∧ RdB w' A2 n2 c2 (takeT l k) ∧ Below w.heap.size w w'
theorem takenAny_no {w : World} {l : List UInt8} {k : Int} (hk : ¬ (0 ≤ k ∧ k ≤ l.length)) (e : Ending) (w' : World) (h : e = .returned (.tuple #[.slice none 0 0, .slice none 0 0, .bool false]) ∧ w = w') : TakenAny w l k e w' := by
  obtain ⟨he, hw⟩ := h
  subst hw
  have ho : takeOk l k = false := decide_eq_false hk
  refine ⟨none, 0, 0, none, 0, 0, ?_, ?_, ?_, Below.refl _ _⟩
  · rw [he]; simp [ho]
  · simp [takeH, ho, RdB.nil]
  · simp [takeT, ho, RdB.nil]
theorem take_any (A : Option Addr) (n c : Nat) (l : List UInt8) (k : Int) (w : World) (h : RdB w A n c l) :
    Calls Try.prog 11 #[.slice A n c, .int .i64 k] w (TakenAny w l k) := by
  have hl := h.len
  by_cases hk : 0 ≤ k ∧ k ≤ l.length
  · obtain ⟨m, rfl⟩ := Int.eq_ofNat_of_zero_le (show 0 ≤ k by omega)
    refine (take_yes A n c l m w h (by omega)).mono fun e w' ⟨A2, c2, he, h1, h2, hb⟩ => ?_
    have ho : takeOk l m = true := decide_eq_true (by omega)
    exact ⟨A, m, m, A2, n - m, c2, by rw [he, ho], by simpa [takeH, ho] using h1, by simpa [takeT, ho] using h2, hb⟩
  · exact (take_no A n c k w (by omega)).mono (takenAny_no hk)
theorem rtake_any (A : Option Addr) (n c : Nat) (l : List UInt8) (k : Int) (w : World) (h : RdB w A n c l) :
    Calls Try.prog 12 #[.slice A n c, .int .i64 k] w (TakenAny w l k) := by
  have hl := h.len
  by_cases hk : 0 ≤ k ∧ k ≤ l.length
  · obtain ⟨m, rfl⟩ := Int.eq_ofNat_of_zero_le (show 0 ≤ k by omega)
    refine (rtake_yes A n c l m w h (by omega)).mono fun e w' ⟨A2, c2, he, h1, h2, hb⟩ => ?_
    have ho : takeOk l m = true := decide_eq_true (by omega)
    exact ⟨A, m, c, A2, n - m, c2, by rw [he, ho], by simpa [takeH, ho] using h1, by simpa [takeT, ho] using h2, hb⟩
  · exact (rtake_no A n c k w (by omega)).mono (takenAny_no hk)

theorem is_law (w0 : World) (A : Option Addr) (n c : Nat) (l : List UInt8) (h : RdB w0 A n c l) (v : Int) (hv : -9223372036854775808 ≤ v ∧ v ≤ 9223372036854775807) (k : Int) (hk : -9223372036854775808 ≤ k ∧ k ≤ 9223372036854775807) :
    Calls Try.prog 3 #[.slice A n c, .int .i64 v, .int .i64 k] w0 fun e w' => e = .returned (.bool true) ∧ Below w0.heap.size w0 w' := by
  clear hv hk
  by_cases h400 : n ≤ 400
  · have h4 : ¬ (400 : Int) < n := by omega
    go_enter Try.func3, Try.ntmps3
    go_wp2_with fail
    refine (awake_any _).mono ?_
    rintro e w1 ⟨rfl, hb1⟩
    go_wp2_with fail
    refine (get_any _ _ _ _ _ _ (h.below hb1)).mono ?_
    rintro e w2 ⟨A2, n2, c2, rfl, hr2, hb2⟩
    go_wp2_with fail
    refine (rget_any _ _ _ _ _ _ (h.below (bstep hb1 hb2))).mono ?_
    rintro e w3 ⟨A3, n3, c3, rfl, hr3, hb3⟩
    go_wp2_with fail
    refine (take_any _ _ _ _ _ _ (h.below (bstep hb1 (bstep hb2 hb3)))).mono ?_
    rintro e w4 ⟨A4, n4, c4, A4', n4', c4', rfl, hr4, hr4', hb4⟩
    go_wp2_with fail
    refine (rtake_any _ _ _ _ _ _ (h.below (bstep hb1 (bstep hb2 (bstep hb3 hb4))))).mono ?_
    rintro e w5 ⟨A5, n5, c5, A5', n5', c5', rfl, hr5, hr5', hb5⟩
    have f2 := fun W (hC : Below w5.heap.size w5 W) => (hr2.below (bstep hb3 (bstep hb4 (bstep hb5 hC)))).str
    have f3 := fun W (hC : Below w5.heap.size w5 W) => (hr3.below (bstep hb4 (bstep hb5 hC))).str
    have f4 := fun W (hC : Below w5.heap.size w5 W) => (hr4.below (bstep hb5 hC)).str
    have f4' := fun W (hC : Below w5.heap.size w5 W) => (hr4'.below (bstep hb5 hC)).str
    have f5 := fun W (hC : Below w5.heap.size w5 W) => (hr5.below hC).str
    have f5' := fun W (hC : Below w5.heap.size w5 W) => (hr5'.below hC).str
    have HB := Lib.hid (bstep hb1 (bstep hb2 (bstep hb3 (bstep hb4 hb5))))
    clear hr2 hr3 hr4 hr4' hr5 hr5' hb1 hb2 hb3 hb4
    generalize getX l k = X at *
    generalize getOk l k = O at *
    generalize takeOk l k = O2 at *
    generalize str (getR l k) = S1 at *
    generalize str (takeH l k) = S2 at *
    generalize str (takeT l k) = S3 at *
    go_wp2_with fail
    refine wp_region_rel (by kernel_rfl) (by decide +kernel) (by rfl) ?_
    repeat (first
      | (refine rel_skip ⟨_, _, _, _, rfl, rfl, rfl, ?_⟩ ?_
         focus (intro h; cases h; done))
      | refine rel_move _ (Just _) (.inl rfl) (by first | exact .inl rfl | exact .inr ⟨_, _, _, rfl, rfl, rfl⟩) rfl (lasts_just _) ?_
      | refine rel_move _ (Just _) (.inr rfl) (by first | exact .inl rfl | exact .inr ⟨_, _, _, rfl, rfl, rfl⟩) rfl (lasts_just _) ?_
      | refine rel_moveC _ (.inl rfl) (by first | exact .inl rfl | exact .inr ⟨_, _, _, rfl, rfl, rfl⟩) ?_
      | refine rel_moveC _ (.inr rfl) (by first | exact .inl rfl | exact .inr ⟨_, _, _, rfl, rfl, rfl⟩) ?_
      | refine rel_str _ _ rfl (by first | exact .inl rfl | exact .inr ⟨_, _, _, rfl, rfl, rfl⟩) rfl ?_
      | refine rel_lenB _ _ rfl (by first | exact .inl rfl | exact .inr ⟨_, _, _, rfl, rfl, rfl⟩) rfl ?_
      | refine rel_move _ (IsB _) (.inl rfl) (by first | exact .inl rfl | exact .inr ⟨_, _, _, rfl, rfl, rfl⟩) rfl (lasts_isB _) ?_
      | refine rel_move _ (IsB _) (.inr rfl) (by first | exact .inl rfl | exact .inr ⟨_, _, _, rfl, rfl, rfl⟩) rfl (lasts_isB _) ?_
      | (refine rel_exact ?_ (by first | exact .inl rfl | exact .inr ⟨_, _, _, rfl, rfl, rfl⟩) ?_ ?_
         rotate_left
         (intro ρ W hρ hC hk
          simp [known, looks, Op.operands, Call.operands, slotFact, Just, List.lookup] at hk
          obtain ⟨hρ1, hρ2, hρ3⟩ := hρ
          go_simp
          rfl)))
    refine rel_op (IsB (putAll l v k)) (lasts_isB _) (by first | exact .inl rfl | exact .inr ⟨_, _, _, rfl, rfl, rfl⟩) ?_ ?_
    · intro ρ W hρ hC hk
      simp [known, looks, Op.operands, Call.operands, slotFact, Just, List.lookup] at hk
      obtain ⟨hρ1, hρ2, hρ3⟩ := hρ
      go_simp
      exact ⟨Below.refl _ _, put_any _ _ _ _ _ _ _ (h.below (bstep HB.out hC)) (by omega)⟩
    repeat (first
      | (refine rel_skip ⟨_, _, _, _, rfl, rfl, rfl, ?_⟩ ?_
         focus (intro h; cases h; done))
      | refine rel_move _ (Just _) (.inl rfl) (by first | exact .inl rfl | exact .inr ⟨_, _, _, rfl, rfl, rfl⟩) rfl (lasts_just _) ?_
      | refine rel_move _ (Just _) (.inr rfl) (by first | exact .inl rfl | exact .inr ⟨_, _, _, rfl, rfl, rfl⟩) rfl (lasts_just _) ?_
      | refine rel_moveC _ (.inl rfl) (by first | exact .inl rfl | exact .inr ⟨_, _, _, rfl, rfl, rfl⟩) ?_
      | refine rel_moveC _ (.inr rfl) (by first | exact .inl rfl | exact .inr ⟨_, _, _, rfl, rfl, rfl⟩) ?_
      | refine rel_str _ _ rfl (by first | exact .inl rfl | exact .inr ⟨_, _, _, rfl, rfl, rfl⟩) rfl ?_
      | refine rel_lenB _ _ rfl (by first | exact .inl rfl | exact .inr ⟨_, _, _, rfl, rfl, rfl⟩) rfl ?_
      | refine rel_move _ (IsB _) (.inl rfl) (by first | exact .inl rfl | exact .inr ⟨_, _, _, rfl, rfl, rfl⟩) rfl (lasts_isB _) ?_
      | refine rel_move _ (IsB _) (.inr rfl) (by first | exact .inl rfl | exact .inr ⟨_, _, _, rfl, rfl, rfl⟩) rfl (lasts_isB _) ?_
      | (refine rel_exact ?_ (by first | exact .inl rfl | exact .inr ⟨_, _, _, rfl, rfl, rfl⟩) ?_ ?_
         rotate_left
         (intro ρ W hρ hC hk
          simp [known, looks, Op.operands, Call.operands, slotFact, Just, List.lookup] at hk
          obtain ⟨hρ1, hρ2, hρ3⟩ := hρ
          go_simp
          rfl)))
    refine rel_op (IsB (putAll l v k)) (lasts_isB _) (by first | exact .inl rfl | exact .inr ⟨_, _, _, rfl, rfl, rfl⟩) ?_ ?_
    · intro ρ W hρ hC hk
      simp [known, looks, Op.operands, Call.operands, slotFact, Just, List.lookup] at hk
      obtain ⟨hρ1, hρ2, hρ3⟩ := hρ
      go_simp
      exact ⟨Below.refl _ _, rput_any _ _ _ _ _ _ _ (h.below (bstep HB.out hC)) (by omega)⟩
    repeat (first
      | (refine rel_skip ⟨_, _, _, _, rfl, rfl, rfl, ?_⟩ ?_
         focus (intro h; cases h; done))
      | refine rel_move _ (Just _) (.inl rfl) (by first | exact .inl rfl | exact .inr ⟨_, _, _, rfl, rfl, rfl⟩) rfl (lasts_just _) ?_
      | refine rel_move _ (Just _) (.inr rfl) (by first | exact .inl rfl | exact .inr ⟨_, _, _, rfl, rfl, rfl⟩) rfl (lasts_just _) ?_
      | refine rel_moveC _ (.inl rfl) (by first | exact .inl rfl | exact .inr ⟨_, _, _, rfl, rfl, rfl⟩) ?_
      | refine rel_moveC _ (.inr rfl) (by first | exact .inl rfl | exact .inr ⟨_, _, _, rfl, rfl, rfl⟩) ?_
      | refine rel_str _ _ rfl (by first | exact .inl rfl | exact .inr ⟨_, _, _, rfl, rfl, rfl⟩) rfl ?_
      | refine rel_lenB _ _ rfl (by first | exact .inl rfl | exact .inr ⟨_, _, _, rfl, rfl, rfl⟩) rfl ?_
      | refine rel_move _ (IsB _) (.inl rfl) (by first | exact .inl rfl | exact .inr ⟨_, _, _, rfl, rfl, rfl⟩) rfl (lasts_isB _) ?_
      | refine rel_move _ (IsB _) (.inr rfl) (by first | exact .inl rfl | exact .inr ⟨_, _, _, rfl, rfl, rfl⟩) rfl (lasts_isB _) ?_
      | (refine rel_exact ?_ (by first | exact .inl rfl | exact .inr ⟨_, _, _, rfl, rfl, rfl⟩) ?_ ?_
         rotate_left
         (intro ρ W hρ hC hk
          simp [known, looks, Op.operands, Call.operands, slotFact, Just, List.lookup] at hk
          obtain ⟨hρ1, hρ2, hρ3⟩ := hρ
          go_simp
          rfl)))
    refine rel_nil ?_
    intro a W hC hd hsz ht
    have h2 := ht 6
    simp [slotFact, Just, List.lookup] at h2
    clear ht
    go_wp2
    refine bodyPost_ret (results_tmp rfl _ _ _) hd ⟨by rw [Array.getD_eq_getD_getElem?, h2], ?_⟩
    exact bstep HB.out hC
  · have h4 : (400 : Int) < n := by omega
    go_enter Try.func3, Try.ntmps3
    go_wp2_with fail
    refine (awake_any _).mono ?_
    rintro e w1 ⟨rfl, hb1⟩
    go_wp2
    go_ret
    exact ⟨rfl, hb1⟩
end Go.Proofs.Ytpoikmbogcggkaa
