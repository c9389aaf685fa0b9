/- The walks of package msg: sizes, what may be, the marks. -/
import Derived.Test.YtpoikmbogcggkaaBy
namespace Go.Proofs.Ytpoikmbogcggkaa
open Go.RowKit
set_option maxHeartbeats 400000
set_option linter.unusedVariables false
set_option linter.unusedSimpArgs false

def leastZ (k : Int) : Int := if (k == 1) = true then 29 else if (k == 2) = true then 23 else if (k == 3) = true then 21 else if (k == 4) = true then 19 else 0
theorem leastZ_bd (k : Int) : 0 ≤ leastZ k ∧ leastZ k ≤ 29 := by unfold leastZ; repeat (split; omega); omega
theorem least_any (k : Int) (w : World) : Calls Try.prog 20 #[.int .i64 k] w fun e w' => e = .returned (.int .i64 (leastZ k)) ∧ w = w' := by
  cases h1 : (k == 1)
  · cases h2 : (k == 2)
    · cases h3 : (k == 3)
      · cases h4 : (k == 4)
        all_goals
          have HF := Lib.hid (show leastZ k = _ by simp only [leastZ, h1, h2, h3, h4, if_true, Bool.false_eq_true, if_false]; rfl)
          go_enter Try.func20, Try.ntmps20
          go_wp2
          go_ret
          exact ⟨by rw [HF.out]; rfl, rfl⟩
      · have HF := Lib.hid (show leastZ k = _ by simp only [leastZ, h1, h2, h3, if_true, Bool.false_eq_true, if_false]; rfl)
        go_enter Try.func20, Try.ntmps20
        go_wp2
        go_ret
        exact ⟨by rw [HF.out]; rfl, rfl⟩
    · have HF := Lib.hid (show leastZ k = _ by simp only [leastZ, h1, h2, if_true, Bool.false_eq_true, if_false]; rfl)
      go_enter Try.func20, Try.ntmps20
      go_wp2
      go_ret
      exact ⟨by rw [HF.out]; rfl, rfl⟩
  · have HF := Lib.hid (show leastZ k = _ by simp only [leastZ, h1, if_true]; rfl)
    go_enter Try.func20, Try.ntmps20
    go_wp2
    go_ret
    exact ⟨by rw [HF.out]; rfl, rfl⟩

def wrongB (k s : Int) : Bool := decide (s < leastZ k) || (k == 4 && s != 19)
theorem wrong_any (k s : Int) (w : World) : Calls Try.prog 28 #[.int .i64 k, .int .i64 s] w fun e w' => e = .returned (.bool (wrongB k s)) ∧ w = w' := by
  obtain ⟨L, hL⟩ : ∃ L, leastZ k = L := ⟨_, rfl⟩
  have HL := Lib.hid hL
  cases hd : decide (s < L) <;> cases h4 : (k == 4) <;> cases h5 : (s != 19)
  all_goals
    have HF := Lib.hid (show wrongB k s = _ by simp only [wrongB, hL, hd, h4, h5]; rfl)
    clear hL
    go_enter Try.func28, Try.ntmps28
    go_wp2_with fail
    with_reducible refine (least_any _ _).mono ?_
    rw [HL.out]
    rintro e w1 ⟨rfl, rfl⟩
    go_wp2
    go_ret
    exact ⟨by rw [HF.out]; rfl, rfl⟩

def saneB (t : Int) (n : Nat) : Bool := decide (0 < leastZ t) && (!wrongB t (19 + n) && decide ((19 : Int) + n ≤ 4096))
theorem sane_any (t : Int) (A : Option Addr) (n c : Nat) (w : World) (hn : n ≤ 140737488355328) :
    Calls Try.prog 22 #[.agg #[.int .i64 t, .slice A n c]] w fun e w' => e = .returned (.bool (saneB t n)) ∧ Below w.heap.size w w' := by
  obtain ⟨L, hL⟩ : ∃ L, leastZ t = L := ⟨_, rfl⟩
  obtain ⟨W, hW⟩ : ∃ W, wrongB t (19 + n) = W := ⟨_, rfl⟩
  have HL := Lib.hid hL
  have HW := Lib.hid hW
  have hHF := show saneB t n = (decide (0 < L) && (!W && decide ((19 : Int) + n ≤ 4096))) by simp only [saneB, hL, hW]
  have HF := Lib.hid hHF
  clear hL hW hHF
  cases hd : decide (0 < L) <;> cases W <;> cases h5 : decide ((19 : Int) + n ≤ 4096)
  all_goals
    have HD := Lib.hid hd
    have H5 := Lib.hid h5
    go_enter Try.func22, Try.ntmps22
    go_wp2_with fail
    with_reducible refine (least_any _ _).mono ?_
    rw [HL.out]
    rintro e w1 ⟨rfl, rfl⟩
    try
      (go_wp2_with fail
       with_reducible refine (wrong_any _ _ _).mono ?_
       rw [HW.out]
       rintro e w1 ⟨rfl, rfl⟩)
    go_wp2
    go_ret
    exact ⟨by rw [HF.out, HD.out, H5.out]; rfl, bnew _ _⟩

theorem marked_any (w : World) : Calls Try.prog 29 #[] w (Ret (IsB (List.replicate 16 255)) w) := by
  have hr : RdB (w.alloc (.cells #[.int .u8 255] 5)) (some ⟨w.heap.size, 0, none⟩) 1 1 [255] := ⟨rfl, Nat.le_refl _, by unfold maxLen; omega, lies_new w (.int .u8 255) 5⟩
  have hc := repeat_any _ _ hr
  go_enter Try.func29, Try.ntmps29
  go_wp2_with fail
  with_reducible refine hc.mono ?_
  rintro e w1 ⟨_, rfl, ⟨A, n, c, rfl, hr1⟩, hb⟩
  clear hc
  go_wp2
  go_ret
  exact ⟨_, rfl, ⟨_, _, _, rfl, hr1⟩, bstep (bnew _ _) hb⟩
end Go.Proofs.Ytpoikmbogcggkaa
