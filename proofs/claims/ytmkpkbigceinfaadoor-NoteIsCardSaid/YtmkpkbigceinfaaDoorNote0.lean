/- The walk of note.Sane. -/
import Derived.Test.YtmkpkbigceinfaaDoorNoteW
namespace Go.Proofs.YtmkpkbigceinfaaDoor
open Go.RowKit
set_option maxHeartbeats 400000
set_option linter.unusedVariables false
set_option linter.unusedSimpArgs false

def nsaneB (c s : Int) (n : Nat) : Bool := decide (1 ≤ c ∧ c ≤ 255 ∧ 0 ≤ s ∧ s ≤ 255 ∧ n ≤ 4075)
theorem nsane_any (c s : Int) (A : Option Addr) (n k : Nat) (w : World) (hn : n ≤ 140737488355328) :
    Calls Tryd.prog 11 #[.agg #[.int .i64 c, .int .i64 s, .slice A n k]] w fun e w' => e = .returned (.bool (nsaneB c s n)) ∧ Below w.heap.size w w' := by
  rcases (show c ≤ 0 ∨ (1 ≤ c ∧ 256 ≤ c) ∨ (1 ≤ c ∧ c ≤ 255 ∧ s ≤ -1) ∨ (1 ≤ c ∧ c ≤ 255 ∧ 0 ≤ s ∧ 256 ≤ s) ∨ (1 ≤ c ∧ c ≤ 255 ∧ 0 ≤ s ∧ s ≤ 255 ∧ 4076 ≤ n) ∨ (1 ≤ c ∧ c ≤ 255 ∧ 0 ≤ s ∧ s ≤ 255 ∧ n ≤ 4075) by omega) with h1 | ⟨h1, h2⟩ | ⟨h1, h2, h3⟩ | ⟨h1, h2, h3, h4⟩ | ⟨h1, h2, h3, h4, h5⟩ | ⟨h1, h2, h3, h4, h5⟩
  · have HF := Lib.hid (show nsaneB c s n = false from by unfold nsaneB; simp; omega)
    go_enter Tryd.func11, Tryd.ntmps11
    go_wp2
    go_ret
    exact ⟨by rw [HF.out]; first | rfl | exact congrArg (fun b => Ending.returned (Value.bool b)) (decide_eq_false (p := (n : Int) ≤ 4075) (by omega)) | exact congrArg (fun b => Ending.returned (Value.bool b)) (decide_eq_true (p := (n : Int) ≤ 4075) (by omega)), bnew _ _⟩
  · have HF := Lib.hid (show nsaneB c s n = false from by unfold nsaneB; simp; omega)
    go_enter Tryd.func11, Tryd.ntmps11
    go_wp2
    go_ret
    exact ⟨by rw [HF.out]; first | rfl | exact congrArg (fun b => Ending.returned (Value.bool b)) (decide_eq_false (p := (n : Int) ≤ 4075) (by omega)) | exact congrArg (fun b => Ending.returned (Value.bool b)) (decide_eq_true (p := (n : Int) ≤ 4075) (by omega)), bnew _ _⟩
  · have HF := Lib.hid (show nsaneB c s n = false from by unfold nsaneB; simp; omega)
    go_enter Tryd.func11, Tryd.ntmps11
    go_wp2
    go_ret
    exact ⟨by rw [HF.out]; first | rfl | exact congrArg (fun b => Ending.returned (Value.bool b)) (decide_eq_false (p := (n : Int) ≤ 4075) (by omega)) | exact congrArg (fun b => Ending.returned (Value.bool b)) (decide_eq_true (p := (n : Int) ≤ 4075) (by omega)), bnew _ _⟩
  · have HF := Lib.hid (show nsaneB c s n = false from by unfold nsaneB; simp; omega)
    go_enter Tryd.func11, Tryd.ntmps11
    go_wp2
    go_ret
    exact ⟨by rw [HF.out]; first | rfl | exact congrArg (fun b => Ending.returned (Value.bool b)) (decide_eq_false (p := (n : Int) ≤ 4075) (by omega)) | exact congrArg (fun b => Ending.returned (Value.bool b)) (decide_eq_true (p := (n : Int) ≤ 4075) (by omega)), bnew _ _⟩
  · have HF := Lib.hid (show nsaneB c s n = false from by unfold nsaneB; simp; omega)
    go_enter Tryd.func11, Tryd.ntmps11
    go_wp2
    go_ret
    exact ⟨by rw [HF.out]; first | rfl | exact congrArg (fun b => Ending.returned (Value.bool b)) (decide_eq_false (p := (n : Int) ≤ 4075) (by omega)) | exact congrArg (fun b => Ending.returned (Value.bool b)) (decide_eq_true (p := (n : Int) ≤ 4075) (by omega)), bnew _ _⟩
  · have HF := Lib.hid (show nsaneB c s n = true from by unfold nsaneB; simp; omega)
    go_enter Tryd.func11, Tryd.ntmps11
    go_wp2
    go_ret
    exact ⟨by rw [HF.out]; first | rfl | exact congrArg (fun b => Ending.returned (Value.bool b)) (decide_eq_false (p := (n : Int) ≤ 4075) (by omega)) | exact congrArg (fun b => Ending.returned (Value.bool b)) (decide_eq_true (p := (n : Int) ≤ 4075) (by omega)), bnew _ _⟩
end Go.Proofs.YtmkpkbigceinfaaDoor
