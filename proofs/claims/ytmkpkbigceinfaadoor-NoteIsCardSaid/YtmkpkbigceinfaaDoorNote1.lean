/- The walks of package note: its tables, what is known, what may be. -/
import Derived.Test.YtmkpkbigceinfaaDoorNote0
import Derived.Lib.LaidTab
import Derived.Lib.ItoaNum
namespace Go.Proofs.YtmkpkbigceinfaaDoor
open Go.RowKit
set_option maxHeartbeats 400000
set_option linter.unusedVariables false
set_option linter.unusedSimpArgs false

/-- The rows of what is known, as they lie in memory. -/
def tabK : List Value := [.int .i64 1, .int .i64 1, .int .i64 3, .int .i64 2, .int .i64 1, .int .i64 4, .int .i64 2, .int .i64 6, .int .i64 7, .int .i64 2, .int .i64 11, .int .i64 11, .int .i64 3, .int .i64 1, .int .i64 6, .int .i64 3, .int .i64 8, .int .i64 11, .int .i64 4, .int .i64 0, .int .i64 0, .int .i64 5, .int .i64 0, .int .i64 3, .int .i64 6, .int .i64 1, .int .i64 10]
/-- The names of the codes. -/
def tabN : List Value := [.string (ByteArray.mk #[]), .string (ByteArray.mk #[104, 101, 97, 100, 101, 114]), .string (ByteArray.mk #[111, 112, 101, 110]), .string (ByteArray.mk #[117, 112, 100, 97, 116, 101]), .string (ByteArray.mk #[104, 111, 108, 100]), .string (ByteArray.mk #[102, 115, 109]), .string (ByteArray.mk #[99, 101, 97, 115, 101])]
structure Tab (w : World) : Prop where
  known : ∀ j, ∀ h : j < tabK.length, w.cell? ⟨0, j, none⟩ = some tabK[j]
  names : ∀ j, ∀ h : j < tabN.length, w.cell? ⟨1, j, none⟩ = some tabN[j]
  pow : Lib.TabIs Tryd.prog w "internal/strconv.uint64pow10" .u64 Lib.pow10Tab

theorem knownSize : (Tryd.prog.info? 40).map (·.size) = some tabK.length := by kernel_rfl

def hitAt (a b : Int) : Nat → Bool
  | 0 => (a == 1) && (decide (1 ≤ b) && decide (b ≤ 3))
  | 1 => (a == 2) && (decide (1 ≤ b) && decide (b ≤ 4))
  | 2 => (a == 2) && (decide (6 ≤ b) && decide (b ≤ 7))
  | 3 => (a == 2) && (decide (11 ≤ b) && decide (b ≤ 11))
  | 4 => (a == 3) && (decide (1 ≤ b) && decide (b ≤ 6))
  | 5 => (a == 3) && (decide (8 ≤ b) && decide (b ≤ 11))
  | 6 => (a == 4) && (decide (0 ≤ b) && decide (b ≤ 0))
  | 7 => (a == 5) && (decide (0 ≤ b) && decide (b ≤ 3))
  | 8 => (a == 6) && (decide (1 ≤ b) && decide (b ≤ 10))
  | _ => false
def knownB (a b : Int) : Bool := (List.range 9).any (hitAt a b)
theorem knownB_of (a b : Int) (k : Nat) (hk : k < 9) (h : hitAt a b k = true) : knownB a b = true := List.any_eq_true.2 ⟨k, List.mem_range.2 hk, h⟩
theorem knownB_no (a b : Int) (h : ∀ k, k < 9 → hitAt a b k = false) : knownB a b = false := by
  unfold knownB
  rw [List.any_eq_false]
  intro k hk
  rw [h k (List.mem_range.1 hk)]
  decide

theorem known_any (a b : Int) (w : World) (ht : Tab w) :
    Calls Tryd.prog 16 #[.int .i64 a, .int .i64 b] w fun e w' => e = .returned (.bool (knownB a b)) ∧ Below w.heap.size w w' := by
  have hK := ht.known
  clear ht
  go_enter Tryd.func16, Tryd.ntmps16
  go_wp2_with (refine wpList_load_cells rfl 40 _ rfl 0 rfl tabK _ hK Tryd.underlying40 rfl knownSize ?_)
  go_loopw [8] (fun i wr => ∃ j : Nat, j ≤ 9 ∧ i = .int .i64 j ∧ (∀ k, k < j → hitAt a b k = false) ∧ Below w.heap.size w wr) (fun i _ => 9 - (intOf i).toNat)
  case atStart => exact ⟨0, by omega, rfl, fun k hk => absurd hk (by omega), Below.refl _ _⟩
  case round =>
    obtain ⟨j, hj, rfl, hno, hb⟩ := hrel
    have HN := Lib.hid hno
    have HB := Lib.hid hb
    have hsz := hb.size
    clear hno hb hK
    rcases (show j = 0 ∨ j = 1 ∨ j = 2 ∨ j = 3 ∨ j = 4 ∨ j = 5 ∨ j = 6 ∨ j = 7 ∨ j = 8 ∨ j = 9 by omega) with rfl | rfl | rfl | rfl | rfl | rfl | rfl | rfl | rfl | rfl
    · have hix : ∀ W : World, (Instr.index 40 (.agg tabK.toArray) (.int .i64 0)).run Tryd.prog W = .ok (.agg #[.int .i64 1, .int .i64 1, .int .i64 3]) W := fun _ => by kernel_rfl
      cases hxa : (a == (1 : Int))
      · have HH : Hid (hitAt a b 0 = false) := Lib.hid (by simp [hitAt, hxa])
        go_wp2
        go_roundw
        case rel => exact ⟨0 + 1, by omega, by go_num, fun k hk => by
          by_cases e : k = 0
          · subst e; exact HH.out
          · exact HN.out k (by omega), HB.out.alloc hsz _⟩
        case measure => simp [intOf]
      · rcases (show b < 1 ∨ (1 ≤ b ∧ 3 < b) ∨ (1 ≤ b ∧ b ≤ 3) by omega) with h1 | ⟨h1, h2⟩ | ⟨h1, h2⟩
        · have HH : Hid (hitAt a b 0 = false) := Lib.hid (by simp [hitAt]; omega)
          go_wp2
          go_roundw
          case rel => exact ⟨0 + 1, by omega, by go_num, fun k hk => by
            by_cases e : k = 0
            · subst e; exact HH.out
            · exact HN.out k (by omega), HB.out.alloc hsz _⟩
          case measure => simp [intOf]
        · have HH : Hid (hitAt a b 0 = false) := Lib.hid (by simp [hitAt]; omega)
          go_wp2
          go_roundw
          case rel => exact ⟨0 + 1, by omega, by go_num, fun k hk => by
            by_cases e : k = 0
            · subst e; exact HH.out
            · exact HN.out k (by omega), HB.out.alloc hsz _⟩
          case measure => simp [intOf]
        · have HF : Hid (knownB a b = true) := Lib.hid (knownB_of a b 0 (by omega) (by simp [hitAt, hxa]; omega))
          go_wp2
          go_ret
          exact ⟨by rw [HF.out]; rfl, HB.out.alloc hsz _⟩
    · have hix : ∀ W : World, (Instr.index 40 (.agg tabK.toArray) (.int .i64 1)).run Tryd.prog W = .ok (.agg #[.int .i64 2, .int .i64 1, .int .i64 4]) W := fun _ => by kernel_rfl
      cases hxa : (a == (2 : Int))
      · have HH : Hid (hitAt a b 1 = false) := Lib.hid (by simp [hitAt, hxa])
        go_wp2
        go_roundw
        case rel => exact ⟨1 + 1, by omega, by go_num, fun k hk => by
          by_cases e : k = 1
          · subst e; exact HH.out
          · exact HN.out k (by omega), HB.out.alloc hsz _⟩
        case measure => simp [intOf]
      · rcases (show b < 1 ∨ (1 ≤ b ∧ 4 < b) ∨ (1 ≤ b ∧ b ≤ 4) by omega) with h1 | ⟨h1, h2⟩ | ⟨h1, h2⟩
        · have HH : Hid (hitAt a b 1 = false) := Lib.hid (by simp [hitAt]; omega)
          go_wp2
          go_roundw
          case rel => exact ⟨1 + 1, by omega, by go_num, fun k hk => by
            by_cases e : k = 1
            · subst e; exact HH.out
            · exact HN.out k (by omega), HB.out.alloc hsz _⟩
          case measure => simp [intOf]
        · have HH : Hid (hitAt a b 1 = false) := Lib.hid (by simp [hitAt]; omega)
          go_wp2
          go_roundw
          case rel => exact ⟨1 + 1, by omega, by go_num, fun k hk => by
            by_cases e : k = 1
            · subst e; exact HH.out
            · exact HN.out k (by omega), HB.out.alloc hsz _⟩
          case measure => simp [intOf]
        · have HF : Hid (knownB a b = true) := Lib.hid (knownB_of a b 1 (by omega) (by simp [hitAt, hxa]; omega))
          go_wp2
          go_ret
          exact ⟨by rw [HF.out]; rfl, HB.out.alloc hsz _⟩
    · have hix : ∀ W : World, (Instr.index 40 (.agg tabK.toArray) (.int .i64 2)).run Tryd.prog W = .ok (.agg #[.int .i64 2, .int .i64 6, .int .i64 7]) W := fun _ => by kernel_rfl
      cases hxa : (a == (2 : Int))
      · have HH : Hid (hitAt a b 2 = false) := Lib.hid (by simp [hitAt, hxa])
        go_wp2
        go_roundw
        case rel => exact ⟨2 + 1, by omega, by go_num, fun k hk => by
          by_cases e : k = 2
          · subst e; exact HH.out
          · exact HN.out k (by omega), HB.out.alloc hsz _⟩
        case measure => simp [intOf]
      · rcases (show b < 6 ∨ (6 ≤ b ∧ 7 < b) ∨ (6 ≤ b ∧ b ≤ 7) by omega) with h1 | ⟨h1, h2⟩ | ⟨h1, h2⟩
        · have HH : Hid (hitAt a b 2 = false) := Lib.hid (by simp [hitAt]; omega)
          go_wp2
          go_roundw
          case rel => exact ⟨2 + 1, by omega, by go_num, fun k hk => by
            by_cases e : k = 2
            · subst e; exact HH.out
            · exact HN.out k (by omega), HB.out.alloc hsz _⟩
          case measure => simp [intOf]
        · have HH : Hid (hitAt a b 2 = false) := Lib.hid (by simp [hitAt]; omega)
          go_wp2
          go_roundw
          case rel => exact ⟨2 + 1, by omega, by go_num, fun k hk => by
            by_cases e : k = 2
            · subst e; exact HH.out
            · exact HN.out k (by omega), HB.out.alloc hsz _⟩
          case measure => simp [intOf]
        · have HF : Hid (knownB a b = true) := Lib.hid (knownB_of a b 2 (by omega) (by simp [hitAt, hxa]; omega))
          go_wp2
          go_ret
          exact ⟨by rw [HF.out]; rfl, HB.out.alloc hsz _⟩
    · have hix : ∀ W : World, (Instr.index 40 (.agg tabK.toArray) (.int .i64 3)).run Tryd.prog W = .ok (.agg #[.int .i64 2, .int .i64 11, .int .i64 11]) W := fun _ => by kernel_rfl
      cases hxa : (a == (2 : Int))
      · have HH : Hid (hitAt a b 3 = false) := Lib.hid (by simp [hitAt, hxa])
        go_wp2
        go_roundw
        case rel => exact ⟨3 + 1, by omega, by go_num, fun k hk => by
          by_cases e : k = 3
          · subst e; exact HH.out
          · exact HN.out k (by omega), HB.out.alloc hsz _⟩
        case measure => simp [intOf]
      · rcases (show b < 11 ∨ (11 ≤ b ∧ 11 < b) ∨ (11 ≤ b ∧ b ≤ 11) by omega) with h1 | ⟨h1, h2⟩ | ⟨h1, h2⟩
        · have HH : Hid (hitAt a b 3 = false) := Lib.hid (by simp [hitAt]; omega)
          go_wp2
          go_roundw
          case rel => exact ⟨3 + 1, by omega, by go_num, fun k hk => by
            by_cases e : k = 3
            · subst e; exact HH.out
            · exact HN.out k (by omega), HB.out.alloc hsz _⟩
          case measure => simp [intOf]
        · have HH : Hid (hitAt a b 3 = false) := Lib.hid (by simp [hitAt]; omega)
          go_wp2
          go_roundw
          case rel => exact ⟨3 + 1, by omega, by go_num, fun k hk => by
            by_cases e : k = 3
            · subst e; exact HH.out
            · exact HN.out k (by omega), HB.out.alloc hsz _⟩
          case measure => simp [intOf]
        · have HF : Hid (knownB a b = true) := Lib.hid (knownB_of a b 3 (by omega) (by simp [hitAt, hxa]; omega))
          go_wp2
          go_ret
          exact ⟨by rw [HF.out]; rfl, HB.out.alloc hsz _⟩
    · have hix : ∀ W : World, (Instr.index 40 (.agg tabK.toArray) (.int .i64 4)).run Tryd.prog W = .ok (.agg #[.int .i64 3, .int .i64 1, .int .i64 6]) W := fun _ => by kernel_rfl
      cases hxa : (a == (3 : Int))
      · have HH : Hid (hitAt a b 4 = false) := Lib.hid (by simp [hitAt, hxa])
        go_wp2
        go_roundw
        case rel => exact ⟨4 + 1, by omega, by go_num, fun k hk => by
          by_cases e : k = 4
          · subst e; exact HH.out
          · exact HN.out k (by omega), HB.out.alloc hsz _⟩
        case measure => simp [intOf]
      · rcases (show b < 1 ∨ (1 ≤ b ∧ 6 < b) ∨ (1 ≤ b ∧ b ≤ 6) by omega) with h1 | ⟨h1, h2⟩ | ⟨h1, h2⟩
        · have HH : Hid (hitAt a b 4 = false) := Lib.hid (by simp [hitAt]; omega)
          go_wp2
          go_roundw
          case rel => exact ⟨4 + 1, by omega, by go_num, fun k hk => by
            by_cases e : k = 4
            · subst e; exact HH.out
            · exact HN.out k (by omega), HB.out.alloc hsz _⟩
          case measure => simp [intOf]
        · have HH : Hid (hitAt a b 4 = false) := Lib.hid (by simp [hitAt]; omega)
          go_wp2
          go_roundw
          case rel => exact ⟨4 + 1, by omega, by go_num, fun k hk => by
            by_cases e : k = 4
            · subst e; exact HH.out
            · exact HN.out k (by omega), HB.out.alloc hsz _⟩
          case measure => simp [intOf]
        · have HF : Hid (knownB a b = true) := Lib.hid (knownB_of a b 4 (by omega) (by simp [hitAt, hxa]; omega))
          go_wp2
          go_ret
          exact ⟨by rw [HF.out]; rfl, HB.out.alloc hsz _⟩
    · have hix : ∀ W : World, (Instr.index 40 (.agg tabK.toArray) (.int .i64 5)).run Tryd.prog W = .ok (.agg #[.int .i64 3, .int .i64 8, .int .i64 11]) W := fun _ => by kernel_rfl
      cases hxa : (a == (3 : Int))
      · have HH : Hid (hitAt a b 5 = false) := Lib.hid (by simp [hitAt, hxa])
        go_wp2
        go_roundw
        case rel => exact ⟨5 + 1, by omega, by go_num, fun k hk => by
          by_cases e : k = 5
          · subst e; exact HH.out
          · exact HN.out k (by omega), HB.out.alloc hsz _⟩
        case measure => simp [intOf]
      · rcases (show b < 8 ∨ (8 ≤ b ∧ 11 < b) ∨ (8 ≤ b ∧ b ≤ 11) by omega) with h1 | ⟨h1, h2⟩ | ⟨h1, h2⟩
        · have HH : Hid (hitAt a b 5 = false) := Lib.hid (by simp [hitAt]; omega)
          go_wp2
          go_roundw
          case rel => exact ⟨5 + 1, by omega, by go_num, fun k hk => by
            by_cases e : k = 5
            · subst e; exact HH.out
            · exact HN.out k (by omega), HB.out.alloc hsz _⟩
          case measure => simp [intOf]
        · have HH : Hid (hitAt a b 5 = false) := Lib.hid (by simp [hitAt]; omega)
          go_wp2
          go_roundw
          case rel => exact ⟨5 + 1, by omega, by go_num, fun k hk => by
            by_cases e : k = 5
            · subst e; exact HH.out
            · exact HN.out k (by omega), HB.out.alloc hsz _⟩
          case measure => simp [intOf]
        · have HF : Hid (knownB a b = true) := Lib.hid (knownB_of a b 5 (by omega) (by simp [hitAt, hxa]; omega))
          go_wp2
          go_ret
          exact ⟨by rw [HF.out]; rfl, HB.out.alloc hsz _⟩
    · have hix : ∀ W : World, (Instr.index 40 (.agg tabK.toArray) (.int .i64 6)).run Tryd.prog W = .ok (.agg #[.int .i64 4, .int .i64 0, .int .i64 0]) W := fun _ => by kernel_rfl
      cases hxa : (a == (4 : Int))
      · have HH : Hid (hitAt a b 6 = false) := Lib.hid (by simp [hitAt, hxa])
        go_wp2
        go_roundw
        case rel => exact ⟨6 + 1, by omega, by go_num, fun k hk => by
          by_cases e : k = 6
          · subst e; exact HH.out
          · exact HN.out k (by omega), HB.out.alloc hsz _⟩
        case measure => simp [intOf]
      · rcases (show b < 0 ∨ (0 ≤ b ∧ 0 < b) ∨ (0 ≤ b ∧ b ≤ 0) by omega) with h1 | ⟨h1, h2⟩ | ⟨h1, h2⟩
        · have HH : Hid (hitAt a b 6 = false) := Lib.hid (by simp [hitAt]; omega)
          go_wp2
          go_roundw
          case rel => exact ⟨6 + 1, by omega, by go_num, fun k hk => by
            by_cases e : k = 6
            · subst e; exact HH.out
            · exact HN.out k (by omega), HB.out.alloc hsz _⟩
          case measure => simp [intOf]
        · have HH : Hid (hitAt a b 6 = false) := Lib.hid (by simp [hitAt]; omega)
          go_wp2
          go_roundw
          case rel => exact ⟨6 + 1, by omega, by go_num, fun k hk => by
            by_cases e : k = 6
            · subst e; exact HH.out
            · exact HN.out k (by omega), HB.out.alloc hsz _⟩
          case measure => simp [intOf]
        · have HF : Hid (knownB a b = true) := Lib.hid (knownB_of a b 6 (by omega) (by simp [hitAt, hxa]; omega))
          go_wp2
          go_ret
          exact ⟨by rw [HF.out]; rfl, HB.out.alloc hsz _⟩
    · have hix : ∀ W : World, (Instr.index 40 (.agg tabK.toArray) (.int .i64 7)).run Tryd.prog W = .ok (.agg #[.int .i64 5, .int .i64 0, .int .i64 3]) W := fun _ => by kernel_rfl
      cases hxa : (a == (5 : Int))
      · have HH : Hid (hitAt a b 7 = false) := Lib.hid (by simp [hitAt, hxa])
        go_wp2
        go_roundw
        case rel => exact ⟨7 + 1, by omega, by go_num, fun k hk => by
          by_cases e : k = 7
          · subst e; exact HH.out
          · exact HN.out k (by omega), HB.out.alloc hsz _⟩
        case measure => simp [intOf]
      · rcases (show b < 0 ∨ (0 ≤ b ∧ 3 < b) ∨ (0 ≤ b ∧ b ≤ 3) by omega) with h1 | ⟨h1, h2⟩ | ⟨h1, h2⟩
        · have HH : Hid (hitAt a b 7 = false) := Lib.hid (by simp [hitAt]; omega)
          go_wp2
          go_roundw
          case rel => exact ⟨7 + 1, by omega, by go_num, fun k hk => by
            by_cases e : k = 7
            · subst e; exact HH.out
            · exact HN.out k (by omega), HB.out.alloc hsz _⟩
          case measure => simp [intOf]
        · have HH : Hid (hitAt a b 7 = false) := Lib.hid (by simp [hitAt]; omega)
          go_wp2
          go_roundw
          case rel => exact ⟨7 + 1, by omega, by go_num, fun k hk => by
            by_cases e : k = 7
            · subst e; exact HH.out
            · exact HN.out k (by omega), HB.out.alloc hsz _⟩
          case measure => simp [intOf]
        · have HF : Hid (knownB a b = true) := Lib.hid (knownB_of a b 7 (by omega) (by simp [hitAt, hxa]; omega))
          go_wp2
          go_ret
          exact ⟨by rw [HF.out]; rfl, HB.out.alloc hsz _⟩
    · have hix : ∀ W : World, (Instr.index 40 (.agg tabK.toArray) (.int .i64 8)).run Tryd.prog W = .ok (.agg #[.int .i64 6, .int .i64 1, .int .i64 10]) W := fun _ => by kernel_rfl
      cases hxa : (a == (6 : Int))
      · have HH : Hid (hitAt a b 8 = false) := Lib.hid (by simp [hitAt, hxa])
        go_wp2
        go_roundw
        case rel => exact ⟨8 + 1, by omega, by go_num, fun k hk => by
          by_cases e : k = 8
          · subst e; exact HH.out
          · exact HN.out k (by omega), HB.out.alloc hsz _⟩
        case measure => simp [intOf]
      · rcases (show b < 1 ∨ (1 ≤ b ∧ 10 < b) ∨ (1 ≤ b ∧ b ≤ 10) by omega) with h1 | ⟨h1, h2⟩ | ⟨h1, h2⟩
        · have HH : Hid (hitAt a b 8 = false) := Lib.hid (by simp [hitAt]; omega)
          go_wp2
          go_roundw
          case rel => exact ⟨8 + 1, by omega, by go_num, fun k hk => by
            by_cases e : k = 8
            · subst e; exact HH.out
            · exact HN.out k (by omega), HB.out.alloc hsz _⟩
          case measure => simp [intOf]
        · have HH : Hid (hitAt a b 8 = false) := Lib.hid (by simp [hitAt]; omega)
          go_wp2
          go_roundw
          case rel => exact ⟨8 + 1, by omega, by go_num, fun k hk => by
            by_cases e : k = 8
            · subst e; exact HH.out
            · exact HN.out k (by omega), HB.out.alloc hsz _⟩
          case measure => simp [intOf]
        · have HF : Hid (knownB a b = true) := Lib.hid (knownB_of a b 8 (by omega) (by simp [hitAt, hxa]; omega))
          go_wp2
          go_ret
          exact ⟨by rw [HF.out]; rfl, HB.out.alloc hsz _⟩
    · go_wp2
      go_ret
      exact ⟨by rw [knownB_no a b HN.out]; rfl, HB.out⟩

end Go.Proofs.YtmkpkbigceinfaaDoor
