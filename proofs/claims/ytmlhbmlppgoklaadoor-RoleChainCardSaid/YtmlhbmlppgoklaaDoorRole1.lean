/- The walks of package role and of its reference. -/
import Derived.Test.YtmlhbmlppgoklaaDoorRows
import Derived.Test.YtmlhbmlppgoklaaDoorWords
import Derived.WalkLawsBesides
import Derived.WalkSpells
import Derived.IntWalk
import Derived.Outline
import Derived.Laws.Rows
namespace Go.Proofs.YtmlhbmlppgoklaaDoor
open Go.RowKit
set_option maxHeartbeats 400000
set_option linter.unusedVariables false
set_option linter.unusedSimpArgs false

/-- The table of the roles that go together, as it lies in memory. -/
def tabV : List Value := [.int .i64 0, .int .i64 3, .int .i64 1, .int .i64 2, .int .i64 3, .int .i64 0, .int .i64 2, .int .i64 1, .int .i64 4, .int .i64 4]
def Tab (w : World) : Prop := ∀ j, ∀ h : j < tabV.length, w.cell? ⟨0, j, none⟩ = some tabV[j]
theorem Tab.below {w w' : World} (h : Tab w) (hb : Below w.heap.size w w') : Tab w' := fun j hj => by
  rw [hb.cell (p := ⟨0, j, none⟩) (World.block_lt_of_cell? _ _ (h j hj))]
  exact h j hj

def aggB : TypeDesc → Bool
  | .struct _ => true
  | .array _ _ => true
  | _ => false

theorem run_loadVar_cells {P : Program} (w : World) (g : Nat) (ty : TypeId) (cs : List Value) (d : TypeDesc) (hc : ∀ j, ∀ h : j < cs.length, w.cell? ⟨g, j, none⟩ = some cs[j])
    (hu : P.underlying ty = some d) (hd : aggB d = true) (hi : (P.info? ty).map (·.size) = some cs.length) :
    (loadVar ty ⟨g, 0, none⟩).run P w = .ok (.agg cs.toArray) w := by
  have hl : (loadCells ⟨g, 0, none⟩ cs.length).run P w = .ok cs.toArray w :=
    run_loadCells_list (P := P) w ⟨g, 0, none⟩ cs (fun j v hv => by
      obtain ⟨hj, rfl⟩ := List.getElem?_eq_some_iff.1 hv
      rw [Addr.add_lit, Nat.zero_add]
      exact hc j hj)
  cases hq : P.info? ty with
  | none => simp [hq] at hi
  | some i =>
    have hs : i.size = cs.length := by simpa [hq] using hi
    have hagg : (isAgg ty).run P w = .ok true w := by
      unfold isAgg
      rw [Sem.run_bind, run_underlying hu w]
      cases d <;> simp_all [aggB]
    simp [loadVar, Sem.run_bind, hagg, sizeOf, typeInfo, hq, hs, hl]

theorem wpList_load_cells {P : Program} {ops : Array Oper} {rest : List Oper} {o : Oper} {a : Act} {w : World} {Q : Exit → Act → World → Prop} (hgd : o.guard = none) (ty : TypeId) (x : Operand) (ho : o.op = .load ty x)
    (g : Nat) (hx : a.eval x = .pointer (some ⟨g, 0, none⟩)) (cs : List Value) (d : TypeDesc) (hc : ∀ j, ∀ h : j < cs.length, w.cell? ⟨g, j, none⟩ = some cs[j])
    (hu : P.underlying ty = some d) (hd : aggB d = true) (hi : (P.info? ty).map (·.size) = some cs.length)
    (h : wpList P ops Q rest (a.put o.dst (.agg cs.toArray)) w) : wpList P ops Q (o :: rest) a w :=
  wpList_plain hgd fun _ hK => by
    unfold Oper.wp execOp
    simp only [ho, hx, Instr.loadAt, Instr.sureAddr, Sem.run_bind, Sem.run_pure, Result.andThen_ok, run_loadVar_cells w g ty cs d hc hu hd hi]
    exact hK _ _ h

theorem tabSize : (Tryd.prog.info? 33).map (·.size) = some tabV.length := by kernel_rfl

def pairsB (a b : Int) : Bool := (a == 0 && b == 3) || (a == 1 && b == 2) || (a == 3 && b == 0) || (a == 2 && b == 1) || (a == 4 && b == 4)

def hitAt (a b : Int) : Nat → Bool
  | 0 => a == 0 && b == 3
  | 1 => a == 1 && b == 2
  | 2 => a == 3 && b == 0
  | 3 => a == 2 && b == 1
  | 4 => a == 4 && b == 4
  | _ => false
theorem pairsB_hit (a b : Int) : pairsB a b = (hitAt a b 0 || hitAt a b 1 || hitAt a b 2 || hitAt a b 3 || hitAt a b 4) := rfl

theorem pairs_any (a b : Int) (w : World) (ht : Tab w) :
    Calls Tryd.prog 15 #[.int .i64 a, .int .i64 b] w fun e w' => e = .returned (.bool (pairsB a b)) ∧ Below w.heap.size w w' := by
  go_enter Tryd.func15, Tryd.ntmps15
  go_wp2_with (refine wpList_load_cells rfl 33 _ rfl 0 rfl tabV _ ht Tryd.underlying33 rfl tabSize ?_)
  go_loopw [8] (fun i wr => ∃ j : Nat, j ≤ 5 ∧ i = .int .i64 j ∧ (∀ k, k < j → hitAt a b k = false) ∧ Below w.heap.size w wr) (fun i _ => 5 - (intOf i).toNat)
  case atStart => exact ⟨0, by omega, rfl, fun k hk => absurd hk (by omega), Below.refl _ _⟩
  case round =>
    obtain ⟨j, hj, rfl, hno, hb⟩ := hrel
    have HN := Lib.hid hno
    have HB := Lib.hid hb
    have hsz := hb.size
    clear hno hb ht
    rcases (show j = 0 ∨ j = 1 ∨ j = 2 ∨ j = 3 ∨ j = 4 ∨ j = 5 by omega) with rfl | rfl | rfl | rfl | rfl | rfl
    · have hix : ∀ W : World, (Instr.index 33 (.agg tabV.toArray) (.int .i64 0)).run Tryd.prog W = .ok (.agg #[.int .i64 0, .int .i64 3]) W := fun _ => by kernel_rfl
      have hh : hitAt a b 0 = (((0 : Int) == a) && ((3 : Int) == b)) := by simp [hitAt, BEq.comm]
      have HH := Lib.hid hh
      clear hh
      cases hxa : ((0 : Int) == a)
      · have HX := Lib.hid hxa
        go_wp2
        go_roundw
        case rel => exact ⟨0 + 1, by omega, by go_num, fun k hk => by
          by_cases e : k = 0
          · subst e; rw [HH.out, HX.out]; rfl
          · exact HN.out k (by omega), HB.out.alloc hsz _⟩
        case measure => simp [intOf]
      · cases hyb : ((3 : Int) == b)
        · have HX := Lib.hid hxa
          have HY := Lib.hid hyb
          go_wp2
          go_roundw
          case rel => exact ⟨0 + 1, by omega, by go_num, fun k hk => by
            by_cases e : k = 0
            · subst e; rw [HH.out, HX.out, HY.out]; rfl
            · exact HN.out k (by omega), HB.out.alloc hsz _⟩
          case measure => simp [intOf]
        · have HX := Lib.hid hxa
          have HY := Lib.hid hyb
          have HF : Hid (pairsB a b = true) := by
            unfold Hid
            rw [pairsB_hit, HH.out, HX.out, HY.out]; simp
          go_wp2
          go_ret
          exact ⟨by rw [HF.out]; rfl, HB.out.alloc hsz _⟩
    · have hix : ∀ W : World, (Instr.index 33 (.agg tabV.toArray) (.int .i64 1)).run Tryd.prog W = .ok (.agg #[.int .i64 1, .int .i64 2]) W := fun _ => by kernel_rfl
      have hh : hitAt a b 1 = (((1 : Int) == a) && ((2 : Int) == b)) := by simp [hitAt, BEq.comm]
      have HH := Lib.hid hh
      clear hh
      cases hxa : ((1 : Int) == a)
      · have HX := Lib.hid hxa
        go_wp2
        go_roundw
        case rel => exact ⟨1 + 1, by omega, by go_num, fun k hk => by
          by_cases e : k = 1
          · subst e; rw [HH.out, HX.out]; rfl
          · exact HN.out k (by omega), HB.out.alloc hsz _⟩
        case measure => simp [intOf]
      · cases hyb : ((2 : Int) == b)
        · have HX := Lib.hid hxa
          have HY := Lib.hid hyb
          go_wp2
          go_roundw
          case rel => exact ⟨1 + 1, by omega, by go_num, fun k hk => by
            by_cases e : k = 1
            · subst e; rw [HH.out, HX.out, HY.out]; rfl
            · exact HN.out k (by omega), HB.out.alloc hsz _⟩
          case measure => simp [intOf]
        · have HX := Lib.hid hxa
          have HY := Lib.hid hyb
          have HF : Hid (pairsB a b = true) := by
            unfold Hid
            rw [pairsB_hit, HH.out, HX.out, HY.out]; simp
          go_wp2
          go_ret
          exact ⟨by rw [HF.out]; rfl, HB.out.alloc hsz _⟩
    · have hix : ∀ W : World, (Instr.index 33 (.agg tabV.toArray) (.int .i64 2)).run Tryd.prog W = .ok (.agg #[.int .i64 3, .int .i64 0]) W := fun _ => by kernel_rfl
      have hh : hitAt a b 2 = (((3 : Int) == a) && ((0 : Int) == b)) := by simp [hitAt, BEq.comm]
      have HH := Lib.hid hh
      clear hh
      cases hxa : ((3 : Int) == a)
      · have HX := Lib.hid hxa
        go_wp2
        go_roundw
        case rel => exact ⟨2 + 1, by omega, by go_num, fun k hk => by
          by_cases e : k = 2
          · subst e; rw [HH.out, HX.out]; rfl
          · exact HN.out k (by omega), HB.out.alloc hsz _⟩
        case measure => simp [intOf]
      · cases hyb : ((0 : Int) == b)
        · have HX := Lib.hid hxa
          have HY := Lib.hid hyb
          go_wp2
          go_roundw
          case rel => exact ⟨2 + 1, by omega, by go_num, fun k hk => by
            by_cases e : k = 2
            · subst e; rw [HH.out, HX.out, HY.out]; rfl
            · exact HN.out k (by omega), HB.out.alloc hsz _⟩
          case measure => simp [intOf]
        · have HX := Lib.hid hxa
          have HY := Lib.hid hyb
          have HF : Hid (pairsB a b = true) := by
            unfold Hid
            rw [pairsB_hit, HH.out, HX.out, HY.out]; simp
          go_wp2
          go_ret
          exact ⟨by rw [HF.out]; rfl, HB.out.alloc hsz _⟩
    · have hix : ∀ W : World, (Instr.index 33 (.agg tabV.toArray) (.int .i64 3)).run Tryd.prog W = .ok (.agg #[.int .i64 2, .int .i64 1]) W := fun _ => by kernel_rfl
      have hh : hitAt a b 3 = (((2 : Int) == a) && ((1 : Int) == b)) := by simp [hitAt, BEq.comm]
      have HH := Lib.hid hh
      clear hh
      cases hxa : ((2 : Int) == a)
      · have HX := Lib.hid hxa
        go_wp2
        go_roundw
        case rel => exact ⟨3 + 1, by omega, by go_num, fun k hk => by
          by_cases e : k = 3
          · subst e; rw [HH.out, HX.out]; rfl
          · exact HN.out k (by omega), HB.out.alloc hsz _⟩
        case measure => simp [intOf]
      · cases hyb : ((1 : Int) == b)
        · have HX := Lib.hid hxa
          have HY := Lib.hid hyb
          go_wp2
          go_roundw
          case rel => exact ⟨3 + 1, by omega, by go_num, fun k hk => by
            by_cases e : k = 3
            · subst e; rw [HH.out, HX.out, HY.out]; rfl
            · exact HN.out k (by omega), HB.out.alloc hsz _⟩
          case measure => simp [intOf]
        · have HX := Lib.hid hxa
          have HY := Lib.hid hyb
          have HF : Hid (pairsB a b = true) := by
            unfold Hid
            rw [pairsB_hit, HH.out, HX.out, HY.out]; simp
          go_wp2
          go_ret
          exact ⟨by rw [HF.out]; rfl, HB.out.alloc hsz _⟩
    · have hix : ∀ W : World, (Instr.index 33 (.agg tabV.toArray) (.int .i64 4)).run Tryd.prog W = .ok (.agg #[.int .i64 4, .int .i64 4]) W := fun _ => by kernel_rfl
      have hh : hitAt a b 4 = (((4 : Int) == a) && ((4 : Int) == b)) := by simp [hitAt, BEq.comm]
      have HH := Lib.hid hh
      clear hh
      cases hxa : ((4 : Int) == a)
      · have HX := Lib.hid hxa
        go_wp2
        go_roundw
        case rel => exact ⟨4 + 1, by omega, by go_num, fun k hk => by
          by_cases e : k = 4
          · subst e; rw [HH.out, HX.out]; rfl
          · exact HN.out k (by omega), HB.out.alloc hsz _⟩
        case measure => simp [intOf]
      · cases hyb : ((4 : Int) == b)
        · have HX := Lib.hid hxa
          have HY := Lib.hid hyb
          go_wp2
          go_roundw
          case rel => exact ⟨4 + 1, by omega, by go_num, fun k hk => by
            by_cases e : k = 4
            · subst e; rw [HH.out, HX.out, HY.out]; rfl
            · exact HN.out k (by omega), HB.out.alloc hsz _⟩
          case measure => simp [intOf]
        · have HX := Lib.hid hxa
          have HY := Lib.hid hyb
          have HF : Hid (pairsB a b = true) := by
            unfold Hid
            rw [pairsB_hit, HH.out, HX.out, HY.out]; simp
          go_wp2
          go_ret
          exact ⟨by rw [HF.out]; rfl, HB.out.alloc hsz _⟩
    · go_wp2
      go_ret
      refine ⟨?_, HB.out⟩
      have h0 := HN.out 0 (by omega)
      have h1 := HN.out 1 (by omega)
      have h2 := HN.out 2 (by omega)
      have h3 := HN.out 3 (by omega)
      have h4 := HN.out 4 (by omega)
      simp only [hitAt] at h0 h1 h2 h3 h4
      rw [pairsB_hit]
      simp [hitAt, h0, h1, h2, h3, h4]
end Go.Proofs.YtmlhbmlppgoklaaDoor
