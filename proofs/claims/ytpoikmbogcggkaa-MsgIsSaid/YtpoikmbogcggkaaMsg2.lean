/- The walk of msg.fault. -/
import Derived.Test.YtpoikmbogcggkaaMsg1
namespace Go.Proofs.Ytpoikmbogcggkaa
open Go.RowKit
set_option maxHeartbeats 400000
set_option linter.unusedVariables false
set_option linter.unusedSimpArgs false

/-- A note: its code, its sub-code, its octets. -/
def IsNote (c s : Int) (d : List UInt8) : Value → World → Prop := fun v w => ∃ A n cap, v = .agg #[.int .i64 c, .int .i64 s, .slice A n cap] ∧ RdB w A n cap d
theorem lasts_isNote (c s : Int) (d : List UInt8) : Lasts (IsNote c s d) := fun _ _ _ hb ⟨A, n, c, hv, hr⟩ => ⟨A, n, c, hv, hr.below hb⟩
/-- An address in a block from `base` on. -/
def Fresh (base : Nat) (A : Option Addr) : Prop := ∀ b o, A = some ⟨b, o, none⟩ → base ≤ b
theorem fresh_none (base : Nat) : Fresh base none := fun _ _ h => by cases h
theorem fresh_own {w : World} {base b0 e size n c m : Nat} {A : Option Addr} {xs : List Value} (h : w.ownsRow base e size (.slice A n c) m xs) (hb : b0 ≤ base) : Fresh b0 A := by
  intro b o hA
  rcases h.2 with ⟨hv, _⟩ | ⟨g, cap, cur, hv, hg, _⟩
  · injection hv with h1
    rw [hA] at h1
    cases h1
  · injection hv with h1
    rw [hA] at h1
    injection h1 with h1
    injection h1 with h1
    omega
/-- A note whose octets lie in a block from `base` on. -/
def NoteF (base : Nat) (c s : Int) (d : List UInt8) : Value → World → Prop := fun v w => ∃ A n cap, v = .agg #[.int .i64 c, .int .i64 s, .slice A n cap] ∧ RdB w A n cap d ∧ Fresh base A
/-- A message: its kind, its body. -/
def IsMsg (t : Int) (d : List UInt8) : Value → World → Prop := fun v w => ∃ A n cap, v = .agg #[.int .i64 t, .slice A n cap] ∧ RdB w A n cap d
theorem lasts_isMsg (t : Int) (d : List UInt8) : Lasts (IsMsg t d) := fun _ _ _ hb ⟨A, n, c, hv, hr⟩ => ⟨A, n, c, hv, hr.below hb⟩

theorem bcell {W w1 : World} (hb : Below W.heap.size W w1) : (∀ b o, b < W.heap.size → w1.cell? ⟨b, o, none⟩ = W.cell? ⟨b, o, none⟩) ∧ (∀ b o, b < W.heap.size → w1.frozen? ⟨b, o, none⟩ = W.frozen? ⟨b, o, none⟩) :=
  ⟨fun b o h => hb.cell (p := ⟨b, o, none⟩) h, fun b o h => hb.frozen (p := ⟨b, o, none⟩) h⟩

def faultZ (P : Bool) (s k : Int) : Int × Int × List UInt8 :=
  if P = false then (1, 1, []) else if s < 19 then (1, 2, putL s 2) else if 4096 < s then (1, 2, putL s 2) else if (leastZ k == 0) = true then (1, 3, putL k 1) else if wrongB k s = true then (1, 2, putL s 2) else (0, 0, [])

theorem set3 {w : World} {g : Nat} {t : TypeId} {a b c : Value} (h : w.heap[g]? = some (.cells #[a, b, c] t (0, 0))) (x y z : Value) :
    (((w.setCell ⟨g, 0, none⟩ x).setCell ⟨g, 1, none⟩ y).setCell ⟨g, 2, none⟩ z).heap[g]? = some (.cells #[x, y, z] t (0, 0)) := by
  simp [World.setCell, Array.getElem?_modify, h]
theorem below_set3 {B g : Nat} {w w1 : World} (h : Below B w w1) (hg : B ≤ g) (x y z : Value) : Below B w (((w1.setCell ⟨g, 0, none⟩ x).setCell ⟨g, 1, none⟩ y).setCell ⟨g, 2, none⟩ z) :=
  ((h.setCell (p := ⟨g, 0, none⟩) hg x).setCell (p := ⟨g, 1, none⟩) hg y).setCell (p := ⟨g, 2, none⟩) hg z
theorem noteSize : (Try.prog.info? 37).map (·.size) = some 3 := by kernel_rfl
/-- What is known, behind a call, of the result's own block of three cells. -/
theorem own3 {w w1 : World} {t : TypeId} {a b c : Value} (hb : Below (w.alloc (.cells #[a, b, c] t)).heap.size (w.alloc (.cells #[a, b, c] t)) w1) :
    w1.heap[w.heap.size]? = some (.cells #[a, b, c] t (0, 0)) := (hb.block w.heap.size (by simp)).trans (heap_alloc_new w _)
theorem own3_cells {w1 : World} {g : Nat} {t : TypeId} {a b c : Value} (h : w1.heap[g]? = some (.cells #[a, b, c] t (0, 0))) :
    (w1.cell? ⟨g, 0, none⟩ = some a ∧ w1.cell? ⟨g, 1, none⟩ = some b ∧ w1.cell? ⟨g, 2, none⟩ = some c) ∧ (w1.frozen? ⟨g, 0, none⟩ = false ∧ w1.frozen? ⟨g, 1, none⟩ = false ∧ w1.frozen? ⟨g, 2, none⟩ = false) := by
  refine ⟨⟨?_, ?_, ?_⟩, ?_, ?_, ?_⟩ <;> simp [World.cell?, World.frozen?, h]

theorem Lies.keep3 {w : World} {g : Nat} {A : Option Addr} {xs : List Value} (h : Lies w A xs) (hx : ∀ o, A ≠ some ⟨g, o, none⟩ ∨ xs = []) (x y z : Value) :
    Lies (((w.setCell ⟨g, 0, none⟩ x).setCell ⟨g, 1, none⟩ y).setCell ⟨g, 2, none⟩ z) A xs := by
  rcases h with h | ⟨b', o, hA, hc⟩
  · exact .inl h
  · by_cases hxs : xs = []
    · exact .inl hxs
    · have hne : b' ≠ g := by
        intro e
        subst e
        rcases hx o with h1 | h1
        · exact h1 hA
        · exact hxs h1
      refine .inr ⟨b', o, hA, fun j hj => ?_⟩
      rw [World.cell?_setCell_other _ _ _ _ (fun e => hne (by injection e with e; exact e.symm)), World.cell?_setCell_other _ _ _ _ (fun e => hne (by injection e with e; exact e.symm)), World.cell?_setCell_other _ _ _ _ (fun e => hne (by injection e with e; exact e.symm))]
      exact hc j hj
theorem own_keep3 {w : World} {base g n c : Nat} {A : Option Addr} {l : List UInt8} (ho : w.ownsRow base 5 1 (.slice A n c) n (l.map bv)) (hg : g < base) (x y z : Value) :
    RdB (((w.setCell ⟨g, 0, none⟩ x).setCell ⟨g, 1, none⟩ y).setCell ⟨g, 2, none⟩ z) A n c l := by
  have hr := rdB_of_own ho
  refine ⟨hr.len, hr.le, hr.max, hr.lies.keep3 (fun o => .inl ?_) _ _ _⟩
  rcases ho.2 with ⟨hv, hn⟩ | ⟨g', cap, cur, hv, hb, _⟩
  · injection hv with hA
    rw [hA]
    intro e
    cases e
  · injection hv with hA
    rw [hA]
    intro e
    injection e with e
    injection e with e1
    omega

theorem fault_bad (A : Option Addr) (n c : Nat) (l : List UInt8) (s k : Int) (w : World) (h : RdB w A n c l) (hn : 16 ≤ n) (hP : decide (l.take 16 = List.replicate 16 255) = false) :
    Calls Try.prog 26 #[.slice A n c, .int .i64 s, .int .i64 k] w (Ret (NoteF w.heap.size 1 1 []) w) := by
  have HP := Lib.hid hP
  clear hP
  go_enter Try.func26, Try.ntmps26
  go_wp2_with fail
  with_reducible refine (marked_any _).mono ?_
  rintro e w1 ⟨_, rfl, ⟨A1, n1, c1, rfl, hr1⟩, hb1⟩
  have hl1 := hr1.len
  simp at hl1
  subst hl1
  have hr := h.below (bstep (bnew w _) hb1)
  go_wp2_with fail
  refine (hasPrefix_any _ _ _ _ _ _ _ _ _ hr hr1 hn).mono ?_
  rw [HP.out]
  rintro e w2 ⟨rfl, rfl⟩
  have hg := own3 hb1
  obtain ⟨⟨c0, c1', c2⟩, f0, f1, f2⟩ := own3_cells hg
  have HG := Lib.hid hg
  have hz : w.heap.size < w1.heap.size := (Array.getElem?_eq_some_iff.1 hg).1
  clear hg
  go_wp2
  exact bodyPost_ret (v := .agg #[.int .i64 1, .int .i64 1, .slice none 0 0]) (results_cell_row rfl _ _ w.heap.size _ _ _ _ rfl (set3 HG.out _ _ _) Try.underlying37 rfl noteSize) rfl
    ⟨_, rfl, ⟨_, _, _, rfl, RdB.nil _, fresh_none _⟩, below_set3 (bstep (bnew w _) hb1) (Nat.le_refl _) _ _ _⟩

theorem fault_size (A : Option Addr) (n c : Nat) (l : List UInt8) (s k : Int) (w : World) (h : RdB w A n c l) (hn : 16 ≤ n) (hP : decide (l.take 16 = List.replicate 16 255) = true)
    (hc : s < 19 ∨ (19 ≤ s ∧ 4096 < s) ∨ (19 ≤ s ∧ s ≤ 4096 ∧ (leastZ k == 0) = false ∧ wrongB k s = true)) :
    Calls Try.prog 26 #[.slice A n c, .int .i64 s, .int .i64 k] w (Ret (NoteF w.heap.size 1 2 (putL s 2)) w) := by
  have HP := Lib.hid hP
  clear hP
  obtain ⟨L, hL⟩ : ∃ L, leastZ k = L := ⟨_, rfl⟩
  obtain ⟨W, hW⟩ : ∃ W, wrongB k s = W := ⟨_, rfl⟩
  have HL := Lib.hid hL
  have HW := Lib.hid hW
  rw [hL, hW] at hc
  clear hL hW
  rcases hc with d1 | ⟨d1, d2⟩ | ⟨d1, d2, d3, d4⟩
  all_goals
    go_enter Try.func26, Try.ntmps26
    go_wp2_with fail
    with_reducible refine (marked_any _).mono ?_
    rintro e w1 ⟨_, rfl, ⟨A1, n1, c1, rfl, hr1⟩, hb1⟩
    have hl1 := hr1.len
    simp at hl1
    subst hl1
    have hr := h.below (bstep (bnew w _) hb1)
    go_wp2_with fail
    refine (hasPrefix_any _ _ _ _ _ _ _ _ _ hr hr1 hn).mono ?_
    rw [HP.out]
    rintro e w2 ⟨rfl, rfl⟩
    try
      (go_wp2_with fail
       with_reducible refine (least_any _ _).mono ?_
       rw [HL.out]
       rintro e w2 ⟨rfl, rfl⟩)
    try
      (go_wp2_with fail
       with_reducible refine (wrong_any _ _ _).mono ?_
       rw [HW.out]
       rintro e w2 ⟨rfl, rfl⟩
       subst d4)
    go_wp2_with fail
    have hput : Calls Try.prog 13 #[.slice none 0 0, .int .i64 s, .int .i64 2] w1 (PutDone w1 0 2 [] s) := put_yes none 0 0 [] s 2 w1 (RdB.nil _) (by omega) (by omega) (by omega)
    with_reducible refine hput.mono ?_
    clear hput
    rintro e w3 ⟨A3, c3, rfl, ho3, hb3⟩
    have hz1 : w.heap.size < w1.heap.size := by
      have := hb1.size
      simp at this
      omega
    have hb13 := hb1.trans (hb3.mono hb1.size)
    have hg := own3 hb13
    obtain ⟨⟨c0, c1', c2⟩, f0, f1, f2⟩ := own3_cells hg
    have HG := Lib.hid hg
    have hz : w.heap.size < w3.heap.size := (Array.getElem?_eq_some_iff.1 hg).1
    clear hg
    go_wp2
    exact bodyPost_ret (v := .agg #[.int .i64 1, .int .i64 2, .slice A3 (0 + 2) c3]) (results_cell_row rfl _ _ w.heap.size _ _ _ _ rfl (set3 HG.out _ _ _) Try.underlying37 rfl noteSize) rfl
      ⟨_, rfl, ⟨_, _, _, rfl, own_keep3 ho3 hz1 _ _ _, fresh_own ho3 (Nat.le_of_lt hz1)⟩, below_set3 (bstep (bnew w _) hb13) (Nat.le_refl _) _ _ _⟩
end Go.Proofs.Ytpoikmbogcggkaa
