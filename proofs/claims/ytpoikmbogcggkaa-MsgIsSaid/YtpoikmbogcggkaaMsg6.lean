/- The walks of what is the same; the document's examples of layer 3 hold. -/
import Derived.Test.YtpoikmbogcggkaaMsg5
namespace Go.Proofs.Ytpoikmbogcggkaa
open Go.RowKit
set_option maxHeartbeats 400000
set_option linter.unusedVariables false
set_option linter.unusedSimpArgs false

theorem same_yes (t : Int) (A B : Option Addr) (n c m d : Nat) (l : List UInt8) (w : World) (h : RdB w A n c l) (k : RdB w B m d l) :
    Calls Try.prog 18 #[.agg #[.int .i64 t, .slice A n c], .agg #[.int .i64 t, .slice B m d]] w fun e w' => e = .returned (.bool true) ∧ Below w.heap.size w w' := by
  have hb := fun o1 o2 => balloc (bnew w o1) o2
  have s1 := fun o1 o2 => (h.below (hb o1 o2)).str
  have s2 := fun o1 o2 => (k.below (hb o1 o2)).str
  go_enter Try.func18, Try.ntmps18
  go_wp2
  go_ret
  exact ⟨rfl, hb _ _⟩

theorem sameNote_yes (t s : Int) (A B : Option Addr) (n c m d : Nat) (l : List UInt8) (w : World) (h : RdB w A n c l) (k : RdB w B m d l) :
    Calls Try.prog 19 #[.agg #[.int .i64 t, .int .i64 s, .slice A n c], .agg #[.int .i64 t, .int .i64 s, .slice B m d]] w fun e w' => e = .returned (.bool true) ∧ Below w.heap.size w w' := by
  have hb := fun o1 o2 => balloc (bnew w o1) o2
  have s1 := fun o1 o2 => (h.below (hb o1 o2)).str
  have s2 := fun o1 o2 => (k.below (hb o1 o2)).str
  go_enter Try.func19, Try.ntmps19
  go_wp2
  go_ret
  exact ⟨rfl, hb _ _⟩

theorem awake_any (w : World) : Calls Try.prog 15 #[] w fun e w' => e = .returned (.bool true) ∧ Below w.heap.size w w' := by
  have p1 : mputL [] 4 [] = List.replicate 16 255 ++ [0, 19, 4] := by decide +kernel
  have p2 : getM (List.replicate 16 255 ++ [0, 19, 4]) = ⟨4, [], 19, 0, 0, []⟩ := by kernel_rfl
  have p3 : saneB 4 0 = true := by decide
  have p4 : leastZ 1 = 29 := by decide
  have hput := fun W : World => mput_any none 0 0 [] 4 none 0 0 [] W (RdB.nil _) (RdB.nil _) (by omega) (by omega)
  rw [p1] at hput
  go_enter Try.func15, Try.ntmps15
  go_wp2_with fail
  with_reducible refine (hput _).mono ?_
  clear hput
  rintro e w1 ⟨_, rfl, ⟨A1, n1, c1, rfl, hr1⟩, hb1⟩
  have hl1 : n1 = 19 := hr1.len.symm
  subst hl1
  have hget := get_any _ _ _ _ _ hr1
  rw [p2] at hget
  obtain ⟨b, o, rfl, hcell⟩ := hr1.at_ (k := 0) (by omega)
  have c0 := hcell 0 (by decide)
  have c17 := hcell 17 (by decide)
  have c18 := hcell 18 (by decide)
  simp at c0 c17 c18
  have hlt := World.block_lt_of_cell? _ _ c0
  go_wp2_with fail
  with_reducible refine hget.mono ?_
  clear hget
  rintro e w2 ⟨_, rfl, ⟨A2, n2, c2, A3, n3, c3, rfl, hr2, hr3⟩, hb2⟩
  have hl2 : n2 = 0 := hr2.len.symm
  have hl3 : n3 = 0 := hr3.len.symm
  subst hl2 hl3
  have d0 := (hb2.cell hlt).trans c0
  have d17 := (hb2.cell (p := ⟨b, o + 17, none⟩) hlt).trans c17
  have d18 := (hb2.cell (p := ⟨b, o + 18, none⟩) hlt).trans c18
  have hlt2 : b < w2.heap.size := Nat.lt_of_lt_of_le hlt hb2.size
  have HB := Lib.hid (bstep hb1 hb2)
  clear hr1 hcell c0 c17 c18 hr2 hr3 hb1 hb2
  go_wp2_with fail
  with_reducible refine (sane_any _ _ _ _ _ (by omega)).mono ?_
  rw [p3]
  rintro e w3 ⟨rfl, hb3⟩
  go_wp2_with fail
  with_reducible refine (least_any _ _).mono ?_
  rw [p4]
  rintro e w4 ⟨rfl, rfl⟩
  go_wp2
  go_ret
  exact ⟨rfl, bstep (balloc (balloc HB.out _) _) hb3⟩
end Go.Proofs.Ytpoikmbogcggkaa
