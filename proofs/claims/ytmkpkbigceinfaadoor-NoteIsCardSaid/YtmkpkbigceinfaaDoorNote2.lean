/- The walk of note.Name. -/
import Derived.Test.YtmkpkbigceinfaaDoorNote1
import Derived.Test.YtmkpkbigceinfaaDoorNoteP
import Derived.Test.YtmkpkbigceinfaaDoorItoa
import Derived.WalkSmall
namespace Go.Proofs.YtmkpkbigceinfaaDoor
open Go.RowKit
set_option maxHeartbeats 400000
set_option linter.unusedVariables false
set_option linter.unusedSimpArgs false

theorem Tab.below {w w' : World} (h : Tab w) (hb : Below w.heap.size w w') : Tab w' := by
  refine ⟨fun j hj => ?_, fun j hj => ?_, ?_⟩
  · rw [hb.cell (p := ⟨0, j, none⟩) (World.block_lt_of_cell? _ _ (h.known j hj))]
    exact h.known j hj
  · rw [hb.cell (p := ⟨1, j, none⟩) (World.block_lt_of_cell? _ _ (h.names j hj))]
    exact h.names j hj
  · have hg : Tryd.prog.globalNamed "internal/strconv.uint64pow10" = some 2 := by kernel_rfl
    have hlt := World.block_lt_of_cell? _ _ (h.pow.cell hg 0 (by decide))
    have := h.pow
    unfold Lib.TabIs World.var? at this ⊢
    rw [hg] at this ⊢
    simpa [hb.block _ hlt] using this

theorem below_growN (w : World) (k : Nat) (os : Array Obj) : Below w.heap.size w (Sort.grow (w.drewN k) os) :=
  ⟨rfl, rfl, rfl, by show w.heap.size ≤ (w.heap ++ os).size; rw [Array.size_append]; omega, fun j hj => by show (w.heap ++ os)[j]? = w.heap[j]?; exact Array.getElem?_append_left hj⟩

theorem itoa_str (n : Int) (h0 : -9223372036854775808 ≤ n) (h1 : n ≤ 9223372036854775807) (w : World) (ht : Tab w) :
    Calls Tryd.prog 21 #[.int .i64 n] w fun e w' => e = .returned (.string (str (Lib.itoa n))) ∧ Below w.heap.size w w' := by
  refine (strconv_Itoa n h0 h1 w ht.pow).mono ?_
  rintro e w' ⟨rfl, k, os, rfl⟩
  exact ⟨rfl, below_growN w k os⟩

theorem nmL_else (c : Int) (h : c ≤ 0 ∨ 7 ≤ c) : nmL c = Lib.itoa c := by
  unfold nmL
  rw [if_neg (by omega), if_neg (by omega), if_neg (by omega), if_neg (by omega), if_neg (by omega), if_neg (by omega)]
theorem name_out (c s : Int) (N Y : ByteArray) (hN : str (nmL c) = N) (hY : str (Lib.itoa s) = Y) : Value.string (N ++ ByteArray.mk #[47] ++ Y) = .string (str (nameL c s)) := by
  subst hN hY
  unfold nameL
  rw [show nmL c ++ 47 :: Lib.itoa s = (nmL c ++ [47]) ++ Lib.itoa s by simp, ← str_append, ← str_append]
  rfl
theorem str_len (l : List UInt8) (k : Nat) (h : l.length ≤ k) : (str l).size ≤ k := by rw [str_size]; exact h
theorem name_any (c s : Int) (A : Option Addr) (n k : Nat) (w : World) (ht : Tab w) (c0 : -9223372036854775808 ≤ c) (c1 : c ≤ 9223372036854775807) (s0 : -9223372036854775808 ≤ s) (s1 : s ≤ 9223372036854775807) :
    Calls Tryd.prog 18 #[.agg #[.int .i64 c, .int .i64 s, .slice A n k]] w fun e w' => e = .returned (.string (str (nameL c s))) ∧ Below w.heap.size w w' := by
  have I1 := fun W hW => itoa_str c c0 c1 W hW
  have I2 := fun W hW => itoa_str s s0 s1 W hW
  have l1 := str_len _ _ (Lib.itoa_length_le c c0 c1)
  have l2 := str_len _ _ (Lib.itoa_length_le s s0 s1)
  clear c0 c1 s0 s1
  obtain ⟨X, hX⟩ : ∃ X, str (Lib.itoa c) = X := ⟨_, rfl⟩
  obtain ⟨Y, hY⟩ : ∃ Y, str (Lib.itoa s) = Y := ⟨_, rfl⟩
  rw [hX] at I1 l1
  rw [hY] at I2 l2
  have HX := Lib.hid hX
  have HY := Lib.hid hY
  have HI1 := Lib.hid I1
  have HI2 := Lib.hid I2
  have HT := Lib.hid ht
  clear hX hY I1 I2 ht
  rcases (show c ≤ 0 ∨ 7 ≤ c ∨ c = 1 ∨ c = 2 ∨ c = 3 ∨ c = 4 ∨ c = 5 ∨ c = 6 by omega) with h | h | rfl | rfl | rfl | rfl | rfl | rfl
  all_goals
    go_enter Tryd.func18, Tryd.ntmps18
    go_wp2_with fail
    with_reducible refine (HI1.out _ (HT.out.below (bnew w _))).mono ?_
    rintro e w1 ⟨rfl, hb1⟩
    have hg := own3 hb1
    obtain ⟨⟨q0, q1, q2⟩, f0, f1, f2⟩ := own3_cells hg
    have HB := Lib.hid (bstep (bnew w _) hb1)
    have HT1 := Lib.hid (HT.out.below HB.out)
    have hn := HT1.out.names
    have n1 := hn 1 (by decide)
    have n2 := hn 2 (by decide)
    have n3 := hn 3 (by decide)
    have n4 := hn 4 (by decide)
    have n5 := hn 5 (by decide)
    have n6 := hn 6 (by decide)
    simp only [tabN, List.getElem_cons_succ, List.getElem_cons_zero] at n1 n2 n3 n4 n5 n6
    clear hn hb1 hg
    go_wp2_with fail
    with_reducible refine (HI2.out _ HT1.out).mono ?_
    rintro e w2 ⟨rfl, hb2⟩
    have HB2 := Lib.hid (bstep HB.out hb2)
    clear hb2
    go_wp2
    go_ret
    refine ⟨?_, HB2.out⟩
  · exact congrArg Ending.returned (name_out c s X Y ((congrArg str (nmL_else c (by omega))).trans HX.out) HY.out)
  · exact congrArg Ending.returned (name_out c s X Y ((congrArg str (nmL_else c (by omega))).trans HX.out) HY.out)
  · exact congrArg Ending.returned (name_out 1 s _ Y rfl HY.out)
  · exact congrArg Ending.returned (name_out 2 s _ Y rfl HY.out)
  · exact congrArg Ending.returned (name_out 3 s _ Y rfl HY.out)
  · exact congrArg Ending.returned (name_out 4 s _ Y rfl HY.out)
  · exact congrArg Ending.returned (name_out 5 s _ Y rfl HY.out)
  · exact congrArg Ending.returned (name_out 6 s _ Y rfl HY.out)
end Go.Proofs.YtmkpkbigceinfaaDoor
