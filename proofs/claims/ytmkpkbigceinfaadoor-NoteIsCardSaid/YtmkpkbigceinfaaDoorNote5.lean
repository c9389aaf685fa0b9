/- The document's example of layer 5 holds; unlike notes have unlike names. -/
import Derived.Test.YtmkpkbigceinfaaDoorNote4
import Derived.Test.YtmkpkbigceinfaaDoorNote2
namespace Go.Proofs.YtmkpkbigceinfaaDoor
open Go.RowKit
set_option maxHeartbeats 400000
set_option linter.unusedVariables false
set_option linter.unusedSimpArgs false

theorem nget_any (t : Int) (A : Option Addr) (n c : Nat) (l : List UInt8) (w : World) (h : RdB w A n c l) (hm : n ≤ 100000000) :
    Calls Tryd.prog 8 #[.agg #[.int .i64 t, .slice A n c]] w (Ret (IsNG (noteG t l)) w) := by
  have hl := h.len
  by_cases h1 : t = 3 ∧ 2 ≤ n
  · obtain ⟨rfl, h2⟩ := h1
    exact nget_long A n c l w h h2 hm
  · have e : noteG t l = (0, 0, [], false) := by
      unfold noteG
      rw [if_neg]
      rintro ⟨h2, h3, _⟩
      exact h1 ⟨h2, by omega⟩
    rw [e]
    exact nget_short t A n c w (by by_cases h2 : t = 3 <;> omega)

theorem awake_any (w : World) (ht : Tab w) : Calls Tryd.prog 7 #[] w fun e w' => e = .returned (.bool true) ∧ Below w.heap.size w w' := by
  have p1 : nsaneB 2 11 0 = true := by decide
  have p2 : noteG 3 [2, 11] = (2, 11, [], true) := by decide +kernel
  have p3 : nameL 2 11 = [111, 112, 101, 110, 47, 49, 49] := by decide +kernel
  have p4 : knownB 2 11 = true := by decide
  have p5 : knownB 2 5 = false := by decide
  have p6 : octAt 2 0 = 2 := by decide +kernel
  have p7 : octAt 11 0 = 11 := by decide +kernel
  have hput := fun W : World => nput_yes 2 11 none 0 0 [] W (RdB.nil _) p1
  rw [p6, p7] at hput
  have hname := fun (W : World) (hW : Tab W) => name_any 2 11 none 0 0 W hW (by decide) (by decide) (by decide) (by decide)
  rw [p3] at hname
  have hk1 := fun (W : World) (hW : Tab W) => known_any 2 11 W hW
  rw [p4] at hk1
  have hk2 := fun (W : World) (hW : Tab W) => known_any 2 5 W hW
  rw [p5] at hk2
  have hsn := fun W : World => nsane_any 2 11 none 0 0 W (by decide)
  rw [p1] at hsn
  have p9 : (str [111, 112, 101, 110, 47, 49, 49]).toList = [111, 112, 101, 110, 47, 49, 49] := by decide +kernel
  have HT := Lib.hid ht
  clear ht
  go_enter Tryd.func7, Tryd.ntmps7
  go_wp2_with fail
  with_reducible refine (hput _).mono ?_
  clear hput
  rintro e w1 ⟨_, rfl, ⟨A1, n1, c1, rfl, hr1⟩, hb1⟩
  have hl1 : n1 = 2 := hr1.len.symm
  subst hl1
  have hget := nget_any 3 A1 2 c1 [2, 11] w1 hr1 (by decide)
  rw [p2] at hget
  go_wp2_with fail
  with_reducible refine hget.mono ?_
  clear hget
  rintro e w2 ⟨_, rfl, ⟨A2, n2, c2, rfl, hr2⟩, hb2⟩
  have hb := hb1.trans (hb2.mono hb1.size)
  have hg := own3 hb
  obtain ⟨⟨q0, q1, q2⟩, r0, r1, r2⟩ := own3_cells hg
  have hz := row_lt hg
  have HB2 := Lib.hid (bstep (bnew w _) hb)
  clear hr1 hb1 hr2 hb2 hb hg
  go_wp2_with fail
  with_reducible refine (hname _ (HT.out.below (balloc HB2.out _))).mono ?_
  rintro e w3 ⟨rfl, hb3⟩
  have HB3 := Lib.hid (bstep (balloc HB2.out _) hb3)
  have z0 := (hb3.cell (p := ⟨w.heap.size, 0, none⟩) (by simp; omega)).trans ((World.cell?_alloc_lt w2 _ _ hz).trans q0)
  have z1 := (hb3.cell (p := ⟨w.heap.size, 1, none⟩) (by simp; omega)).trans ((World.cell?_alloc_lt w2 _ _ hz).trans q1)
  have z2 := (hb3.cell (p := ⟨w.heap.size, 2, none⟩) (by simp; omega)).trans ((World.cell?_alloc_lt w2 _ _ hz).trans q2)
  have hzz : w.heap.size < w3.heap.size := by have := hb3.size; simp at this; omega
  clear hb3
  go_wp2_with fail
  with_reducible refine (hk1 _ (HT.out.below HB3.out)).mono ?_
  rintro e w4 ⟨rfl, hb4⟩
  have HB4 := Lib.hid (bstep HB3.out hb4)
  have y0 := (hb4.cell (p := ⟨w.heap.size, 0, none⟩) hzz).trans z0
  have y1 := (hb4.cell (p := ⟨w.heap.size, 1, none⟩) hzz).trans z1
  have y2 := (hb4.cell (p := ⟨w.heap.size, 2, none⟩) hzz).trans z2
  have hzy : w.heap.size < w4.heap.size := by have := hb4.size; omega
  clear hb4
  go_wp2_with fail
  with_reducible refine (hk2 _ (HT.out.below HB4.out)).mono ?_
  rintro e w5 ⟨rfl, hb5⟩
  have HB5 := Lib.hid (bstep HB4.out hb5)
  have x0 := (hb5.cell (p := ⟨w.heap.size, 0, none⟩) hzy).trans y0
  have x1 := (hb5.cell (p := ⟨w.heap.size, 1, none⟩) hzy).trans y1
  have x2 := (hb5.cell (p := ⟨w.heap.size, 2, none⟩) hzy).trans y2
  clear hb5
  go_wp2_with fail
  with_reducible refine (hsn _).mono ?_
  rintro e w6 ⟨rfl, hb6⟩
  go_wp2
  go_ret
  exact ⟨rfl, bstep HB5.out hb6⟩
end Go.Proofs.YtmkpkbigceinfaaDoor
