/- The document's example of layer 9 holds. -/
import Derived.Test.YtmlhbmlppgoklacRou6
namespace Go.Proofs.Ytmlhbmlppgoklac
open Go.RowKit
set_option maxHeartbeats 4000000
set_option maxRecDepth 100000
set_option linter.unusedVariables false
set_option linter.unusedSimpArgs false

theorem lies_fresh (w : World) (xs : List Value) (X : Array Value) (e : TypeId) (hX : X = xs.toArray) : Lies (w.alloc (.cells X e)) (some ⟨w.heap.size, 0, none⟩) xs := by
  subst hX
  refine .inr ⟨_, _, rfl, fun j hj => ?_⟩
  rw [cell_of_row _ _ _ _ _ _ (heap_alloc_new w _), Nat.zero_add]
  simp [hj]
theorem lies_freshI (w : World) (us : List Int) (X : Array Value) (e : TypeId) (hX : X = (us.map fun x => Value.int .i64 x).toArray) (hm : us.length ≤ maxLen) : RdI (w.alloc (.cells X e)) (some ⟨w.heap.size, 0, none⟩) us.length us.length us :=
  ⟨rfl, Nat.le_refl _, hm, lies_fresh w _ X e hX⟩
theorem rdI_keep {w : World} {A : Option Addr} {n c : Nat} {l : List Int} (h : RdI w A n c l) (o : Obj) : RdI (w.alloc o) A n c l := h.below (bnew w o)
theorem lies_freshT (w : World) (l : List Rv) (X : Array Value) (e : TypeId) (hX : X = (rvsV l).toArray) (hm : l.length ≤ maxLen) (he : ∀ x ∈ l, RdI w x.A x.n x.c x.r.as) : RdT (w.alloc (.cells X e)) (some ⟨w.heap.size, 0, none⟩) l.length l.length l :=
  ⟨rfl, Nat.le_refl _, hm, lies_fresh w _ X e hX, fun x hx => rdI_keep (he x hx) _⟩

def exA : Rt := ⟨300, 0, [1, 2, 3], 1, 0, 0⟩
def exB : Rt := ⟨200, 0, [1], 1, 0, 0⟩
theorem awake_world (w : World) : ∃ W0, (((((w.alloc (Obj.cells #[.int .i64 1, .int .i64 2, .int .i64 3] 3)).alloc
      (Obj.cells #[.int .i64 300, .int .i64 0, .slice (some ⟨w.heap.size, 0, none⟩) 3 3, .int .i64 1, .int .i64 0, .int .i64 0] 27)).alloc
      (Obj.cells #[.int .i64 1] 3)).alloc
      (Obj.cells #[.int .i64 200, .int .i64 0, .slice (some ⟨w.heap.size + 1 + 1, 0, none⟩) 1 1, .int .i64 1, .int .i64 0, .int .i64 0] 27)).alloc
      (Obj.cells #[.int .i64 200, .int .i64 0, .slice (some ⟨w.heap.size + 1 + 1, 0, none⟩) 1 1, .int .i64 1, .int .i64 0, .int .i64 0, .int .i64 300, .int .i64 0, .slice (some ⟨w.heap.size, 0, none⟩) 3 3, .int .i64 1, .int .i64 0, .int .i64 0] 27)) = W0 ∧
      Below w.heap.size w W0 ∧
      W0.heap[w.heap.size + 1]? = some (.cells #[.int .i64 300, .int .i64 0, .slice (some ⟨w.heap.size, 0, none⟩) 3 3, .int .i64 1, .int .i64 0, .int .i64 0] 27 (0, 0)) ∧
      W0.heap[w.heap.size + 1 + 1 + 1]? = some (.cells #[.int .i64 200, .int .i64 0, .slice (some ⟨w.heap.size + 1 + 1, 0, none⟩) 1 1, .int .i64 1, .int .i64 0, .int .i64 0] 27 (0, 0)) ∧
      RdI W0 (some ⟨w.heap.size, 0, none⟩) 3 3 exA.as ∧ RdI W0 (some ⟨w.heap.size + 1 + 1, 0, none⟩) 1 1 exB.as ∧
      RdT W0 (some ⟨w.heap.size + 1 + 1 + 1 + 1, 0, none⟩) 2 2 [⟨exB, some ⟨w.heap.size + 1 + 1, 0, none⟩, 1, 1⟩, ⟨exA, some ⟨w.heap.size, 0, none⟩, 3, 3⟩] := by
  have a0 := lies_freshI w [1, 2, 3] #[.int .i64 1, .int .i64 2, .int .i64 3] 3 rfl (by decide)
  have b0 := bnew w (Obj.cells #[.int .i64 1, .int .i64 2, .int .i64 3] 3)
  have s0 : (w.alloc (Obj.cells #[.int .i64 1, .int .i64 2, .int .i64 3] 3)).heap.size = w.heap.size + 1 := by simp
  generalize w.alloc (Obj.cells #[.int .i64 1, .int .i64 2, .int .i64 3] 3) = w0 at *
  have a1 := heap_alloc_new w0 (Obj.cells #[.int .i64 300, .int .i64 0, .slice (some ⟨w.heap.size, 0, none⟩) 3 3, .int .i64 1, .int .i64 0, .int .i64 0] 27)
  have b1 := bnew w0 (Obj.cells #[.int .i64 300, .int .i64 0, .slice (some ⟨w.heap.size, 0, none⟩) 3 3, .int .i64 1, .int .i64 0, .int .i64 0] 27)
  have s1 : (w0.alloc (Obj.cells #[.int .i64 300, .int .i64 0, .slice (some ⟨w.heap.size, 0, none⟩) 3 3, .int .i64 1, .int .i64 0, .int .i64 0] 27)).heap.size = w.heap.size + 1 + 1 := by simp [s0]
  generalize w0.alloc (Obj.cells #[.int .i64 300, .int .i64 0, .slice (some ⟨w.heap.size, 0, none⟩) 3 3, .int .i64 1, .int .i64 0, .int .i64 0] 27) = w1 at *
  have a2 := lies_freshI w1 [1] #[.int .i64 1] 3 rfl (by decide)
  have b2 := bnew w1 (Obj.cells #[.int .i64 1] 3)
  have s2 : (w1.alloc (Obj.cells #[.int .i64 1] 3)).heap.size = w.heap.size + 1 + 1 + 1 := by simp [s1]
  generalize w1.alloc (Obj.cells #[.int .i64 1] 3) = w2 at *
  rw [s1] at a2
  rw [s0] at a1
  have a3 := heap_alloc_new w2 (Obj.cells #[.int .i64 200, .int .i64 0, .slice (some ⟨w.heap.size + 1 + 1, 0, none⟩) 1 1, .int .i64 1, .int .i64 0, .int .i64 0] 27)
  have b3 := bnew w2 (Obj.cells #[.int .i64 200, .int .i64 0, .slice (some ⟨w.heap.size + 1 + 1, 0, none⟩) 1 1, .int .i64 1, .int .i64 0, .int .i64 0] 27)
  have s3 : (w2.alloc (Obj.cells #[.int .i64 200, .int .i64 0, .slice (some ⟨w.heap.size + 1 + 1, 0, none⟩) 1 1, .int .i64 1, .int .i64 0, .int .i64 0] 27)).heap.size = w.heap.size + 1 + 1 + 1 + 1 := by simp [s2]
  generalize w2.alloc (Obj.cells #[.int .i64 200, .int .i64 0, .slice (some ⟨w.heap.size + 1 + 1, 0, none⟩) 1 1, .int .i64 1, .int .i64 0, .int .i64 0] 27) = w3 at *
  rw [s2] at a3
  have ra := a0.below (bstep b1 (bstep b2 b3))
  have rb := a2.below b3
  have a4 := lies_freshT w3 [⟨exB, some ⟨w.heap.size + 1 + 1, 0, none⟩, 1, 1⟩, ⟨exA, some ⟨w.heap.size, 0, none⟩, 3, 3⟩] #[.int .i64 200, .int .i64 0, .slice (some ⟨w.heap.size + 1 + 1, 0, none⟩) 1 1, .int .i64 1, .int .i64 0, .int .i64 0, .int .i64 300, .int .i64 0, .slice (some ⟨w.heap.size, 0, none⟩) 3 3, .int .i64 1, .int .i64 0, .int .i64 0] 27 rfl (by simp [maxLen]) (by
    intro x hx
    simp only [List.mem_cons, List.not_mem_nil, or_false] at hx
    rcases hx with rfl | rfl
    · exact rb
    · exact ra)
  rw [s3] at a4
  have b4 := bnew w3 (Obj.cells #[.int .i64 200, .int .i64 0, .slice (some ⟨w.heap.size + 1 + 1, 0, none⟩) 1 1, .int .i64 1, .int .i64 0, .int .i64 0, .int .i64 300, .int .i64 0, .slice (some ⟨w.heap.size, 0, none⟩) 3 3, .int .i64 1, .int .i64 0, .int .i64 0] 27)
  exact ⟨_, rfl, bstep (bstep (bstep (bstep b0 b1) b2) b3) b4, row_to (bstep (bstep b2 b3) b4) a1, row_to b4 a3, ra.below b4, rb.below b4, a4⟩
theorem best_ex (p q : Option Addr) : bestV ⟨exB, p, 1, 1⟩ [⟨exA, q, 3, 3⟩] = ⟨exA, q, 3, 3⟩ := by
  unfold bestV
  simp only [List.foldl]
  rw [if_pos (by decide)]

theorem awake_any (w : World) : Calls Try.prog 8 #[] w (Ret (Just (.bool true)) w) := by
  have p1 : compareR exA exB = -1 := by decide
  have p2 : compareR exA exA = 0 := by decide
  have P1 := Lib.hid p1
  have P2 := Lib.hid p2
  clear p1 p2
  obtain ⟨W0, hW0, hb0, ha, hbb, ra, rb, rt⟩ := awake_world w
  have HW0 := Lib.hid hW0
  have HB0 := Lib.hid hb0
  have HA := Lib.hid ha
  have HBB := Lib.hid hbb
  have RA := Lib.hid ra
  have RB := Lib.hid rb
  have RT := Lib.hid rt
  clear hW0 hb0 ha hbb ra rb rt
  go_enter Try.func8, Try.ntmps8
  go_wp2_with fail
  rw [HW0.out]
  have hbest := best_some _ 2 2 _ _ W0 RT.out (by omega)
  rw [best_ex] at hbest
  have hbest2 : Calls Try.prog 16 #[.slice (some ⟨w.heap.size + 1 + 1 + 1 + 1, 0, none⟩) 2 2] W0 (Ret (Just (.tuple #[.agg #[.int .i64 300, .int .i64 0, .slice (some ⟨w.heap.size, 0, none⟩) 3 3, .int .i64 1, .int .i64 0, .int .i64 0], .bool true])) W0) := hbest
  with_reducible refine hbest2.mono ?_
  clear hbest hbest2
  rintro e w1 ⟨_, rfl, rfl, hb1⟩
  have HB1 := Lib.hid hb1
  clear hb1
  go_wp2_with fail
  have RX := Lib.hid (heap_alloc_new w1 (.cells #[.int .i64 300, .int .i64 0, .slice (some ⟨w.heap.size, 0, none⟩) 3 3, .int .i64 1, .int .i64 0, .int .i64 0] 27))
  have HB2 := Lib.hid (bnew w1 (.cells #[.int .i64 300, .int .i64 0, .slice (some ⟨w.heap.size, 0, none⟩) 3 3, .int .i64 1, .int .i64 0, .int .i64 0] 27))
  generalize w1.alloc (.cells #[.int .i64 300, .int .i64 0, .slice (some ⟨w.heap.size, 0, none⟩) 3 3, .int .i64 1, .int .i64 0, .int .i64 0] 27) = W1 at *
  with_reducible refine (own_any 9 W1).mono ?_
  rintro e w2 ⟨_, rfl, rfl, hb2⟩
  have HB3 := Lib.hid hb2
  clear hb2
  unfold routeA ownR
  have RO := Lib.hid (heap_alloc_new w2 (.cells #[.int .i64 400, .int .i64 0, .slice none 0 0, .int .i64 9, .int .i64 0, .int .i64 (-1)] 27))
  have HB4 := Lib.hid (bnew w2 (.cells #[.int .i64 400, .int .i64 0, .slice none 0 0, .int .i64 9, .int .i64 0, .int .i64 (-1)] 27))
  obtain ⟨W2, hW2⟩ : ∃ W2, w2.alloc (.cells #[.int .i64 400, .int .i64 0, .slice none 0 0, .int .i64 9, .int .i64 0, .int .i64 (-1)] 27) = W2 := ⟨_, rfl⟩
  have HW2 := Lib.hid hW2
  rw [hW2] at RO HB4
  clear hW2
  have HBZ := Lib.hid (bstep HB1.out (bstep HB2.out (bstep HB3.out HB4.out)))
  obtain ⟨f0, f1, f2, f3, f4, f5⟩ := row6 (row_to HBZ.out HA.out)
  obtain ⟨g0, g1, g2, g3, g4, g5⟩ := row6 (row_to HBZ.out HBB.out)
  rw [← HW2.out] at f0 f1 f2 f3 f4 f5 g0 g1 g2 g3 g4 g5
  go_wp2_with fail
  rw [HW2.out] at f0 f1 f2 f3 f4 f5 g0 g1 g2 g3 g4 g5 ⊢
  clear f0 f1 f2 f3 f4 f5 g0 g1 g2 g3 g4 g5
  have hcmp := compare_any exA exB (some ⟨w.heap.size, 0, none⟩) 3 3 (some ⟨w.heap.size + 1 + 1, 0, none⟩) 1 1 W2 (RA.out.below HBZ.out) (RB.out.below HBZ.out)
  rw [P1.out] at hcmp
  have hcmp2 : Calls Try.prog 10 #[.agg #[.int .i64 300, .int .i64 0, .slice (some ⟨w.heap.size, 0, none⟩) 3 3, .int .i64 1, .int .i64 0, .int .i64 0], .agg #[.int .i64 200, .int .i64 0, .slice (some ⟨w.heap.size + 1 + 1, 0, none⟩) 1 1, .int .i64 1, .int .i64 0, .int .i64 0]] W2 (Ret (Just (.int .i64 (-1))) W2) := hcmp
  with_reducible refine hcmp2.mono ?_
  clear hcmp hcmp2
  rintro e w3 ⟨_, rfl, rfl, hb3⟩
  have HB5 := Lib.hid hb3
  obtain ⟨x0, x1, x2, x3, x4, x5⟩ := row6 (row_to (bstep HB4.out HB5.out) (row_to (bstep HB3.out (Below.refl _ _)) RX.out))
  obtain ⟨f0, f1, f2, f3, f4, f5⟩ := row6 (row_to (bstep HBZ.out HB5.out) HA.out)
  clear hb3
  go_wp2_with fail
  clear x0 x1 x2 x3 x4 x5 f0 f1 f2 f3 f4 f5
  have hsf := rsane_far 300 0 (some ⟨w.heap.size, 0, none⟩) 3 3 [1, 2, 3] 1 0 0 w3 (RA.out.below (bstep HBZ.out HB5.out)) (by decide) (by omega) (by omega) (by omega) (by omega) (by omega) (by omega)
  with_reducible refine hsf.mono ?_
  clear hsf
  rintro e w4 ⟨_, rfl, rfl, hb4⟩
  have HB6 := Lib.hid (bstep HB5.out hb4)
  obtain ⟨f0, f1, f2, f3, f4, f5⟩ := row6 (row_to (bstep HBZ.out HB6.out) HA.out)
  clear hb4
  go_wp2_with fail
  clear f0 f1 f2 f3 f4 f5
  have hsm := same_any exA exA (some ⟨w.heap.size, 0, none⟩) 3 3 (some ⟨w.heap.size, 0, none⟩) 3 3 w4 (RA.out.below (bstep HBZ.out HB6.out)) (RA.out.below (bstep HBZ.out HB6.out))
  rw [P2.out] at hsm
  have hsm2 : Calls Try.prog 12 #[.agg #[.int .i64 300, .int .i64 0, .slice (some ⟨w.heap.size, 0, none⟩) 3 3, .int .i64 1, .int .i64 0, .int .i64 0], .agg #[.int .i64 300, .int .i64 0, .slice (some ⟨w.heap.size, 0, none⟩) 3 3, .int .i64 1, .int .i64 0, .int .i64 0]] w4 (Ret (Just (.bool true)) w4) := hsm
  with_reducible refine hsm2.mono ?_
  clear hsm hsm2
  rintro e w5 ⟨_, rfl, rfl, hb5⟩
  have HB7 := Lib.hid (bstep HB6.out hb5)
  obtain ⟨x0, x1, x2, x3, x4, x5⟩ := row6 (row_to HB7.out RO.out)
  clear hb5
  go_wp2_with fail
  clear x0 x1 x2 x3 x4 x5
  with_reducible refine (rsane_own 9 w5 (by omega)).mono ?_
  rintro e w6 ⟨_, rfl, rfl, hb6⟩
  go_wp2
  go_ret
  exact ⟨_, rfl, rfl, bstep HB0.out (bstep HBZ.out (bstep HB7.out hb6))⟩
end Go.Proofs.Ytmlhbmlppgoklac
