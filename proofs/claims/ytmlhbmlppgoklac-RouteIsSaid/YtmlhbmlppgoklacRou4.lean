/- The walks of route.Same, route.Own and of what may be. -/
import Derived.Test.YtmlhbmlppgoklacRou3
import Derived.Laws.Tables
import Derived.Laws.CopyOwn
namespace Go.Proofs.Ytmlhbmlppgoklac
open Go.RowKit
set_option maxHeartbeats 4000000
set_option maxRecDepth 100000
set_option linter.unusedVariables false
set_option linter.unusedSimpArgs false

theorem routeSize : (Try.prog.info? 27).map (·.size) = some 6 := by kernel_rfl
theorem same_any (a b : Rt) (A : Option Addr) (n c : Nat) (B : Option Addr) (m d : Nat) (w : World) (h1 : RdI w A n c a.as) (h2 : RdI w B m d b.as) :
    Calls Try.prog 12 #[.agg (routeA a A n c), .agg (routeA b B m d)] w (Ret (Just (.bool (compareR a b == 0))) w) := by
  obtain ⟨C, hC⟩ : ∃ C, compareR a b = C := ⟨_, rfl⟩
  have HC := Lib.hid hC
  have HCMP := Lib.hid (fun W (hb : Below w.heap.size w W) => compare_any a b A n c B m d W (h1.below hb) (h2.below hb))
  clear hC h1 h2
  unfold routeA at HCMP ⊢
  go_enter Try.func12, Try.ntmps12
  go_wp2_with fail
  with_reducible refine (HCMP.out _ (balloc (bnew w _) _)).mono ?_
  rw [HC.out]
  rintro e w1 ⟨_, rfl, rfl, hb⟩
  go_wp2
  go_ret
  exact ⟨_, rfl, by rw [HC.out]; rfl, bstep (balloc (bnew w _) _) hb⟩
def ownR (hop : Int) : Rt := ⟨400, 0, [], hop, 0, -1⟩
theorem own_any (hop : Int) (w : World) : Calls Try.prog 18 #[.int .i64 hop] w (Ret (Just (.agg (routeA (ownR hop) none 0 0))) w) := by
  go_enter Try.func18, Try.ntmps18
  go_wp2_with (refine wpList_store_row rfl 27 _ _ rfl w.heap.size #[.int .i64 400, .int .i64 0, .slice none 0 0, .int .i64 hop, .int .i64 0, .int .i64 (-1)] rfl rfl 27 #[.int .i64 0, .int .i64 0, .slice none 0 0, .int .i64 0, .int .i64 0, .int .i64 0] (heap_alloc_new w _) routeSize rfl (by simp [Value.oneCell']) ?_)
  have hrow := setRow_heap (w.alloc (.cells #[.int .i64 0, .int .i64 0, .slice none 0 0, .int .i64 0, .int .i64 0, .int .i64 0] 27)) w.heap.size _ #[.int .i64 400, .int .i64 0, .slice none 0 0, .int .i64 hop, .int .i64 0, .int .i64 (-1)] _ _ (heap_alloc_new w _)
  exact bodyPost_ret (results_cell_row rfl _ _ w.heap.size _ _ _ _ rfl hrow Try.underlying27 rfl routeSize) rfl ⟨_, rfl, rfl, below_setRow (bnew w _) (Nat.le_refl _) _⟩

theorem attr_yes (o : Int) (A : Option Addr) (n c : Nat) (us : List Int) (hop otc : Int) (w : World) (h : RdI w A n c us) (hu : ∀ x ∈ us, 1 ≤ x ∧ x ≤ 4294967295) (ho : 0 ≤ o ∧ o ≤ 2) (hn : n ≤ 255) (hh : 1 ≤ hop ∧ hop ≤ 4294967295) (ht : 0 ≤ otc ∧ otc ≤ 4294967295) :
    Calls Try.prog 29 #[.agg #[.int .i64 o, .slice A n c, .int .i64 hop, .int .i64 otc]] w (Ret (Just (.bool true)) w) := by
  have HR := Lib.hid h
  have HLN := Lib.hid h.len
  have HU := Lib.hid hu
  obtain ⟨o1, o2⟩ := ho
  obtain ⟨p1, p2⟩ := hh
  obtain ⟨t1, t2⟩ := ht
  clear h hu
  go_enter Try.func29, Try.ntmps29
  go_wp2_with fail
  have hrow := heap_alloc_new w (.cells #[.int .i64 o, .slice A n c, .int .i64 hop, .int .i64 otc] 25)
  have hb := bnew w (.cells #[.int .i64 o, .slice A n c, .int .i64 hop, .int .i64 otc] 25)
  generalize w.alloc (.cells #[.int .i64 o, .slice A n c, .int .i64 hop, .int .i64 otc] 25) = W0 at *
  have HROW := Lib.hid hrow
  have HB := Lib.hid hb
  clear hrow hb
  go_loopw [8] (fun i wr => ∃ j : Nat, j ≤ n ∧ i = .int .i64 j ∧ wr = W0) (fun i _ => n - (intOf i).toNat)
  case atStart => exact ⟨0, by omega, rfl, rfl⟩
  case round =>
    obtain ⟨j, hj, rfl, rfl⟩ := hrel
    by_cases hlt : j < n
    · obtain ⟨b, o', rfl, hcell⟩ := (HR.out.below HB.out).at_ hlt
      have hjl : j < us.length := by have := HLN.out; omega
      have c0 := hcell j hjl
      obtain ⟨x, hx⟩ : ∃ x, us[j] = x := ⟨_, rfl⟩
      rw [hx] at c0
      have hlt' : (j : Int) < n := by omega
      obtain ⟨x1, x2⟩ : 1 ≤ x ∧ x ≤ 4294967295 := HU.out x (by rw [← hx]; exact List.getElem_mem _)
      clear hcell hx
      go_wp2
      go_roundw
      case rel => exact ⟨j + 1, by omega, by go_num, by first | trivial | rfl⟩
      case measure => simp [intOf]; omega
    · obtain rfl : j = n := by omega
      have r0 : wr.cell? ⟨w.heap.size, 0, none⟩ = some (.int .i64 o) := by rw [cell_of_row _ _ _ _ _ _ HROW.out]; rfl
      have r1 : wr.cell? ⟨w.heap.size, 1, none⟩ = some (.slice A j c) := by rw [cell_of_row _ _ _ _ _ _ HROW.out]; rfl
      have r2 : wr.cell? ⟨w.heap.size, 2, none⟩ = some (.int .i64 hop) := by rw [cell_of_row _ _ _ _ _ _ HROW.out]; rfl
      have r3 : wr.cell? ⟨w.heap.size, 3, none⟩ = some (.int .i64 otc) := by rw [cell_of_row _ _ _ _ _ _ HROW.out]; rfl
      have hj5 : (j : Int) ≤ 255 := by omega
      go_wp2
      go_ret
      refine ⟨_, rfl, ?_, HB.out⟩
      first | rfl | (refine congrArg Value.bool (?_ : (_ : Bool) = _); simp; omega)
end Go.Proofs.Ytmlhbmlppgoklac
