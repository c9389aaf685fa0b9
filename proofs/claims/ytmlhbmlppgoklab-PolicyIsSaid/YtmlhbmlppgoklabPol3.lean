/- The walks of policy.Fits and its arms, and of policy.Total. -/
import Derived.Test.YtmlhbmlppgoklabPol2
import Derived.Test.YtmlhbmlppgoklabInts
import Derived.Laws.Tables
import Derived.Laws.CopyOwn
namespace Go.Proofs.Ytmlhbmlppgoklab
open Go.RowKit
set_option maxHeartbeats 1000000
set_option linter.unusedVariables false
set_option linter.unusedSimpArgs false

/-- A view as a value. -/
def IsV (v : Vw) (A : Option Addr) (n c : Nat) : Value := .agg #[.int .i64 v.a, .int .i64 v.n, .slice A n c, .int .i64 v.cl]
theorem ruleSize : (Try.prog.info? 31).map (·.size) = some 6 := by kernel_rfl
theorem viewSize : (Try.prog.info? 27).map (·.size) = some 4 := by kernel_rfl
theorem row4 {w : World} {g : Nat} {t : TypeId} {a b c d : Value} (h : w.heap[g]? = some (.cells #[a, b, c, d] t (0, 0))) :
    w.cell? ⟨g, 0, none⟩ = some a ∧ w.cell? ⟨g, 1, none⟩ = some b ∧ w.cell? ⟨g, 2, none⟩ = some c ∧ w.cell? ⟨g, 3, none⟩ = some d := by
  refine ⟨?_, ?_, ?_, ?_⟩ <;> simp [World.cell?, h]
theorem row6 {w : World} {g : Nat} {t : TypeId} {a b c d e f : Value} (h : w.heap[g]? = some (.cells #[a, b, c, d, e, f] t (0, 0))) :
    w.cell? ⟨g, 0, none⟩ = some a ∧ w.cell? ⟨g, 1, none⟩ = some b ∧ w.cell? ⟨g, 2, none⟩ = some c ∧ w.cell? ⟨g, 3, none⟩ = some d ∧ w.cell? ⟨g, 4, none⟩ = some e ∧ w.cell? ⟨g, 5, none⟩ = some f := by
  refine ⟨?_, ?_, ?_, ?_, ?_, ?_⟩ <;> simp [World.cell?, h]

section
variable (r1 r2 r3 r4 r5 r6 va vn vc : Int) (A : Option Addr) (n c : Nat) (us : List Int) (w : World)
theorem fit0 : Calls Try.prog 28 #[.agg #[.int .i64 r1, .int .i64 r2, .int .i64 r3, .int .i64 r4, .int .i64 r5, .int .i64 r6], .agg #[.int .i64 va, .int .i64 vn, .slice A n c, .int .i64 vc]] w (Ret (Just (.bool true)) w) := by
  go_enter Try.func28, Try.ntmps28
  go_wp2
  go_ret
  exact ⟨_, rfl, rfl, balloc (bnew w _) _⟩
theorem fit1 : Calls Try.prog 29 #[.agg #[.int .i64 r1, .int .i64 r2, .int .i64 r3, .int .i64 r4, .int .i64 r5, .int .i64 r6], .agg #[.int .i64 va, .int .i64 vn, .slice A n c, .int .i64 vc]] w (Ret (Just (.bool (hasB r2 r3 va vn))) w) := by
  go_enter Try.func29, Try.ntmps29
  go_wp2_with fail
  with_reducible refine (phas_any _ _ _ _ _).mono ?_
  rintro e w1 ⟨_, rfl, rfl, hb⟩
  go_wp2
  go_ret
  exact ⟨_, rfl, rfl, bstep (balloc (bnew w _) _) hb⟩
theorem fit2 (h : RdI w A n c us) : Calls Try.prog 31 #[.agg #[.int .i64 r1, .int .i64 r2, .int .i64 r3, .int .i64 r4, .int .i64 r5, .int .i64 r6], .agg #[.int .i64 va, .int .i64 vn, .slice A n c, .int .i64 vc]] w (Ret (Just (.bool (us.contains r4))) w) := by
  obtain ⟨C, hC⟩ : ∃ C, us.contains r4 = C := ⟨_, rfl⟩
  have HC := Lib.hid hC
  clear hC
  go_enter Try.func31, Try.ntmps31
  go_wp2_with fail
  with_reducible refine (contains_any A n c us r4 _ (h.below (balloc (bnew w _) _))).mono ?_
  rw [HC.out]
  rintro e w1 ⟨rfl, rfl⟩
  go_wp2
  go_ret
  exact ⟨_, rfl, by rw [HC.out]; rfl, balloc (bnew w _) _⟩
theorem fit3 (h : us.length = n) : Calls Try.prog 33 #[.agg #[.int .i64 r1, .int .i64 r2, .int .i64 r3, .int .i64 r4, .int .i64 r5, .int .i64 r6], .agg #[.int .i64 va, .int .i64 vn, .slice A n c, .int .i64 vc]] w (Ret (Just (.bool (decide (r4 < us.length)))) w) := by
  subst h
  go_enter Try.func33, Try.ntmps33
  go_wp2
  go_ret
  exact ⟨_, rfl, rfl, balloc (bnew w _) _⟩
theorem fit4 : Calls Try.prog 34 #[.agg #[.int .i64 r1, .int .i64 r2, .int .i64 r3, .int .i64 r4, .int .i64 r5, .int .i64 r6], .agg #[.int .i64 va, .int .i64 vn, .slice A n c, .int .i64 vc]] w (Ret (Just (.bool (vc == r4))) w) := by
  go_enter Try.func34, Try.ntmps34
  go_wp2
  go_ret
  exact ⟨_, rfl, rfl, balloc (bnew w _) _⟩
end

def fitsV : Value := .agg #[.func (.func 28) #[] #[], .func (.func 29) #[] #[], .func (.func 31) #[] #[], .func (.func 33) #[] #[], .func (.func 34) #[] #[]]
theorem fitsSize : (Try.prog.info? 43).map (·.size) = some 5 := by kernel_rfl
theorem fits_any (w : World) : Calls Try.prog 23 #[] w (Ret (Just fitsV) w) := by
  go_enter Try.func23, Try.ntmps23
  go_wp2_with (refine wpList_store_row rfl 43 _ _ rfl w.heap.size #[.func (.func 28) #[] #[], .func (.func 29) #[] #[], .func (.func 31) #[] #[], .func (.func 33) #[] #[], .func (.func 34) #[] #[]] rfl rfl 43 #[.nilFunc, .nilFunc, .nilFunc, .nilFunc, .nilFunc] (heap_alloc_new w _) fitsSize rfl (by simp [Value.oneCell']) ?_)

  have hrow : ((w.alloc (.cells #[.nilFunc, .nilFunc, .nilFunc, .nilFunc, .nilFunc] 43)).setRow w.heap.size #[.func (.func 28) #[] #[], .func (.func 29) #[] #[], .func (.func 31) #[] #[], .func (.func 33) #[] #[], .func (.func 34) #[] #[]]).heap[w.heap.size]? = some (.cells #[.func (.func 28) #[] #[], .func (.func 29) #[] #[], .func (.func 31) #[] #[], .func (.func 33) #[] #[], .func (.func 34) #[] #[]] 43 (0, 0)) := setRow_heap _ _ _ _ _ _ (heap_alloc_new w _)
  exact bodyPost_ret (results_cell_row rfl _ _ w.heap.size _ _ _ _ rfl hrow Try.underlying43 rfl fitsSize) rfl ⟨_, rfl, rfl, below_setRow (bnew w _) (Nat.le_refl _) _⟩

end Go.Proofs.Ytmlhbmlppgoklab
