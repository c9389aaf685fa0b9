/- The walks of the methods that compare two routes by one thing, and of route.Compare. -/
import Derived.Test.YtmlhbmlppgoklacRou1
namespace Go.Proofs.Ytmlhbmlppgoklac
open Go.RowKit
set_option maxHeartbeats 1000000
set_option linter.unusedVariables false
set_option linter.unusedSimpArgs false

/-- Two routes as the value of a pair; the first one's path lies at A, the second one's at B. -/
def pairV (a b : Rt) (A : Option Addr) (n c : Nat) (B : Option Addr) (m d : Nat) : Value :=
  .agg #[.int .i64 a.pref, .int .i64 a.origin, .slice A n c, .int .i64 a.hop, .int .i64 a.otc, .int .i64 a.frm, .int .i64 b.pref, .int .i64 b.origin, .slice B m d, .int .i64 b.hop, .int .i64 b.otc, .int .i64 b.frm]

theorem by_pref (a b : Rt) (A : Option Addr) (n c : Nat) (B : Option Addr) (m d : Nat) (w : World) :
    Calls Try.prog 20 #[pairV a b A n c B m d] w fun e w' => e = .returned (.int .i64 (cmpI b.pref a.pref)) ∧ Below w.heap.size w w' := by
  unfold pairV
  go_enter Try.func20, Try.ntmps20
  go_wp2_with fail
  with_reducible refine (cmp_any _ _ _).mono ?_
  rintro e w1 ⟨rfl, rfl⟩
  go_wp2
  go_ret
  exact ⟨rfl, bnew w _⟩
theorem by_origin (a b : Rt) (A : Option Addr) (n c : Nat) (B : Option Addr) (m d : Nat) (w : World) :
    Calls Try.prog 22 #[pairV a b A n c B m d] w fun e w' => e = .returned (.int .i64 (cmpI a.origin b.origin)) ∧ Below w.heap.size w w' := by
  unfold pairV
  go_enter Try.func22, Try.ntmps22
  go_wp2_with fail
  with_reducible refine (cmp_any _ _ _).mono ?_
  rintro e w1 ⟨rfl, rfl⟩
  go_wp2
  go_ret
  exact ⟨rfl, bnew w _⟩
theorem by_hop (a b : Rt) (A : Option Addr) (n c : Nat) (B : Option Addr) (m d : Nat) (w : World) :
    Calls Try.prog 24 #[pairV a b A n c B m d] w fun e w' => e = .returned (.int .i64 (cmpI a.hop b.hop)) ∧ Below w.heap.size w w' := by
  unfold pairV
  go_enter Try.func24, Try.ntmps24
  go_wp2_with fail
  with_reducible refine (cmp_any _ _ _).mono ?_
  rintro e w1 ⟨rfl, rfl⟩
  go_wp2
  go_ret
  exact ⟨rfl, bnew w _⟩
theorem by_otc (a b : Rt) (A : Option Addr) (n c : Nat) (B : Option Addr) (m d : Nat) (w : World) :
    Calls Try.prog 25 #[pairV a b A n c B m d] w fun e w' => e = .returned (.int .i64 (cmpI a.otc b.otc)) ∧ Below w.heap.size w w' := by
  unfold pairV
  go_enter Try.func25, Try.ntmps25
  go_wp2_with fail
  with_reducible refine (cmp_any _ _ _).mono ?_
  rintro e w1 ⟨rfl, rfl⟩
  go_wp2
  go_ret
  exact ⟨rfl, bnew w _⟩
theorem by_from (a b : Rt) (A : Option Addr) (n c : Nat) (B : Option Addr) (m d : Nat) (w : World) :
    Calls Try.prog 26 #[pairV a b A n c B m d] w fun e w' => e = .returned (.int .i64 (cmpI a.frm b.frm)) ∧ Below w.heap.size w w' := by
  unfold pairV
  go_enter Try.func26, Try.ntmps26
  go_wp2_with fail
  with_reducible refine (cmp_any _ _ _).mono ?_
  rintro e w1 ⟨rfl, rfl⟩
  go_wp2
  go_ret
  exact ⟨rfl, bnew w _⟩
theorem by_length (a b : Rt) (A : Option Addr) (n c : Nat) (B : Option Addr) (m d : Nat) (w : World) (h1 : a.as.length = n) (h2 : b.as.length = m) :
    Calls Try.prog 21 #[pairV a b A n c B m d] w fun e w' => e = .returned (.int .i64 (cmpI a.as.length b.as.length)) ∧ Below w.heap.size w w' := by
  unfold pairV
  rw [h1, h2]
  clear h1 h2
  go_enter Try.func21, Try.ntmps21
  go_wp2_with fail
  with_reducible refine (cmp_any _ _ _).mono ?_
  rintro e w1 ⟨rfl, rfl⟩
  go_wp2
  go_ret
  exact ⟨rfl, bnew w _⟩
theorem by_as (a b : Rt) (A : Option Addr) (n c : Nat) (B : Option Addr) (m d : Nat) (w : World) (h1 : RdI w A n c a.as) (h2 : RdI w B m d b.as) :
    Calls Try.prog 23 #[pairV a b A n c B m d] w fun e w' => e = .returned (.int .i64 (cmpL a.as b.as)) ∧ Below w.heap.size w w' := by
  unfold pairV
  have H1 := Lib.hid h1
  have H2 := Lib.hid h2
  clear h1 h2
  go_enter Try.func23, Try.ntmps23
  go_wp2_with fail
  with_reducible refine (scmp_any A n c a.as B m d b.as _ (H1.out.below (bnew w _)) (H2.out.below (bnew w _))).mono ?_
  rintro e w1 ⟨rfl, rfl⟩
  go_wp2
  go_ret
  exact ⟨rfl, bnew w _⟩
end Go.Proofs.Ytmlhbmlppgoklac
