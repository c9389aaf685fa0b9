/- The walk of route.Compare. -/
import Derived.Test.YtmlhbmlppgoklacRou2
namespace Go.Proofs.Ytmlhbmlppgoklac
open Go.RowKit
set_option maxHeartbeats 4000000
set_option maxRecDepth 100000
set_option linter.unusedVariables false
set_option linter.unusedSimpArgs false

/-- A route as a value; its path lies at A. -/
def routeA (a : Rt) (A : Option Addr) (n c : Nat) : Array Value := #[.int .i64 a.pref, .int .i64 a.origin, .slice A n c, .int .i64 a.hop, .int .i64 a.otc, .int .i64 a.frm]

/-- What routes are compared by, one after the other. -/
def byZ (a b : Rt) : Nat → Int
  | 0 => cmpI b.pref a.pref
  | 1 => cmpI a.as.length b.as.length
  | 2 => cmpI a.origin b.origin
  | 3 => cmpL a.as b.as
  | 4 => cmpI a.hop b.hop
  | 5 => cmpI a.otc b.otc
  | 6 => cmpI a.frm b.frm
  | _ => 0
theorem compareR_hit (a b : Rt) (j : Nat) (hj : j ≤ 6) (hno : ∀ k, k < j → byZ a b k = 0) (h : byZ a b j ≠ 0) : compareR a b = byZ a b j := by
  unfold compareR thenC
  have h0 : 0 < j → cmpI b.pref a.pref = 0 := fun e => hno 0 e
  have h1 : 1 < j → cmpI a.as.length b.as.length = 0 := fun e => hno 1 e
  have h2 : 2 < j → cmpI a.origin b.origin = 0 := fun e => hno 2 e
  have h3 : 3 < j → cmpL a.as b.as = 0 := fun e => hno 3 e
  have h4 : 4 < j → cmpI a.hop b.hop = 0 := fun e => hno 4 e
  have h5 : 5 < j → cmpI a.otc b.otc = 0 := fun e => hno 5 e
  rcases (show j = 0 ∨ j = 1 ∨ j = 2 ∨ j = 3 ∨ j = 4 ∨ j = 5 ∨ j = 6 by omega) with rfl | rfl | rfl | rfl | rfl | rfl | rfl <;> simp only [byZ] at h ⊢
  · rw [if_pos h]
  · rw [if_neg (by simp [h0]), if_pos h]
  · rw [if_neg (by simp [h0]), if_neg (by simp [h1]), if_pos h]
  · rw [if_neg (by simp [h0]), if_neg (by simp [h1]), if_neg (by simp [h2]), if_pos h]
  · rw [if_neg (by simp [h0]), if_neg (by simp [h1]), if_neg (by simp [h2]), if_neg (by simp [h3]), if_pos h]
  · rw [if_neg (by simp [h0]), if_neg (by simp [h1]), if_neg (by simp [h2]), if_neg (by simp [h3]), if_neg (by simp [h4]), if_pos h]
  · rw [if_neg (by simp [h0]), if_neg (by simp [h1]), if_neg (by simp [h2]), if_neg (by simp [h3]), if_neg (by simp [h4]), if_neg (by simp [h5])]
theorem compareR_none (a b : Rt) (hno : ∀ k, k < 7 → byZ a b k = 0) : compareR a b = 0 := by
  have h0 : cmpI b.pref a.pref = 0 := hno 0 (by omega)
  have h1 : cmpI a.as.length b.as.length = 0 := hno 1 (by omega)
  have h2 : cmpI a.origin b.origin = 0 := hno 2 (by omega)
  have h3 : cmpL a.as b.as = 0 := hno 3 (by omega)
  have h4 : cmpI a.hop b.hop = 0 := hno 4 (by omega)
  have h5 : cmpI a.otc b.otc = 0 := hno 5 (by omega)
  have h6 : cmpI a.frm b.frm = 0 := hno 6 (by omega)
  unfold compareR thenC
  simp [h0, h1, h2, h3, h4, h5, h6]

theorem compare_any (a b : Rt) (A : Option Addr) (n c : Nat) (B : Option Addr) (m d : Nat) (w : World) (h1 : RdI w A n c a.as) (h2 : RdI w B m d b.as) :
    Calls Try.prog 10 #[.agg (routeA a A n c), .agg (routeA b B m d)] w (Ret (Just (.int .i64 (compareR a b))) w) := by
  have H1 := Lib.hid h1
  have H2 := Lib.hid h2
  have HN1 := Lib.hid h1.len
  have HN2 := Lib.hid h2.len
  clear h1 h2
  unfold routeA
  go_enter Try.func10, Try.ntmps10
  go_wp2_with fail
  have hb := balloc (balloc (balloc (bnew w (.cells #[.int .i64 a.pref, .int .i64 a.origin, .slice A n c, .int .i64 a.hop, .int .i64 a.otc, .int .i64 a.frm] 27)) (.cells #[.int .i64 b.pref, .int .i64 b.origin, .slice B m d, .int .i64 b.hop, .int .i64 b.otc, .int .i64 b.frm] 27)) (.cells #[.int .i64 a.pref, .int .i64 a.origin, .slice A n c, .int .i64 a.hop, .int .i64 a.otc, .int .i64 a.frm, .int .i64 b.pref, .int .i64 b.origin, .slice B m d, .int .i64 b.hop, .int .i64 b.otc, .int .i64 b.frm] 41)) (.cells #[.func (.func 20) #[.agg #[.int .i64 a.pref, .int .i64 a.origin, .slice A n c, .int .i64 a.hop, .int .i64 a.otc, .int .i64 a.frm, .int .i64 b.pref, .int .i64 b.origin, .slice B m d, .int .i64 b.hop, .int .i64 b.otc, .int .i64 b.frm]] #[], .func (.func 21) #[.agg #[.int .i64 a.pref, .int .i64 a.origin, .slice A n c, .int .i64 a.hop, .int .i64 a.otc, .int .i64 a.frm, .int .i64 b.pref, .int .i64 b.origin, .slice B m d, .int .i64 b.hop, .int .i64 b.otc, .int .i64 b.frm]] #[], .func (.func 22) #[.agg #[.int .i64 a.pref, .int .i64 a.origin, .slice A n c, .int .i64 a.hop, .int .i64 a.otc, .int .i64 a.frm, .int .i64 b.pref, .int .i64 b.origin, .slice B m d, .int .i64 b.hop, .int .i64 b.otc, .int .i64 b.frm]] #[], .func (.func 23) #[.agg #[.int .i64 a.pref, .int .i64 a.origin, .slice A n c, .int .i64 a.hop, .int .i64 a.otc, .int .i64 a.frm, .int .i64 b.pref, .int .i64 b.origin, .slice B m d, .int .i64 b.hop, .int .i64 b.otc, .int .i64 b.frm]] #[], .func (.func 24) #[.agg #[.int .i64 a.pref, .int .i64 a.origin, .slice A n c, .int .i64 a.hop, .int .i64 a.otc, .int .i64 a.frm, .int .i64 b.pref, .int .i64 b.origin, .slice B m d, .int .i64 b.hop, .int .i64 b.otc, .int .i64 b.frm]] #[], .func (.func 25) #[.agg #[.int .i64 a.pref, .int .i64 a.origin, .slice A n c, .int .i64 a.hop, .int .i64 a.otc, .int .i64 a.frm, .int .i64 b.pref, .int .i64 b.origin, .slice B m d, .int .i64 b.hop, .int .i64 b.otc, .int .i64 b.frm]] #[], .func (.func 26) #[.agg #[.int .i64 a.pref, .int .i64 a.origin, .slice A n c, .int .i64 a.hop, .int .i64 a.otc, .int .i64 a.frm, .int .i64 b.pref, .int .i64 b.origin, .slice B m d, .int .i64 b.hop, .int .i64 b.otc, .int .i64 b.frm]] #[]] 42)
  have hrow := heap_alloc_new (((w.alloc (.cells #[.int .i64 a.pref, .int .i64 a.origin, .slice A n c, .int .i64 a.hop, .int .i64 a.otc, .int .i64 a.frm] 27)).alloc (.cells #[.int .i64 b.pref, .int .i64 b.origin, .slice B m d, .int .i64 b.hop, .int .i64 b.otc, .int .i64 b.frm] 27)).alloc (.cells #[.int .i64 a.pref, .int .i64 a.origin, .slice A n c, .int .i64 a.hop, .int .i64 a.otc, .int .i64 a.frm, .int .i64 b.pref, .int .i64 b.origin, .slice B m d, .int .i64 b.hop, .int .i64 b.otc, .int .i64 b.frm] 41)) (.cells #[.func (.func 20) #[.agg #[.int .i64 a.pref, .int .i64 a.origin, .slice A n c, .int .i64 a.hop, .int .i64 a.otc, .int .i64 a.frm, .int .i64 b.pref, .int .i64 b.origin, .slice B m d, .int .i64 b.hop, .int .i64 b.otc, .int .i64 b.frm]] #[], .func (.func 21) #[.agg #[.int .i64 a.pref, .int .i64 a.origin, .slice A n c, .int .i64 a.hop, .int .i64 a.otc, .int .i64 a.frm, .int .i64 b.pref, .int .i64 b.origin, .slice B m d, .int .i64 b.hop, .int .i64 b.otc, .int .i64 b.frm]] #[], .func (.func 22) #[.agg #[.int .i64 a.pref, .int .i64 a.origin, .slice A n c, .int .i64 a.hop, .int .i64 a.otc, .int .i64 a.frm, .int .i64 b.pref, .int .i64 b.origin, .slice B m d, .int .i64 b.hop, .int .i64 b.otc, .int .i64 b.frm]] #[], .func (.func 23) #[.agg #[.int .i64 a.pref, .int .i64 a.origin, .slice A n c, .int .i64 a.hop, .int .i64 a.otc, .int .i64 a.frm, .int .i64 b.pref, .int .i64 b.origin, .slice B m d, .int .i64 b.hop, .int .i64 b.otc, .int .i64 b.frm]] #[], .func (.func 24) #[.agg #[.int .i64 a.pref, .int .i64 a.origin, .slice A n c, .int .i64 a.hop, .int .i64 a.otc, .int .i64 a.frm, .int .i64 b.pref, .int .i64 b.origin, .slice B m d, .int .i64 b.hop, .int .i64 b.otc, .int .i64 b.frm]] #[], .func (.func 25) #[.agg #[.int .i64 a.pref, .int .i64 a.origin, .slice A n c, .int .i64 a.hop, .int .i64 a.otc, .int .i64 a.frm, .int .i64 b.pref, .int .i64 b.origin, .slice B m d, .int .i64 b.hop, .int .i64 b.otc, .int .i64 b.frm]] #[], .func (.func 26) #[.agg #[.int .i64 a.pref, .int .i64 a.origin, .slice A n c, .int .i64 a.hop, .int .i64 a.otc, .int .i64 a.frm, .int .i64 b.pref, .int .i64 b.origin, .slice B m d, .int .i64 b.hop, .int .i64 b.otc, .int .i64 b.frm]] #[]] 42)
  rw [show (((w.alloc (.cells #[.int .i64 a.pref, .int .i64 a.origin, .slice A n c, .int .i64 a.hop, .int .i64 a.otc, .int .i64 a.frm] 27)).alloc (.cells #[.int .i64 b.pref, .int .i64 b.origin, .slice B m d, .int .i64 b.hop, .int .i64 b.otc, .int .i64 b.frm] 27)).alloc (.cells #[.int .i64 a.pref, .int .i64 a.origin, .slice A n c, .int .i64 a.hop, .int .i64 a.otc, .int .i64 a.frm, .int .i64 b.pref, .int .i64 b.origin, .slice B m d, .int .i64 b.hop, .int .i64 b.otc, .int .i64 b.frm] 41)).heap.size = w.heap.size + 3 by simp] at hrow
  generalize (((w.alloc (.cells #[.int .i64 a.pref, .int .i64 a.origin, .slice A n c, .int .i64 a.hop, .int .i64 a.otc, .int .i64 a.frm] 27)).alloc (.cells #[.int .i64 b.pref, .int .i64 b.origin, .slice B m d, .int .i64 b.hop, .int .i64 b.otc, .int .i64 b.frm] 27)).alloc (.cells #[.int .i64 a.pref, .int .i64 a.origin, .slice A n c, .int .i64 a.hop, .int .i64 a.otc, .int .i64 a.frm, .int .i64 b.pref, .int .i64 b.origin, .slice B m d, .int .i64 b.hop, .int .i64 b.otc, .int .i64 b.frm] 41)).alloc (.cells #[.func (.func 20) #[.agg #[.int .i64 a.pref, .int .i64 a.origin, .slice A n c, .int .i64 a.hop, .int .i64 a.otc, .int .i64 a.frm, .int .i64 b.pref, .int .i64 b.origin, .slice B m d, .int .i64 b.hop, .int .i64 b.otc, .int .i64 b.frm]] #[], .func (.func 21) #[.agg #[.int .i64 a.pref, .int .i64 a.origin, .slice A n c, .int .i64 a.hop, .int .i64 a.otc, .int .i64 a.frm, .int .i64 b.pref, .int .i64 b.origin, .slice B m d, .int .i64 b.hop, .int .i64 b.otc, .int .i64 b.frm]] #[], .func (.func 22) #[.agg #[.int .i64 a.pref, .int .i64 a.origin, .slice A n c, .int .i64 a.hop, .int .i64 a.otc, .int .i64 a.frm, .int .i64 b.pref, .int .i64 b.origin, .slice B m d, .int .i64 b.hop, .int .i64 b.otc, .int .i64 b.frm]] #[], .func (.func 23) #[.agg #[.int .i64 a.pref, .int .i64 a.origin, .slice A n c, .int .i64 a.hop, .int .i64 a.otc, .int .i64 a.frm, .int .i64 b.pref, .int .i64 b.origin, .slice B m d, .int .i64 b.hop, .int .i64 b.otc, .int .i64 b.frm]] #[], .func (.func 24) #[.agg #[.int .i64 a.pref, .int .i64 a.origin, .slice A n c, .int .i64 a.hop, .int .i64 a.otc, .int .i64 a.frm, .int .i64 b.pref, .int .i64 b.origin, .slice B m d, .int .i64 b.hop, .int .i64 b.otc, .int .i64 b.frm]] #[], .func (.func 25) #[.agg #[.int .i64 a.pref, .int .i64 a.origin, .slice A n c, .int .i64 a.hop, .int .i64 a.otc, .int .i64 a.frm, .int .i64 b.pref, .int .i64 b.origin, .slice B m d, .int .i64 b.hop, .int .i64 b.otc, .int .i64 b.frm]] #[], .func (.func 26) #[.agg #[.int .i64 a.pref, .int .i64 a.origin, .slice A n c, .int .i64 a.hop, .int .i64 a.otc, .int .i64 a.frm, .int .i64 b.pref, .int .i64 b.origin, .slice B m d, .int .i64 b.hop, .int .i64 b.otc, .int .i64 b.frm]] #[]] 42) = W0 at *
  have HB := Lib.hid hb
  have HROW := Lib.hid hrow
  clear hb hrow
  go_loopw [28] (fun i wr => ∃ j : Nat, j ≤ 7 ∧ i = .int .i64 j ∧ (∀ k, k < j → byZ a b k = 0) ∧ Below W0.heap.size W0 wr) (fun i _ => 7 - (intOf i).toNat)
  case atStart => exact ⟨0, by omega, rfl, fun k hk => absurd hk (by omega), Below.refl _ _⟩
  case round =>
    obtain ⟨j, hj, rfl, hno, hbr⟩ := hrel
    have HN := Lib.hid hno
    have HBR := Lib.hid hbr
    clear hno hbr
    have hrow := row_to HBR.out HROW.out
    rcases (show j = 0 ∨ j = 1 ∨ j = 2 ∨ j = 3 ∨ j = 4 ∨ j = 5 ∨ j = 6 ∨ j = 7 by omega) with rfl | rfl | rfl | rfl | rfl | rfl | rfl | rfl
    · have hcell : wr.cell? ⟨w.heap.size + 3, 0, none⟩ = some (.func (.func 20) #[.agg #[.int .i64 a.pref, .int .i64 a.origin, .slice A n c, .int .i64 a.hop, .int .i64 a.otc, .int .i64 a.frm, .int .i64 b.pref, .int .i64 b.origin, .slice B m d, .int .i64 b.hop, .int .i64 b.otc, .int .i64 b.frm]] #[]) := by rw [cell_of_row _ _ _ _ _ _ hrow]; rfl
      clear hrow
      have hcall : Calls Try.prog 20 #[.agg #[.int .i64 a.pref, .int .i64 a.origin, .slice A n c, .int .i64 a.hop, .int .i64 a.otc, .int .i64 a.frm, .int .i64 b.pref, .int .i64 b.origin, .slice B m d, .int .i64 b.hop, .int .i64 b.otc, .int .i64 b.frm]] wr fun e w' => e = .returned (.int .i64 (byZ a b 0)) ∧ Below wr.heap.size wr w' := by_pref a b A n c B m d wr
      obtain ⟨C, hC⟩ : ∃ C, byZ a b 0 = C := ⟨_, rfl⟩
      rw [hC] at hcall
      have HC := Lib.hid hC
      have HCALL := Lib.hid hcall
      clear hC hcall
      go_wp2_with fail
      with_reducible refine HCALL.out.mono ?_
      rintro e w2 ⟨rfl, hb2⟩
      have HB2 := Lib.hid (bstep HBR.out hb2)
      clear hb2 hcell
      cases hz : (C != 0)
      · have e0 : C = 0 := by simpa using hz
        subst e0
        go_wp2
        go_roundw
        case rel => exact ⟨0 + 1, by omega, by go_num, fun k hk => by
          by_cases e : k = 0
          · subst e
            exact HC.out
          · exact HN.out k (by omega), HB2.out⟩
        case measure => simp [intOf]
      · have e0 : C ≠ 0 := by simpa using hz
        have HF := Lib.hid (show compareR a b = C by rw [compareR_hit a b 0 (by omega) HN.out (by rw [HC.out]; exact e0), HC.out])
        go_wp2
        go_ret
        exact ⟨_, rfl, by rw [HF.out]; rfl, bstep HB.out HB2.out⟩
    · have hcell : wr.cell? ⟨w.heap.size + 3, 1, none⟩ = some (.func (.func 21) #[.agg #[.int .i64 a.pref, .int .i64 a.origin, .slice A n c, .int .i64 a.hop, .int .i64 a.otc, .int .i64 a.frm, .int .i64 b.pref, .int .i64 b.origin, .slice B m d, .int .i64 b.hop, .int .i64 b.otc, .int .i64 b.frm]] #[]) := by rw [cell_of_row _ _ _ _ _ _ hrow]; rfl
      clear hrow
      have hcall : Calls Try.prog 21 #[.agg #[.int .i64 a.pref, .int .i64 a.origin, .slice A n c, .int .i64 a.hop, .int .i64 a.otc, .int .i64 a.frm, .int .i64 b.pref, .int .i64 b.origin, .slice B m d, .int .i64 b.hop, .int .i64 b.otc, .int .i64 b.frm]] wr fun e w' => e = .returned (.int .i64 (byZ a b 1)) ∧ Below wr.heap.size wr w' := by_length a b A n c B m d wr HN1.out HN2.out
      obtain ⟨C, hC⟩ : ∃ C, byZ a b 1 = C := ⟨_, rfl⟩
      rw [hC] at hcall
      have HC := Lib.hid hC
      have HCALL := Lib.hid hcall
      clear hC hcall
      go_wp2_with fail
      with_reducible refine HCALL.out.mono ?_
      rintro e w2 ⟨rfl, hb2⟩
      have HB2 := Lib.hid (bstep HBR.out hb2)
      clear hb2 hcell
      cases hz : (C != 0)
      · have e0 : C = 0 := by simpa using hz
        subst e0
        go_wp2
        go_roundw
        case rel => exact ⟨1 + 1, by omega, by go_num, fun k hk => by
          by_cases e : k = 1
          · subst e
            exact HC.out
          · exact HN.out k (by omega), HB2.out⟩
        case measure => simp [intOf]
      · have e0 : C ≠ 0 := by simpa using hz
        have HF := Lib.hid (show compareR a b = C by rw [compareR_hit a b 1 (by omega) HN.out (by rw [HC.out]; exact e0), HC.out])
        go_wp2
        go_ret
        exact ⟨_, rfl, by rw [HF.out]; rfl, bstep HB.out HB2.out⟩
    · have hcell : wr.cell? ⟨w.heap.size + 3, 2, none⟩ = some (.func (.func 22) #[.agg #[.int .i64 a.pref, .int .i64 a.origin, .slice A n c, .int .i64 a.hop, .int .i64 a.otc, .int .i64 a.frm, .int .i64 b.pref, .int .i64 b.origin, .slice B m d, .int .i64 b.hop, .int .i64 b.otc, .int .i64 b.frm]] #[]) := by rw [cell_of_row _ _ _ _ _ _ hrow]; rfl
      clear hrow
      have hcall : Calls Try.prog 22 #[.agg #[.int .i64 a.pref, .int .i64 a.origin, .slice A n c, .int .i64 a.hop, .int .i64 a.otc, .int .i64 a.frm, .int .i64 b.pref, .int .i64 b.origin, .slice B m d, .int .i64 b.hop, .int .i64 b.otc, .int .i64 b.frm]] wr fun e w' => e = .returned (.int .i64 (byZ a b 2)) ∧ Below wr.heap.size wr w' := by_origin a b A n c B m d wr
      obtain ⟨C, hC⟩ : ∃ C, byZ a b 2 = C := ⟨_, rfl⟩
      rw [hC] at hcall
      have HC := Lib.hid hC
      have HCALL := Lib.hid hcall
      clear hC hcall
      go_wp2_with fail
      with_reducible refine HCALL.out.mono ?_
      rintro e w2 ⟨rfl, hb2⟩
      have HB2 := Lib.hid (bstep HBR.out hb2)
      clear hb2 hcell
      cases hz : (C != 0)
      · have e0 : C = 0 := by simpa using hz
        subst e0
        go_wp2
        go_roundw
        case rel => exact ⟨2 + 1, by omega, by go_num, fun k hk => by
          by_cases e : k = 2
          · subst e
            exact HC.out
          · exact HN.out k (by omega), HB2.out⟩
        case measure => simp [intOf]
      · have e0 : C ≠ 0 := by simpa using hz
        have HF := Lib.hid (show compareR a b = C by rw [compareR_hit a b 2 (by omega) HN.out (by rw [HC.out]; exact e0), HC.out])
        go_wp2
        go_ret
        exact ⟨_, rfl, by rw [HF.out]; rfl, bstep HB.out HB2.out⟩
    · have hcell : wr.cell? ⟨w.heap.size + 3, 3, none⟩ = some (.func (.func 23) #[.agg #[.int .i64 a.pref, .int .i64 a.origin, .slice A n c, .int .i64 a.hop, .int .i64 a.otc, .int .i64 a.frm, .int .i64 b.pref, .int .i64 b.origin, .slice B m d, .int .i64 b.hop, .int .i64 b.otc, .int .i64 b.frm]] #[]) := by rw [cell_of_row _ _ _ _ _ _ hrow]; rfl
      clear hrow
      have hcall : Calls Try.prog 23 #[.agg #[.int .i64 a.pref, .int .i64 a.origin, .slice A n c, .int .i64 a.hop, .int .i64 a.otc, .int .i64 a.frm, .int .i64 b.pref, .int .i64 b.origin, .slice B m d, .int .i64 b.hop, .int .i64 b.otc, .int .i64 b.frm]] wr fun e w' => e = .returned (.int .i64 (byZ a b 3)) ∧ Below wr.heap.size wr w' := by_as a b A n c B m d wr (H1.out.below (bstep HB.out HBR.out)) (H2.out.below (bstep HB.out HBR.out))
      obtain ⟨C, hC⟩ : ∃ C, byZ a b 3 = C := ⟨_, rfl⟩
      rw [hC] at hcall
      have HC := Lib.hid hC
      have HCALL := Lib.hid hcall
      clear hC hcall
      go_wp2_with fail
      with_reducible refine HCALL.out.mono ?_
      rintro e w2 ⟨rfl, hb2⟩
      have HB2 := Lib.hid (bstep HBR.out hb2)
      clear hb2 hcell
      cases hz : (C != 0)
      · have e0 : C = 0 := by simpa using hz
        subst e0
        go_wp2
        go_roundw
        case rel => exact ⟨3 + 1, by omega, by go_num, fun k hk => by
          by_cases e : k = 3
          · subst e
            exact HC.out
          · exact HN.out k (by omega), HB2.out⟩
        case measure => simp [intOf]
      · have e0 : C ≠ 0 := by simpa using hz
        have HF := Lib.hid (show compareR a b = C by rw [compareR_hit a b 3 (by omega) HN.out (by rw [HC.out]; exact e0), HC.out])
        go_wp2
        go_ret
        exact ⟨_, rfl, by rw [HF.out]; rfl, bstep HB.out HB2.out⟩
    · have hcell : wr.cell? ⟨w.heap.size + 3, 4, none⟩ = some (.func (.func 24) #[.agg #[.int .i64 a.pref, .int .i64 a.origin, .slice A n c, .int .i64 a.hop, .int .i64 a.otc, .int .i64 a.frm, .int .i64 b.pref, .int .i64 b.origin, .slice B m d, .int .i64 b.hop, .int .i64 b.otc, .int .i64 b.frm]] #[]) := by rw [cell_of_row _ _ _ _ _ _ hrow]; rfl
      clear hrow
      have hcall : Calls Try.prog 24 #[.agg #[.int .i64 a.pref, .int .i64 a.origin, .slice A n c, .int .i64 a.hop, .int .i64 a.otc, .int .i64 a.frm, .int .i64 b.pref, .int .i64 b.origin, .slice B m d, .int .i64 b.hop, .int .i64 b.otc, .int .i64 b.frm]] wr fun e w' => e = .returned (.int .i64 (byZ a b 4)) ∧ Below wr.heap.size wr w' := by_hop a b A n c B m d wr
      obtain ⟨C, hC⟩ : ∃ C, byZ a b 4 = C := ⟨_, rfl⟩
      rw [hC] at hcall
      have HC := Lib.hid hC
      have HCALL := Lib.hid hcall
      clear hC hcall
      go_wp2_with fail
      with_reducible refine HCALL.out.mono ?_
      rintro e w2 ⟨rfl, hb2⟩
      have HB2 := Lib.hid (bstep HBR.out hb2)
      clear hb2 hcell
      cases hz : (C != 0)
      · have e0 : C = 0 := by simpa using hz
        subst e0
        go_wp2
        go_roundw
        case rel => exact ⟨4 + 1, by omega, by go_num, fun k hk => by
          by_cases e : k = 4
          · subst e
            exact HC.out
          · exact HN.out k (by omega), HB2.out⟩
        case measure => simp [intOf]
      · have e0 : C ≠ 0 := by simpa using hz
        have HF := Lib.hid (show compareR a b = C by rw [compareR_hit a b 4 (by omega) HN.out (by rw [HC.out]; exact e0), HC.out])
        go_wp2
        go_ret
        exact ⟨_, rfl, by rw [HF.out]; rfl, bstep HB.out HB2.out⟩
    · have hcell : wr.cell? ⟨w.heap.size + 3, 5, none⟩ = some (.func (.func 25) #[.agg #[.int .i64 a.pref, .int .i64 a.origin, .slice A n c, .int .i64 a.hop, .int .i64 a.otc, .int .i64 a.frm, .int .i64 b.pref, .int .i64 b.origin, .slice B m d, .int .i64 b.hop, .int .i64 b.otc, .int .i64 b.frm]] #[]) := by rw [cell_of_row _ _ _ _ _ _ hrow]; rfl
      clear hrow
      have hcall : Calls Try.prog 25 #[.agg #[.int .i64 a.pref, .int .i64 a.origin, .slice A n c, .int .i64 a.hop, .int .i64 a.otc, .int .i64 a.frm, .int .i64 b.pref, .int .i64 b.origin, .slice B m d, .int .i64 b.hop, .int .i64 b.otc, .int .i64 b.frm]] wr fun e w' => e = .returned (.int .i64 (byZ a b 5)) ∧ Below wr.heap.size wr w' := by_otc a b A n c B m d wr
      obtain ⟨C, hC⟩ : ∃ C, byZ a b 5 = C := ⟨_, rfl⟩
      rw [hC] at hcall
      have HC := Lib.hid hC
      have HCALL := Lib.hid hcall
      clear hC hcall
      go_wp2_with fail
      with_reducible refine HCALL.out.mono ?_
      rintro e w2 ⟨rfl, hb2⟩
      have HB2 := Lib.hid (bstep HBR.out hb2)
      clear hb2 hcell
      cases hz : (C != 0)
      · have e0 : C = 0 := by simpa using hz
        subst e0
        go_wp2
        go_roundw
        case rel => exact ⟨5 + 1, by omega, by go_num, fun k hk => by
          by_cases e : k = 5
          · subst e
            exact HC.out
          · exact HN.out k (by omega), HB2.out⟩
        case measure => simp [intOf]
      · have e0 : C ≠ 0 := by simpa using hz
        have HF := Lib.hid (show compareR a b = C by rw [compareR_hit a b 5 (by omega) HN.out (by rw [HC.out]; exact e0), HC.out])
        go_wp2
        go_ret
        exact ⟨_, rfl, by rw [HF.out]; rfl, bstep HB.out HB2.out⟩
    · have hcell : wr.cell? ⟨w.heap.size + 3, 6, none⟩ = some (.func (.func 26) #[.agg #[.int .i64 a.pref, .int .i64 a.origin, .slice A n c, .int .i64 a.hop, .int .i64 a.otc, .int .i64 a.frm, .int .i64 b.pref, .int .i64 b.origin, .slice B m d, .int .i64 b.hop, .int .i64 b.otc, .int .i64 b.frm]] #[]) := by rw [cell_of_row _ _ _ _ _ _ hrow]; rfl
      clear hrow
      have hcall : Calls Try.prog 26 #[.agg #[.int .i64 a.pref, .int .i64 a.origin, .slice A n c, .int .i64 a.hop, .int .i64 a.otc, .int .i64 a.frm, .int .i64 b.pref, .int .i64 b.origin, .slice B m d, .int .i64 b.hop, .int .i64 b.otc, .int .i64 b.frm]] wr fun e w' => e = .returned (.int .i64 (byZ a b 6)) ∧ Below wr.heap.size wr w' := by_from a b A n c B m d wr
      obtain ⟨C, hC⟩ : ∃ C, byZ a b 6 = C := ⟨_, rfl⟩
      rw [hC] at hcall
      have HC := Lib.hid hC
      have HCALL := Lib.hid hcall
      clear hC hcall
      go_wp2_with fail
      with_reducible refine HCALL.out.mono ?_
      rintro e w2 ⟨rfl, hb2⟩
      have HB2 := Lib.hid (bstep HBR.out hb2)
      clear hb2 hcell
      cases hz : (C != 0)
      · have e0 : C = 0 := by simpa using hz
        subst e0
        go_wp2
        go_roundw
        case rel => exact ⟨6 + 1, by omega, by go_num, fun k hk => by
          by_cases e : k = 6
          · subst e
            exact HC.out
          · exact HN.out k (by omega), HB2.out⟩
        case measure => simp [intOf]
      · have e0 : C ≠ 0 := by simpa using hz
        have HF := Lib.hid (show compareR a b = C by rw [compareR_hit a b 6 (by omega) HN.out (by rw [HC.out]; exact e0), HC.out])
        go_wp2
        go_ret
        exact ⟨_, rfl, by rw [HF.out]; rfl, bstep HB.out HB2.out⟩
    · have HF := Lib.hid (compareR_none a b HN.out)
      go_wp2
      go_ret
      exact ⟨_, rfl, by rw [HF.out]; rfl, bstep HB.out HBR.out⟩
end Go.Proofs.Ytmlhbmlppgoklac
