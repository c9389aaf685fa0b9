/- Slices of numbers; whether one of them is there. -/
import Derived.Test.YtmlhbmlppgoklabCom
namespace Go.Proofs.Ytmlhbmlppgoklab
open Go.RowKit
set_option maxHeartbeats 400000
set_option linter.unusedVariables false
set_option linter.unusedSimpArgs false

def iv (x : Int) : Value := .int .i64 x
/-- A slice of numbers. -/
structure RdI (w : World) (A : Option Addr) (n c : Nat) (zs : List Int) : Prop where
  len : zs.length = n
  le : n ≤ c
  max : c ≤ maxLen
  lies : Lies w A (zs.map fun x => .int .i64 x)
theorem RdI.below {w w' : World} {n c : Nat} {A : Option Addr} {l : List Int} (h : RdI w A n c l) (hb : Below w.heap.size w w') : RdI w' A n c l := ⟨h.len, h.le, h.max, h.lies.below hb⟩
theorem RdI.at_ {w : World} {n c : Nat} {A : Option Addr} {l : List Int} (h : RdI w A n c l) {k : Nat} (hk : k < n) : ∃ b o, A = some ⟨b, o, none⟩ ∧ ∀ j, ∀ hj : j < l.length, w.cell? ⟨b, o + j, none⟩ = some (.int .i64 l[j]) := by
  rcases h.lies with h1 | ⟨b, o, hA, hc⟩
  · have := h.len
    simp at h1
    subst h1
    simp at this
    omega
  · refine ⟨b, o, hA, fun j hj => ?_⟩
    have := hc j (by simpa using hj)
    simpa using this

/-- Where a number comes first, or below 0. -/
def idxZ (v : Int) (l : List Int) : Int := if l.contains v = true then (l.idxOf v : Int) else -1
theorem index_any (A : Option Addr) (n c : Nat) (l : List Int) (v : Int) (w : World) (h : RdI w A n c l) :
    Calls Try.prog 37 #[.slice A n c, .int .i64 v] w fun e w' => ∃ k : Int, e = .returned (.int .i64 k) ∧ decide (0 ≤ k) = l.contains v ∧ w = w' := by
  have hlen := h.len
  have hmx := h.max
  have hle := h.le
  unfold maxLen at hmx
  have HR := Lib.hid h
  clear h
  go_enter Try.func37, Try.ntmps37
  go_wp2
  go_loopw [8] (fun i wr => ∃ j : Nat, j ≤ n ∧ i = .int .i64 j ∧ (∀ k, ∀ h : k < l.length, k < j → l[k] ≠ v) ∧ wr = w) (fun i _ => n - (intOf i).toNat)
  case atStart => exact ⟨0, by omega, rfl, fun k _ hk => absurd hk (by omega), rfl⟩
  case round =>
    obtain ⟨j, hj, rfl, hno, rfl⟩ := hrel
    have HN := Lib.hid hno
    clear hno
    by_cases hlt : j < n
    · obtain ⟨b, o, rfl, hcell⟩ := HR.out.at_ hlt
      have c0 := hcell j (by omega)
      obtain ⟨x, hx⟩ : ∃ x, l[j] = x := ⟨_, rfl⟩
      rw [hx] at c0
      have HX := Lib.hid hx
      have hlt' : (j : Int) < n := by omega
      clear hcell hx
      cases hv : (v == x)
      · have HV := Lib.hid hv
        go_wp2
        go_roundw
        case rel => exact ⟨j + 1, by omega, by go_num, fun k hk hkj => by
          by_cases e : k = j
          · subst e
            rw [HX.out]
            exact fun e => (beq_eq_false_iff_ne.1 HV.out) e.symm
          · exact HN.out k hk (by omega), by first | trivial | rfl⟩
        case measure => simp [intOf]; omega
      · have e := eq_of_beq hv
        subst e
        go_wp2
        go_ret
        refine ⟨j, rfl, ?_, rfl⟩
        rw [decide_eq_true (by omega)]
        symm
        rw [List.contains_iff_mem]
        rw [← HX.out]
        exact List.getElem_mem _
    · obtain rfl : j = n := by omega
      go_wp2
      go_ret
      refine ⟨-1, rfl, ?_, rfl⟩
      rw [decide_eq_false (by omega)]
      symm
      rw [Bool.eq_false_iff]
      intro hc
      rw [List.contains_iff_mem] at hc
      obtain ⟨k, hk, e⟩ := List.getElem_of_mem hc
      exact HN.out k hk (by omega) e
theorem contains_any (A : Option Addr) (n c : Nat) (l : List Int) (v : Int) (w : World) (h : RdI w A n c l) :
    Calls Try.prog 32 #[.slice A n c, .int .i64 v] w fun e w' => e = .returned (.bool (l.contains v)) ∧ w = w' := by
  go_enter Try.func32, Try.ntmps32
  go_wp2_with fail
  with_reducible refine (index_any A n c l v w h).mono ?_
  rintro e w1 ⟨k, rfl, hk, rfl⟩
  obtain ⟨d, hd⟩ : ∃ d, l.contains v = d := ⟨_, rfl⟩
  have HD := Lib.hid hd
  rw [hd] at hk
  have h1 : decide (k ≥ 0) = d := hk
  clear hd
  cases d
  all_goals
    go_wp2
    go_ret
    exact ⟨by rw [HD.out]; rfl, rfl⟩
end Go.Proofs.Ytmlhbmlppgoklab
