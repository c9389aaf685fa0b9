/- Slices of numbers. -/
import Derived.Test.YtmlhbmlppgoklacCom
namespace Go.Proofs.Ytmlhbmlppgoklac
open Go.RowKit
set_option maxHeartbeats 400000
set_option linter.unusedVariables false
set_option linter.unusedSimpArgs false

def iv (x : Int) : Value := .int .i64 x
/-- A slice of numbers. -/
structure RdI (w : World) (A : Option Addr) (n c : Nat) (zs : List Int) : Prop where
  len : zs.length = n
  le : n ≤ c
  max : c ≤ maxLen
  lies : Lies w A (zs.map fun x => .int .i64 x)
theorem RdI.below {w w' : World} {n c : Nat} {A : Option Addr} {l : List Int} (h : RdI w A n c l) (hb : Below w.heap.size w w') : RdI w' A n c l := ⟨h.len, h.le, h.max, h.lies.below hb⟩
theorem RdI.at_ {w : World} {n c : Nat} {A : Option Addr} {l : List Int} (h : RdI w A n c l) {k : Nat} (hk : k < n) : ∃ b o, A = some ⟨b, o, none⟩ ∧ ∀ j, ∀ hj : j < l.length, w.cell? ⟨b, o + j, none⟩ = some (.int .i64 l[j]) := by
  rcases h.lies with h1 | ⟨b, o, hA, hc⟩
  · have := h.len
    simp at h1
    subst h1
    simp at this
    omega
  · refine ⟨b, o, hA, fun j hj => ?_⟩
    have := hc j (by simpa using hj)
    simpa using this

end Go.Proofs.Ytmlhbmlppgoklac
