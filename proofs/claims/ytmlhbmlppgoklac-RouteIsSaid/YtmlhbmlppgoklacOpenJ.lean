/- What an argument that came in reads as: numbers, slices of numbers. -/
import Derived.Test.YtmlhbmlppgoklacRdI
import Derived.Test.YtmlhbmlppgoklacRows
import Derived.ProofKit
import Derived.OpenShut
import Derived.ShutString
import Derived.ChangeOld
import Derived.Lib.SmallJoins
import Derived.WideShapes
namespace Go.Proofs.Ytmlhbmlppgoklac
open Go.RowKit Go.ChangeShapes Go.WideShapes Go.ChangeAt Go.Joins

theorem rdI_of_ints {w : World} {x : Addr} {len cap : Nat} {zs : List Int} (hl : len ≤ cap) (hm : cap ≤ maxLen) (hz : zs.length = cap) (hcell : ∀ i, i < zs.length → w.cell? (x.add i) = some (.int .i64 (zs.getD i 0))) : ∃ l, RdI w (some x) len cap l := by
  refine ⟨zs.take len, by simp; omega, hl, hm, ?_⟩
  by_cases h0 : len = 0
  · left; subst h0; simp
  · right
    obtain ⟨b, o, sp⟩ := x
    have h1 := hcell 0 (by omega)
    have hsp : sp = none := by simpa [Addr.add] using World.cell?_spot h1
    subst hsp
    refine ⟨b, o, rfl, fun j hj => ?_⟩
    have hj' : j < zs.length := by simp at hj; omega
    have := hcell j hj'
    rw [Addr.add_lit] at this
    rw [this]
    simp only [List.getElem_map, List.getElem_take]
    rw [List.getD_eq_getElem?_getD, List.getElem?_eq_getElem hj', Option.getD_some]
theorem open_intF {H : Type} {enc : TypeId × Value → H} {W : World} {held : Bool} {sp : Nat → Bool} {fuel : Nat} {v : Value} {y : DataW H × List MemPlace} (h : DataW.trod enc Try.prog W 0 sp held fuel 3 [v] = some y) :
    ∃ t, v = .int .i64 t ∧ (Lit.int .i64 t).wf = true := by
  obtain ⟨t, hv, _, hw⟩ := DataW.trod_int Try.underlying3 h
  injection hv with hv
  exact ⟨t, hv, hw⟩
theorem open_intsF {H : Type} {enc : TypeId × Value → H} {W : World} {held : Bool} {fuel : Nat} {v : Value} {y : DataW H × List MemPlace} (h : DataW.trod enc Try.prog W 0 (fun _ => true) held fuel 23 [v] = some y) :
    ∃ A n c l, v = .slice A n c ∧ RdI W A n c l := by
  rcases open_ints Try.underlying23 Try.underlying3 (by kernel_rfl) h with ⟨hcs, _⟩ | ⟨x, l, c, zs, hcs, _, hl, hm, hz, _, hcell, hwz⟩
  · injection hcs with hcs
    subst hcs
    exact ⟨_, _, _, [], rfl, ⟨rfl, Nat.le_refl _, Nat.zero_le _, .inl rfl⟩⟩
  · injection hcs with hcs
    subst hcs
    obtain ⟨l', hr⟩ := rdI_of_ints hl hm (by simpa using hz) hcell
    exact ⟨_, _, _, l', rfl, hr⟩
end Go.Proofs.Ytmlhbmlppgoklac
