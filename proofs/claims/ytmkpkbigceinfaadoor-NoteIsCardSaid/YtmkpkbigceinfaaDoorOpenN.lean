/- What an argument that came in reads as: notes. -/
import Derived.Test.YtmkpkbigceinfaaDoorOpenM
namespace Go.Proofs.YtmkpkbigceinfaaDoor
open Go.RowKit Go.ChangeShapes Go.WideShapes Go.ChangeAt Go.Joins

theorem open_note {H : Type} {enc : TypeId × Value → H} {W : World} {held : Bool} {r : Reach} {b0 : Nat} {v : Value} {d : DataW H} {p : List MemPlace} (hv : Value.okWide Tryd.prog W r b0 24 v) (h : DataW.Trod enc Tryd.prog W 0 (fun _ => true) held 24 v d p) :
    ∃ c s A n k l, v = .agg #[.int .i64 c, .int .i64 s, .slice A n k] ∧ RdB W A n k l ∧ (Lit.int .i64 c).wf = true ∧ (Lit.int .i64 s).wf = true := by
  obtain ⟨v0, v1, v2, y0, y1, y2, n, rfl, _, _, h0, h1, h2⟩ := open_agg3 Tryd.underlying24 (by kernel_rfl) (by kernel_rfl) hv h
  obtain ⟨c, rfl, hc⟩ := open_intF h0
  obtain ⟨s, rfl, hs⟩ := open_intF h1
  obtain ⟨A, m, k, l, rfl, hr⟩ := open_bytesF h2
  exact ⟨c, s, A, m, k, l, rfl, hr, hc, hs⟩
end Go.Proofs.YtmkpkbigceinfaaDoor
