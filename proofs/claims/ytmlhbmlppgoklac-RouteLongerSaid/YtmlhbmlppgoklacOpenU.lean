/- What an argument that came in reads as: a route, its preference within its bounds. -/
import Derived.Test.YtmlhbmlppgoklacOpenT
namespace Go.Proofs.Ytmlhbmlppgoklac
open Go.RowKit Go.ChangeShapes Go.WideShapes Go.ChangeAt Go.Joins
set_option linter.unusedVariables false
set_option linter.unusedSimpArgs false
section
variable {H : Type} {enc : TypeId × Value → H} {W : World} {held : Bool} {fuel : Nat}
theorem open_routeW {r : Reach} {b0 : Nat} {v : Value} {d : DataW H} {p : List MemPlace} (hv : Value.okWide Try.prog W r b0 27 v) (h : DataW.Trod enc Try.prog W 0 (fun _ => true) held 27 v d p) :
    ∃ x : Rv, v = .agg #[.int .i64 x.r.pref, .int .i64 x.r.origin, .slice x.A x.n x.c, .int .i64 x.r.hop, .int .i64 x.r.otc, .int .i64 x.r.frm] ∧ RdI W x.A x.n x.c x.r.as ∧ (Lit.int .i64 x.r.pref).wf = true := by
  have c1 : Try.prog.cellsOf 3 = 1 := by kernel_rfl
  obtain ⟨cs, rfl, hsz⟩ := okWide_struct Try.underlying27 hv
  obtain ⟨fuel, hf⟩ := h
  obtain ⟨x, hx, hr⟩ := route_of_trod hf
  have hx : cs.toList = rvV x := hx
  obtain ⟨xs, n, _, _, hl, hn, hff⟩ := DataW.trod_struct Try.underlying27 hf
  have h0 : DataW.trod enc Try.prog W 0 (fun _ => true) held n 3 (List.take (Try.prog.cellsOf 3) (List.drop 0 cs.toList)) = xs[0]? := hff 0 _ rfl
  rw [c1, hx] at h0
  obtain ⟨_, g0⟩ := field_get hn (by decide) h0
  obtain ⟨t0, e0, hw⟩ := open_intF (show DataW.trod enc Try.prog W 0 (fun _ => true) held n 3 [.int .i64 x.r.pref] = some _ from g0)
  injection e0 with _ e0
  refine ⟨x, ?_, hr, by rw [e0]; exact hw⟩
  rw [← Array.toArray_toList (xs := cs), hx]
  rfl
end
end Go.Proofs.Ytmlhbmlppgoklac
