/- What an argument that came in reads as: routes, slices of routes. -/
import Derived.Test.YtmlhbmlppgoklacOpenJ
import Derived.Test.YtmlhbmlppgoklacRou5
import Derived.Deep.Slices
namespace Go.Proofs.Ytmlhbmlppgoklac
open Go.RowKit Go.ChangeShapes Go.WideShapes Go.ChangeAt Go.Joins
set_option linter.unusedVariables false
set_option linter.unusedSimpArgs false

theorem field_get {α : Type} {xs : List α} {i n : Nat} {o : Option α} (hl : xs.length = n) (hi : i < n) (h : o = xs[i]?) : ∃ y, o = some y := ⟨xs[i]'(by omega), by rw [h]; exact List.getElem?_eq_getElem _⟩
section
variable {H : Type} {enc : TypeId × Value → H} {W : World} {held : Bool} {fuel : Nat}
theorem path_of_trod {cs : List Value} {y : DataW H × List MemPlace} (h : DataW.trod enc Try.prog W 0 (fun _ => true) held fuel 25 cs = some y) : ∃ o A n c hop otc us, cs = [.int .i64 o, .slice A n c, .int .i64 hop, .int .i64 otc] ∧ RdI W A n c us := by
  have c4 : Try.prog.cellsOf 25 = 4 := by kernel_rfl
  have c1 : Try.prog.cellsOf 3 = 1 := by kernel_rfl
  have cs1 : Try.prog.cellsOf 23 = 1 := by kernel_rfl
  obtain ⟨xs, n, _, _, hl, hn, hff⟩ := DataW.trod_struct Try.underlying25 h
  rw [c4] at hl
  match cs, hl with
  | [v0, v1, v2, v3], _ =>
    have h0 : DataW.trod enc Try.prog W 0 (fun _ => true) held n 3 (List.take (Try.prog.cellsOf 3) (List.drop 0 [v0, v1, v2, v3])) = xs[0]? := hff 0 _ rfl
    rw [c1] at h0
    have h1 : DataW.trod enc Try.prog W 0 (fun _ => true) held n 23 (List.take (Try.prog.cellsOf 23) (List.drop 1 [v0, v1, v2, v3])) = xs[1]? := hff 1 _ rfl
    rw [cs1] at h1
    have h2 : DataW.trod enc Try.prog W 0 (fun _ => true) held n 3 (List.take (Try.prog.cellsOf 3) (List.drop 2 [v0, v1, v2, v3])) = xs[2]? := hff 2 _ rfl
    rw [c1] at h2
    have h3 : DataW.trod enc Try.prog W 0 (fun _ => true) held n 3 (List.take (Try.prog.cellsOf 3) (List.drop 3 [v0, v1, v2, v3])) = xs[3]? := hff 3 _ rfl
    rw [c1] at h3
    obtain ⟨_, g0⟩ := field_get hn (by decide) h0
    obtain ⟨_, g1⟩ := field_get hn (by decide) h1
    obtain ⟨_, g2⟩ := field_get hn (by decide) h2
    obtain ⟨_, g3⟩ := field_get hn (by decide) h3
    obtain ⟨t0, e0, _⟩ := open_intF (show DataW.trod enc Try.prog W 0 (fun _ => true) held n 3 [v0] = some _ from g0)
    obtain ⟨A, k, c, us, e1, hr⟩ := open_intsF (show DataW.trod enc Try.prog W 0 (fun _ => true) held n 23 [v1] = some _ from g1)
    obtain ⟨t2, e2, _⟩ := open_intF (show DataW.trod enc Try.prog W 0 (fun _ => true) held n 3 [v2] = some _ from g2)
    obtain ⟨t3, e3, _⟩ := open_intF (show DataW.trod enc Try.prog W 0 (fun _ => true) held n 3 [v3] = some _ from g3)
    subst e0 e1 e2 e3
    exact ⟨t0, A, k, c, t2, t3, us, rfl, hr⟩
theorem route_of_trod {cs : List Value} {y : DataW H × List MemPlace} (h : DataW.trod enc Try.prog W 0 (fun _ => true) held fuel 27 cs = some y) : ∃ x : Rv, cs = rvV x ∧ RdI W x.A x.n x.c x.r.as := by
  have c6 : Try.prog.cellsOf 27 = 6 := by kernel_rfl
  have c4 : Try.prog.cellsOf 25 = 4 := by kernel_rfl
  have c1 : Try.prog.cellsOf 3 = 1 := by kernel_rfl
  obtain ⟨xs, n, _, _, hl, hn, hff⟩ := DataW.trod_struct Try.underlying27 h
  rw [c6] at hl
  match cs, hl with
  | [v0, v1, v2, v3, v4, v5], _ =>
    have h0 : DataW.trod enc Try.prog W 0 (fun _ => true) held n 3 (List.take (Try.prog.cellsOf 3) (List.drop 0 [v0, v1, v2, v3, v4, v5])) = xs[0]? := hff 0 _ rfl
    rw [c1] at h0
    have h1 : DataW.trod enc Try.prog W 0 (fun _ => true) held n 25 (List.take (Try.prog.cellsOf 25) (List.drop 1 [v0, v1, v2, v3, v4, v5])) = xs[1]? := hff 1 _ rfl
    rw [c4] at h1
    have h2 : DataW.trod enc Try.prog W 0 (fun _ => true) held n 3 (List.take (Try.prog.cellsOf 3) (List.drop 5 [v0, v1, v2, v3, v4, v5])) = xs[2]? := hff 2 _ rfl
    rw [c1] at h2
    obtain ⟨_, g0⟩ := field_get hn (by decide) h0
    obtain ⟨_, g1⟩ := field_get hn (by decide) h1
    obtain ⟨_, g2⟩ := field_get hn (by decide) h2
    obtain ⟨t0, e0, _⟩ := open_intF (show DataW.trod enc Try.prog W 0 (fun _ => true) held n 3 [v0] = some _ from g0)
    obtain ⟨o, A, k, c, hop, otc, us, e1, hr⟩ := path_of_trod (show DataW.trod enc Try.prog W 0 (fun _ => true) held n 25 [v1, v2, v3, v4] = some _ from g1)
    obtain ⟨t2, e2, _⟩ := open_intF (show DataW.trod enc Try.prog W 0 (fun _ => true) held n 3 [v5] = some _ from g2)
    simp at e1
    obtain ⟨rfl, rfl, rfl, rfl⟩ := e1
    subst e0 e2
    exact ⟨⟨⟨t0, o, us, hop, otc, t2⟩, A, k, c⟩, rfl, hr⟩
theorem open_route {r : Reach} {b0 : Nat} {v : Value} {d : DataW H} {p : List MemPlace} (hv : Value.okWide Try.prog W r b0 27 v) (h : DataW.Trod enc Try.prog W 0 (fun _ => true) held 27 v d p) :
    ∃ x : Rv, v = .agg #[.int .i64 x.r.pref, .int .i64 x.r.origin, .slice x.A x.n x.c, .int .i64 x.r.hop, .int .i64 x.r.otc, .int .i64 x.r.frm] ∧ RdI W x.A x.n x.c x.r.as := by
  obtain ⟨cs, rfl, hsz⟩ := okWide_struct Try.underlying27 hv
  obtain ⟨fuel, hf⟩ := h
  obtain ⟨x, hx, hr⟩ := route_of_trod hf
  refine ⟨x, ?_, hr⟩
  have : cs.toList = rvV x := hx
  rw [← Array.toArray_toList (xs := cs), this]
  rfl
theorem open_routes {v : Value} {y : DataW H × List MemPlace} (h : DataW.trod enc Try.prog W 0 (fun _ => true) held fuel 22 [v] = some y) : ∃ A n c l, v = .slice A n c ∧ RdT W A n c l := by
  have c6 : Try.prog.cellsOf 27 = 6 := by kernel_rfl
  rcases Deep.open_slice Try.underlying22 h with ⟨hcs, _⟩ | ⟨a, len, cap, m, n, D, Pl, hcs, _, hl, hm, hmm, _, hx⟩
  · injection hcs with hcs
    subst hcs
    exact ⟨_, _, _, [], rfl, ⟨rfl, Nat.le_refl _, Nat.zero_le _, .inl rfl, by simp⟩⟩
  · injection hcs with hcs
    subst hcs
    have hlm : len ≤ m := by rw [hmm]; split <;> omega
    have each : ∀ i, i < len → ∃ x : Rv, (∀ j, j < 6 → W.cell? (a.add (i * 6 + j)) = (rvV x)[j]?) ∧ RdI W x.A x.n x.c x.r.as := by
      intro i hi
      obtain ⟨cs', h1, h2⟩ := hx i (by omega)
      rw [c6] at h1
      obtain ⟨x, rfl, hr⟩ := route_of_trod h2
      obtain ⟨_, _, hcell⟩ := World.cells?_some h1
      refine ⟨x, fun j hj => ?_, hr⟩
      have := hcell j hj
      rwa [Deep.add_add] at this
    haveI : Inhabited Rv := ⟨⟨⟨0, 0, [], 0, 0, 0⟩, none, 0, 0⟩⟩
    obtain ⟨f, hf⟩ := Deep.choose_lt each
    refine ⟨some a, len, cap, (List.range len).map f, rfl, ⟨by simp, hl, hm, ?_, fun x hx => ?_⟩⟩
    · by_cases h0 : len = 0
      · left; subst h0; rfl
      · right
        obtain ⟨b, o, sp⟩ := a
        have h1 := (hf 0 (by omega)).1 0 (by omega)
        have hsp : sp = none := by simpa [Addr.add] using World.cell?_spot (h1.trans (show (rvV (f 0))[0]? = some _ from rfl))
        subst hsp
        refine ⟨b, o, rfl, fun q hq => ?_⟩
        have hq' : q < len * 6 := by rw [rvsV_length] at hq; simpa using hq
        have h2 := (hf (q / 6) (by omega)).1 (q % 6) (by omega)
        rw [show q / 6 * 6 + q % 6 = q by omega, Addr.add_lit] at h2
        rw [h2, ← List.getElem?_eq_getElem hq]
        have h3 := rvsV_at ((List.range len).map f) (q / 6) (by simp; omega) (q % 6) (by omega)
        rw [show q / 6 * 6 + q % 6 = q by omega] at h3
        rw [h3]
        simp
    · obtain ⟨i, hi, rfl⟩ := List.mem_map.1 hx
      exact (hf i (by simpa using hi)).2
end
end Go.Proofs.Ytmlhbmlppgoklac
