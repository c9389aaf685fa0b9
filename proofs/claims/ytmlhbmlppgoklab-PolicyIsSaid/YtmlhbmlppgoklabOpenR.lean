/- What an argument that came in reads as: rules, views, slices of rules. -/
import Derived.Test.YtmlhbmlppgoklabOpenI
import Derived.Test.YtmlhbmlppgoklabPol5
import Derived.Deep.Slices
namespace Go.Proofs.Ytmlhbmlppgoklab
open Go.RowKit Go.ChangeShapes Go.WideShapes Go.ChangeAt Go.Joins
set_option linter.unusedVariables false
set_option linter.unusedSimpArgs false

theorem field_get {α : Type} {xs : List α} {i n : Nat} {o : Option α} (hl : xs.length = n) (hi : i < n) (h : o = xs[i]?) : ∃ y, o = some y := ⟨xs[i]'(by omega), by rw [h]; exact List.getElem?_eq_getElem _⟩
section
variable {H : Type} {enc : TypeId × Value → H} {W : World} {held : Bool} {fuel : Nat}
theorem two_of_pfx {cs : List Value} {y : DataW H × List MemPlace} (h : DataW.trod enc Try.prog W 0 (fun _ => true) held fuel 24 cs = some y) : ∃ a n, cs = [.int .i64 a, .int .i64 n] := by
  have c2 : Try.prog.cellsOf 24 = 2 := by kernel_rfl
  have c1 : Try.prog.cellsOf 3 = 1 := by kernel_rfl
  obtain ⟨y0, y1, n, _, hl, h0, h1⟩ := trod_struct2 Try.underlying24 h
  rw [c2] at hl
  match cs, hl with
  | [u, v], _ =>
    simp only [c1] at h0 h1
    obtain ⟨t0, rfl, _⟩ := open_intF h0
    obtain ⟨t1, rfl, _⟩ := open_intF h1
    exact ⟨t0, t1, rfl⟩
theorem rule_of_trod {cs : List Value} {y : DataW H × List MemPlace} (h : DataW.trod enc Try.prog W 0 (fun _ => true) held fuel 31 cs = some y) : ∃ r : Rul, cs = ruleV r := by
  have c6 : Try.prog.cellsOf 31 = 6 := by kernel_rfl
  have c2 : Try.prog.cellsOf 24 = 2 := by kernel_rfl
  have c1 : Try.prog.cellsOf 3 = 1 := by kernel_rfl
  obtain ⟨xs, n, _, _, hl, hn, hf⟩ := DataW.trod_struct Try.underlying31 h
  rw [c6] at hl
  match cs, hl with
  | [v0, v1, v2, v3, v4, v5], _ =>
    have h0 : DataW.trod enc Try.prog W 0 (fun _ => true) held n 3 (List.take (Try.prog.cellsOf 3) (List.drop 0 [v0, v1, v2, v3, v4, v5])) = xs[0]? := hf 0 _ rfl
    rw [c1] at h0
    have h1 : DataW.trod enc Try.prog W 0 (fun _ => true) held n 24 (List.take (Try.prog.cellsOf 24) (List.drop 1 [v0, v1, v2, v3, v4, v5])) = xs[1]? := hf 1 _ rfl
    rw [c2] at h1
    have h2 : DataW.trod enc Try.prog W 0 (fun _ => true) held n 3 (List.take (Try.prog.cellsOf 3) (List.drop 3 [v0, v1, v2, v3, v4, v5])) = xs[2]? := hf 2 _ rfl
    rw [c1] at h2
    have h3 : DataW.trod enc Try.prog W 0 (fun _ => true) held n 3 (List.take (Try.prog.cellsOf 3) (List.drop 4 [v0, v1, v2, v3, v4, v5])) = xs[3]? := hf 3 _ rfl
    rw [c1] at h3
    have h4 : DataW.trod enc Try.prog W 0 (fun _ => true) held n 3 (List.take (Try.prog.cellsOf 3) (List.drop 5 [v0, v1, v2, v3, v4, v5])) = xs[4]? := hf 4 _ rfl
    rw [c1] at h4
    obtain ⟨_, g0⟩ := field_get hn (by decide) h0
    obtain ⟨_, g1⟩ := field_get hn (by decide) h1
    obtain ⟨_, g2⟩ := field_get hn (by decide) h2
    obtain ⟨_, g3⟩ := field_get hn (by decide) h3
    obtain ⟨_, g4⟩ := field_get hn (by decide) h4
    obtain ⟨t0, e0, _⟩ := open_intF (show DataW.trod enc Try.prog W 0 (fun _ => true) held n 3 [v0] = some _ from g0)
    obtain ⟨a, m, e1⟩ := two_of_pfx (show DataW.trod enc Try.prog W 0 (fun _ => true) held n 24 [v1, v2] = some _ from g1)
    obtain ⟨t2, e2, _⟩ := open_intF (show DataW.trod enc Try.prog W 0 (fun _ => true) held n 3 [v3] = some _ from g2)
    obtain ⟨t3, e3, _⟩ := open_intF (show DataW.trod enc Try.prog W 0 (fun _ => true) held n 3 [v4] = some _ from g3)
    obtain ⟨t4, e4, _⟩ := open_intF (show DataW.trod enc Try.prog W 0 (fun _ => true) held n 3 [v5] = some _ from g4)
    simp at e1
    obtain ⟨rfl, rfl⟩ := e1
    subst e0 e2 e3 e4
    exact ⟨(t0, a, m, t2, t3, t4), rfl⟩
theorem open_rule {r : Reach} {b0 : Nat} {v : Value} {d : DataW H} {p : List MemPlace} (hv : Value.okWide Try.prog W r b0 31 v) (h : DataW.Trod enc Try.prog W 0 (fun _ => true) held 31 v d p) : ∃ r : Rul, v = .agg (ruleA r) := by
  obtain ⟨cs, rfl, hsz⟩ := okWide_struct Try.underlying31 hv
  obtain ⟨fuel, hf⟩ := h
  obtain ⟨r, hr⟩ := rule_of_trod hf
  refine ⟨r, ?_⟩
  have : cs.toList = ruleV r := hr
  rw [← Array.toArray_toList (xs := cs), this]
  rfl
theorem open_view {r : Reach} {b0 : Nat} {v : Value} {d : DataW H} {p : List MemPlace} (hv : Value.okWide Try.prog W r b0 27 v) (h : DataW.Trod enc Try.prog W 0 (fun _ => true) held 27 v d p) :
    ∃ (x : Vw) (A : Option Addr) (n c : Nat), v = .agg #[.int .i64 x.a, .int .i64 x.n, .slice A n c, .int .i64 x.cl] ∧ RdI W A n c x.as := by
  have c4 : Try.prog.cellsOf 27 = 4 := by kernel_rfl
  have c2 : Try.prog.cellsOf 24 = 2 := by kernel_rfl
  have c1 : Try.prog.cellsOf 3 = 1 := by kernel_rfl
  have cs1 : Try.prog.cellsOf 25 = 1 := by kernel_rfl
  obtain ⟨cs, rfl, hsz⟩ := okWide_struct Try.underlying27 hv
  obtain ⟨fuel, hf⟩ := h
  obtain ⟨xs, n, _, _, hl, hn, hff⟩ := DataW.trod_struct Try.underlying27 hf
  rw [c4] at hl
  have hcs : cs.toList.length = 4 := hl
  obtain ⟨l⟩ := cs
  simp only at hcs hff
  match l, hcs with
  | [v0, v1, v2, v3], _ =>
    have h0 : DataW.trod enc Try.prog W 0 (fun _ => true) held n 24 (List.take (Try.prog.cellsOf 24) (List.drop 0 [v0, v1, v2, v3])) = xs[0]? := hff 0 _ rfl
    rw [c2] at h0
    have h1 : DataW.trod enc Try.prog W 0 (fun _ => true) held n 25 (List.take (Try.prog.cellsOf 25) (List.drop 2 [v0, v1, v2, v3])) = xs[1]? := hff 1 _ rfl
    rw [cs1] at h1
    have h2 : DataW.trod enc Try.prog W 0 (fun _ => true) held n 3 (List.take (Try.prog.cellsOf 3) (List.drop 3 [v0, v1, v2, v3])) = xs[2]? := hff 2 _ rfl
    rw [c1] at h2
    obtain ⟨_, g0⟩ := field_get hn (by decide) h0
    obtain ⟨_, g1⟩ := field_get hn (by decide) h1
    obtain ⟨_, g2⟩ := field_get hn (by decide) h2
    obtain ⟨a, m, e0⟩ := two_of_pfx (show DataW.trod enc Try.prog W 0 (fun _ => true) held n 24 [v0, v1] = some _ from g0)
    obtain ⟨A, k, c, us, e1, hr⟩ := open_intsF (show DataW.trod enc Try.prog W 0 (fun _ => true) held n 25 [v2] = some _ from g1)
    obtain ⟨t2, e2, _⟩ := open_intF (show DataW.trod enc Try.prog W 0 (fun _ => true) held n 3 [v3] = some _ from g2)
    simp at e0
    obtain ⟨rfl, rfl⟩ := e0
    subst e1 e2
    exact ⟨⟨a, m, us, t2⟩, A, k, c, rfl, hr⟩
theorem open_rules {v : Value} {y : DataW H × List MemPlace} (h : DataW.trod enc Try.prog W 0 (fun _ => true) held fuel 22 [v] = some y) : ∃ A n c l, v = .slice A n c ∧ RdR W A n c l := by
  have c6 : Try.prog.cellsOf 31 = 6 := by kernel_rfl
  rcases Deep.open_slice Try.underlying22 h with ⟨hcs, _⟩ | ⟨a, len, cap, m, n, D, Pl, hcs, _, hl, hm, hmm, _, hx⟩
  · injection hcs with hcs
    subst hcs
    exact ⟨_, _, _, [], rfl, ⟨rfl, Nat.le_refl _, Nat.zero_le _, .inl rfl⟩⟩
  · injection hcs with hcs
    subst hcs
    have hlm : len ≤ m := by rw [hmm]; split <;> omega
    have each : ∀ i, i < len → ∃ r : Rul, ∀ j, j < 6 → W.cell? (a.add (i * 6 + j)) = (ruleV r)[j]? := by
      intro i hi
      obtain ⟨cs', h1, h2⟩ := hx i (by omega)
      rw [c6] at h1
      obtain ⟨r, rfl⟩ := rule_of_trod h2
      obtain ⟨_, _, hcell⟩ := World.cells?_some h1
      refine ⟨r, fun j hj => ?_⟩
      have := hcell j hj
      rwa [Deep.add_add] at this
    haveI : Inhabited Rul := ⟨rule0⟩
    obtain ⟨f, hf⟩ := Deep.choose_lt each
    refine ⟨some a, len, cap, (List.range len).map f, rfl, ⟨by simp, hl, hm, ?_⟩⟩
    by_cases h0 : len = 0
    · left; subst h0; rfl
    · right
      obtain ⟨b, o, sp⟩ := a
      have h1 := hf 0 (by omega) 0 (by omega)
      have hsp : sp = none := by simpa [Addr.add] using World.cell?_spot (h1.trans (show (ruleV (f 0))[0]? = some _ from rfl))
      subst hsp
      refine ⟨b, o, rfl, fun q hq => ?_⟩
      have hq' : q < len * 6 := by rw [rulesV_length] at hq; simpa using hq
      have h2 := hf (q / 6) (by omega) (q % 6) (by omega)
      rw [show q / 6 * 6 + q % 6 = q by omega, Addr.add_lit] at h2
      rw [h2, ← List.getElem?_eq_getElem hq]
      have h3 := rulesV_at ((List.range len).map f) (q / 6) (by simp; omega) (q % 6) (by omega)
      rw [show q / 6 * 6 + q % 6 = q by omega] at h3
      rw [h3]
      simp
end
end Go.Proofs.Ytmlhbmlppgoklab
