/- What comes in, as the models have it. -/
import Derived.Test.YtkdodhkiemfpeaaOpE
import Derived.Test.YtkdodhkiemfpeaaMu7
namespace Go.Proofs.Ytkdodhkiemfpeaa
open Go.RowKit
set_option linter.unusedVariables false
instance opnMsg : Opn Msg where
  T := .st (.cons 1 (Opn.T Int) (.cons 1 (Opn.T (List UInt8)) .nil))
  ok x := Opn.ok x.Typ ∧ Opn.ok x.Body
  ag := true
  agg _ _ := ⟨_, rfl⟩
  nag _ h := nomatch h
  of h := by
    obtain ⟨_, _, rfl, _, h0, h⟩ := h
    obtain ⟨x0, w0, e0⟩ := Opn.of h0
    obtain rfl := Option.some.inj e0
    obtain ⟨_, _, rfl, _, h1, h⟩ := h
    obtain ⟨x1, w1, e1⟩ := Opn.of h1
    obtain rfl := Option.some.inj e1
    obtain rfl : _ = [] := h
    exact ⟨⟨x0, x1⟩, ⟨w0, w1⟩, rfl⟩
  shp h := by
    obtain ⟨cs, rfl, h⟩ := h
    exact ⟨cs, h, rfl⟩
instance opnAttr : Opn Attr where
  T := .st (.cons 1 (Opn.T Int) (.cons 1 (Opn.T Int) (.cons 1 (Opn.T (List UInt8)) .nil)))
  ok x := Opn.ok x.Flags ∧ Opn.ok x.Typ ∧ Opn.ok x.Data
  ag := true
  agg _ _ := ⟨_, rfl⟩
  nag _ h := nomatch h
  of h := by
    obtain ⟨_, _, rfl, _, h0, h⟩ := h
    obtain ⟨x0, w0, e0⟩ := Opn.of h0
    obtain rfl := Option.some.inj e0
    obtain ⟨_, _, rfl, _, h1, h⟩ := h
    obtain ⟨x1, w1, e1⟩ := Opn.of h1
    obtain rfl := Option.some.inj e1
    obtain ⟨_, _, rfl, _, h2, h⟩ := h
    obtain ⟨x2, w2, e2⟩ := Opn.of h2
    obtain rfl := Option.some.inj e2
    obtain rfl : _ = [] := h
    exact ⟨⟨x0, x1, x2⟩, ⟨w0, w1, w2⟩, rfl⟩
  shp h := by
    obtain ⟨cs, rfl, h⟩ := h
    exact ⟨cs, h, rfl⟩
instance opnPath : Opn Path where
  T := .st (.cons 1 (Opn.T Int) (.cons 1 (Opn.T (List Int)) (.cons 1 (Opn.T Int) (.cons 1 (Opn.T Int) .nil))))
  ok x := Opn.ok x.Origin ∧ Opn.ok x.As ∧ Opn.ok x.Hop ∧ Opn.ok x.Otc
  ag := true
  agg _ _ := ⟨_, rfl⟩
  nag _ h := nomatch h
  of h := by
    obtain ⟨_, _, rfl, _, h0, h⟩ := h
    obtain ⟨x0, w0, e0⟩ := Opn.of h0
    obtain rfl := Option.some.inj e0
    obtain ⟨_, _, rfl, _, h1, h⟩ := h
    obtain ⟨x1, w1, e1⟩ := Opn.of h1
    obtain rfl := Option.some.inj e1
    obtain ⟨_, _, rfl, _, h2, h⟩ := h
    obtain ⟨x2, w2, e2⟩ := Opn.of h2
    obtain rfl := Option.some.inj e2
    obtain ⟨_, _, rfl, _, h3, h⟩ := h
    obtain ⟨x3, w3, e3⟩ := Opn.of h3
    obtain rfl := Option.some.inj e3
    obtain rfl : _ = [] := h
    exact ⟨⟨x0, x1, x2, x3⟩, ⟨w0, w1, w2, w3⟩, rfl⟩
  shp h := by
    obtain ⟨cs, rfl, h⟩ := h
    exact ⟨cs, h, rfl⟩
instance opnNote : Opn Note where
  T := .st (.cons 1 (Opn.T Int) (.cons 1 (Opn.T Int) (.cons 1 (Opn.T (List UInt8)) .nil)))
  ok x := Opn.ok x.Code ∧ Opn.ok x.Sub ∧ Opn.ok x.Data
  ag := true
  agg _ _ := ⟨_, rfl⟩
  nag _ h := nomatch h
  of h := by
    obtain ⟨_, _, rfl, _, h0, h⟩ := h
    obtain ⟨x0, w0, e0⟩ := Opn.of h0
    obtain rfl := Option.some.inj e0
    obtain ⟨_, _, rfl, _, h1, h⟩ := h
    obtain ⟨x1, w1, e1⟩ := Opn.of h1
    obtain rfl := Option.some.inj e1
    obtain ⟨_, _, rfl, _, h2, h⟩ := h
    obtain ⟨x2, w2, e2⟩ := Opn.of h2
    obtain rfl := Option.some.inj e2
    obtain rfl : _ = [] := h
    exact ⟨⟨x0, x1, x2⟩, ⟨w0, w1, w2⟩, rfl⟩
  shp h := by
    obtain ⟨cs, rfl, h⟩ := h
    exact ⟨cs, h, rfl⟩
instance opnPrefix : Opn Prefix where
  T := .st (.cons 1 (Opn.T Int) (.cons 1 (Opn.T Int) .nil))
  ok x := Opn.ok x.A ∧ Opn.ok x.N
  ag := true
  agg _ _ := ⟨_, rfl⟩
  nag _ h := nomatch h
  of h := by
    obtain ⟨_, _, rfl, _, h0, h⟩ := h
    obtain ⟨x0, w0, e0⟩ := Opn.of h0
    obtain rfl := Option.some.inj e0
    obtain ⟨_, _, rfl, _, h1, h⟩ := h
    obtain ⟨x1, w1, e1⟩ := Opn.of h1
    obtain rfl := Option.some.inj e1
    obtain rfl : _ = [] := h
    exact ⟨⟨x0, x1⟩, ⟨w0, w1⟩, rfl⟩
  shp h := by
    obtain ⟨cs, rfl, h⟩ := h
    exact ⟨cs, h, rfl⟩
instance opnNews : Opn News where
  T := .st (.cons 1 (Opn.T (List Prefix)) (.cons 4 (Opn.T Path) (.cons 1 (Opn.T (List Prefix)) .nil)))
  ok x := Opn.ok x.Gone ∧ Opn.ok x.P ∧ Opn.ok x.Nlri
  ag := true
  agg _ _ := ⟨_, rfl⟩
  nag _ h := nomatch h
  of h := by
    obtain ⟨_, _, rfl, _, h0, h⟩ := h
    obtain ⟨x0, w0, e0⟩ := Opn.of h0
    obtain rfl := Option.some.inj e0
    obtain ⟨_, _, rfl, _, h1, h⟩ := h
    obtain ⟨x1, w1, e1⟩ := Opn.of h1
    obtain rfl := Option.some.inj e1
    obtain ⟨_, _, rfl, _, h2, h⟩ := h
    obtain ⟨x2, w2, e2⟩ := Opn.of h2
    obtain rfl := Option.some.inj e2
    obtain rfl : _ = [] := h
    exact ⟨⟨x0, x1, x2⟩, ⟨w0, w1, w2⟩, rfl⟩
  shp h := by
    obtain ⟨cs, rfl, h⟩ := h
    exact ⟨cs, h, rfl⟩
end Go.Proofs.Ytkdodhkiemfpeaa
