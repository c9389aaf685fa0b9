/- What comes in, as the models have it. -/
import Derived.Test.YtppekacobjdhnaaDoorOpE
import Derived.Test.YtppekacobjdhnaaDoorMp5
namespace Go.Proofs.YtppekacobjdhnaaDoor
open Go.RowKit
set_option linter.unusedVariables false
instance opnPrefix : Opn Prefix where
  T := .st (.cons 1 (Opn.T Int) (.cons 1 (Opn.T Int) .nil))
  ok x := Opn.ok x.A ∧ Opn.ok x.N
  ag := true
  agg _ _ := ⟨_, rfl⟩
  nag _ h := nomatch h
  of h := by
    obtain ⟨_, _, rfl, _, h0, h⟩ := h
    obtain ⟨x0, w0, e0⟩ := Opn.of h0
    obtain rfl := Option.some.inj e0
    obtain ⟨_, _, rfl, _, h1, h⟩ := h
    obtain ⟨x1, w1, e1⟩ := Opn.of h1
    obtain rfl := Option.some.inj e1
    obtain rfl : _ = [] := h
    exact ⟨⟨x0, x1⟩, ⟨w0, w1⟩, rfl⟩
  shp h := by
    obtain ⟨cs, rfl, h⟩ := h
    exact ⟨cs, h, rfl⟩
end Go.Proofs.YtppekacobjdhnaaDoor
