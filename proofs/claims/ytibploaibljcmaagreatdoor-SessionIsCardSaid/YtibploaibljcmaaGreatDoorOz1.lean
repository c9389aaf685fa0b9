import Derived.Test.YtibploaibljcmaaGreatDoorOpE
import Derived.Test.YtibploaibljcmaaGreatDoorMz1
namespace Go.Proofs.YtibploaibljcmaaGreatDoor
open Go.RowKit
set_option linter.unusedVariables false
instance opnPrefix : Opn Prefix where
 T := .st (.cons 1 (Opn.T Int) (.cons 1 (Opn.T Int) .nil))
 ok x := Opn.ok x.A ∧ Opn.ok x.N
 ag := true
 agg _ _ := ⟨_, rfl⟩
 nag _ h := nomatch h
 of h := by
   obtain ⟨_, _, rfl, _, h0, h⟩ := h
   obtain ⟨x0, w0, e0⟩ := Opn.of h0
   obtain rfl := Option.some.inj e0
   obtain ⟨_, _, rfl, _, h1, h⟩ := h
   obtain ⟨x1, w1, e1⟩ := Opn.of h1
   obtain rfl := Option.some.inj e1
   obtain rfl : _ = [] := h
   exact ⟨⟨x0, x1⟩, ⟨w0, w1⟩, rfl⟩
 shp h := by
   obtain ⟨cs, rfl, h⟩ := h
   exact ⟨cs, h, rfl⟩
instance opnRule : Opn Rule where
 T := .st (.cons 1 (Opn.T Int) (.cons 2 (Opn.T Prefix) (.cons 1 (Opn.T Int) (.cons 1 (Opn.T Int) (.cons 1 (Opn.T Int) .nil)))))
 ok x := Opn.ok x.Match ∧ Opn.ok x.X ∧ Opn.ok x.V ∧ Opn.ok x.Act ∧ Opn.ok x.N
 ag := true
 agg _ _ := ⟨_, rfl⟩
 nag _ h := nomatch h
 of h := by
   obtain ⟨_, _, rfl, _, h0, h⟩ := h
   obtain ⟨x0, w0, e0⟩ := Opn.of h0
   obtain rfl := Option.some.inj e0
   obtain ⟨_, _, rfl, _, h1, h⟩ := h
   obtain ⟨x1, w1, e1⟩ := Opn.of h1
   obtain rfl := Option.some.inj e1
   obtain ⟨_, _, rfl, _, h2, h⟩ := h
   obtain ⟨x2, w2, e2⟩ := Opn.of h2
   obtain rfl := Option.some.inj e2
   obtain ⟨_, _, rfl, _, h3, h⟩ := h
   obtain ⟨x3, w3, e3⟩ := Opn.of h3
   obtain rfl := Option.some.inj e3
   obtain ⟨_, _, rfl, _, h4, h⟩ := h
   obtain ⟨x4, w4, e4⟩ := Opn.of h4
   obtain rfl := Option.some.inj e4
   obtain rfl : _ = [] := h
   exact ⟨⟨x0, x1, x2, x3, x4⟩, ⟨w0, w1, w2, w3, w4⟩, rfl⟩
 shp h := by
   obtain ⟨cs, rfl, h⟩ := h
   exact ⟨cs, h, rfl⟩
instance opnSide : Opn Side where
 T := .st (.cons 1 (Opn.T Int) (.cons 1 (Opn.T Int) (.cons 1 (Opn.T (List Rule)) (.cons 1 (Opn.T (List Rule)) .nil))))
 ok x := Opn.ok x.As ∧ Opn.ok x.Rel ∧ Opn.ok x.In ∧ Opn.ok x.Out
 ag := true
 agg _ _ := ⟨_, rfl⟩
 nag _ h := nomatch h
 of h := by
   obtain ⟨_, _, rfl, _, h0, h⟩ := h
   obtain ⟨x0, w0, e0⟩ := Opn.of h0
   obtain rfl := Option.some.inj e0
   obtain ⟨_, _, rfl, _, h1, h⟩ := h
   obtain ⟨x1, w1, e1⟩ := Opn.of h1
   obtain rfl := Option.some.inj e1
   obtain ⟨_, _, rfl, _, h2, h⟩ := h
   obtain ⟨x2, w2, e2⟩ := Opn.of h2
   obtain rfl := Option.some.inj e2
   obtain ⟨_, _, rfl, _, h3, h⟩ := h
   obtain ⟨x3, w3, e3⟩ := Opn.of h3
   obtain rfl := Option.some.inj e3
   obtain rfl : _ = [] := h
   exact ⟨⟨x0, x1, x2, x3⟩, ⟨w0, w1, w2, w3⟩, rfl⟩
 shp h := by
   obtain ⟨cs, rfl, h⟩ := h
   exact ⟨cs, h, rfl⟩
instance opnConf : Opn Conf where
 T := .st (.cons 1 (Opn.T Int) (.cons 1 (Opn.T Int) (.cons 1 (Opn.T Int) (.cons 1 (Opn.T Int) (.cons 1 (Opn.T (List Prefix)) (.cons 1 (Opn.T (List Side)) .nil))))))
 ok x := Opn.ok x.As ∧ Opn.ok x.Id ∧ Opn.ok x.Hold ∧ Opn.ok x.Cap ∧ Opn.ok x.Own ∧ Opn.ok x.Sides
 ag := true
 agg _ _ := ⟨_, rfl⟩
 nag _ h := nomatch h
 of h := by
   obtain ⟨_, _, rfl, _, h0, h⟩ := h
   obtain ⟨x0, w0, e0⟩ := Opn.of h0
   obtain rfl := Option.some.inj e0
   obtain ⟨_, _, rfl, _, h1, h⟩ := h
   obtain ⟨x1, w1, e1⟩ := Opn.of h1
   obtain rfl := Option.some.inj e1
   obtain ⟨_, _, rfl, _, h2, h⟩ := h
   obtain ⟨x2, w2, e2⟩ := Opn.of h2
   obtain rfl := Option.some.inj e2
   obtain ⟨_, _, rfl, _, h3, h⟩ := h
   obtain ⟨x3, w3, e3⟩ := Opn.of h3
   obtain rfl := Option.some.inj e3
   obtain ⟨_, _, rfl, _, h4, h⟩ := h
   obtain ⟨x4, w4, e4⟩ := Opn.of h4
   obtain rfl := Option.some.inj e4
   obtain ⟨_, _, rfl, _, h5, h⟩ := h
   obtain ⟨x5, w5, e5⟩ := Opn.of h5
   obtain rfl := Option.some.inj e5
   obtain rfl : _ = [] := h
   exact ⟨⟨x0, x1, x2, x3, x4, x5⟩, ⟨w0, w1, w2, w3, w4, w5⟩, rfl⟩
 shp h := by
   obtain ⟨cs, rfl, h⟩ := h
   exact ⟨cs, h, rfl⟩
instance opnHello : Opn Hello where
 T := .st (.cons 1 (Opn.T Int) (.cons 1 (Opn.T Int) (.cons 1 (Opn.T Int) (.cons 1 (Opn.T Int) .nil))))
 ok x := Opn.ok x.As ∧ Opn.ok x.Hold ∧ Opn.ok x.Id ∧ Opn.ok x.Role
 ag := true
 agg _ _ := ⟨_, rfl⟩
 nag _ h := nomatch h
 of h := by
   obtain ⟨_, _, rfl, _, h0, h⟩ := h
   obtain ⟨x0, w0, e0⟩ := Opn.of h0
   obtain rfl := Option.some.inj e0
   obtain ⟨_, _, rfl, _, h1, h⟩ := h
   obtain ⟨x1, w1, e1⟩ := Opn.of h1
   obtain rfl := Option.some.inj e1
   obtain ⟨_, _, rfl, _, h2, h⟩ := h
   obtain ⟨x2, w2, e2⟩ := Opn.of h2
   obtain rfl := Option.some.inj e2
   obtain ⟨_, _, rfl, _, h3, h⟩ := h
   obtain ⟨x3, w3, e3⟩ := Opn.of h3
   obtain rfl := Option.some.inj e3
   obtain rfl : _ = [] := h
   exact ⟨⟨x0, x1, x2, x3⟩, ⟨w0, w1, w2, w3⟩, rfl⟩
 shp h := by
   obtain ⟨cs, rfl, h⟩ := h
   exact ⟨cs, h, rfl⟩
instance opnSess : Opn Sess where
 T := .st (.cons 1 (Opn.T Int) (.cons 1 (Opn.T Int) (.cons 1 (Opn.T Int) (.cons 1 (Opn.T Int) .nil))))
 ok x := Opn.ok x.State ∧ Opn.ok x.Hold ∧ Opn.ok x.Left ∧ Opn.ok x.Keep
 ag := true
 agg _ _ := ⟨_, rfl⟩
 nag _ h := nomatch h
 of h := by
   obtain ⟨_, _, rfl, _, h0, h⟩ := h
   obtain ⟨x0, w0, e0⟩ := Opn.of h0
   obtain rfl := Option.some.inj e0
   obtain ⟨_, _, rfl, _, h1, h⟩ := h
   obtain ⟨x1, w1, e1⟩ := Opn.of h1
   obtain rfl := Option.some.inj e1
   obtain ⟨_, _, rfl, _, h2, h⟩ := h
   obtain ⟨x2, w2, e2⟩ := Opn.of h2
   obtain rfl := Option.some.inj e2
   obtain ⟨_, _, rfl, _, h3, h⟩ := h
   obtain ⟨x3, w3, e3⟩ := Opn.of h3
   obtain rfl := Option.some.inj e3
   obtain rfl : _ = [] := h
   exact ⟨⟨x0, x1, x2, x3⟩, ⟨w0, w1, w2, w3⟩, rfl⟩
 shp h := by
   obtain ⟨cs, rfl, h⟩ := h
   exact ⟨cs, h, rfl⟩
instance opnMsg : Opn Msg where
 T := .st (.cons 1 (Opn.T Int) (.cons 1 (Opn.T (List UInt8)) .nil))
 ok x := Opn.ok x.Typ ∧ Opn.ok x.Body
 ag := true
 agg _ _ := ⟨_, rfl⟩
 nag _ h := nomatch h
 of h := by
   obtain ⟨_, _, rfl, _, h0, h⟩ := h
   obtain ⟨x0, w0, e0⟩ := Opn.of h0
   obtain rfl := Option.some.inj e0
   obtain ⟨_, _, rfl, _, h1, h⟩ := h
   obtain ⟨x1, w1, e1⟩ := Opn.of h1
   obtain rfl := Option.some.inj e1
   obtain rfl : _ = [] := h
   exact ⟨⟨x0, x1⟩, ⟨w0, w1⟩, rfl⟩
 shp h := by
   obtain ⟨cs, rfl, h⟩ := h
   exact ⟨cs, h, rfl⟩
instance opnSessionTurn : Opn SessionTurn where
 T := .st (.cons 4 (Opn.T Sess) (.cons 6 (Opn.T Conf) (.cons 4 (Opn.T Side) (.cons 2 (Opn.T Msg) .nil))))
 ok x := Opn.ok x.s ∧ Opn.ok x.c ∧ Opn.ok x.side ∧ Opn.ok x.m
 ag := true
 agg _ _ := ⟨_, rfl⟩
 nag _ h := nomatch h
 of h := by
   obtain ⟨_, _, rfl, _, h0, h⟩ := h
   obtain ⟨x0, w0, e0⟩ := Opn.of h0
   obtain rfl := Option.some.inj e0
   obtain ⟨_, _, rfl, _, h1, h⟩ := h
   obtain ⟨x1, w1, e1⟩ := Opn.of h1
   obtain rfl := Option.some.inj e1
   obtain ⟨_, _, rfl, _, h2, h⟩ := h
   obtain ⟨x2, w2, e2⟩ := Opn.of h2
   obtain rfl := Option.some.inj e2
   obtain ⟨_, _, rfl, _, h3, h⟩ := h
   obtain ⟨x3, w3, e3⟩ := Opn.of h3
   obtain rfl := Option.some.inj e3
   obtain rfl : _ = [] := h
   exact ⟨⟨x0, x1, x2, x3⟩, ⟨w0, w1, w2, w3⟩, rfl⟩
 shp h := by
   obtain ⟨cs, rfl, h⟩ := h
   exact ⟨cs, h, rfl⟩
instance opnNote : Opn Note where
 T := .st (.cons 1 (Opn.T Int) (.cons 1 (Opn.T Int) (.cons 1 (Opn.T (List UInt8)) .nil)))
 ok x := Opn.ok x.Code ∧ Opn.ok x.Sub ∧ Opn.ok x.Data
 ag := true
 agg _ _ := ⟨_, rfl⟩
 nag _ h := nomatch h
 of h := by
   obtain ⟨_, _, rfl, _, h0, h⟩ := h
   obtain ⟨x0, w0, e0⟩ := Opn.of h0
   obtain rfl := Option.some.inj e0
   obtain ⟨_, _, rfl, _, h1, h⟩ := h
   obtain ⟨x1, w1, e1⟩ := Opn.of h1
   obtain rfl := Option.some.inj e1
   obtain ⟨_, _, rfl, _, h2, h⟩ := h
   obtain ⟨x2, w2, e2⟩ := Opn.of h2
   obtain rfl := Option.some.inj e2
   obtain rfl : _ = [] := h
   exact ⟨⟨x0, x1, x2⟩, ⟨w0, w1, w2⟩, rfl⟩
 shp h := by
   obtain ⟨cs, rfl, h⟩ := h
   exact ⟨cs, h, rfl⟩
instance opnOpenSaid : Opn OpenSaid where
 T := .st (.cons 1 (Opn.T Int) (.cons 1 (Opn.T Int) .nil))
 ok x := Opn.ok x.as_ ∧ Opn.ok x.role
 ag := true
 agg _ _ := ⟨_, rfl⟩
 nag _ h := nomatch h
 of h := by
   obtain ⟨_, _, rfl, _, h0, h⟩ := h
   obtain ⟨x0, w0, e0⟩ := Opn.of h0
   obtain rfl := Option.some.inj e0
   obtain ⟨_, _, rfl, _, h1, h⟩ := h
   obtain ⟨x1, w1, e1⟩ := Opn.of h1
   obtain rfl := Option.some.inj e1
   obtain rfl : _ = [] := h
   exact ⟨⟨x0, x1⟩, ⟨w0, w1⟩, rfl⟩
 shp h := by
   obtain ⟨cs, rfl, h⟩ := h
   exact ⟨cs, h, rfl⟩
end Go.Proofs.YtibploaibljcmaaGreatDoor
