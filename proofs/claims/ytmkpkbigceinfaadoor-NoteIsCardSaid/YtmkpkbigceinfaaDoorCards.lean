/-
  DERIVED. GIVEN WITH THE SEED: THE CARDS: each row of YtmkpkbigceinfaaDoorRows.lean that lists a variable, with what it lists TIED to the program's text (the seventh form; the later family's looks); each row that meets fmt, with fmt's text TOLD by the authors' own Lean function (tested against real Go, not proved from fmt's source: count such statements apart). THE CARD IS WHAT COUNTS. Prove the row's statement (the work); the ties are given (YtmkpkbigceinfaaDoorTie.lean); close each card by the builder's one call (the guide's Derived/Test/ToyasCard.lean, 'card_holds'). Laid BY PROGRAM, IN A SANDBOX (cutbox-door.mjs). By AI agents, Wed Nov 11 2026. No macro, syntax, notation, axiom, sorry.
-/
import Derived.Test.YtmkpkbigceinfaaDoorRows
import GoSem.ClaimSeven
namespace Go.Proofs.YtmkpkbigceinfaaDoor
namespace Rows

/-- THE TIED CARD OF 'ridgewaylaw05.NoteIs'. -/
def noteIsCard : Claim7 := { stood := { row := noteIsRow, standIns := [], harness := (true, "8e2931ed26424e6c6d69b6a442f05b44379e41d2f73248e3d78ae25350a05926"), looks := false }, kinds := [], alts := [], laidByText := true, laidKinds := [.data, .data, .data, .data, .data], laidTests := true, laidLooks := .later }
def NoteIsCardSaid : Prop := Claim7.holds Tryd.pinned (.plain (OpenSpec.ofChange noteIsSpec)) noteIsCard

/-- THE TIED CARD OF 'ridgewaylaw05.NoteBack'. -/
def noteBackCard : Claim7 := { stood := { row := noteBackRow, standIns := [], harness := (true, "8e2931ed26424e6c6d69b6a442f05b44379e41d2f73248e3d78ae25350a05926"), looks := false }, kinds := [], alts := [], laidByText := true, laidKinds := [.data, .data, .data, .data, .data], laidTests := true, laidLooks := .later }
def NoteBackCardSaid : Prop := Claim7.holds Tryd.pinned (.plain (OpenSpec.ofChange noteBackSpec)) noteBackCard

/-- THE TIED CARD OF 'ridgewaylaw05.NoteNames'. -/
def noteNamesCard : Claim7 := { stood := { row := noteNamesRow, standIns := [], harness := (true, "8e2931ed26424e6c6d69b6a442f05b44379e41d2f73248e3d78ae25350a05926"), looks := false }, kinds := [], alts := [], laidByText := true, laidKinds := [.data, .data, .data, .data, .data], laidTests := true, laidLooks := .later }
def NoteNamesCardSaid : Prop := Claim7.holds Tryd.pinned (.plain (OpenSpec.ofChange noteNamesSpec)) noteNamesCard

/-- THE TIED CARD OF 'ridgewaylaw05.NoteKnown'. -/
def noteKnownCard : Claim7 := { stood := { row := noteKnownRow, standIns := [], harness := (true, "8e2931ed26424e6c6d69b6a442f05b44379e41d2f73248e3d78ae25350a05926"), looks := false }, kinds := [], alts := [], laidByText := true, laidKinds := [.data, .data, .data, .data, .data], laidTests := true, laidLooks := .later }
def NoteKnownCardSaid : Prop := Claim7.holds Tryd.pinned (.plain (OpenSpec.ofChange noteKnownSpec)) noteKnownCard

/-- THE SECOND FORM's CARD OF 'ridgewaylaw05.NoteIs'. -/
def noteIsUptoCard : Claim7 := { stood := { row := noteIsUptoRow, standIns := [], harness := (true, "8e2931ed26424e6c6d69b6a442f05b44379e41d2f73248e3d78ae25350a05926"), looks := false }, kinds := [], alts := [], laidByText := true, laidKinds := [.data, .data, .data, .data, .data], laidTests := true, laidLooks := .later }
def NoteIsUptoCardSaid : Prop := Claim7.holds Tryd.pinned (.plain (OpenSpec.upto noteIsSpec)) noteIsUptoCard

/-- THE SECOND FORM's CARD OF 'ridgewaylaw05.NoteBack'. -/
def noteBackUptoCard : Claim7 := { stood := { row := noteBackUptoRow, standIns := [], harness := (true, "8e2931ed26424e6c6d69b6a442f05b44379e41d2f73248e3d78ae25350a05926"), looks := false }, kinds := [], alts := [], laidByText := true, laidKinds := [.data, .data, .data, .data, .data], laidTests := true, laidLooks := .later }
def NoteBackUptoCardSaid : Prop := Claim7.holds Tryd.pinned (.plain (OpenSpec.upto noteBackSpec)) noteBackUptoCard

/-- THE SECOND FORM's CARD OF 'ridgewaylaw05.NoteNames'. -/
def noteNamesUptoCard : Claim7 := { stood := { row := noteNamesUptoRow, standIns := [], harness := (true, "8e2931ed26424e6c6d69b6a442f05b44379e41d2f73248e3d78ae25350a05926"), looks := false }, kinds := [], alts := [], laidByText := true, laidKinds := [.data, .data, .data, .data, .data], laidTests := true, laidLooks := .later }
def NoteNamesUptoCardSaid : Prop := Claim7.holds Tryd.pinned (.plain (OpenSpec.upto noteNamesSpec)) noteNamesUptoCard

/-- THE SECOND FORM's CARD OF 'ridgewaylaw05.NoteKnown'. -/
def noteKnownUptoCard : Claim7 := { stood := { row := noteKnownUptoRow, standIns := [], harness := (true, "8e2931ed26424e6c6d69b6a442f05b44379e41d2f73248e3d78ae25350a05926"), looks := false }, kinds := [], alts := [], laidByText := true, laidKinds := [.data, .data, .data, .data, .data], laidTests := true, laidLooks := .later }
def NoteKnownUptoCardSaid : Prop := Claim7.holds Tryd.pinned (.plain (OpenSpec.upto noteKnownSpec)) noteKnownUptoCard
end Rows
end Go.Proofs.YtmkpkbigceinfaaDoor
