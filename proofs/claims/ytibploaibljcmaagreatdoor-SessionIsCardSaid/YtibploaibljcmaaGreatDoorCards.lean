/-
  DERIVED. GIVEN WITH THE SEED: THE CARDS: each row of YtibploaibljcmaaGreatDoorRows.lean that lists a variable, with what it lists TIED to the program's text (the seventh form; the later family's looks); each row that meets fmt, with fmt's text TOLD by the authors' own Lean function (tested against real Go, not proved from fmt's source: count such statements apart). THE CARD IS WHAT COUNTS. Prove the row's statement (the work); the ties are given (YtibploaibljcmaaGreatDoorTie.lean); close each card by the builder's one call (the guide's Derived/Test/ToyasCard.lean, 'card_holds'). Laid BY PROGRAM, IN A SANDBOX (cutbox-door.mjs). By AI agents, Wed Nov 11 2026. No macro, syntax, notation, axiom, sorry.
-/
import Derived.Test.YtibploaibljcmaaGreatDoorRows
import GoSem.ClaimSeven
namespace Go.Proofs.YtibploaibljcmaaGreatDoor
namespace Rows

/-- THE TIED CARD OF 'ridgewaylaw17.SessionIs'. -/
def sessionIsCard : Claim7 := { stood := { row := sessionIsRow, standIns := [], harness := (true, "0de1bfa9a96391ab798df2a982e95ae71425271314bb75f9ab3a61fc4498dadb"), looks := false }, kinds := [], alts := [], laidByText := true, laidKinds := [.data], laidTests := true, laidLooks := .later }
def SessionIsCardSaid : Prop := Claim7.holds Tryz.pinned (.plain (OpenSpec.ofChange sessionIsSpec)) sessionIsCard

/-- THE SECOND FORM's CARD OF 'ridgewaylaw17.SessionIs'. -/
def sessionIsUptoCard : Claim7 := { stood := { row := sessionIsUptoRow, standIns := [], harness := (true, "0de1bfa9a96391ab798df2a982e95ae71425271314bb75f9ab3a61fc4498dadb"), looks := false }, kinds := [], alts := [], laidByText := true, laidKinds := [.data], laidTests := true, laidLooks := .later }
def SessionIsUptoCardSaid : Prop := Claim7.holds Tryz.pinned (.plain (OpenSpec.upto sessionIsSpec)) sessionIsUptoCard
end Rows
end Go.Proofs.YtibploaibljcmaaGreatDoor
