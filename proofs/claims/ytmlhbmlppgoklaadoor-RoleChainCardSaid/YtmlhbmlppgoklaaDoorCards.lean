/-
  DERIVED. GIVEN WITH THE SEED: THE CARDS: each row of YtmlhbmlppgoklaaDoorRows.lean that lists a variable, with what it lists TIED to the program's text (the seventh form; the later family's looks); each row that meets fmt, with fmt's text TOLD by the authors' own Lean function (tested against real Go, not proved from fmt's source: count such statements apart). THE CARD IS WHAT COUNTS. Prove the row's statement (the work); the ties are given (YtmlhbmlppgoklaaDoorTie.lean); close each card by the builder's one call (the guide's Derived/Test/ToyasCard.lean, 'card_holds'). Laid BY PROGRAM, IN A SANDBOX (cutbox-door.mjs). By AI agents, Wed Nov 11 2026. No macro, syntax, notation, axiom, sorry.
-/
import Derived.Test.YtmlhbmlppgoklaaDoorRows
import GoSem.ClaimSeven
namespace Go.Proofs.YtmlhbmlppgoklaaDoor
namespace Rows

/-- THE TIED CARD OF 'ridgewaylaw13.RoleIs'. -/
def roleIsCard : Claim7 := { stood := { row := roleIsRow, standIns := [], harness := (true, "9e0b497c68aa68ed8af16ec2de94fa660477be54b7d317beaa21f1b5ec9f3579"), looks := false }, kinds := [], alts := [], laidByText := true, laidKinds := [.data], laidTests := true, laidLooks := .later }
def RoleIsCardSaid : Prop := Claim7.holds Tryd.pinned (.plain (OpenSpec.ofChange roleIsSpec)) roleIsCard

/-- THE TIED CARD OF 'ridgewaylaw13.RoleLeaks'. -/
def roleLeaksCard : Claim7 := { stood := { row := roleLeaksRow, standIns := [], harness := (true, "9e0b497c68aa68ed8af16ec2de94fa660477be54b7d317beaa21f1b5ec9f3579"), looks := false }, kinds := [], alts := [], laidByText := true, laidKinds := [.data], laidTests := true, laidLooks := .later }
def RoleLeaksCardSaid : Prop := Claim7.holds Tryd.pinned (.plain (OpenSpec.ofChange roleLeaksSpec)) roleLeaksCard

/-- THE TIED CARD OF 'ridgewaylaw13.RoleWays'. -/
def roleWaysCard : Claim7 := { stood := { row := roleWaysRow, standIns := [], harness := (true, "9e0b497c68aa68ed8af16ec2de94fa660477be54b7d317beaa21f1b5ec9f3579"), looks := false }, kinds := [], alts := [], laidByText := true, laidKinds := [.data], laidTests := true, laidLooks := .later }
def RoleWaysCardSaid : Prop := Claim7.holds Tryd.pinned (.plain (OpenSpec.ofChange roleWaysSpec)) roleWaysCard

/-- THE TIED CARD OF 'ridgewaylaw13.RolePairs'. -/
def rolePairsCard : Claim7 := { stood := { row := rolePairsRow, standIns := [], harness := (true, "9e0b497c68aa68ed8af16ec2de94fa660477be54b7d317beaa21f1b5ec9f3579"), looks := false }, kinds := [], alts := [], laidByText := true, laidKinds := [.data], laidTests := true, laidLooks := .later }
def RolePairsCardSaid : Prop := Claim7.holds Tryd.pinned (.plain (OpenSpec.ofChange rolePairsSpec)) rolePairsCard

/-- THE TIED CARD OF 'ridgewaylaw13.RoleChain'. -/
def roleChainCard : Claim7 := { stood := { row := roleChainRow, standIns := [], harness := (true, "9e0b497c68aa68ed8af16ec2de94fa660477be54b7d317beaa21f1b5ec9f3579"), looks := false }, kinds := [], alts := [], laidByText := true, laidKinds := [.data], laidTests := true, laidLooks := .later }
def RoleChainCardSaid : Prop := Claim7.holds Tryd.pinned (.plain (OpenSpec.ofChange roleChainSpec)) roleChainCard

/-- THE SECOND FORM's CARD OF 'ridgewaylaw13.RoleIs'. -/
def roleIsUptoCard : Claim7 := { stood := { row := roleIsUptoRow, standIns := [], harness := (true, "9e0b497c68aa68ed8af16ec2de94fa660477be54b7d317beaa21f1b5ec9f3579"), looks := false }, kinds := [], alts := [], laidByText := true, laidKinds := [.data], laidTests := true, laidLooks := .later }
def RoleIsUptoCardSaid : Prop := Claim7.holds Tryd.pinned (.plain (OpenSpec.upto roleIsSpec)) roleIsUptoCard

/-- THE SECOND FORM's CARD OF 'ridgewaylaw13.RoleLeaks'. -/
def roleLeaksUptoCard : Claim7 := { stood := { row := roleLeaksUptoRow, standIns := [], harness := (true, "9e0b497c68aa68ed8af16ec2de94fa660477be54b7d317beaa21f1b5ec9f3579"), looks := false }, kinds := [], alts := [], laidByText := true, laidKinds := [.data], laidTests := true, laidLooks := .later }
def RoleLeaksUptoCardSaid : Prop := Claim7.holds Tryd.pinned (.plain (OpenSpec.upto roleLeaksSpec)) roleLeaksUptoCard

/-- THE SECOND FORM's CARD OF 'ridgewaylaw13.RoleWays'. -/
def roleWaysUptoCard : Claim7 := { stood := { row := roleWaysUptoRow, standIns := [], harness := (true, "9e0b497c68aa68ed8af16ec2de94fa660477be54b7d317beaa21f1b5ec9f3579"), looks := false }, kinds := [], alts := [], laidByText := true, laidKinds := [.data], laidTests := true, laidLooks := .later }
def RoleWaysUptoCardSaid : Prop := Claim7.holds Tryd.pinned (.plain (OpenSpec.upto roleWaysSpec)) roleWaysUptoCard

/-- THE SECOND FORM's CARD OF 'ridgewaylaw13.RolePairs'. -/
def rolePairsUptoCard : Claim7 := { stood := { row := rolePairsUptoRow, standIns := [], harness := (true, "9e0b497c68aa68ed8af16ec2de94fa660477be54b7d317beaa21f1b5ec9f3579"), looks := false }, kinds := [], alts := [], laidByText := true, laidKinds := [.data], laidTests := true, laidLooks := .later }
def RolePairsUptoCardSaid : Prop := Claim7.holds Tryd.pinned (.plain (OpenSpec.upto rolePairsSpec)) rolePairsUptoCard

/-- THE SECOND FORM's CARD OF 'ridgewaylaw13.RoleChain'. -/
def roleChainUptoCard : Claim7 := { stood := { row := roleChainUptoRow, standIns := [], harness := (true, "9e0b497c68aa68ed8af16ec2de94fa660477be54b7d317beaa21f1b5ec9f3579"), looks := false }, kinds := [], alts := [], laidByText := true, laidKinds := [.data], laidTests := true, laidLooks := .later }
def RoleChainUptoCardSaid : Prop := Claim7.holds Tryd.pinned (.plain (OpenSpec.upto roleChainSpec)) roleChainUptoCard
end Rows
end Go.Proofs.YtmlhbmlppgoklaaDoor
