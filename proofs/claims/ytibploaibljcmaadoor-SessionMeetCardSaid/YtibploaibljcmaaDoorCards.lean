/-
  DERIVED. GIVEN WITH THE SEED: THE CARDS: each row of YtibploaibljcmaaDoorRows.lean that lists a variable, with what it lists TIED to the program's text (the seventh form; the later family's looks); each row that meets fmt, with fmt's text TOLD by the authors' own Lean function (tested against real Go, not proved from fmt's source: count such statements apart). THE CARD IS WHAT COUNTS. Prove the row's statement (the work); the ties are given (YtibploaibljcmaaDoorTie.lean); close each card by the builder's one call (the guide's Derived/Test/ToyasCard.lean, 'card_holds'). Laid BY PROGRAM, IN A SANDBOX (cutbox-door.mjs). By AI agents, Wed Nov 11 2026. No macro, syntax, notation, axiom, sorry.
-/
import Derived.Test.YtibploaibljcmaaDoorRows
import GoSem.ClaimSeven
namespace Go.Proofs.YtibploaibljcmaaDoor
namespace Rows

/-- THE TIED CARD OF 'ridgewaylaw17.SessionKeeps'. -/
def sessionKeepsCard : Claim7 := { stood := { row := sessionKeepsRow, standIns := [], harness := (true, "c1d9c4a06bf01a687e4e0dd02a709c44f1327ccabcc4dfa4982fac065320fbf9"), looks := false }, kinds := [], alts := [], laidByText := true, laidKinds := [.data], laidTests := true, laidLooks := .later }
def SessionKeepsCardSaid : Prop := Claim7.holds Tryd.pinned (.plain (OpenSpec.ofChange sessionKeepsSpec)) sessionKeepsCard

/-- THE TIED CARD OF 'ridgewaylaw17.SessionMeet'. -/
def sessionMeetCard : Claim7 := { stood := { row := sessionMeetRow, standIns := [], harness := (true, "c1d9c4a06bf01a687e4e0dd02a709c44f1327ccabcc4dfa4982fac065320fbf9"), looks := false }, kinds := [], alts := [], laidByText := true, laidKinds := [.data], laidTests := true, laidLooks := .later }
def SessionMeetCardSaid : Prop := Claim7.holds Tryd.pinned (.plain (OpenSpec.ofChange sessionMeetSpec)) sessionMeetCard

/-- THE TIED CARD OF 'ridgewaylaw17.SessionTicks'. -/
def sessionTicksCard : Claim7 := { stood := { row := sessionTicksRow, standIns := [], harness := (true, "c1d9c4a06bf01a687e4e0dd02a709c44f1327ccabcc4dfa4982fac065320fbf9"), looks := false }, kinds := [], alts := [], laidByText := true, laidKinds := [.data], laidTests := true, laidLooks := .later }
def SessionTicksCardSaid : Prop := Claim7.holds Tryd.pinned (.plain (OpenSpec.ofChange sessionTicksSpec)) sessionTicksCard

/-- THE TIED CARD OF 'ridgewaylaw17.SessionDeaf'. -/
def sessionDeafCard : Claim7 := { stood := { row := sessionDeafRow, standIns := [], harness := (true, "c1d9c4a06bf01a687e4e0dd02a709c44f1327ccabcc4dfa4982fac065320fbf9"), looks := false }, kinds := [], alts := [], laidByText := true, laidKinds := [.data], laidTests := true, laidLooks := .later }
def SessionDeafCardSaid : Prop := Claim7.holds Tryd.pinned (.plain (OpenSpec.ofChange sessionDeafSpec)) sessionDeafCard

/-- THE TIED CARD OF 'ridgewaylaw17.SessionLives'. -/
def sessionLivesCard : Claim7 := { stood := { row := sessionLivesRow, standIns := [], harness := (true, "c1d9c4a06bf01a687e4e0dd02a709c44f1327ccabcc4dfa4982fac065320fbf9"), looks := false }, kinds := [], alts := [], laidByText := true, laidKinds := [.data], laidTests := true, laidLooks := .later }
def SessionLivesCardSaid : Prop := Claim7.holds Tryd.pinned (.plain (OpenSpec.ofChange sessionLivesSpec)) sessionLivesCard

/-- THE SECOND FORM's CARD OF 'ridgewaylaw17.SessionKeeps'. -/
def sessionKeepsUptoCard : Claim7 := { stood := { row := sessionKeepsUptoRow, standIns := [], harness := (true, "c1d9c4a06bf01a687e4e0dd02a709c44f1327ccabcc4dfa4982fac065320fbf9"), looks := false }, kinds := [], alts := [], laidByText := true, laidKinds := [.data], laidTests := true, laidLooks := .later }
def SessionKeepsUptoCardSaid : Prop := Claim7.holds Tryd.pinned (.plain (OpenSpec.upto sessionKeepsSpec)) sessionKeepsUptoCard

/-- THE SECOND FORM's CARD OF 'ridgewaylaw17.SessionMeet'. -/
def sessionMeetUptoCard : Claim7 := { stood := { row := sessionMeetUptoRow, standIns := [], harness := (true, "c1d9c4a06bf01a687e4e0dd02a709c44f1327ccabcc4dfa4982fac065320fbf9"), looks := false }, kinds := [], alts := [], laidByText := true, laidKinds := [.data], laidTests := true, laidLooks := .later }
def SessionMeetUptoCardSaid : Prop := Claim7.holds Tryd.pinned (.plain (OpenSpec.upto sessionMeetSpec)) sessionMeetUptoCard

/-- THE SECOND FORM's CARD OF 'ridgewaylaw17.SessionTicks'. -/
def sessionTicksUptoCard : Claim7 := { stood := { row := sessionTicksUptoRow, standIns := [], harness := (true, "c1d9c4a06bf01a687e4e0dd02a709c44f1327ccabcc4dfa4982fac065320fbf9"), looks := false }, kinds := [], alts := [], laidByText := true, laidKinds := [.data], laidTests := true, laidLooks := .later }
def SessionTicksUptoCardSaid : Prop := Claim7.holds Tryd.pinned (.plain (OpenSpec.upto sessionTicksSpec)) sessionTicksUptoCard

/-- THE SECOND FORM's CARD OF 'ridgewaylaw17.SessionDeaf'. -/
def sessionDeafUptoCard : Claim7 := { stood := { row := sessionDeafUptoRow, standIns := [], harness := (true, "c1d9c4a06bf01a687e4e0dd02a709c44f1327ccabcc4dfa4982fac065320fbf9"), looks := false }, kinds := [], alts := [], laidByText := true, laidKinds := [.data], laidTests := true, laidLooks := .later }
def SessionDeafUptoCardSaid : Prop := Claim7.holds Tryd.pinned (.plain (OpenSpec.upto sessionDeafSpec)) sessionDeafUptoCard

/-- THE SECOND FORM's CARD OF 'ridgewaylaw17.SessionLives'. -/
def sessionLivesUptoCard : Claim7 := { stood := { row := sessionLivesUptoRow, standIns := [], harness := (true, "c1d9c4a06bf01a687e4e0dd02a709c44f1327ccabcc4dfa4982fac065320fbf9"), looks := false }, kinds := [], alts := [], laidByText := true, laidKinds := [.data], laidTests := true, laidLooks := .later }
def SessionLivesUptoCardSaid : Prop := Claim7.holds Tryd.pinned (.plain (OpenSpec.upto sessionLivesSpec)) sessionLivesUptoCard
end Rows
end Go.Proofs.YtibploaibljcmaaDoor
