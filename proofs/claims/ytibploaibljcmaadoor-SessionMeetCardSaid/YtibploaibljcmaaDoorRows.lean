/-
  NARROWER THAN 'FOR EVERY INPUT', by the rows' own cells (each row's printed sentence says how): SessionKeeps: laid · SessionMeet: laid · SessionTicks: laid · SessionDeaf: laid · SessionLives: laid.
  DERIVED. THE GIVEN ROWS OF THIS SEAT. 5 by the template 'for every input the law returns true; each argument reads behind the call as it read before'; 0 by the template 'total and deterministic' (their statements: YtibploaibljcmaaDoorTotals.lean).
  GIVEN WITH THE SEED: the statements are not yours to turn. If you find one false, say at which input.
  Laid BY PROGRAM, IN A SANDBOX (cutbox-rows.mjs): the forced cells as the released guide's own fill.sh prints them over the translation e85d919bcaf74b7c… (all of the seat's roots in one cut). By AI agents, Wed Nov 11 2026. No macro, syntax, notation, axiom, sorry.
-/
import Derived.Test.YtibploaibljcmaaDoorChecked
import GoSem.Claim
import GoSem.ClaimJoined
import GoSem.ClaimMapViews
import Derived.JoinedTies
import Derived.KernelRfl
namespace Go.Proofs.YtibploaibljcmaaDoor
/- THE CELL 'sum', in the pinned program and in every row, IS THE sha256 OF THE DUMP (.gsa) THAT YtibploaibljcmaaDoorProg.lean LOADS. Nothing in Lean hashes anything: it is a label: what it is worth is what the hold of that sum in a sandbox is worth. -/
noncomputable def Tryd.pinned : Pinned := { name := "ytibploaibljcmaadoor", sum := "e85d919bcaf74b7ca3dd5d8ad543dd1c4fed9387eeed693ad6a7a7ca5ca2e3b2", checked := Tryd.checked }
namespace Rows
def none {H : Type} : Left H := { results := [], args := [] }

/- WHAT THE LISTED PACKAGE-LEVEL VARIABLES READ AS WHEN THE CALL BEGINS. Each datum BY PROGRAM (the guide's laid-datum.mjs) off the statement by which the dump's own 'gosem.cut.vars' lays the variable. In a bare row this is a premise. The card (YtibploaibljcmaaDoorCards.lean) ties it to the program's text. -/
def laid_ridgeway_role_pairs {H : Type} : DataW H := .agg [.agg [.lit (.int .i64 0), .lit (.int .i64 3)], .agg [.lit (.int .i64 1), .lit (.int .i64 2)], .agg [.lit (.int .i64 3), .lit (.int .i64 0)], .agg [.lit (.int .i64 2), .lit (.int .i64 1)], .agg [.lit (.int .i64 4), .lit (.int .i64 4)]]

/-- 'ridgewaylaw17.SessionKeeps': WHATEVER THE INPUT: true; the input reads as it did. -/
def sessionKeepsSpec : ChangeSpec := { name := "sessionKeeps", fn := fun _ => fun
  | [d1, d2, d3, d4, d5] => { results := [.lit (.bool true)], args := [d1, d2, d3, d4, d5] }
  | _ => none }
def sessionKeepsRow : OpenClaim := { program := "ytibploaibljcmaadoor", sum := "e85d919bcaf74b7ca3dd5d8ad543dd1c4fed9387eeed693ad6a7a7ca5ca2e3b2", func := "ridgeway/ridgewaylaw17.SessionKeeps", spec := "sessionKeeps", unfollowed := true, recurses := true, named := ["ridgeway/role.pairs"], apart := false, laid := [("ridgeway/role.pairs", laid_ridgeway_role_pairs)] }
def SessionKeepsSaid : Prop := sessionKeepsRow.holds Tryd.pinned (OpenSpec.ofChange sessionKeepsSpec)

/-- ITS FALSE NEIGHBOUR: 'it returns false'. Refute it at one input. -/
def sessionKeepsWrong : ChangeSpec := { name := "sessionKeeps", fn := fun _ => fun
  | [d1, d2, d3, d4, d5] => { results := [.lit (.bool false)], args := [d1, d2, d3, d4, d5] }
  | _ => none }
def SessionKeepsWrongFalsely : Prop := sessionKeepsRow.holds Tryd.pinned (OpenSpec.ofChange sessionKeepsWrong)

/-- 'ridgewaylaw17.SessionMeet': WHATEVER THE INPUT: true; the input reads as it did. -/
def sessionMeetSpec : ChangeSpec := { name := "sessionMeet", fn := fun _ => fun
  | [d1, d2, d3, d4, d5, d6] => { results := [.lit (.bool true)], args := [d1, d2, d3, d4, d5, d6] }
  | _ => none }
def sessionMeetRow : OpenClaim := { program := "ytibploaibljcmaadoor", sum := "e85d919bcaf74b7ca3dd5d8ad543dd1c4fed9387eeed693ad6a7a7ca5ca2e3b2", func := "ridgeway/ridgewaylaw17.SessionMeet", spec := "sessionMeet", unfollowed := true, recurses := true, named := ["ridgeway/role.pairs"], apart := false, laid := [("ridgeway/role.pairs", laid_ridgeway_role_pairs)] }
def SessionMeetSaid : Prop := sessionMeetRow.holds Tryd.pinned (OpenSpec.ofChange sessionMeetSpec)

/-- ITS FALSE NEIGHBOUR: 'it returns false'. Refute it at one input. -/
def sessionMeetWrong : ChangeSpec := { name := "sessionMeet", fn := fun _ => fun
  | [d1, d2, d3, d4, d5, d6] => { results := [.lit (.bool false)], args := [d1, d2, d3, d4, d5, d6] }
  | _ => none }
def SessionMeetWrongFalsely : Prop := sessionMeetRow.holds Tryd.pinned (OpenSpec.ofChange sessionMeetWrong)

/-- 'ridgewaylaw17.SessionTicks': WHATEVER THE INPUT: true; the input reads as it did. -/
def sessionTicksSpec : ChangeSpec := { name := "sessionTicks", fn := fun _ => fun
  | [d1, d2, d3] => { results := [.lit (.bool true)], args := [d1, d2, d3] }
  | _ => none }
def sessionTicksRow : OpenClaim := { program := "ytibploaibljcmaadoor", sum := "e85d919bcaf74b7ca3dd5d8ad543dd1c4fed9387eeed693ad6a7a7ca5ca2e3b2", func := "ridgeway/ridgewaylaw17.SessionTicks", spec := "sessionTicks", unfollowed := true, recurses := true, named := ["ridgeway/role.pairs"], apart := false, laid := [("ridgeway/role.pairs", laid_ridgeway_role_pairs)] }
def SessionTicksSaid : Prop := sessionTicksRow.holds Tryd.pinned (OpenSpec.ofChange sessionTicksSpec)

/-- ITS FALSE NEIGHBOUR: 'it returns false'. Refute it at one input. -/
def sessionTicksWrong : ChangeSpec := { name := "sessionTicks", fn := fun _ => fun
  | [d1, d2, d3] => { results := [.lit (.bool false)], args := [d1, d2, d3] }
  | _ => none }
def SessionTicksWrongFalsely : Prop := sessionTicksRow.holds Tryd.pinned (OpenSpec.ofChange sessionTicksWrong)

/-- 'ridgewaylaw17.SessionDeaf': WHATEVER THE INPUT: true; the input reads as it did. -/
def sessionDeafSpec : ChangeSpec := { name := "sessionDeaf", fn := fun _ => fun
  | [d1, d2, d3, d4] => { results := [.lit (.bool true)], args := [d1, d2, d3, d4] }
  | _ => none }
def sessionDeafRow : OpenClaim := { program := "ytibploaibljcmaadoor", sum := "e85d919bcaf74b7ca3dd5d8ad543dd1c4fed9387eeed693ad6a7a7ca5ca2e3b2", func := "ridgeway/ridgewaylaw17.SessionDeaf", spec := "sessionDeaf", unfollowed := true, recurses := true, named := ["ridgeway/role.pairs"], apart := false, laid := [("ridgeway/role.pairs", laid_ridgeway_role_pairs)] }
def SessionDeafSaid : Prop := sessionDeafRow.holds Tryd.pinned (OpenSpec.ofChange sessionDeafSpec)

/-- ITS FALSE NEIGHBOUR: 'it returns false'. Refute it at one input. -/
def sessionDeafWrong : ChangeSpec := { name := "sessionDeaf", fn := fun _ => fun
  | [d1, d2, d3, d4] => { results := [.lit (.bool false)], args := [d1, d2, d3, d4] }
  | _ => none }
def SessionDeafWrongFalsely : Prop := sessionDeafRow.holds Tryd.pinned (OpenSpec.ofChange sessionDeafWrong)

/-- 'ridgewaylaw17.SessionLives': WHATEVER THE INPUT: true; the input reads as it did. -/
def sessionLivesSpec : ChangeSpec := { name := "sessionLives", fn := fun _ => fun
  | [d1, d2, d3, d4] => { results := [.lit (.bool true)], args := [d1, d2, d3, d4] }
  | _ => none }
def sessionLivesRow : OpenClaim := { program := "ytibploaibljcmaadoor", sum := "e85d919bcaf74b7ca3dd5d8ad543dd1c4fed9387eeed693ad6a7a7ca5ca2e3b2", func := "ridgeway/ridgewaylaw17.SessionLives", spec := "sessionLives", unfollowed := true, recurses := true, named := ["ridgeway/role.pairs"], apart := false, laid := [("ridgeway/role.pairs", laid_ridgeway_role_pairs)] }
def SessionLivesSaid : Prop := sessionLivesRow.holds Tryd.pinned (OpenSpec.ofChange sessionLivesSpec)

/-- ITS FALSE NEIGHBOUR: 'it returns false'. Refute it at one input. -/
def sessionLivesWrong : ChangeSpec := { name := "sessionLives", fn := fun _ => fun
  | [d1, d2, d3, d4] => { results := [.lit (.bool false)], args := [d1, d2, d3, d4] }
  | _ => none }
def SessionLivesWrongFalsely : Prop := sessionLivesRow.holds Tryd.pinned (OpenSpec.ofChange sessionLivesWrong)

/- THE SECOND FORM. 'bulk': how many values and letters a reading holds, each counted each time it is reached (what is shared counts as often as it is met; a slice's spare places count too). A statement '..UptoSaid' is the law's where the arguments, and the package variables that the reading takes, are together of bulk at most 1048576: NARROWER than '..Said'. Prove '..Said' where nothing that the law and all that it calls make is longer than what came in: it says more and counts as full. Else prove '..UptoSaid'. A law counts once. -/
mutual
def uptoBulk {H : Type} : DataW H → Nat
  | .lit (.string bytes) => bytes.length + 1
  | .lit _ => 1
  | .nil => 1
  | .ptr d => uptoBulk d + 1
  | .slice elems spare => uptoBulkAll elems + uptoBulkAll spare + 1
  | .agg parts => uptoBulkAll parts + 1
  | .iface _ d => uptoBulk d + 1
  | .map entries => uptoBulkEntries entries + 1
  | .held _ => 1
def uptoBulkAll {H : Type} : List (DataW H) → Nat
  | [] => 0
  | d :: r => uptoBulk d + uptoBulkAll r
def uptoBulkEntries {H : Type} : List (Lit × DataW H) → Nat
  | [] => 0
  | x :: r => uptoBulkEntry x + uptoBulkEntries r
def uptoBulkEntry {H : Type} : Lit × DataW H → Nat
  | (.string bytes, d) => bytes.length + uptoBulk d + 1
  | (_, d) => uptoBulk d + 1
 end
def uptoSmall : (H : Type) → List (DataW H) → Bool := fun _ ds => decide (uptoBulkAll ds ≤ 1048576)
def OpenSpec.upto (s : _root_.Go.ChangeSpec) : _root_.Go.OpenSpec := { _root_.Go.OpenSpec.ofChange s with cond := some uptoSmall }

/-- 'ridgewaylaw17.SessionKeeps', WHERE WHAT IT READS IS OF BULK AT MOST 1048576: true; the input reads as it did. -/
def sessionKeepsUptoRow : OpenClaim := { program := "ytibploaibljcmaadoor", sum := "e85d919bcaf74b7ca3dd5d8ad543dd1c4fed9387eeed693ad6a7a7ca5ca2e3b2", func := "ridgeway/ridgewaylaw17.SessionKeeps", spec := "sessionKeeps", unfollowed := true, recurses := true, named := ["ridgeway/role.pairs"], apart := false, laid := [("ridgeway/role.pairs", laid_ridgeway_role_pairs)], narrowed := true }
def SessionKeepsUptoSaid : Prop := sessionKeepsUptoRow.holds Tryd.pinned (OpenSpec.upto sessionKeepsSpec)

/-- 'ridgewaylaw17.SessionMeet', WHERE WHAT IT READS IS OF BULK AT MOST 1048576: true; the input reads as it did. -/
def sessionMeetUptoRow : OpenClaim := { program := "ytibploaibljcmaadoor", sum := "e85d919bcaf74b7ca3dd5d8ad543dd1c4fed9387eeed693ad6a7a7ca5ca2e3b2", func := "ridgeway/ridgewaylaw17.SessionMeet", spec := "sessionMeet", unfollowed := true, recurses := true, named := ["ridgeway/role.pairs"], apart := false, laid := [("ridgeway/role.pairs", laid_ridgeway_role_pairs)], narrowed := true }
def SessionMeetUptoSaid : Prop := sessionMeetUptoRow.holds Tryd.pinned (OpenSpec.upto sessionMeetSpec)

/-- 'ridgewaylaw17.SessionTicks', WHERE WHAT IT READS IS OF BULK AT MOST 1048576: true; the input reads as it did. -/
def sessionTicksUptoRow : OpenClaim := { program := "ytibploaibljcmaadoor", sum := "e85d919bcaf74b7ca3dd5d8ad543dd1c4fed9387eeed693ad6a7a7ca5ca2e3b2", func := "ridgeway/ridgewaylaw17.SessionTicks", spec := "sessionTicks", unfollowed := true, recurses := true, named := ["ridgeway/role.pairs"], apart := false, laid := [("ridgeway/role.pairs", laid_ridgeway_role_pairs)], narrowed := true }
def SessionTicksUptoSaid : Prop := sessionTicksUptoRow.holds Tryd.pinned (OpenSpec.upto sessionTicksSpec)

/-- 'ridgewaylaw17.SessionDeaf', WHERE WHAT IT READS IS OF BULK AT MOST 1048576: true; the input reads as it did. -/
def sessionDeafUptoRow : OpenClaim := { program := "ytibploaibljcmaadoor", sum := "e85d919bcaf74b7ca3dd5d8ad543dd1c4fed9387eeed693ad6a7a7ca5ca2e3b2", func := "ridgeway/ridgewaylaw17.SessionDeaf", spec := "sessionDeaf", unfollowed := true, recurses := true, named := ["ridgeway/role.pairs"], apart := false, laid := [("ridgeway/role.pairs", laid_ridgeway_role_pairs)], narrowed := true }
def SessionDeafUptoSaid : Prop := sessionDeafUptoRow.holds Tryd.pinned (OpenSpec.upto sessionDeafSpec)

/-- 'ridgewaylaw17.SessionLives', WHERE WHAT IT READS IS OF BULK AT MOST 1048576: true; the input reads as it did. -/
def sessionLivesUptoRow : OpenClaim := { program := "ytibploaibljcmaadoor", sum := "e85d919bcaf74b7ca3dd5d8ad543dd1c4fed9387eeed693ad6a7a7ca5ca2e3b2", func := "ridgeway/ridgewaylaw17.SessionLives", spec := "sessionLives", unfollowed := true, recurses := true, named := ["ridgeway/role.pairs"], apart := false, laid := [("ridgeway/role.pairs", laid_ridgeway_role_pairs)], narrowed := true }
def SessionLivesUptoSaid : Prop := sessionLivesUptoRow.holds Tryd.pinned (OpenSpec.upto sessionLivesSpec)

end Rows
end Go.Proofs.YtibploaibljcmaaDoor
