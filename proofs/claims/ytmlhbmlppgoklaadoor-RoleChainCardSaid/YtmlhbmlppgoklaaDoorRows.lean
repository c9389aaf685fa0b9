/-
  NARROWER THAN 'FOR EVERY INPUT', by the rows' own cells (each row's printed sentence says how): RoleIs: laid · RoleLeaks: laid · RoleWays: laid · RolePairs: laid · RoleChain: laid.
  DERIVED. THE GIVEN ROWS OF THIS SEAT. 5 by the template 'for every input the law returns true; each argument reads behind the call as it read before'; 0 by the template 'total and deterministic' (their statements: YtmlhbmlppgoklaaDoorTotals.lean).
  GIVEN WITH THE SEED: the statements are not yours to turn. If you find one false, say at which input.
  Laid BY PROGRAM, IN A SANDBOX (cutbox-rows.mjs): the forced cells as the released guide's own fill.sh prints them over the translation 310fa4bb20d4dc02… (all of the seat's roots in one cut). By AI agents, Wed Nov 11 2026. No macro, syntax, notation, axiom, sorry.
-/
import Derived.Test.YtmlhbmlppgoklaaDoorChecked
import GoSem.Claim
import GoSem.ClaimJoined
import GoSem.ClaimMapViews
import Derived.JoinedTies
import Derived.KernelRfl
namespace Go.Proofs.YtmlhbmlppgoklaaDoor
/- THE CELL 'sum', in the pinned program and in every row, IS THE sha256 OF THE DUMP (.gsa) THAT YtmlhbmlppgoklaaDoorProg.lean LOADS. Nothing in Lean hashes anything: it is a label: what it is worth is what the hold of that sum in a sandbox is worth. -/
noncomputable def Tryd.pinned : Pinned := { name := "ytmlhbmlppgoklaadoor", sum := "310fa4bb20d4dc02d4c4041650653a519291c070b226665e12d0f4db157ada50", checked := Tryd.checked }
namespace Rows
def none {H : Type} : Left H := { results := [], args := [] }

/- WHAT THE LISTED PACKAGE-LEVEL VARIABLES READ AS WHEN THE CALL BEGINS. Each datum BY PROGRAM (the guide's laid-datum.mjs) off the statement by which the dump's own 'gosem.cut.vars' lays the variable. In a bare row this is a premise. The card (YtmlhbmlppgoklaaDoorCards.lean) ties it to the program's text. -/
def laid_ridgeway_role_pairs {H : Type} : DataW H := .agg [.agg [.lit (.int .i64 0), .lit (.int .i64 3)], .agg [.lit (.int .i64 1), .lit (.int .i64 2)], .agg [.lit (.int .i64 3), .lit (.int .i64 0)], .agg [.lit (.int .i64 2), .lit (.int .i64 1)], .agg [.lit (.int .i64 4), .lit (.int .i64 4)]]

/-- 'ridgewaylaw13.RoleIs': WHATEVER THE INPUT: true; the input reads as it did. -/
def roleIsSpec : ChangeSpec := { name := "roleIs", fn := fun _ => fun
  | [d1, d2, d3, d4] => { results := [.lit (.bool true)], args := [d1, d2, d3, d4] }
  | _ => none }
def roleIsRow : OpenClaim := { program := "ytmlhbmlppgoklaadoor", sum := "310fa4bb20d4dc02d4c4041650653a519291c070b226665e12d0f4db157ada50", func := "ridgeway/ridgewaylaw13.RoleIs", spec := "roleIs", named := ["ridgeway/role.pairs"], apart := false, laid := [("ridgeway/role.pairs", laid_ridgeway_role_pairs)] }
def RoleIsSaid : Prop := roleIsRow.holds Tryd.pinned (OpenSpec.ofChange roleIsSpec)

/-- ITS FALSE NEIGHBOUR: 'it returns false'. Refute it at one input. -/
def roleIsWrong : ChangeSpec := { name := "roleIs", fn := fun _ => fun
  | [d1, d2, d3, d4] => { results := [.lit (.bool false)], args := [d1, d2, d3, d4] }
  | _ => none }
def RoleIsWrongFalsely : Prop := roleIsRow.holds Tryd.pinned (OpenSpec.ofChange roleIsWrong)

/-- 'ridgewaylaw13.RoleLeaks': WHATEVER THE INPUT: true; the input reads as it did. -/
def roleLeaksSpec : ChangeSpec := { name := "roleLeaks", fn := fun _ => fun
  | [d1, d2, d3, d4, d5] => { results := [.lit (.bool true)], args := [d1, d2, d3, d4, d5] }
  | _ => none }
def roleLeaksRow : OpenClaim := { program := "ytmlhbmlppgoklaadoor", sum := "310fa4bb20d4dc02d4c4041650653a519291c070b226665e12d0f4db157ada50", func := "ridgeway/ridgewaylaw13.RoleLeaks", spec := "roleLeaks", named := ["ridgeway/role.pairs"], apart := false, laid := [("ridgeway/role.pairs", laid_ridgeway_role_pairs)] }
def RoleLeaksSaid : Prop := roleLeaksRow.holds Tryd.pinned (OpenSpec.ofChange roleLeaksSpec)

/-- ITS FALSE NEIGHBOUR: 'it returns false'. Refute it at one input. -/
def roleLeaksWrong : ChangeSpec := { name := "roleLeaks", fn := fun _ => fun
  | [d1, d2, d3, d4, d5] => { results := [.lit (.bool false)], args := [d1, d2, d3, d4, d5] }
  | _ => none }
def RoleLeaksWrongFalsely : Prop := roleLeaksRow.holds Tryd.pinned (OpenSpec.ofChange roleLeaksWrong)

/-- 'ridgewaylaw13.RoleWays': WHATEVER THE INPUT: true; the input reads as it did. -/
def roleWaysSpec : ChangeSpec := { name := "roleWays", fn := fun _ => fun
  | [d1, d2, d3] => { results := [.lit (.bool true)], args := [d1, d2, d3] }
  | _ => none }
def roleWaysRow : OpenClaim := { program := "ytmlhbmlppgoklaadoor", sum := "310fa4bb20d4dc02d4c4041650653a519291c070b226665e12d0f4db157ada50", func := "ridgeway/ridgewaylaw13.RoleWays", spec := "roleWays", named := ["ridgeway/role.pairs"], apart := false, laid := [("ridgeway/role.pairs", laid_ridgeway_role_pairs)] }
def RoleWaysSaid : Prop := roleWaysRow.holds Tryd.pinned (OpenSpec.ofChange roleWaysSpec)

/-- ITS FALSE NEIGHBOUR: 'it returns false'. Refute it at one input. -/
def roleWaysWrong : ChangeSpec := { name := "roleWays", fn := fun _ => fun
  | [d1, d2, d3] => { results := [.lit (.bool false)], args := [d1, d2, d3] }
  | _ => none }
def RoleWaysWrongFalsely : Prop := roleWaysRow.holds Tryd.pinned (OpenSpec.ofChange roleWaysWrong)

/-- 'ridgewaylaw13.RolePairs': WHATEVER THE INPUT: true; the input reads as it did. -/
def rolePairsSpec : ChangeSpec := { name := "rolePairs", fn := fun _ => fun
  | [d1, d2, d3, d4] => { results := [.lit (.bool true)], args := [d1, d2, d3, d4] }
  | _ => none }
def rolePairsRow : OpenClaim := { program := "ytmlhbmlppgoklaadoor", sum := "310fa4bb20d4dc02d4c4041650653a519291c070b226665e12d0f4db157ada50", func := "ridgeway/ridgewaylaw13.RolePairs", spec := "rolePairs", named := ["ridgeway/role.pairs"], apart := false, laid := [("ridgeway/role.pairs", laid_ridgeway_role_pairs)] }
def RolePairsSaid : Prop := rolePairsRow.holds Tryd.pinned (OpenSpec.ofChange rolePairsSpec)

/-- ITS FALSE NEIGHBOUR: 'it returns false'. Refute it at one input. -/
def rolePairsWrong : ChangeSpec := { name := "rolePairs", fn := fun _ => fun
  | [d1, d2, d3, d4] => { results := [.lit (.bool false)], args := [d1, d2, d3, d4] }
  | _ => none }
def RolePairsWrongFalsely : Prop := rolePairsRow.holds Tryd.pinned (OpenSpec.ofChange rolePairsWrong)

/-- 'ridgewaylaw13.RoleChain': WHATEVER THE INPUT: true; the input reads as it did. -/
def roleChainSpec : ChangeSpec := { name := "roleChain", fn := fun _ => fun
  | [d1, d2] => { results := [.lit (.bool true)], args := [d1, d2] }
  | _ => none }
def roleChainRow : OpenClaim := { program := "ytmlhbmlppgoklaadoor", sum := "310fa4bb20d4dc02d4c4041650653a519291c070b226665e12d0f4db157ada50", func := "ridgeway/ridgewaylaw13.RoleChain", spec := "roleChain", named := ["ridgeway/role.pairs"], apart := false, laid := [("ridgeway/role.pairs", laid_ridgeway_role_pairs)] }
def RoleChainSaid : Prop := roleChainRow.holds Tryd.pinned (OpenSpec.ofChange roleChainSpec)

/-- ITS FALSE NEIGHBOUR: 'it returns false'. Refute it at one input. -/
def roleChainWrong : ChangeSpec := { name := "roleChain", fn := fun _ => fun
  | [d1, d2] => { results := [.lit (.bool false)], args := [d1, d2] }
  | _ => none }
def RoleChainWrongFalsely : Prop := roleChainRow.holds Tryd.pinned (OpenSpec.ofChange roleChainWrong)

/- THE SECOND FORM. 'bulk': how many values and letters a reading holds, each counted each time it is reached (what is shared counts as often as it is met; a slice's spare places count too). A statement '..UptoSaid' is the law's where the arguments, and the package variables that the reading takes, are together of bulk at most 1048576: NARROWER than '..Said'. Prove '..Said' where nothing that the law and all that it calls make is longer than what came in: it says more and counts as full. Else prove '..UptoSaid'. A law counts once. -/
mutual
def uptoBulk {H : Type} : DataW H → Nat
  | .lit (.string bytes) => bytes.length + 1
  | .lit _ => 1
  | .nil => 1
  | .ptr d => uptoBulk d + 1
  | .slice elems spare => uptoBulkAll elems + uptoBulkAll spare + 1
  | .agg parts => uptoBulkAll parts + 1
  | .iface _ d => uptoBulk d + 1
  | .map entries => uptoBulkEntries entries + 1
  | .held _ => 1
def uptoBulkAll {H : Type} : List (DataW H) → Nat
  | [] => 0
  | d :: r => uptoBulk d + uptoBulkAll r
def uptoBulkEntries {H : Type} : List (Lit × DataW H) → Nat
  | [] => 0
  | x :: r => uptoBulkEntry x + uptoBulkEntries r
def uptoBulkEntry {H : Type} : Lit × DataW H → Nat
  | (.string bytes, d) => bytes.length + uptoBulk d + 1
  | (_, d) => uptoBulk d + 1
 end
def uptoSmall : (H : Type) → List (DataW H) → Bool := fun _ ds => decide (uptoBulkAll ds ≤ 1048576)
def OpenSpec.upto (s : _root_.Go.ChangeSpec) : _root_.Go.OpenSpec := { _root_.Go.OpenSpec.ofChange s with cond := some uptoSmall }

/-- 'ridgewaylaw13.RoleIs', WHERE WHAT IT READS IS OF BULK AT MOST 1048576: true; the input reads as it did. -/
def roleIsUptoRow : OpenClaim := { program := "ytmlhbmlppgoklaadoor", sum := "310fa4bb20d4dc02d4c4041650653a519291c070b226665e12d0f4db157ada50", func := "ridgeway/ridgewaylaw13.RoleIs", spec := "roleIs", named := ["ridgeway/role.pairs"], apart := false, laid := [("ridgeway/role.pairs", laid_ridgeway_role_pairs)], narrowed := true }
def RoleIsUptoSaid : Prop := roleIsUptoRow.holds Tryd.pinned (OpenSpec.upto roleIsSpec)

/-- 'ridgewaylaw13.RoleLeaks', WHERE WHAT IT READS IS OF BULK AT MOST 1048576: true; the input reads as it did. -/
def roleLeaksUptoRow : OpenClaim := { program := "ytmlhbmlppgoklaadoor", sum := "310fa4bb20d4dc02d4c4041650653a519291c070b226665e12d0f4db157ada50", func := "ridgeway/ridgewaylaw13.RoleLeaks", spec := "roleLeaks", named := ["ridgeway/role.pairs"], apart := false, laid := [("ridgeway/role.pairs", laid_ridgeway_role_pairs)], narrowed := true }
def RoleLeaksUptoSaid : Prop := roleLeaksUptoRow.holds Tryd.pinned (OpenSpec.upto roleLeaksSpec)

/-- 'ridgewaylaw13.RoleWays', WHERE WHAT IT READS IS OF BULK AT MOST 1048576: true; the input reads as it did. -/
def roleWaysUptoRow : OpenClaim := { program := "ytmlhbmlppgoklaadoor", sum := "310fa4bb20d4dc02d4c4041650653a519291c070b226665e12d0f4db157ada50", func := "ridgeway/ridgewaylaw13.RoleWays", spec := "roleWays", named := ["ridgeway/role.pairs"], apart := false, laid := [("ridgeway/role.pairs", laid_ridgeway_role_pairs)], narrowed := true }
def RoleWaysUptoSaid : Prop := roleWaysUptoRow.holds Tryd.pinned (OpenSpec.upto roleWaysSpec)

/-- 'ridgewaylaw13.RolePairs', WHERE WHAT IT READS IS OF BULK AT MOST 1048576: true; the input reads as it did. -/
def rolePairsUptoRow : OpenClaim := { program := "ytmlhbmlppgoklaadoor", sum := "310fa4bb20d4dc02d4c4041650653a519291c070b226665e12d0f4db157ada50", func := "ridgeway/ridgewaylaw13.RolePairs", spec := "rolePairs", named := ["ridgeway/role.pairs"], apart := false, laid := [("ridgeway/role.pairs", laid_ridgeway_role_pairs)], narrowed := true }
def RolePairsUptoSaid : Prop := rolePairsUptoRow.holds Tryd.pinned (OpenSpec.upto rolePairsSpec)

/-- 'ridgewaylaw13.RoleChain', WHERE WHAT IT READS IS OF BULK AT MOST 1048576: true; the input reads as it did. -/
def roleChainUptoRow : OpenClaim := { program := "ytmlhbmlppgoklaadoor", sum := "310fa4bb20d4dc02d4c4041650653a519291c070b226665e12d0f4db157ada50", func := "ridgeway/ridgewaylaw13.RoleChain", spec := "roleChain", named := ["ridgeway/role.pairs"], apart := false, laid := [("ridgeway/role.pairs", laid_ridgeway_role_pairs)], narrowed := true }
def RoleChainUptoSaid : Prop := roleChainUptoRow.holds Tryd.pinned (OpenSpec.upto roleChainSpec)

end Rows
end Go.Proofs.YtmlhbmlppgoklaaDoor
