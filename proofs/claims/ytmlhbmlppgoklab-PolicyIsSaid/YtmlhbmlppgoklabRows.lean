/-
  No cell of these rows narrows 'for every input' (looked for: loops, veiled, ifaces, maps, wideKeys, modest, calm, conditions, laid).
  DERIVED. THE GIVEN ROWS OF THIS SEAT. 5 by the template 'for every input the law returns true; each argument reads behind the call as it read before'; 0 by the template 'total and deterministic' (their statements: YtmlhbmlppgoklabTotals.lean).
  GIVEN WITH THE SEED: the statements are not yours to turn. If you find one false, say at which input.
  Laid BY PROGRAM, IN A SANDBOX (cutbox-rows.mjs): the forced cells as the released guide's own fill.sh prints them over the translation 56b0ae4f9be765b5… (all of the seat's roots in one cut). By AI agents, Wed Nov 11 2026. No macro, syntax, notation, axiom, sorry.
-/
import Derived.Test.YtmlhbmlppgoklabChecked
import GoSem.Claim
import GoSem.ClaimJoined
import GoSem.ClaimMapViews
import Derived.JoinedTies
import Derived.KernelRfl
namespace Go.Proofs.Ytmlhbmlppgoklab
/- THE CELL 'sum', in the pinned program and in every row, IS THE sha256 OF THE DUMP (.gsa) THAT YtmlhbmlppgoklabProg.lean LOADS. Nothing in Lean hashes anything: it is a label: what it is worth is what the hold of that sum in a sandbox is worth. -/
noncomputable def Try.pinned : Pinned := { name := "ytmlhbmlppgoklab", sum := "56b0ae4f9be765b5c9f949903a11421634505d7367039c63bffb6f75d3cff78a", checked := Try.checked }
namespace Rows
def none {H : Type} : Left H := { results := [], args := [] }

/-- 'ridgewaylaw10.PolicyIs': WHATEVER THE INPUT: true; the input reads as it did. -/
def policyIsSpec : ChangeSpec := { name := "policyIs", fn := fun _ => fun
  | [d1, d2, d3, d4] => { results := [.lit (.bool true)], args := [d1, d2, d3, d4] }
  | _ => none }
def policyIsRow : OpenClaim := { program := "ytmlhbmlppgoklab", sum := "56b0ae4f9be765b5c9f949903a11421634505d7367039c63bffb6f75d3cff78a", func := "ridgeway/ridgewaylaw10.PolicyIs", spec := "policyIs", unfollowed := true, recurses := true, apart := false }
def PolicyIsSaid : Prop := policyIsRow.holds Try.pinned (OpenSpec.ofChange policyIsSpec)

/-- ITS FALSE NEIGHBOUR: 'it returns false'. Refute it at one input. -/
def policyIsWrong : ChangeSpec := { name := "policyIs", fn := fun _ => fun
  | [d1, d2, d3, d4] => { results := [.lit (.bool false)], args := [d1, d2, d3, d4] }
  | _ => none }
def PolicyIsWrongFalsely : Prop := policyIsRow.holds Try.pinned (OpenSpec.ofChange policyIsWrong)

/-- 'ridgewaylaw10.PolicyFirst': WHATEVER THE INPUT: true; the input reads as it did. -/
def policyFirstSpec : ChangeSpec := { name := "policyFirst", fn := fun _ => fun
  | [d1, d2] => { results := [.lit (.bool true)], args := [d1, d2] }
  | _ => none }
def policyFirstRow : OpenClaim := { program := "ytmlhbmlppgoklab", sum := "56b0ae4f9be765b5c9f949903a11421634505d7367039c63bffb6f75d3cff78a", func := "ridgeway/ridgewaylaw10.PolicyFirst", spec := "policyFirst", unfollowed := true, recurses := true, apart := false }
def PolicyFirstSaid : Prop := policyFirstRow.holds Try.pinned (OpenSpec.ofChange policyFirstSpec)

/-- ITS FALSE NEIGHBOUR: 'it returns false'. Refute it at one input. -/
def policyFirstWrong : ChangeSpec := { name := "policyFirst", fn := fun _ => fun
  | [d1, d2] => { results := [.lit (.bool false)], args := [d1, d2] }
  | _ => none }
def PolicyFirstWrongFalsely : Prop := policyFirstRow.holds Try.pinned (OpenSpec.ofChange policyFirstWrong)

/-- 'ridgewaylaw10.PolicyReach': WHATEVER THE INPUT: true; the input reads as it did. -/
def policyReachSpec : ChangeSpec := { name := "policyReach", fn := fun _ => fun
  | [d1, d2] => { results := [.lit (.bool true)], args := [d1, d2] }
  | _ => none }
def policyReachRow : OpenClaim := { program := "ytmlhbmlppgoklab", sum := "56b0ae4f9be765b5c9f949903a11421634505d7367039c63bffb6f75d3cff78a", func := "ridgeway/ridgewaylaw10.PolicyReach", spec := "policyReach", unfollowed := true, recurses := true, apart := false }
def PolicyReachSaid : Prop := policyReachRow.holds Try.pinned (OpenSpec.ofChange policyReachSpec)

/-- ITS FALSE NEIGHBOUR: 'it returns false'. Refute it at one input. -/
def policyReachWrong : ChangeSpec := { name := "policyReach", fn := fun _ => fun
  | [d1, d2] => { results := [.lit (.bool false)], args := [d1, d2] }
  | _ => none }
def PolicyReachWrongFalsely : Prop := policyReachRow.holds Try.pinned (OpenSpec.ofChange policyReachWrong)

/-- 'ridgewaylaw10.PolicyTotal': WHATEVER THE INPUT: true; the input reads as it did. -/
def policyTotalSpec : ChangeSpec := { name := "policyTotal", fn := fun _ => fun
  | [d1, d2, d3] => { results := [.lit (.bool true)], args := [d1, d2, d3] }
  | _ => none }
def policyTotalRow : OpenClaim := { program := "ytmlhbmlppgoklab", sum := "56b0ae4f9be765b5c9f949903a11421634505d7367039c63bffb6f75d3cff78a", func := "ridgeway/ridgewaylaw10.PolicyTotal", spec := "policyTotal", unfollowed := true, recurses := true, apart := false }
def PolicyTotalSaid : Prop := policyTotalRow.holds Try.pinned (OpenSpec.ofChange policyTotalSpec)

/-- ITS FALSE NEIGHBOUR: 'it returns false'. Refute it at one input. -/
def policyTotalWrong : ChangeSpec := { name := "policyTotal", fn := fun _ => fun
  | [d1, d2, d3] => { results := [.lit (.bool false)], args := [d1, d2, d3] }
  | _ => none }
def PolicyTotalWrongFalsely : Prop := policyTotalRow.holds Try.pinned (OpenSpec.ofChange policyTotalWrong)

/-- 'ridgewaylaw10.PolicyBehind': WHATEVER THE INPUT: true; the input reads as it did. -/
def policyBehindSpec : ChangeSpec := { name := "policyBehind", fn := fun _ => fun
  | [d1, d2, d3, d4] => { results := [.lit (.bool true)], args := [d1, d2, d3, d4] }
  | _ => none }
def policyBehindRow : OpenClaim := { program := "ytmlhbmlppgoklab", sum := "56b0ae4f9be765b5c9f949903a11421634505d7367039c63bffb6f75d3cff78a", func := "ridgeway/ridgewaylaw10.PolicyBehind", spec := "policyBehind", unfollowed := true, recurses := true, apart := false }
def PolicyBehindSaid : Prop := policyBehindRow.holds Try.pinned (OpenSpec.ofChange policyBehindSpec)

/-- ITS FALSE NEIGHBOUR: 'it returns false'. Refute it at one input. -/
def policyBehindWrong : ChangeSpec := { name := "policyBehind", fn := fun _ => fun
  | [d1, d2, d3, d4] => { results := [.lit (.bool false)], args := [d1, d2, d3, d4] }
  | _ => none }
def PolicyBehindWrongFalsely : Prop := policyBehindRow.holds Try.pinned (OpenSpec.ofChange policyBehindWrong)

/- THE SECOND FORM. 'bulk': how many values and letters a reading holds, each counted each time it is reached (what is shared counts as often as it is met; a slice's spare places count too). A statement '..UptoSaid' is the law's where the arguments, and the package variables that the reading takes, are together of bulk at most 1048576: NARROWER than '..Said'. Prove '..Said' where nothing that the law and all that it calls make is longer than what came in: it says more and counts as full. Else prove '..UptoSaid'. A law counts once. -/
mutual
def uptoBulk {H : Type} : DataW H → Nat
  | .lit (.string bytes) => bytes.length + 1
  | .lit _ => 1
  | .nil => 1
  | .ptr d => uptoBulk d + 1
  | .slice elems spare => uptoBulkAll elems + uptoBulkAll spare + 1
  | .agg parts => uptoBulkAll parts + 1
  | .iface _ d => uptoBulk d + 1
  | .map entries => uptoBulkEntries entries + 1
  | .held _ => 1
def uptoBulkAll {H : Type} : List (DataW H) → Nat
  | [] => 0
  | d :: r => uptoBulk d + uptoBulkAll r
def uptoBulkEntries {H : Type} : List (Lit × DataW H) → Nat
  | [] => 0
  | x :: r => uptoBulkEntry x + uptoBulkEntries r
def uptoBulkEntry {H : Type} : Lit × DataW H → Nat
  | (.string bytes, d) => bytes.length + uptoBulk d + 1
  | (_, d) => uptoBulk d + 1
 end
def uptoSmall : (H : Type) → List (DataW H) → Bool := fun _ ds => decide (uptoBulkAll ds ≤ 1048576)
def OpenSpec.upto (s : _root_.Go.ChangeSpec) : _root_.Go.OpenSpec := { _root_.Go.OpenSpec.ofChange s with cond := some uptoSmall }

/-- 'ridgewaylaw10.PolicyIs', WHERE WHAT IT READS IS OF BULK AT MOST 1048576: true; the input reads as it did. -/
def policyIsUptoRow : OpenClaim := { program := "ytmlhbmlppgoklab", sum := "56b0ae4f9be765b5c9f949903a11421634505d7367039c63bffb6f75d3cff78a", func := "ridgeway/ridgewaylaw10.PolicyIs", spec := "policyIs", unfollowed := true, recurses := true, apart := false, narrowed := true }
def PolicyIsUptoSaid : Prop := policyIsUptoRow.holds Try.pinned (OpenSpec.upto policyIsSpec)

/-- 'ridgewaylaw10.PolicyFirst', WHERE WHAT IT READS IS OF BULK AT MOST 1048576: true; the input reads as it did. -/
def policyFirstUptoRow : OpenClaim := { program := "ytmlhbmlppgoklab", sum := "56b0ae4f9be765b5c9f949903a11421634505d7367039c63bffb6f75d3cff78a", func := "ridgeway/ridgewaylaw10.PolicyFirst", spec := "policyFirst", unfollowed := true, recurses := true, apart := false, narrowed := true }
def PolicyFirstUptoSaid : Prop := policyFirstUptoRow.holds Try.pinned (OpenSpec.upto policyFirstSpec)

/-- 'ridgewaylaw10.PolicyReach', WHERE WHAT IT READS IS OF BULK AT MOST 1048576: true; the input reads as it did. -/
def policyReachUptoRow : OpenClaim := { program := "ytmlhbmlppgoklab", sum := "56b0ae4f9be765b5c9f949903a11421634505d7367039c63bffb6f75d3cff78a", func := "ridgeway/ridgewaylaw10.PolicyReach", spec := "policyReach", unfollowed := true, recurses := true, apart := false, narrowed := true }
def PolicyReachUptoSaid : Prop := policyReachUptoRow.holds Try.pinned (OpenSpec.upto policyReachSpec)

/-- 'ridgewaylaw10.PolicyTotal', WHERE WHAT IT READS IS OF BULK AT MOST 1048576: true; the input reads as it did. -/
def policyTotalUptoRow : OpenClaim := { program := "ytmlhbmlppgoklab", sum := "56b0ae4f9be765b5c9f949903a11421634505d7367039c63bffb6f75d3cff78a", func := "ridgeway/ridgewaylaw10.PolicyTotal", spec := "policyTotal", unfollowed := true, recurses := true, apart := false, narrowed := true }
def PolicyTotalUptoSaid : Prop := policyTotalUptoRow.holds Try.pinned (OpenSpec.upto policyTotalSpec)

/-- 'ridgewaylaw10.PolicyBehind', WHERE WHAT IT READS IS OF BULK AT MOST 1048576: true; the input reads as it did. -/
def policyBehindUptoRow : OpenClaim := { program := "ytmlhbmlppgoklab", sum := "56b0ae4f9be765b5c9f949903a11421634505d7367039c63bffb6f75d3cff78a", func := "ridgeway/ridgewaylaw10.PolicyBehind", spec := "policyBehind", unfollowed := true, recurses := true, apart := false, narrowed := true }
def PolicyBehindUptoSaid : Prop := policyBehindUptoRow.holds Try.pinned (OpenSpec.upto policyBehindSpec)

end Rows
end Go.Proofs.Ytmlhbmlppgoklab
