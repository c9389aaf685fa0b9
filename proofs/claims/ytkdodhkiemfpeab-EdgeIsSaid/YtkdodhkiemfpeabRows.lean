/-
  No cell of these rows narrows 'for every input' (looked for: loops, veiled, ifaces, maps, wideKeys, modest, calm, conditions, laid).
  DERIVED. THE GIVEN ROWS OF THIS SEAT. 6 by the template 'for every input the law returns true; each argument reads behind the call as it read before'; 0 by the template 'total and deterministic' (their statements: YtkdodhkiemfpeabTotals.lean).
  GIVEN WITH THE SEED: the statements are not yours to turn. If you find one false, say at which input.
  Laid BY PROGRAM, IN A SANDBOX (cutbox-rows.mjs): the forced cells as the released guide's own fill.sh prints them over the translation e65084799b560397… (all of the seat's roots in one cut). By AI agents, Wed Nov 11 2026. No macro, syntax, notation, axiom, sorry.
-/
import Derived.Test.YtkdodhkiemfpeabChecked
import GoSem.Claim
import GoSem.ClaimJoined
import GoSem.ClaimMapViews
import Derived.JoinedTies
import Derived.KernelRfl
namespace Go.Proofs.Ytkdodhkiemfpeab
/- THE CELL 'sum', in the pinned program and in every row, IS THE sha256 OF THE DUMP (.gsa) THAT YtkdodhkiemfpeabProg.lean LOADS. Nothing in Lean hashes anything: it is a label: what it is worth is what the hold of that sum in a sandbox is worth. -/
noncomputable def Try.pinned : Pinned := { name := "ytkdodhkiemfpeab", sum := "e65084799b560397c9cfe15fb150013e82401e8c47b72e641b528316e85392b9", checked := Try.checked }
namespace Rows
def none {H : Type} : Left H := { results := [], args := [] }

/-- 'ridgewaylaw14.EdgeIs': WHATEVER THE INPUT: true; the input reads as it did. -/
def edgeIsSpec : ChangeSpec := { name := "edgeIs", fn := fun _ => fun
  | [d1, d2, d3, d4, d5] => { results := [.lit (.bool true)], args := [d1, d2, d3, d4, d5] }
  | _ => none }
def edgeIsRow : OpenClaim := { program := "ytkdodhkiemfpeab", sum := "e65084799b560397c9cfe15fb150013e82401e8c47b72e641b528316e85392b9", func := "ridgeway/ridgewaylaw14.EdgeIs", spec := "edgeIs", unfollowed := true, recurses := true, apart := false }
def EdgeIsSaid : Prop := edgeIsRow.holds Try.pinned (OpenSpec.ofChange edgeIsSpec)

/-- ITS FALSE NEIGHBOUR: 'it returns false'. Refute it at one input. -/
def edgeIsWrong : ChangeSpec := { name := "edgeIs", fn := fun _ => fun
  | [d1, d2, d3, d4, d5] => { results := [.lit (.bool false)], args := [d1, d2, d3, d4, d5] }
  | _ => none }
def EdgeIsWrongFalsely : Prop := edgeIsRow.holds Try.pinned (OpenSpec.ofChange edgeIsWrong)

/-- 'ridgewaylaw14.EdgeTakes': WHATEVER THE INPUT: true; the input reads as it did. -/
def edgeTakesSpec : ChangeSpec := { name := "edgeTakes", fn := fun _ => fun
  | [d1, d2, d3, d4] => { results := [.lit (.bool true)], args := [d1, d2, d3, d4] }
  | _ => none }
def edgeTakesRow : OpenClaim := { program := "ytkdodhkiemfpeab", sum := "e65084799b560397c9cfe15fb150013e82401e8c47b72e641b528316e85392b9", func := "ridgeway/ridgewaylaw14.EdgeTakes", spec := "edgeTakes", unfollowed := true, recurses := true, apart := false }
def EdgeTakesSaid : Prop := edgeTakesRow.holds Try.pinned (OpenSpec.ofChange edgeTakesSpec)

/-- ITS FALSE NEIGHBOUR: 'it returns false'. Refute it at one input. -/
def edgeTakesWrong : ChangeSpec := { name := "edgeTakes", fn := fun _ => fun
  | [d1, d2, d3, d4] => { results := [.lit (.bool false)], args := [d1, d2, d3, d4] }
  | _ => none }
def EdgeTakesWrongFalsely : Prop := edgeTakesRow.holds Try.pinned (OpenSpec.ofChange edgeTakesWrong)

/-- 'ridgewaylaw14.EdgeTells': WHATEVER THE INPUT: true; the input reads as it did. -/
def edgeTellsSpec : ChangeSpec := { name := "edgeTells", fn := fun _ => fun
  | [d1, d2, d3, d4] => { results := [.lit (.bool true)], args := [d1, d2, d3, d4] }
  | _ => none }
def edgeTellsRow : OpenClaim := { program := "ytkdodhkiemfpeab", sum := "e65084799b560397c9cfe15fb150013e82401e8c47b72e641b528316e85392b9", func := "ridgeway/ridgewaylaw14.EdgeTells", spec := "edgeTells", unfollowed := true, recurses := true, apart := false }
def EdgeTellsSaid : Prop := edgeTellsRow.holds Try.pinned (OpenSpec.ofChange edgeTellsSpec)

/-- ITS FALSE NEIGHBOUR: 'it returns false'. Refute it at one input. -/
def edgeTellsWrong : ChangeSpec := { name := "edgeTells", fn := fun _ => fun
  | [d1, d2, d3, d4] => { results := [.lit (.bool false)], args := [d1, d2, d3, d4] }
  | _ => none }
def EdgeTellsWrongFalsely : Prop := edgeTellsRow.holds Try.pinned (OpenSpec.ofChange edgeTellsWrong)

/-- 'ridgewaylaw14.EdgeMarks': WHATEVER THE INPUT: true; the input reads as it did. -/
def edgeMarksSpec : ChangeSpec := { name := "edgeMarks", fn := fun _ => fun
  | [d1, d2, d3, d4, d5] => { results := [.lit (.bool true)], args := [d1, d2, d3, d4, d5] }
  | _ => none }
def edgeMarksRow : OpenClaim := { program := "ytkdodhkiemfpeab", sum := "e65084799b560397c9cfe15fb150013e82401e8c47b72e641b528316e85392b9", func := "ridgeway/ridgewaylaw14.EdgeMarks", spec := "edgeMarks", unfollowed := true, recurses := true, apart := false }
def EdgeMarksSaid : Prop := edgeMarksRow.holds Try.pinned (OpenSpec.ofChange edgeMarksSpec)

/-- ITS FALSE NEIGHBOUR: 'it returns false'. Refute it at one input. -/
def edgeMarksWrong : ChangeSpec := { name := "edgeMarks", fn := fun _ => fun
  | [d1, d2, d3, d4, d5] => { results := [.lit (.bool false)], args := [d1, d2, d3, d4, d5] }
  | _ => none }
def EdgeMarksWrongFalsely : Prop := edgeMarksRow.holds Try.pinned (OpenSpec.ofChange edgeMarksWrong)

/-- 'ridgewaylaw14.EdgeRules': WHATEVER THE INPUT: true; the input reads as it did. -/
def edgeRulesSpec : ChangeSpec := { name := "edgeRules", fn := fun _ => fun
  | [d1, d2, d3, d4, d5] => { results := [.lit (.bool true)], args := [d1, d2, d3, d4, d5] }
  | _ => none }
def edgeRulesRow : OpenClaim := { program := "ytkdodhkiemfpeab", sum := "e65084799b560397c9cfe15fb150013e82401e8c47b72e641b528316e85392b9", func := "ridgeway/ridgewaylaw14.EdgeRules", spec := "edgeRules", unfollowed := true, recurses := true, apart := false }
def EdgeRulesSaid : Prop := edgeRulesRow.holds Try.pinned (OpenSpec.ofChange edgeRulesSpec)

/-- ITS FALSE NEIGHBOUR: 'it returns false'. Refute it at one input. -/
def edgeRulesWrong : ChangeSpec := { name := "edgeRules", fn := fun _ => fun
  | [d1, d2, d3, d4, d5] => { results := [.lit (.bool false)], args := [d1, d2, d3, d4, d5] }
  | _ => none }
def EdgeRulesWrongFalsely : Prop := edgeRulesRow.holds Try.pinned (OpenSpec.ofChange edgeRulesWrong)

/-- 'ridgewaylaw14.EdgeLoops': WHATEVER THE INPUT: true; the input reads as it did. -/
def edgeLoopsSpec : ChangeSpec := { name := "edgeLoops", fn := fun _ => fun
  | [d1, d2, d3, d4, d5] => { results := [.lit (.bool true)], args := [d1, d2, d3, d4, d5] }
  | _ => none }
def edgeLoopsRow : OpenClaim := { program := "ytkdodhkiemfpeab", sum := "e65084799b560397c9cfe15fb150013e82401e8c47b72e641b528316e85392b9", func := "ridgeway/ridgewaylaw14.EdgeLoops", spec := "edgeLoops", unfollowed := true, recurses := true, apart := false }
def EdgeLoopsSaid : Prop := edgeLoopsRow.holds Try.pinned (OpenSpec.ofChange edgeLoopsSpec)

/-- ITS FALSE NEIGHBOUR: 'it returns false'. Refute it at one input. -/
def edgeLoopsWrong : ChangeSpec := { name := "edgeLoops", fn := fun _ => fun
  | [d1, d2, d3, d4, d5] => { results := [.lit (.bool false)], args := [d1, d2, d3, d4, d5] }
  | _ => none }
def EdgeLoopsWrongFalsely : Prop := edgeLoopsRow.holds Try.pinned (OpenSpec.ofChange edgeLoopsWrong)

/- THE SECOND FORM. 'bulk': how many values and letters a reading holds, each counted each time it is reached (what is shared counts as often as it is met; a slice's spare places count too). A statement '..UptoSaid' is the law's where the arguments, and the package variables that the reading takes, are together of bulk at most 1048576: NARROWER than '..Said'. Prove '..Said' where nothing that the law and all that it calls make is longer than what came in: it says more and counts as full. Else prove '..UptoSaid'. A law counts once. -/
mutual
def uptoBulk {H : Type} : DataW H → Nat
  | .lit (.string bytes) => bytes.length + 1
  | .lit _ => 1
  | .nil => 1
  | .ptr d => uptoBulk d + 1
  | .slice elems spare => uptoBulkAll elems + uptoBulkAll spare + 1
  | .agg parts => uptoBulkAll parts + 1
  | .iface _ d => uptoBulk d + 1
  | .map entries => uptoBulkEntries entries + 1
  | .held _ => 1
def uptoBulkAll {H : Type} : List (DataW H) → Nat
  | [] => 0
  | d :: r => uptoBulk d + uptoBulkAll r
def uptoBulkEntries {H : Type} : List (Lit × DataW H) → Nat
  | [] => 0
  | x :: r => uptoBulkEntry x + uptoBulkEntries r
def uptoBulkEntry {H : Type} : Lit × DataW H → Nat
  | (.string bytes, d) => bytes.length + uptoBulk d + 1
  | (_, d) => uptoBulk d + 1
 end
def uptoSmall : (H : Type) → List (DataW H) → Bool := fun _ ds => decide (uptoBulkAll ds ≤ 1048576)
def OpenSpec.upto (s : _root_.Go.ChangeSpec) : _root_.Go.OpenSpec := { _root_.Go.OpenSpec.ofChange s with cond := some uptoSmall }

/-- 'ridgewaylaw14.EdgeIs', WHERE WHAT IT READS IS OF BULK AT MOST 1048576: true; the input reads as it did. -/
def edgeIsUptoRow : OpenClaim := { program := "ytkdodhkiemfpeab", sum := "e65084799b560397c9cfe15fb150013e82401e8c47b72e641b528316e85392b9", func := "ridgeway/ridgewaylaw14.EdgeIs", spec := "edgeIs", unfollowed := true, recurses := true, apart := false, narrowed := true }
def EdgeIsUptoSaid : Prop := edgeIsUptoRow.holds Try.pinned (OpenSpec.upto edgeIsSpec)

/-- 'ridgewaylaw14.EdgeTakes', WHERE WHAT IT READS IS OF BULK AT MOST 1048576: true; the input reads as it did. -/
def edgeTakesUptoRow : OpenClaim := { program := "ytkdodhkiemfpeab", sum := "e65084799b560397c9cfe15fb150013e82401e8c47b72e641b528316e85392b9", func := "ridgeway/ridgewaylaw14.EdgeTakes", spec := "edgeTakes", unfollowed := true, recurses := true, apart := false, narrowed := true }
def EdgeTakesUptoSaid : Prop := edgeTakesUptoRow.holds Try.pinned (OpenSpec.upto edgeTakesSpec)

/-- 'ridgewaylaw14.EdgeTells', WHERE WHAT IT READS IS OF BULK AT MOST 1048576: true; the input reads as it did. -/
def edgeTellsUptoRow : OpenClaim := { program := "ytkdodhkiemfpeab", sum := "e65084799b560397c9cfe15fb150013e82401e8c47b72e641b528316e85392b9", func := "ridgeway/ridgewaylaw14.EdgeTells", spec := "edgeTells", unfollowed := true, recurses := true, apart := false, narrowed := true }
def EdgeTellsUptoSaid : Prop := edgeTellsUptoRow.holds Try.pinned (OpenSpec.upto edgeTellsSpec)

/-- 'ridgewaylaw14.EdgeMarks', WHERE WHAT IT READS IS OF BULK AT MOST 1048576: true; the input reads as it did. -/
def edgeMarksUptoRow : OpenClaim := { program := "ytkdodhkiemfpeab", sum := "e65084799b560397c9cfe15fb150013e82401e8c47b72e641b528316e85392b9", func := "ridgeway/ridgewaylaw14.EdgeMarks", spec := "edgeMarks", unfollowed := true, recurses := true, apart := false, narrowed := true }
def EdgeMarksUptoSaid : Prop := edgeMarksUptoRow.holds Try.pinned (OpenSpec.upto edgeMarksSpec)

/-- 'ridgewaylaw14.EdgeRules', WHERE WHAT IT READS IS OF BULK AT MOST 1048576: true; the input reads as it did. -/
def edgeRulesUptoRow : OpenClaim := { program := "ytkdodhkiemfpeab", sum := "e65084799b560397c9cfe15fb150013e82401e8c47b72e641b528316e85392b9", func := "ridgeway/ridgewaylaw14.EdgeRules", spec := "edgeRules", unfollowed := true, recurses := true, apart := false, narrowed := true }
def EdgeRulesUptoSaid : Prop := edgeRulesUptoRow.holds Try.pinned (OpenSpec.upto edgeRulesSpec)

/-- 'ridgewaylaw14.EdgeLoops', WHERE WHAT IT READS IS OF BULK AT MOST 1048576: true; the input reads as it did. -/
def edgeLoopsUptoRow : OpenClaim := { program := "ytkdodhkiemfpeab", sum := "e65084799b560397c9cfe15fb150013e82401e8c47b72e641b528316e85392b9", func := "ridgeway/ridgewaylaw14.EdgeLoops", spec := "edgeLoops", unfollowed := true, recurses := true, apart := false, narrowed := true }
def EdgeLoopsUptoSaid : Prop := edgeLoopsUptoRow.holds Try.pinned (OpenSpec.upto edgeLoopsSpec)

end Rows
end Go.Proofs.Ytkdodhkiemfpeab
