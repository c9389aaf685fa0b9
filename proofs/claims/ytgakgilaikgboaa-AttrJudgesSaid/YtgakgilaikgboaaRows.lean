/-
  No cell of these rows narrows 'for every input' (looked for: loops, veiled, ifaces, maps, wideKeys, modest, calm, conditions, laid).
  DERIVED. THE GIVEN ROWS OF THIS SEAT. 12 by the template 'for every input the law returns true; each argument reads behind the call as it read before'; 0 by the template 'total and deterministic' (their statements: YtgakgilaikgboaaTotals.lean).
  GIVEN WITH THE SEED: the statements are not yours to turn. If you find one false, say at which input.
  Laid BY PROGRAM, IN A SANDBOX (cutbox-rows.mjs): the forced cells as the released guide's own fill.sh prints them over the translation d248f73ea8781297… (all of the seat's roots in one cut). By AI agents, Wed Nov 11 2026. No macro, syntax, notation, axiom, sorry.
-/
import Derived.Test.YtgakgilaikgboaaChecked
import GoSem.Claim
import GoSem.ClaimJoined
import GoSem.ClaimMapViews
import Derived.JoinedTies
import Derived.KernelRfl
namespace Go.Proofs.Ytgakgilaikgboaa
/- THE CELL 'sum', in the pinned program and in every row, IS THE sha256 OF THE DUMP (.gsa) THAT YtgakgilaikgboaaProg.lean LOADS. Nothing in Lean hashes anything: it is a label: what it is worth is what the hold of that sum in a sandbox is worth. -/
noncomputable def Try.pinned : Pinned := { name := "ytgakgilaikgboaa", sum := "d248f73ea87812976b89dc47b3b6e156e15dafb13c9bb27076376028e386adef", checked := Try.checked }
namespace Rows
def none {H : Type} : Left H := { results := [], args := [] }

/-- 'ridgewaylaw06.OpenIs': WHATEVER THE INPUT: true; the input reads as it did. -/
def openIsSpec : ChangeSpec := { name := "openIs", fn := fun _ => fun
  | [d1, d2, d3] => { results := [.lit (.bool true)], args := [d1, d2, d3] }
  | _ => none }
def openIsRow : OpenClaim := { program := "ytgakgilaikgboaa", sum := "d248f73ea87812976b89dc47b3b6e156e15dafb13c9bb27076376028e386adef", func := "ridgeway/ridgewaylaw06.OpenIs", spec := "openIs", unfollowed := true, recurses := true, apart := false }
def OpenIsSaid : Prop := openIsRow.holds Try.pinned (OpenSpec.ofChange openIsSpec)

/-- ITS FALSE NEIGHBOUR: 'it returns false'. Refute it at one input. -/
def openIsWrong : ChangeSpec := { name := "openIs", fn := fun _ => fun
  | [d1, d2, d3] => { results := [.lit (.bool false)], args := [d1, d2, d3] }
  | _ => none }
def OpenIsWrongFalsely : Prop := openIsRow.holds Try.pinned (OpenSpec.ofChange openIsWrong)

/-- 'ridgewaylaw06.OpenBack': WHATEVER THE INPUT: true; the input reads as it did. -/
def openBackSpec : ChangeSpec := { name := "openBack", fn := fun _ => fun
  | [d1, d2] => { results := [.lit (.bool true)], args := [d1, d2] }
  | _ => none }
def openBackRow : OpenClaim := { program := "ytgakgilaikgboaa", sum := "d248f73ea87812976b89dc47b3b6e156e15dafb13c9bb27076376028e386adef", func := "ridgeway/ridgewaylaw06.OpenBack", spec := "openBack", unfollowed := true, recurses := true, apart := false }
def OpenBackSaid : Prop := openBackRow.holds Try.pinned (OpenSpec.ofChange openBackSpec)

/-- ITS FALSE NEIGHBOUR: 'it returns false'. Refute it at one input. -/
def openBackWrong : ChangeSpec := { name := "openBack", fn := fun _ => fun
  | [d1, d2] => { results := [.lit (.bool false)], args := [d1, d2] }
  | _ => none }
def OpenBackWrongFalsely : Prop := openBackRow.holds Try.pinned (OpenSpec.ofChange openBackWrong)

/-- 'ridgewaylaw06.OpenGot': WHATEVER THE INPUT: true; the input reads as it did. -/
def openGotSpec : ChangeSpec := { name := "openGot", fn := fun _ => fun
  | [d1, d2] => { results := [.lit (.bool true)], args := [d1, d2] }
  | _ => none }
def openGotRow : OpenClaim := { program := "ytgakgilaikgboaa", sum := "d248f73ea87812976b89dc47b3b6e156e15dafb13c9bb27076376028e386adef", func := "ridgeway/ridgewaylaw06.OpenGot", spec := "openGot", unfollowed := true, recurses := true, apart := false }
def OpenGotSaid : Prop := openGotRow.holds Try.pinned (OpenSpec.ofChange openGotSpec)

/-- ITS FALSE NEIGHBOUR: 'it returns false'. Refute it at one input. -/
def openGotWrong : ChangeSpec := { name := "openGot", fn := fun _ => fun
  | [d1, d2] => { results := [.lit (.bool false)], args := [d1, d2] }
  | _ => none }
def OpenGotWrongFalsely : Prop := openGotRow.holds Try.pinned (OpenSpec.ofChange openGotWrong)

/-- 'ridgewaylaw06.OpenCaps': WHATEVER THE INPUT: true; the input reads as it did. -/
def openCapsSpec : ChangeSpec := { name := "openCaps", fn := fun _ => fun
  | [d1, d2, d3, d4] => { results := [.lit (.bool true)], args := [d1, d2, d3, d4] }
  | _ => none }
def openCapsRow : OpenClaim := { program := "ytgakgilaikgboaa", sum := "d248f73ea87812976b89dc47b3b6e156e15dafb13c9bb27076376028e386adef", func := "ridgeway/ridgewaylaw06.OpenCaps", spec := "openCaps", unfollowed := true, recurses := true, apart := false }
def OpenCapsSaid : Prop := openCapsRow.holds Try.pinned (OpenSpec.ofChange openCapsSpec)

/-- ITS FALSE NEIGHBOUR: 'it returns false'. Refute it at one input. -/
def openCapsWrong : ChangeSpec := { name := "openCaps", fn := fun _ => fun
  | [d1, d2, d3, d4] => { results := [.lit (.bool false)], args := [d1, d2, d3, d4] }
  | _ => none }
def OpenCapsWrongFalsely : Prop := openCapsRow.holds Try.pinned (OpenSpec.ofChange openCapsWrong)

/-- 'ridgewaylaw06.OpenFields': WHATEVER THE INPUT: true; the input reads as it did. -/
def openFieldsSpec : ChangeSpec := { name := "openFields", fn := fun _ => fun
  | [d1, d2] => { results := [.lit (.bool true)], args := [d1, d2] }
  | _ => none }
def openFieldsRow : OpenClaim := { program := "ytgakgilaikgboaa", sum := "d248f73ea87812976b89dc47b3b6e156e15dafb13c9bb27076376028e386adef", func := "ridgeway/ridgewaylaw06.OpenFields", spec := "openFields", unfollowed := true, recurses := true, apart := false }
def OpenFieldsSaid : Prop := openFieldsRow.holds Try.pinned (OpenSpec.ofChange openFieldsSpec)

/-- ITS FALSE NEIGHBOUR: 'it returns false'. Refute it at one input. -/
def openFieldsWrong : ChangeSpec := { name := "openFields", fn := fun _ => fun
  | [d1, d2] => { results := [.lit (.bool false)], args := [d1, d2] }
  | _ => none }
def OpenFieldsWrongFalsely : Prop := openFieldsRow.holds Try.pinned (OpenSpec.ofChange openFieldsWrong)

/-- 'ridgewaylaw07.AttrIs': WHATEVER THE INPUT: true; the input reads as it did. -/
def attrIsSpec : ChangeSpec := { name := "attrIs", fn := fun _ => fun
  | [d1, d2, d3] => { results := [.lit (.bool true)], args := [d1, d2, d3] }
  | _ => none }
def attrIsRow : OpenClaim := { program := "ytgakgilaikgboaa", sum := "d248f73ea87812976b89dc47b3b6e156e15dafb13c9bb27076376028e386adef", func := "ridgeway/ridgewaylaw07.AttrIs", spec := "attrIs", unfollowed := true, recurses := true, apart := false }
def AttrIsSaid : Prop := attrIsRow.holds Try.pinned (OpenSpec.ofChange attrIsSpec)

/-- ITS FALSE NEIGHBOUR: 'it returns false'. Refute it at one input. -/
def attrIsWrong : ChangeSpec := { name := "attrIs", fn := fun _ => fun
  | [d1, d2, d3] => { results := [.lit (.bool false)], args := [d1, d2, d3] }
  | _ => none }
def AttrIsWrongFalsely : Prop := attrIsRow.holds Try.pinned (OpenSpec.ofChange attrIsWrong)

/-- 'ridgewaylaw07.AttrJudges': WHATEVER THE INPUT: true; the input reads as it did. -/
def attrJudgesSpec : ChangeSpec := { name := "attrJudges", fn := fun _ => fun
  | [d] => { results := [.lit (.bool true)], args := [d] }
  | _ => none }
def attrJudgesRow : OpenClaim := { program := "ytgakgilaikgboaa", sum := "d248f73ea87812976b89dc47b3b6e156e15dafb13c9bb27076376028e386adef", func := "ridgeway/ridgewaylaw07.AttrJudges", spec := "attrJudges", unfollowed := true, recurses := true, apart := false }
def AttrJudgesSaid : Prop := attrJudgesRow.holds Try.pinned (OpenSpec.ofChange attrJudgesSpec)

/-- ITS FALSE NEIGHBOUR: 'it returns false'. Refute it at one input. -/
def attrJudgesWrong : ChangeSpec := { name := "attrJudges", fn := fun _ => fun
  | [d] => { results := [.lit (.bool false)], args := [d] }
  | _ => none }
def AttrJudgesWrongFalsely : Prop := attrJudgesRow.holds Try.pinned (OpenSpec.ofChange attrJudgesWrong)

/-- 'ridgewaylaw07.AttrBack': WHATEVER THE INPUT: true; the input reads as it did. -/
def attrBackSpec : ChangeSpec := { name := "attrBack", fn := fun _ => fun
  | [d] => { results := [.lit (.bool true)], args := [d] }
  | _ => none }
def attrBackRow : OpenClaim := { program := "ytgakgilaikgboaa", sum := "d248f73ea87812976b89dc47b3b6e156e15dafb13c9bb27076376028e386adef", func := "ridgeway/ridgewaylaw07.AttrBack", spec := "attrBack", unfollowed := true, recurses := true, apart := false }
def AttrBackSaid : Prop := attrBackRow.holds Try.pinned (OpenSpec.ofChange attrBackSpec)

/-- ITS FALSE NEIGHBOUR: 'it returns false'. Refute it at one input. -/
def attrBackWrong : ChangeSpec := { name := "attrBack", fn := fun _ => fun
  | [d] => { results := [.lit (.bool false)], args := [d] }
  | _ => none }
def AttrBackWrongFalsely : Prop := attrBackRow.holds Try.pinned (OpenSpec.ofChange attrBackWrong)

/-- 'ridgewaylaw07.AttrSays': WHATEVER THE INPUT: true; the input reads as it did. -/
def attrSaysSpec : ChangeSpec := { name := "attrSays", fn := fun _ => fun
  | [d1, d2, d3] => { results := [.lit (.bool true)], args := [d1, d2, d3] }
  | _ => none }
def attrSaysRow : OpenClaim := { program := "ytgakgilaikgboaa", sum := "d248f73ea87812976b89dc47b3b6e156e15dafb13c9bb27076376028e386adef", func := "ridgeway/ridgewaylaw07.AttrSays", spec := "attrSays", unfollowed := true, recurses := true, apart := false }
def AttrSaysSaid : Prop := attrSaysRow.holds Try.pinned (OpenSpec.ofChange attrSaysSpec)

/-- ITS FALSE NEIGHBOUR: 'it returns false'. Refute it at one input. -/
def attrSaysWrong : ChangeSpec := { name := "attrSays", fn := fun _ => fun
  | [d1, d2, d3] => { results := [.lit (.bool false)], args := [d1, d2, d3] }
  | _ => none }
def AttrSaysWrongFalsely : Prop := attrSaysRow.holds Try.pinned (OpenSpec.ofChange attrSaysWrong)

/-- 'ridgewaylaw07.AttrNeeds': WHATEVER THE INPUT: true; the input reads as it did. -/
def attrNeedsSpec : ChangeSpec := { name := "attrNeeds", fn := fun _ => fun
  | [d1, d2, d3] => { results := [.lit (.bool true)], args := [d1, d2, d3] }
  | _ => none }
def attrNeedsRow : OpenClaim := { program := "ytgakgilaikgboaa", sum := "d248f73ea87812976b89dc47b3b6e156e15dafb13c9bb27076376028e386adef", func := "ridgeway/ridgewaylaw07.AttrNeeds", spec := "attrNeeds", unfollowed := true, recurses := true, apart := false }
def AttrNeedsSaid : Prop := attrNeedsRow.holds Try.pinned (OpenSpec.ofChange attrNeedsSpec)

/-- ITS FALSE NEIGHBOUR: 'it returns false'. Refute it at one input. -/
def attrNeedsWrong : ChangeSpec := { name := "attrNeeds", fn := fun _ => fun
  | [d1, d2, d3] => { results := [.lit (.bool false)], args := [d1, d2, d3] }
  | _ => none }
def AttrNeedsWrongFalsely : Prop := attrNeedsRow.holds Try.pinned (OpenSpec.ofChange attrNeedsWrong)

/-- 'ridgewaylaw07.AttrTurn': WHATEVER THE INPUT: true; the input reads as it did. -/
def attrTurnSpec : ChangeSpec := { name := "attrTurn", fn := fun _ => fun
  | [d] => { results := [.lit (.bool true)], args := [d] }
  | _ => none }
def attrTurnRow : OpenClaim := { program := "ytgakgilaikgboaa", sum := "d248f73ea87812976b89dc47b3b6e156e15dafb13c9bb27076376028e386adef", func := "ridgeway/ridgewaylaw07.AttrTurn", spec := "attrTurn", unfollowed := true, recurses := true, apart := false }
def AttrTurnSaid : Prop := attrTurnRow.holds Try.pinned (OpenSpec.ofChange attrTurnSpec)

/-- ITS FALSE NEIGHBOUR: 'it returns false'. Refute it at one input. -/
def attrTurnWrong : ChangeSpec := { name := "attrTurn", fn := fun _ => fun
  | [d] => { results := [.lit (.bool false)], args := [d] }
  | _ => none }
def AttrTurnWrongFalsely : Prop := attrTurnRow.holds Try.pinned (OpenSpec.ofChange attrTurnWrong)

/-- 'ridgewaylaw07.AttrFlags': WHATEVER THE INPUT: true; the input reads as it did. -/
def attrFlagsSpec : ChangeSpec := { name := "attrFlags", fn := fun _ => fun
  | [d1, d2, d3] => { results := [.lit (.bool true)], args := [d1, d2, d3] }
  | _ => none }
def attrFlagsRow : OpenClaim := { program := "ytgakgilaikgboaa", sum := "d248f73ea87812976b89dc47b3b6e156e15dafb13c9bb27076376028e386adef", func := "ridgeway/ridgewaylaw07.AttrFlags", spec := "attrFlags", unfollowed := true, recurses := true, apart := false }
def AttrFlagsSaid : Prop := attrFlagsRow.holds Try.pinned (OpenSpec.ofChange attrFlagsSpec)

/-- ITS FALSE NEIGHBOUR: 'it returns false'. Refute it at one input. -/
def attrFlagsWrong : ChangeSpec := { name := "attrFlags", fn := fun _ => fun
  | [d1, d2, d3] => { results := [.lit (.bool false)], args := [d1, d2, d3] }
  | _ => none }
def AttrFlagsWrongFalsely : Prop := attrFlagsRow.holds Try.pinned (OpenSpec.ofChange attrFlagsWrong)

/- THE SECOND FORM. 'bulk': how many values and letters a reading holds, each counted each time it is reached (what is shared counts as often as it is met; a slice's spare places count too). A statement '..UptoSaid' is the law's where the arguments, and the package variables that the reading takes, are together of bulk at most 1048576: NARROWER than '..Said'. Prove '..Said' where nothing that the law and all that it calls make is longer than what came in: it says more and counts as full. Else prove '..UptoSaid'. A law counts once. -/
mutual
def uptoBulk {H : Type} : DataW H → Nat
  | .lit (.string bytes) => bytes.length + 1
  | .lit _ => 1
  | .nil => 1
  | .ptr d => uptoBulk d + 1
  | .slice elems spare => uptoBulkAll elems + uptoBulkAll spare + 1
  | .agg parts => uptoBulkAll parts + 1
  | .iface _ d => uptoBulk d + 1
  | .map entries => uptoBulkEntries entries + 1
  | .held _ => 1
def uptoBulkAll {H : Type} : List (DataW H) → Nat
  | [] => 0
  | d :: r => uptoBulk d + uptoBulkAll r
def uptoBulkEntries {H : Type} : List (Lit × DataW H) → Nat
  | [] => 0
  | x :: r => uptoBulkEntry x + uptoBulkEntries r
def uptoBulkEntry {H : Type} : Lit × DataW H → Nat
  | (.string bytes, d) => bytes.length + uptoBulk d + 1
  | (_, d) => uptoBulk d + 1
 end
def uptoSmall : (H : Type) → List (DataW H) → Bool := fun _ ds => decide (uptoBulkAll ds ≤ 1048576)
def OpenSpec.upto (s : _root_.Go.ChangeSpec) : _root_.Go.OpenSpec := { _root_.Go.OpenSpec.ofChange s with cond := some uptoSmall }

/-- 'ridgewaylaw06.OpenIs', WHERE WHAT IT READS IS OF BULK AT MOST 1048576: true; the input reads as it did. -/
def openIsUptoRow : OpenClaim := { program := "ytgakgilaikgboaa", sum := "d248f73ea87812976b89dc47b3b6e156e15dafb13c9bb27076376028e386adef", func := "ridgeway/ridgewaylaw06.OpenIs", spec := "openIs", unfollowed := true, recurses := true, apart := false, narrowed := true }
def OpenIsUptoSaid : Prop := openIsUptoRow.holds Try.pinned (OpenSpec.upto openIsSpec)

/-- 'ridgewaylaw06.OpenBack', WHERE WHAT IT READS IS OF BULK AT MOST 1048576: true; the input reads as it did. -/
def openBackUptoRow : OpenClaim := { program := "ytgakgilaikgboaa", sum := "d248f73ea87812976b89dc47b3b6e156e15dafb13c9bb27076376028e386adef", func := "ridgeway/ridgewaylaw06.OpenBack", spec := "openBack", unfollowed := true, recurses := true, apart := false, narrowed := true }
def OpenBackUptoSaid : Prop := openBackUptoRow.holds Try.pinned (OpenSpec.upto openBackSpec)

/-- 'ridgewaylaw06.OpenGot', WHERE WHAT IT READS IS OF BULK AT MOST 1048576: true; the input reads as it did. -/
def openGotUptoRow : OpenClaim := { program := "ytgakgilaikgboaa", sum := "d248f73ea87812976b89dc47b3b6e156e15dafb13c9bb27076376028e386adef", func := "ridgeway/ridgewaylaw06.OpenGot", spec := "openGot", unfollowed := true, recurses := true, apart := false, narrowed := true }
def OpenGotUptoSaid : Prop := openGotUptoRow.holds Try.pinned (OpenSpec.upto openGotSpec)

/-- 'ridgewaylaw06.OpenCaps', WHERE WHAT IT READS IS OF BULK AT MOST 1048576: true; the input reads as it did. -/
def openCapsUptoRow : OpenClaim := { program := "ytgakgilaikgboaa", sum := "d248f73ea87812976b89dc47b3b6e156e15dafb13c9bb27076376028e386adef", func := "ridgeway/ridgewaylaw06.OpenCaps", spec := "openCaps", unfollowed := true, recurses := true, apart := false, narrowed := true }
def OpenCapsUptoSaid : Prop := openCapsUptoRow.holds Try.pinned (OpenSpec.upto openCapsSpec)

/-- 'ridgewaylaw06.OpenFields', WHERE WHAT IT READS IS OF BULK AT MOST 1048576: true; the input reads as it did. -/
def openFieldsUptoRow : OpenClaim := { program := "ytgakgilaikgboaa", sum := "d248f73ea87812976b89dc47b3b6e156e15dafb13c9bb27076376028e386adef", func := "ridgeway/ridgewaylaw06.OpenFields", spec := "openFields", unfollowed := true, recurses := true, apart := false, narrowed := true }
def OpenFieldsUptoSaid : Prop := openFieldsUptoRow.holds Try.pinned (OpenSpec.upto openFieldsSpec)

/-- 'ridgewaylaw07.AttrIs', WHERE WHAT IT READS IS OF BULK AT MOST 1048576: true; the input reads as it did. -/
def attrIsUptoRow : OpenClaim := { program := "ytgakgilaikgboaa", sum := "d248f73ea87812976b89dc47b3b6e156e15dafb13c9bb27076376028e386adef", func := "ridgeway/ridgewaylaw07.AttrIs", spec := "attrIs", unfollowed := true, recurses := true, apart := false, narrowed := true }
def AttrIsUptoSaid : Prop := attrIsUptoRow.holds Try.pinned (OpenSpec.upto attrIsSpec)

/-- 'ridgewaylaw07.AttrJudges', WHERE WHAT IT READS IS OF BULK AT MOST 1048576: true; the input reads as it did. -/
def attrJudgesUptoRow : OpenClaim := { program := "ytgakgilaikgboaa", sum := "d248f73ea87812976b89dc47b3b6e156e15dafb13c9bb27076376028e386adef", func := "ridgeway/ridgewaylaw07.AttrJudges", spec := "attrJudges", unfollowed := true, recurses := true, apart := false, narrowed := true }
def AttrJudgesUptoSaid : Prop := attrJudgesUptoRow.holds Try.pinned (OpenSpec.upto attrJudgesSpec)

/-- 'ridgewaylaw07.AttrBack', WHERE WHAT IT READS IS OF BULK AT MOST 1048576: true; the input reads as it did. -/
def attrBackUptoRow : OpenClaim := { program := "ytgakgilaikgboaa", sum := "d248f73ea87812976b89dc47b3b6e156e15dafb13c9bb27076376028e386adef", func := "ridgeway/ridgewaylaw07.AttrBack", spec := "attrBack", unfollowed := true, recurses := true, apart := false, narrowed := true }
def AttrBackUptoSaid : Prop := attrBackUptoRow.holds Try.pinned (OpenSpec.upto attrBackSpec)

/-- 'ridgewaylaw07.AttrSays', WHERE WHAT IT READS IS OF BULK AT MOST 1048576: true; the input reads as it did. -/
def attrSaysUptoRow : OpenClaim := { program := "ytgakgilaikgboaa", sum := "d248f73ea87812976b89dc47b3b6e156e15dafb13c9bb27076376028e386adef", func := "ridgeway/ridgewaylaw07.AttrSays", spec := "attrSays", unfollowed := true, recurses := true, apart := false, narrowed := true }
def AttrSaysUptoSaid : Prop := attrSaysUptoRow.holds Try.pinned (OpenSpec.upto attrSaysSpec)

/-- 'ridgewaylaw07.AttrNeeds', WHERE WHAT IT READS IS OF BULK AT MOST 1048576: true; the input reads as it did. -/
def attrNeedsUptoRow : OpenClaim := { program := "ytgakgilaikgboaa", sum := "d248f73ea87812976b89dc47b3b6e156e15dafb13c9bb27076376028e386adef", func := "ridgeway/ridgewaylaw07.AttrNeeds", spec := "attrNeeds", unfollowed := true, recurses := true, apart := false, narrowed := true }
def AttrNeedsUptoSaid : Prop := attrNeedsUptoRow.holds Try.pinned (OpenSpec.upto attrNeedsSpec)

/-- 'ridgewaylaw07.AttrTurn', WHERE WHAT IT READS IS OF BULK AT MOST 1048576: true; the input reads as it did. -/
def attrTurnUptoRow : OpenClaim := { program := "ytgakgilaikgboaa", sum := "d248f73ea87812976b89dc47b3b6e156e15dafb13c9bb27076376028e386adef", func := "ridgeway/ridgewaylaw07.AttrTurn", spec := "attrTurn", unfollowed := true, recurses := true, apart := false, narrowed := true }
def AttrTurnUptoSaid : Prop := attrTurnUptoRow.holds Try.pinned (OpenSpec.upto attrTurnSpec)

/-- 'ridgewaylaw07.AttrFlags', WHERE WHAT IT READS IS OF BULK AT MOST 1048576: true; the input reads as it did. -/
def attrFlagsUptoRow : OpenClaim := { program := "ytgakgilaikgboaa", sum := "d248f73ea87812976b89dc47b3b6e156e15dafb13c9bb27076376028e386adef", func := "ridgeway/ridgewaylaw07.AttrFlags", spec := "attrFlags", unfollowed := true, recurses := true, apart := false, narrowed := true }
def AttrFlagsUptoSaid : Prop := attrFlagsUptoRow.holds Try.pinned (OpenSpec.upto attrFlagsSpec)

end Rows
end Go.Proofs.Ytgakgilaikgboaa
