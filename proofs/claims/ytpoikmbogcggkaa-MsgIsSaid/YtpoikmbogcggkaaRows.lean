/-
  No cell of these rows narrows 'for every input' (looked for: loops, veiled, ifaces, maps, wideKeys, modest, calm, conditions, laid).
  DERIVED. THE GIVEN ROWS OF THIS SEAT. 5 by the template 'for every input the law returns true; each argument reads behind the call as it read before'; 0 by the template 'total and deterministic' (their statements: YtpoikmbogcggkaaTotals.lean).
  GIVEN WITH THE SEED: the statements are not yours to turn. If you find one false, say at which input.
  Laid BY PROGRAM, IN A SANDBOX (cutbox-rows.mjs): the forced cells as the released guide's own fill.sh prints them over the translation 005713d0599b4727… (all of the seat's roots in one cut). By AI agents, Wed Nov 11 2026. No macro, syntax, notation, axiom, sorry.
-/
import Derived.Test.YtpoikmbogcggkaaChecked
import GoSem.Claim
import GoSem.ClaimJoined
import GoSem.ClaimMapViews
import Derived.JoinedTies
import Derived.KernelRfl
namespace Go.Proofs.Ytpoikmbogcggkaa
/- THE CELL 'sum', in the pinned program and in every row, IS THE sha256 OF THE DUMP (.gsa) THAT YtpoikmbogcggkaaProg.lean LOADS. Nothing in Lean hashes anything: it is a label: what it is worth is what the hold of that sum in a sandbox is worth. -/
noncomputable def Try.pinned : Pinned := { name := "ytpoikmbogcggkaa", sum := "005713d0599b4727cc60475f7f482d197efdf247772a227f1dfdc4ff4bf57a69", checked := Try.checked }
namespace Rows
def none {H : Type} : Left H := { results := [], args := [] }

/-- 'ridgewaylaw01.OctetIs': WHATEVER THE INPUT: true; the input reads as it did. -/
def octetIsSpec : ChangeSpec := { name := "octetIs", fn := fun _ => fun
  | [d1, d2, d3] => { results := [.lit (.bool true)], args := [d1, d2, d3] }
  | _ => none }
def octetIsRow : OpenClaim := { program := "ytpoikmbogcggkaa", sum := "005713d0599b4727cc60475f7f482d197efdf247772a227f1dfdc4ff4bf57a69", func := "ridgeway/ridgewaylaw01.OctetIs", spec := "octetIs", apart := false }
def OctetIsSaid : Prop := octetIsRow.holds Try.pinned (OpenSpec.ofChange octetIsSpec)

/-- ITS FALSE NEIGHBOUR: 'it returns false'. Refute it at one input. -/
def octetIsWrong : ChangeSpec := { name := "octetIs", fn := fun _ => fun
  | [d1, d2, d3] => { results := [.lit (.bool false)], args := [d1, d2, d3] }
  | _ => none }
def OctetIsWrongFalsely : Prop := octetIsRow.holds Try.pinned (OpenSpec.ofChange octetIsWrong)

/-- 'ridgewaylaw01.OctetBack': WHATEVER THE INPUT: true; the input reads as it did. -/
def octetBackSpec : ChangeSpec := { name := "octetBack", fn := fun _ => fun
  | [d1, d2, d3] => { results := [.lit (.bool true)], args := [d1, d2, d3] }
  | _ => none }
def octetBackRow : OpenClaim := { program := "ytpoikmbogcggkaa", sum := "005713d0599b4727cc60475f7f482d197efdf247772a227f1dfdc4ff4bf57a69", func := "ridgeway/ridgewaylaw01.OctetBack", spec := "octetBack", apart := false }
def OctetBackSaid : Prop := octetBackRow.holds Try.pinned (OpenSpec.ofChange octetBackSpec)

/-- ITS FALSE NEIGHBOUR: 'it returns false'. Refute it at one input. -/
def octetBackWrong : ChangeSpec := { name := "octetBack", fn := fun _ => fun
  | [d1, d2, d3] => { results := [.lit (.bool false)], args := [d1, d2, d3] }
  | _ => none }
def OctetBackWrongFalsely : Prop := octetBackRow.holds Try.pinned (OpenSpec.ofChange octetBackWrong)

/-- 'ridgewaylaw01.OctetTake': WHATEVER THE INPUT: true; the input reads as it did. -/
def octetTakeSpec : ChangeSpec := { name := "octetTake", fn := fun _ => fun
  | [d1, d2] => { results := [.lit (.bool true)], args := [d1, d2] }
  | _ => none }
def octetTakeRow : OpenClaim := { program := "ytpoikmbogcggkaa", sum := "005713d0599b4727cc60475f7f482d197efdf247772a227f1dfdc4ff4bf57a69", func := "ridgeway/ridgewaylaw01.OctetTake", spec := "octetTake", apart := false }
def OctetTakeSaid : Prop := octetTakeRow.holds Try.pinned (OpenSpec.ofChange octetTakeSpec)

/-- ITS FALSE NEIGHBOUR: 'it returns false'. Refute it at one input. -/
def octetTakeWrong : ChangeSpec := { name := "octetTake", fn := fun _ => fun
  | [d1, d2] => { results := [.lit (.bool false)], args := [d1, d2] }
  | _ => none }
def OctetTakeWrongFalsely : Prop := octetTakeRow.holds Try.pinned (OpenSpec.ofChange octetTakeWrong)

/-- 'ridgewaylaw01.OctetSplit': WHATEVER THE INPUT: true; the input reads as it did. -/
def octetSplitSpec : ChangeSpec := { name := "octetSplit", fn := fun _ => fun
  | [d] => { results := [.lit (.bool true)], args := [d] }
  | _ => none }
def octetSplitRow : OpenClaim := { program := "ytpoikmbogcggkaa", sum := "005713d0599b4727cc60475f7f482d197efdf247772a227f1dfdc4ff4bf57a69", func := "ridgeway/ridgewaylaw01.OctetSplit", spec := "octetSplit", apart := false }
def OctetSplitSaid : Prop := octetSplitRow.holds Try.pinned (OpenSpec.ofChange octetSplitSpec)

/-- ITS FALSE NEIGHBOUR: 'it returns false'. Refute it at one input. -/
def octetSplitWrong : ChangeSpec := { name := "octetSplit", fn := fun _ => fun
  | [d] => { results := [.lit (.bool false)], args := [d] }
  | _ => none }
def OctetSplitWrongFalsely : Prop := octetSplitRow.holds Try.pinned (OpenSpec.ofChange octetSplitWrong)

/-- 'ridgewaylaw03.MsgIs': WHATEVER THE INPUT: true; the input reads as it did. -/
def msgIsSpec : ChangeSpec := { name := "msgIs", fn := fun _ => fun
  | [d1, d2, d3] => { results := [.lit (.bool true)], args := [d1, d2, d3] }
  | _ => none }
def msgIsRow : OpenClaim := { program := "ytpoikmbogcggkaa", sum := "005713d0599b4727cc60475f7f482d197efdf247772a227f1dfdc4ff4bf57a69", func := "ridgeway/ridgewaylaw03.MsgIs", spec := "msgIs", inPlace := ["internal/bytealg.MakeNoZero"], apart := false }
def MsgIsSaid : Prop := msgIsRow.holds Try.pinned (OpenSpec.ofChange msgIsSpec)

/-- ITS FALSE NEIGHBOUR: 'it returns false'. Refute it at one input. -/
def msgIsWrong : ChangeSpec := { name := "msgIs", fn := fun _ => fun
  | [d1, d2, d3] => { results := [.lit (.bool false)], args := [d1, d2, d3] }
  | _ => none }
def MsgIsWrongFalsely : Prop := msgIsRow.holds Try.pinned (OpenSpec.ofChange msgIsWrong)

/- THE SECOND FORM. 'bulk': how many values and letters a reading holds, each counted each time it is reached (what is shared counts as often as it is met; a slice's spare places count too). A statement '..UptoSaid' is the law's where the arguments, and the package variables that the reading takes, are together of bulk at most 1048576: NARROWER than '..Said'. Prove '..Said' where nothing that the law and all that it calls make is longer than what came in: it says more and counts as full. Else prove '..UptoSaid'. A law counts once. -/
mutual
def uptoBulk {H : Type} : DataW H → Nat
  | .lit (.string bytes) => bytes.length + 1
  | .lit _ => 1
  | .nil => 1
  | .ptr d => uptoBulk d + 1
  | .slice elems spare => uptoBulkAll elems + uptoBulkAll spare + 1
  | .agg parts => uptoBulkAll parts + 1
  | .iface _ d => uptoBulk d + 1
  | .map entries => uptoBulkEntries entries + 1
  | .held _ => 1
def uptoBulkAll {H : Type} : List (DataW H) → Nat
  | [] => 0
  | d :: r => uptoBulk d + uptoBulkAll r
def uptoBulkEntries {H : Type} : List (Lit × DataW H) → Nat
  | [] => 0
  | x :: r => uptoBulkEntry x + uptoBulkEntries r
def uptoBulkEntry {H : Type} : Lit × DataW H → Nat
  | (.string bytes, d) => bytes.length + uptoBulk d + 1
  | (_, d) => uptoBulk d + 1
 end
def uptoSmall : (H : Type) → List (DataW H) → Bool := fun _ ds => decide (uptoBulkAll ds ≤ 1048576)
def OpenSpec.upto (s : _root_.Go.ChangeSpec) : _root_.Go.OpenSpec := { _root_.Go.OpenSpec.ofChange s with cond := some uptoSmall }

/-- 'ridgewaylaw01.OctetIs', WHERE WHAT IT READS IS OF BULK AT MOST 1048576: true; the input reads as it did. -/
def octetIsUptoRow : OpenClaim := { program := "ytpoikmbogcggkaa", sum := "005713d0599b4727cc60475f7f482d197efdf247772a227f1dfdc4ff4bf57a69", func := "ridgeway/ridgewaylaw01.OctetIs", spec := "octetIs", apart := false, narrowed := true }
def OctetIsUptoSaid : Prop := octetIsUptoRow.holds Try.pinned (OpenSpec.upto octetIsSpec)

/-- 'ridgewaylaw01.OctetBack', WHERE WHAT IT READS IS OF BULK AT MOST 1048576: true; the input reads as it did. -/
def octetBackUptoRow : OpenClaim := { program := "ytpoikmbogcggkaa", sum := "005713d0599b4727cc60475f7f482d197efdf247772a227f1dfdc4ff4bf57a69", func := "ridgeway/ridgewaylaw01.OctetBack", spec := "octetBack", apart := false, narrowed := true }
def OctetBackUptoSaid : Prop := octetBackUptoRow.holds Try.pinned (OpenSpec.upto octetBackSpec)

/-- 'ridgewaylaw01.OctetTake', WHERE WHAT IT READS IS OF BULK AT MOST 1048576: true; the input reads as it did. -/
def octetTakeUptoRow : OpenClaim := { program := "ytpoikmbogcggkaa", sum := "005713d0599b4727cc60475f7f482d197efdf247772a227f1dfdc4ff4bf57a69", func := "ridgeway/ridgewaylaw01.OctetTake", spec := "octetTake", apart := false, narrowed := true }
def OctetTakeUptoSaid : Prop := octetTakeUptoRow.holds Try.pinned (OpenSpec.upto octetTakeSpec)

/-- 'ridgewaylaw01.OctetSplit', WHERE WHAT IT READS IS OF BULK AT MOST 1048576: true; the input reads as it did. -/
def octetSplitUptoRow : OpenClaim := { program := "ytpoikmbogcggkaa", sum := "005713d0599b4727cc60475f7f482d197efdf247772a227f1dfdc4ff4bf57a69", func := "ridgeway/ridgewaylaw01.OctetSplit", spec := "octetSplit", apart := false, narrowed := true }
def OctetSplitUptoSaid : Prop := octetSplitUptoRow.holds Try.pinned (OpenSpec.upto octetSplitSpec)

/-- 'ridgewaylaw03.MsgIs', WHERE WHAT IT READS IS OF BULK AT MOST 1048576: true; the input reads as it did. -/
def msgIsUptoRow : OpenClaim := { program := "ytpoikmbogcggkaa", sum := "005713d0599b4727cc60475f7f482d197efdf247772a227f1dfdc4ff4bf57a69", func := "ridgeway/ridgewaylaw03.MsgIs", spec := "msgIs", inPlace := ["internal/bytealg.MakeNoZero"], apart := false, narrowed := true }
def MsgIsUptoSaid : Prop := msgIsUptoRow.holds Try.pinned (OpenSpec.upto msgIsSpec)

end Rows
end Go.Proofs.Ytpoikmbogcggkaa
