/-
  No cell of these rows narrows 'for every input' (looked for: loops, veiled, ifaces, maps, wideKeys, modest, calm, conditions, laid).
  DERIVED. THE GIVEN ROWS OF THIS SEAT. 8 by the template 'for every input the law returns true; each argument reads behind the call as it read before'; 0 by the template 'total and deterministic' (their statements: YtkdodhkiemfpeaaTotals.lean).
  GIVEN WITH THE SEED: the statements are not yours to turn. If you find one false, say at which input.
  Laid BY PROGRAM, IN A SANDBOX (cutbox-rows.mjs): the forced cells as the released guide's own fill.sh prints them over the translation 9ccc807ce0fa51f2… (all of the seat's roots in one cut). By AI agents, Wed Nov 11 2026. No macro, syntax, notation, axiom, sorry.
-/
import Derived.Test.YtkdodhkiemfpeaaChecked
import GoSem.Claim
import GoSem.ClaimJoined
import GoSem.ClaimMapViews
import Derived.JoinedTies
import Derived.KernelRfl
namespace Go.Proofs.Ytkdodhkiemfpeaa
/- THE CELL 'sum', in the pinned program and in every row, IS THE sha256 OF THE DUMP (.gsa) THAT YtkdodhkiemfpeaaProg.lean LOADS. Nothing in Lean hashes anything: it is a label: what it is worth is what the hold of that sum in a sandbox is worth. -/
noncomputable def Try.pinned : Pinned := { name := "ytkdodhkiemfpeaa", sum := "9ccc807ce0fa51f2b3a18bf6eaf193298178a40a5fff6dd1879f379cb3ee51c3", checked := Try.checked }
namespace Rows
def none {H : Type} : Left H := { results := [], args := [] }

/-- 'ridgewaylaw08.UpdateIs': WHATEVER THE INPUT: true; the input reads as it did. -/
def updateIsSpec : ChangeSpec := { name := "updateIs", fn := fun _ => fun
  | [d1, d2] => { results := [.lit (.bool true)], args := [d1, d2] }
  | _ => none }
def updateIsRow : OpenClaim := { program := "ytkdodhkiemfpeaa", sum := "9ccc807ce0fa51f2b3a18bf6eaf193298178a40a5fff6dd1879f379cb3ee51c3", func := "ridgeway/ridgewaylaw08.UpdateIs", spec := "updateIs", unfollowed := true, recurses := true, apart := false }
def UpdateIsSaid : Prop := updateIsRow.holds Try.pinned (OpenSpec.ofChange updateIsSpec)

/-- ITS FALSE NEIGHBOUR: 'it returns false'. Refute it at one input. -/
def updateIsWrong : ChangeSpec := { name := "updateIs", fn := fun _ => fun
  | [d1, d2] => { results := [.lit (.bool false)], args := [d1, d2] }
  | _ => none }
def UpdateIsWrongFalsely : Prop := updateIsRow.holds Try.pinned (OpenSpec.ofChange updateIsWrong)

/-- 'ridgewaylaw08.UpdatePacks': WHATEVER THE INPUT: true; the input reads as it did. -/
def updatePacksSpec : ChangeSpec := { name := "updatePacks", fn := fun _ => fun
  | [d] => { results := [.lit (.bool true)], args := [d] }
  | _ => none }
def updatePacksRow : OpenClaim := { program := "ytkdodhkiemfpeaa", sum := "9ccc807ce0fa51f2b3a18bf6eaf193298178a40a5fff6dd1879f379cb3ee51c3", func := "ridgeway/ridgewaylaw08.UpdatePacks", spec := "updatePacks", unfollowed := true, recurses := true, apart := false }
def UpdatePacksSaid : Prop := updatePacksRow.holds Try.pinned (OpenSpec.ofChange updatePacksSpec)

/-- ITS FALSE NEIGHBOUR: 'it returns false'. Refute it at one input. -/
def updatePacksWrong : ChangeSpec := { name := "updatePacks", fn := fun _ => fun
  | [d] => { results := [.lit (.bool false)], args := [d] }
  | _ => none }
def UpdatePacksWrongFalsely : Prop := updatePacksRow.holds Try.pinned (OpenSpec.ofChange updatePacksWrong)

/-- 'ridgewaylaw08.UpdateBack': WHATEVER THE INPUT: true; the input reads as it did. -/
def updateBackSpec : ChangeSpec := { name := "updateBack", fn := fun _ => fun
  | [d] => { results := [.lit (.bool true)], args := [d] }
  | _ => none }
def updateBackRow : OpenClaim := { program := "ytkdodhkiemfpeaa", sum := "9ccc807ce0fa51f2b3a18bf6eaf193298178a40a5fff6dd1879f379cb3ee51c3", func := "ridgeway/ridgewaylaw08.UpdateBack", spec := "updateBack", unfollowed := true, recurses := true, apart := false }
def UpdateBackSaid : Prop := updateBackRow.holds Try.pinned (OpenSpec.ofChange updateBackSpec)

/-- ITS FALSE NEIGHBOUR: 'it returns false'. Refute it at one input. -/
def updateBackWrong : ChangeSpec := { name := "updateBack", fn := fun _ => fun
  | [d] => { results := [.lit (.bool false)], args := [d] }
  | _ => none }
def UpdateBackWrongFalsely : Prop := updateBackRow.holds Try.pinned (OpenSpec.ofChange updateBackWrong)

/-- 'ridgewaylaw08.UpdateGot': WHATEVER THE INPUT: true; the input reads as it did. -/
def updateGotSpec : ChangeSpec := { name := "updateGot", fn := fun _ => fun
  | [d] => { results := [.lit (.bool true)], args := [d] }
  | _ => none }
def updateGotRow : OpenClaim := { program := "ytkdodhkiemfpeaa", sum := "9ccc807ce0fa51f2b3a18bf6eaf193298178a40a5fff6dd1879f379cb3ee51c3", func := "ridgeway/ridgewaylaw08.UpdateGot", spec := "updateGot", unfollowed := true, recurses := true, apart := false }
def UpdateGotSaid : Prop := updateGotRow.holds Try.pinned (OpenSpec.ofChange updateGotSpec)

/-- ITS FALSE NEIGHBOUR: 'it returns false'. Refute it at one input. -/
def updateGotWrong : ChangeSpec := { name := "updateGot", fn := fun _ => fun
  | [d] => { results := [.lit (.bool false)], args := [d] }
  | _ => none }
def UpdateGotWrongFalsely : Prop := updateGotRow.holds Try.pinned (OpenSpec.ofChange updateGotWrong)

/-- 'ridgewaylaw08.UpdateSpoilt': WHATEVER THE INPUT: true; the input reads as it did. -/
def updateSpoiltSpec : ChangeSpec := { name := "updateSpoilt", fn := fun _ => fun
  | [d1, d2, d3] => { results := [.lit (.bool true)], args := [d1, d2, d3] }
  | _ => none }
def updateSpoiltRow : OpenClaim := { program := "ytkdodhkiemfpeaa", sum := "9ccc807ce0fa51f2b3a18bf6eaf193298178a40a5fff6dd1879f379cb3ee51c3", func := "ridgeway/ridgewaylaw08.UpdateSpoilt", spec := "updateSpoilt", unfollowed := true, recurses := true, apart := false }
def UpdateSpoiltSaid : Prop := updateSpoiltRow.holds Try.pinned (OpenSpec.ofChange updateSpoiltSpec)

/-- ITS FALSE NEIGHBOUR: 'it returns false'. Refute it at one input. -/
def updateSpoiltWrong : ChangeSpec := { name := "updateSpoilt", fn := fun _ => fun
  | [d1, d2, d3] => { results := [.lit (.bool false)], args := [d1, d2, d3] }
  | _ => none }
def UpdateSpoiltWrongFalsely : Prop := updateSpoiltRow.holds Try.pinned (OpenSpec.ofChange updateSpoiltWrong)

/-- 'ridgewaylaw08.UpdateSays': WHATEVER THE INPUT: true; the input reads as it did. -/
def updateSaysSpec : ChangeSpec := { name := "updateSays", fn := fun _ => fun
  | [d] => { results := [.lit (.bool true)], args := [d] }
  | _ => none }
def updateSaysRow : OpenClaim := { program := "ytkdodhkiemfpeaa", sum := "9ccc807ce0fa51f2b3a18bf6eaf193298178a40a5fff6dd1879f379cb3ee51c3", func := "ridgeway/ridgewaylaw08.UpdateSays", spec := "updateSays", unfollowed := true, recurses := true, apart := false }
def UpdateSaysSaid : Prop := updateSaysRow.holds Try.pinned (OpenSpec.ofChange updateSaysSpec)

/-- ITS FALSE NEIGHBOUR: 'it returns false'. Refute it at one input. -/
def updateSaysWrong : ChangeSpec := { name := "updateSays", fn := fun _ => fun
  | [d] => { results := [.lit (.bool false)], args := [d] }
  | _ => none }
def UpdateSaysWrongFalsely : Prop := updateSaysRow.holds Try.pinned (OpenSpec.ofChange updateSaysWrong)

/-- 'ridgewaylaw08.UpdateFull': WHATEVER THE INPUT: true; the input reads as it did. -/
def updateFullSpec : ChangeSpec := { name := "updateFull", fn := fun _ => fun
  | [d] => { results := [.lit (.bool true)], args := [d] }
  | _ => none }
def updateFullRow : OpenClaim := { program := "ytkdodhkiemfpeaa", sum := "9ccc807ce0fa51f2b3a18bf6eaf193298178a40a5fff6dd1879f379cb3ee51c3", func := "ridgeway/ridgewaylaw08.UpdateFull", spec := "updateFull", unfollowed := true, recurses := true, apart := false }
def UpdateFullSaid : Prop := updateFullRow.holds Try.pinned (OpenSpec.ofChange updateFullSpec)

/-- ITS FALSE NEIGHBOUR: 'it returns false'. Refute it at one input. -/
def updateFullWrong : ChangeSpec := { name := "updateFull", fn := fun _ => fun
  | [d] => { results := [.lit (.bool false)], args := [d] }
  | _ => none }
def UpdateFullWrongFalsely : Prop := updateFullRow.holds Try.pinned (OpenSpec.ofChange updateFullWrong)

/-- 'ridgewaylaw08.UpdateGone': WHATEVER THE INPUT: true; the input reads as it did. -/
def updateGoneSpec : ChangeSpec := { name := "updateGone", fn := fun _ => fun
  | [d] => { results := [.lit (.bool true)], args := [d] }
  | _ => none }
def updateGoneRow : OpenClaim := { program := "ytkdodhkiemfpeaa", sum := "9ccc807ce0fa51f2b3a18bf6eaf193298178a40a5fff6dd1879f379cb3ee51c3", func := "ridgeway/ridgewaylaw08.UpdateGone", spec := "updateGone", unfollowed := true, recurses := true, apart := false }
def UpdateGoneSaid : Prop := updateGoneRow.holds Try.pinned (OpenSpec.ofChange updateGoneSpec)

/-- ITS FALSE NEIGHBOUR: 'it returns false'. Refute it at one input. -/
def updateGoneWrong : ChangeSpec := { name := "updateGone", fn := fun _ => fun
  | [d] => { results := [.lit (.bool false)], args := [d] }
  | _ => none }
def UpdateGoneWrongFalsely : Prop := updateGoneRow.holds Try.pinned (OpenSpec.ofChange updateGoneWrong)

/- THE SECOND FORM. 'bulk': how many values and letters a reading holds, each counted each time it is reached (what is shared counts as often as it is met; a slice's spare places count too). A statement '..UptoSaid' is the law's where the arguments, and the package variables that the reading takes, are together of bulk at most 1048576: NARROWER than '..Said'. Prove '..Said' where nothing that the law and all that it calls make is longer than what came in: it says more and counts as full. Else prove '..UptoSaid'. A law counts once. -/
mutual
def uptoBulk {H : Type} : DataW H → Nat
  | .lit (.string bytes) => bytes.length + 1
  | .lit _ => 1
  | .nil => 1
  | .ptr d => uptoBulk d + 1
  | .slice elems spare => uptoBulkAll elems + uptoBulkAll spare + 1
  | .agg parts => uptoBulkAll parts + 1
  | .iface _ d => uptoBulk d + 1
  | .map entries => uptoBulkEntries entries + 1
  | .held _ => 1
def uptoBulkAll {H : Type} : List (DataW H) → Nat
  | [] => 0
  | d :: r => uptoBulk d + uptoBulkAll r
def uptoBulkEntries {H : Type} : List (Lit × DataW H) → Nat
  | [] => 0
  | x :: r => uptoBulkEntry x + uptoBulkEntries r
def uptoBulkEntry {H : Type} : Lit × DataW H → Nat
  | (.string bytes, d) => bytes.length + uptoBulk d + 1
  | (_, d) => uptoBulk d + 1
 end
def uptoSmall : (H : Type) → List (DataW H) → Bool := fun _ ds => decide (uptoBulkAll ds ≤ 1048576)
def OpenSpec.upto (s : _root_.Go.ChangeSpec) : _root_.Go.OpenSpec := { _root_.Go.OpenSpec.ofChange s with cond := some uptoSmall }

/-- 'ridgewaylaw08.UpdateIs', WHERE WHAT IT READS IS OF BULK AT MOST 1048576: true; the input reads as it did. -/
def updateIsUptoRow : OpenClaim := { program := "ytkdodhkiemfpeaa", sum := "9ccc807ce0fa51f2b3a18bf6eaf193298178a40a5fff6dd1879f379cb3ee51c3", func := "ridgeway/ridgewaylaw08.UpdateIs", spec := "updateIs", unfollowed := true, recurses := true, apart := false, narrowed := true }
def UpdateIsUptoSaid : Prop := updateIsUptoRow.holds Try.pinned (OpenSpec.upto updateIsSpec)

/-- 'ridgewaylaw08.UpdatePacks', WHERE WHAT IT READS IS OF BULK AT MOST 1048576: true; the input reads as it did. -/
def updatePacksUptoRow : OpenClaim := { program := "ytkdodhkiemfpeaa", sum := "9ccc807ce0fa51f2b3a18bf6eaf193298178a40a5fff6dd1879f379cb3ee51c3", func := "ridgeway/ridgewaylaw08.UpdatePacks", spec := "updatePacks", unfollowed := true, recurses := true, apart := false, narrowed := true }
def UpdatePacksUptoSaid : Prop := updatePacksUptoRow.holds Try.pinned (OpenSpec.upto updatePacksSpec)

/-- 'ridgewaylaw08.UpdateBack', WHERE WHAT IT READS IS OF BULK AT MOST 1048576: true; the input reads as it did. -/
def updateBackUptoRow : OpenClaim := { program := "ytkdodhkiemfpeaa", sum := "9ccc807ce0fa51f2b3a18bf6eaf193298178a40a5fff6dd1879f379cb3ee51c3", func := "ridgeway/ridgewaylaw08.UpdateBack", spec := "updateBack", unfollowed := true, recurses := true, apart := false, narrowed := true }
def UpdateBackUptoSaid : Prop := updateBackUptoRow.holds Try.pinned (OpenSpec.upto updateBackSpec)

/-- 'ridgewaylaw08.UpdateGot', WHERE WHAT IT READS IS OF BULK AT MOST 1048576: true; the input reads as it did. -/
def updateGotUptoRow : OpenClaim := { program := "ytkdodhkiemfpeaa", sum := "9ccc807ce0fa51f2b3a18bf6eaf193298178a40a5fff6dd1879f379cb3ee51c3", func := "ridgeway/ridgewaylaw08.UpdateGot", spec := "updateGot", unfollowed := true, recurses := true, apart := false, narrowed := true }
def UpdateGotUptoSaid : Prop := updateGotUptoRow.holds Try.pinned (OpenSpec.upto updateGotSpec)

/-- 'ridgewaylaw08.UpdateSpoilt', WHERE WHAT IT READS IS OF BULK AT MOST 1048576: true; the input reads as it did. -/
def updateSpoiltUptoRow : OpenClaim := { program := "ytkdodhkiemfpeaa", sum := "9ccc807ce0fa51f2b3a18bf6eaf193298178a40a5fff6dd1879f379cb3ee51c3", func := "ridgeway/ridgewaylaw08.UpdateSpoilt", spec := "updateSpoilt", unfollowed := true, recurses := true, apart := false, narrowed := true }
def UpdateSpoiltUptoSaid : Prop := updateSpoiltUptoRow.holds Try.pinned (OpenSpec.upto updateSpoiltSpec)

/-- 'ridgewaylaw08.UpdateSays', WHERE WHAT IT READS IS OF BULK AT MOST 1048576: true; the input reads as it did. -/
def updateSaysUptoRow : OpenClaim := { program := "ytkdodhkiemfpeaa", sum := "9ccc807ce0fa51f2b3a18bf6eaf193298178a40a5fff6dd1879f379cb3ee51c3", func := "ridgeway/ridgewaylaw08.UpdateSays", spec := "updateSays", unfollowed := true, recurses := true, apart := false, narrowed := true }
def UpdateSaysUptoSaid : Prop := updateSaysUptoRow.holds Try.pinned (OpenSpec.upto updateSaysSpec)

/-- 'ridgewaylaw08.UpdateFull', WHERE WHAT IT READS IS OF BULK AT MOST 1048576: true; the input reads as it did. -/
def updateFullUptoRow : OpenClaim := { program := "ytkdodhkiemfpeaa", sum := "9ccc807ce0fa51f2b3a18bf6eaf193298178a40a5fff6dd1879f379cb3ee51c3", func := "ridgeway/ridgewaylaw08.UpdateFull", spec := "updateFull", unfollowed := true, recurses := true, apart := false, narrowed := true }
def UpdateFullUptoSaid : Prop := updateFullUptoRow.holds Try.pinned (OpenSpec.upto updateFullSpec)

/-- 'ridgewaylaw08.UpdateGone', WHERE WHAT IT READS IS OF BULK AT MOST 1048576: true; the input reads as it did. -/
def updateGoneUptoRow : OpenClaim := { program := "ytkdodhkiemfpeaa", sum := "9ccc807ce0fa51f2b3a18bf6eaf193298178a40a5fff6dd1879f379cb3ee51c3", func := "ridgeway/ridgewaylaw08.UpdateGone", spec := "updateGone", unfollowed := true, recurses := true, apart := false, narrowed := true }
def UpdateGoneUptoSaid : Prop := updateGoneUptoRow.holds Try.pinned (OpenSpec.upto updateGoneSpec)

end Rows
end Go.Proofs.Ytkdodhkiemfpeaa
