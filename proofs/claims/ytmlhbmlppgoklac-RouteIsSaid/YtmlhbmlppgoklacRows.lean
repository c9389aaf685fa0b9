/-
  No cell of these rows narrows 'for every input' (looked for: loops, veiled, ifaces, maps, wideKeys, modest, calm, conditions, laid).
  DERIVED. THE GIVEN ROWS OF THIS SEAT. 5 by the template 'for every input the law returns true; each argument reads behind the call as it read before'; 0 by the template 'total and deterministic' (their statements: YtmlhbmlppgoklacTotals.lean).
  GIVEN WITH THE SEED: the statements are not yours to turn. If you find one false, say at which input.
  Laid BY PROGRAM, IN A SANDBOX (cutbox-rows.mjs): the forced cells as the released guide's own fill.sh prints them over the translation f8b64b02a59ccffc… (all of the seat's roots in one cut). By AI agents, Wed Nov 11 2026. No macro, syntax, notation, axiom, sorry.
-/
import Derived.Test.YtmlhbmlppgoklacChecked
import GoSem.Claim
import GoSem.ClaimJoined
import GoSem.ClaimMapViews
import Derived.JoinedTies
import Derived.KernelRfl
namespace Go.Proofs.Ytmlhbmlppgoklac
/- THE CELL 'sum', in the pinned program and in every row, IS THE sha256 OF THE DUMP (.gsa) THAT YtmlhbmlppgoklacProg.lean LOADS. Nothing in Lean hashes anything: it is a label: what it is worth is what the hold of that sum in a sandbox is worth. -/
noncomputable def Try.pinned : Pinned := { name := "ytmlhbmlppgoklac", sum := "f8b64b02a59ccffca21fbf313d92fdffa44b4eeaa6a7346e66c431e60ee4a608", checked := Try.checked }
namespace Rows
def none {H : Type} : Left H := { results := [], args := [] }

/-- 'ridgewaylaw09.RouteIs': WHATEVER THE INPUT: true; the input reads as it did. -/
def routeIsSpec : ChangeSpec := { name := "routeIs", fn := fun _ => fun
  | [d1, d2, d3] => { results := [.lit (.bool true)], args := [d1, d2, d3] }
  | _ => none }
def routeIsRow : OpenClaim := { program := "ytmlhbmlppgoklac", sum := "f8b64b02a59ccffca21fbf313d92fdffa44b4eeaa6a7346e66c431e60ee4a608", func := "ridgeway/ridgewaylaw09.RouteIs", spec := "routeIs", unfollowed := true, recurses := true, apart := false }
def RouteIsSaid : Prop := routeIsRow.holds Try.pinned (OpenSpec.ofChange routeIsSpec)

/-- ITS FALSE NEIGHBOUR: 'it returns false'. Refute it at one input. -/
def routeIsWrong : ChangeSpec := { name := "routeIs", fn := fun _ => fun
  | [d1, d2, d3] => { results := [.lit (.bool false)], args := [d1, d2, d3] }
  | _ => none }
def RouteIsWrongFalsely : Prop := routeIsRow.holds Try.pinned (OpenSpec.ofChange routeIsWrong)

/-- 'ridgewaylaw09.RouteOrder': WHATEVER THE INPUT: true; the input reads as it did. -/
def routeOrderSpec : ChangeSpec := { name := "routeOrder", fn := fun _ => fun
  | [d1, d2, d3] => { results := [.lit (.bool true)], args := [d1, d2, d3] }
  | _ => none }
def routeOrderRow : OpenClaim := { program := "ytmlhbmlppgoklac", sum := "f8b64b02a59ccffca21fbf313d92fdffa44b4eeaa6a7346e66c431e60ee4a608", func := "ridgeway/ridgewaylaw09.RouteOrder", spec := "routeOrder", unfollowed := true, recurses := true, apart := false }
def RouteOrderSaid : Prop := routeOrderRow.holds Try.pinned (OpenSpec.ofChange routeOrderSpec)

/-- ITS FALSE NEIGHBOUR: 'it returns false'. Refute it at one input. -/
def routeOrderWrong : ChangeSpec := { name := "routeOrder", fn := fun _ => fun
  | [d1, d2, d3] => { results := [.lit (.bool false)], args := [d1, d2, d3] }
  | _ => none }
def RouteOrderWrongFalsely : Prop := routeOrderRow.holds Try.pinned (OpenSpec.ofChange routeOrderWrong)

/-- 'ridgewaylaw09.RouteFirst': WHATEVER THE INPUT: true; the input reads as it did. -/
def routeFirstSpec : ChangeSpec := { name := "routeFirst", fn := fun _ => fun
  | [d1, d2] => { results := [.lit (.bool true)], args := [d1, d2] }
  | _ => none }
def routeFirstRow : OpenClaim := { program := "ytmlhbmlppgoklac", sum := "f8b64b02a59ccffca21fbf313d92fdffa44b4eeaa6a7346e66c431e60ee4a608", func := "ridgeway/ridgewaylaw09.RouteFirst", spec := "routeFirst", unfollowed := true, recurses := true, apart := false }
def RouteFirstSaid : Prop := routeFirstRow.holds Try.pinned (OpenSpec.ofChange routeFirstSpec)

/-- ITS FALSE NEIGHBOUR: 'it returns false'. Refute it at one input. -/
def routeFirstWrong : ChangeSpec := { name := "routeFirst", fn := fun _ => fun
  | [d1, d2] => { results := [.lit (.bool false)], args := [d1, d2] }
  | _ => none }
def RouteFirstWrongFalsely : Prop := routeFirstRow.holds Try.pinned (OpenSpec.ofChange routeFirstWrong)

/-- 'ridgewaylaw09.RouteBest': WHATEVER THE INPUT: true; the input reads as it did. -/
def routeBestSpec : ChangeSpec := { name := "routeBest", fn := fun _ => fun
  | [d1, d2] => { results := [.lit (.bool true)], args := [d1, d2] }
  | _ => none }
def routeBestRow : OpenClaim := { program := "ytmlhbmlppgoklac", sum := "f8b64b02a59ccffca21fbf313d92fdffa44b4eeaa6a7346e66c431e60ee4a608", func := "ridgeway/ridgewaylaw09.RouteBest", spec := "routeBest", unfollowed := true, recurses := true, apart := false }
def RouteBestSaid : Prop := routeBestRow.holds Try.pinned (OpenSpec.ofChange routeBestSpec)

/-- ITS FALSE NEIGHBOUR: 'it returns false'. Refute it at one input. -/
def routeBestWrong : ChangeSpec := { name := "routeBest", fn := fun _ => fun
  | [d1, d2] => { results := [.lit (.bool false)], args := [d1, d2] }
  | _ => none }
def RouteBestWrongFalsely : Prop := routeBestRow.holds Try.pinned (OpenSpec.ofChange routeBestWrong)

/-- 'ridgewaylaw09.RouteLonger': WHATEVER THE INPUT: true; the input reads as it did. -/
def routeLongerSpec : ChangeSpec := { name := "routeLonger", fn := fun _ => fun
  | [d1, d2, d3, d4] => { results := [.lit (.bool true)], args := [d1, d2, d3, d4] }
  | _ => none }
def routeLongerRow : OpenClaim := { program := "ytmlhbmlppgoklac", sum := "f8b64b02a59ccffca21fbf313d92fdffa44b4eeaa6a7346e66c431e60ee4a608", func := "ridgeway/ridgewaylaw09.RouteLonger", spec := "routeLonger", unfollowed := true, recurses := true, apart := false }
def RouteLongerSaid : Prop := routeLongerRow.holds Try.pinned (OpenSpec.ofChange routeLongerSpec)

/-- ITS FALSE NEIGHBOUR: 'it returns false'. Refute it at one input. -/
def routeLongerWrong : ChangeSpec := { name := "routeLonger", fn := fun _ => fun
  | [d1, d2, d3, d4] => { results := [.lit (.bool false)], args := [d1, d2, d3, d4] }
  | _ => none }
def RouteLongerWrongFalsely : Prop := routeLongerRow.holds Try.pinned (OpenSpec.ofChange routeLongerWrong)

/- THE SECOND FORM. 'bulk': how many values and letters a reading holds, each counted each time it is reached (what is shared counts as often as it is met; a slice's spare places count too). A statement '..UptoSaid' is the law's where the arguments, and the package variables that the reading takes, are together of bulk at most 1048576: NARROWER than '..Said'. Prove '..Said' where nothing that the law and all that it calls make is longer than what came in: it says more and counts as full. Else prove '..UptoSaid'. A law counts once. -/
mutual
def uptoBulk {H : Type} : DataW H → Nat
  | .lit (.string bytes) => bytes.length + 1
  | .lit _ => 1
  | .nil => 1
  | .ptr d => uptoBulk d + 1
  | .slice elems spare => uptoBulkAll elems + uptoBulkAll spare + 1
  | .agg parts => uptoBulkAll parts + 1
  | .iface _ d => uptoBulk d + 1
  | .map entries => uptoBulkEntries entries + 1
  | .held _ => 1
def uptoBulkAll {H : Type} : List (DataW H) → Nat
  | [] => 0
  | d :: r => uptoBulk d + uptoBulkAll r
def uptoBulkEntries {H : Type} : List (Lit × DataW H) → Nat
  | [] => 0
  | x :: r => uptoBulkEntry x + uptoBulkEntries r
def uptoBulkEntry {H : Type} : Lit × DataW H → Nat
  | (.string bytes, d) => bytes.length + uptoBulk d + 1
  | (_, d) => uptoBulk d + 1
 end
def uptoSmall : (H : Type) → List (DataW H) → Bool := fun _ ds => decide (uptoBulkAll ds ≤ 1048576)
def OpenSpec.upto (s : _root_.Go.ChangeSpec) : _root_.Go.OpenSpec := { _root_.Go.OpenSpec.ofChange s with cond := some uptoSmall }

/-- 'ridgewaylaw09.RouteIs', WHERE WHAT IT READS IS OF BULK AT MOST 1048576: true; the input reads as it did. -/
def routeIsUptoRow : OpenClaim := { program := "ytmlhbmlppgoklac", sum := "f8b64b02a59ccffca21fbf313d92fdffa44b4eeaa6a7346e66c431e60ee4a608", func := "ridgeway/ridgewaylaw09.RouteIs", spec := "routeIs", unfollowed := true, recurses := true, apart := false, narrowed := true }
def RouteIsUptoSaid : Prop := routeIsUptoRow.holds Try.pinned (OpenSpec.upto routeIsSpec)

/-- 'ridgewaylaw09.RouteOrder', WHERE WHAT IT READS IS OF BULK AT MOST 1048576: true; the input reads as it did. -/
def routeOrderUptoRow : OpenClaim := { program := "ytmlhbmlppgoklac", sum := "f8b64b02a59ccffca21fbf313d92fdffa44b4eeaa6a7346e66c431e60ee4a608", func := "ridgeway/ridgewaylaw09.RouteOrder", spec := "routeOrder", unfollowed := true, recurses := true, apart := false, narrowed := true }
def RouteOrderUptoSaid : Prop := routeOrderUptoRow.holds Try.pinned (OpenSpec.upto routeOrderSpec)

/-- 'ridgewaylaw09.RouteFirst', WHERE WHAT IT READS IS OF BULK AT MOST 1048576: true; the input reads as it did. -/
def routeFirstUptoRow : OpenClaim := { program := "ytmlhbmlppgoklac", sum := "f8b64b02a59ccffca21fbf313d92fdffa44b4eeaa6a7346e66c431e60ee4a608", func := "ridgeway/ridgewaylaw09.RouteFirst", spec := "routeFirst", unfollowed := true, recurses := true, apart := false, narrowed := true }
def RouteFirstUptoSaid : Prop := routeFirstUptoRow.holds Try.pinned (OpenSpec.upto routeFirstSpec)

/-- 'ridgewaylaw09.RouteBest', WHERE WHAT IT READS IS OF BULK AT MOST 1048576: true; the input reads as it did. -/
def routeBestUptoRow : OpenClaim := { program := "ytmlhbmlppgoklac", sum := "f8b64b02a59ccffca21fbf313d92fdffa44b4eeaa6a7346e66c431e60ee4a608", func := "ridgeway/ridgewaylaw09.RouteBest", spec := "routeBest", unfollowed := true, recurses := true, apart := false, narrowed := true }
def RouteBestUptoSaid : Prop := routeBestUptoRow.holds Try.pinned (OpenSpec.upto routeBestSpec)

/-- 'ridgewaylaw09.RouteLonger', WHERE WHAT IT READS IS OF BULK AT MOST 1048576: true; the input reads as it did. -/
def routeLongerUptoRow : OpenClaim := { program := "ytmlhbmlppgoklac", sum := "f8b64b02a59ccffca21fbf313d92fdffa44b4eeaa6a7346e66c431e60ee4a608", func := "ridgeway/ridgewaylaw09.RouteLonger", spec := "routeLonger", unfollowed := true, recurses := true, apart := false, narrowed := true }
def RouteLongerUptoSaid : Prop := routeLongerUptoRow.holds Try.pinned (OpenSpec.upto routeLongerSpec)

end Rows
end Go.Proofs.Ytmlhbmlppgoklac
