import Derived.Test.YtibploaibljcmaaGreatDoorAv16
namespace Go.Proofs.YtibploaibljcmaaGreatDoor
open Go.RowKit
set_option linter.unusedVariables false
set_option linter.unusedSimpArgs false
def frz1 (m l sz : Nat) (xs : List AV) : AV → AV
 | .bsl l' off n sz' q => if l' = l ∧ sz' = sz ∧ off + n ≤ xs.length then .slice (if q = n + 1 then .full else .imm) sz ((xs.drop off).take n) else if l' < l then .bsl l' off n sz' q else .und
 | a => if okB m l a = true then a else .und
def frzA (m l sz : Nat) (xs : List AV) : AV → AV
 | .agg cs => .agg (cs.map (frz1 m l sz xs))
 | .tup cs => .tup (cs.map (frz1 m l sz xs))
 | a => frz1 m l sz xs a
def frzS (s : St) (l sz : Nat) (xs : List AV) : St :=
 { s with tm := s.tm.map (fun p => (p.1, frzA s.fr.length l sz xs p.2)), box := (s.box.take l).map fun q => (q.1, q.2.map (frz1 s.fr.length l sz xs)) }
end Go.Proofs.YtibploaibljcmaaGreatDoor
