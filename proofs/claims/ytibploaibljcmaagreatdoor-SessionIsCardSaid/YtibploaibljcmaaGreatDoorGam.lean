import Derived.Test.YtibploaibljcmaaGreatDoorGrow
namespace Go.Proofs.YtibploaibljcmaaGreatDoor
open Go.RowKit
def tabV : List Value := [.int .i64 0, .int .i64 3, .int .i64 1, .int .i64 2, .int .i64 3, .int .i64 0, .int .i64 2, .int .i64 1, .int .i64 4, .int .i64 4]
def gam (g : Nat) : Option (List Value) := if g = 0 then some tabV else none
def gamI : List Nat := []
end Go.Proofs.YtibploaibljcmaaGreatDoor
