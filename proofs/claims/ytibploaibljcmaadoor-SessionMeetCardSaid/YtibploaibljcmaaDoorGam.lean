/- Which package variables are known, and their cells: the roles that go together. -/
import Derived.Test.YtibploaibljcmaaDoorGrow
namespace Go.Proofs.YtibploaibljcmaaDoor
open Go.RowKit
def tabV : List Value := [.int .i64 0, .int .i64 3, .int .i64 1, .int .i64 2, .int .i64 3, .int .i64 0, .int .i64 2, .int .i64 1, .int .i64 4, .int .i64 4]
def gam (g : Nat) : Option (List Value) := if g = 0 then some tabV else none
/-- Variables that hold some number. -/
def gamI : List Nat := []
end Go.Proofs.YtibploaibljcmaaDoor
