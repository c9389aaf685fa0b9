/- Which package variables are known, and their cells: none. -/
import Derived.Test.YtkdodhkiemfpeaaGrow
namespace Go.Proofs.Ytkdodhkiemfpeaa
open Go.RowKit
def gam : Nat → Option (List Value) := fun _ => none
/-- Variables that hold some number. -/
def gamI : List Nat := []
end Go.Proofs.Ytkdodhkiemfpeaa
