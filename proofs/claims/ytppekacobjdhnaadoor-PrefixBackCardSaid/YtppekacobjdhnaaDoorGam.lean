/- Which package variables are known: one that holds some number. -/
import Derived.Test.YtppekacobjdhnaaDoorGrow
namespace Go.Proofs.YtppekacobjdhnaaDoor
open Go.RowKit
def gam : Nat → Option (List Value) := fun _ => none
/-- Variables that hold some number. -/
def gamI : List Nat := [0]
end Go.Proofs.YtppekacobjdhnaaDoor
