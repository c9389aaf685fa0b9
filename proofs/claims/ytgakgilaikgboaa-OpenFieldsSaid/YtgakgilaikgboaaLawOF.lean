/- OpenFields: the walk comes to true. -/
import Derived.Test.YtgakgilaikgboaaLt7
import Derived.Test.YtgakgilaikgboaaOt7
import Derived.Test.YtgakgilaikgboaaPu8
namespace Go.Proofs.Ytgakgilaikgboaa
open Go.RowKit
theorem openFields_av (a0 : AV) (s0 : ShA (Opn.T Hello) a0) (a1 : AV) (s1 : ShA (Opn.T UInt8) a1) : ACt Try.prog 7 [a0, a1] (.bool true) [] := by
  obtain ⟨x0, _, rfl⟩ := opn s0
  obtain ⟨x1, _, rfl⟩ := opn s1
  exact a_ridgewaylaw06_OpenFields (openFields_true x0 x1)
end Go.Proofs.Ytgakgilaikgboaa
