/- What the walk computes with, in few names. -/
import Derived.Test.YtkdodhkiemfpeaaAv15
set_option maxRecDepth 100000
namespace Go.Proofs.Ytkdodhkiemfpeaa
open Go.RowKit
end Go.Proofs.Ytkdodhkiemfpeaa
