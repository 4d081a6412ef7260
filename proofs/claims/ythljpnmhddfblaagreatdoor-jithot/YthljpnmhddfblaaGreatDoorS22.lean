/- Walks of the value package: what is told of a value; and the document's own. -/
import Derived.Test.YthljpnmhddfblaaGreatDoorS21
import Derived.Test.YthljpnmhddfblaaGreatDoorS04
import Derived.Lib.AppendIntMem
import Derived.Test.YthljpnmhddfblaaGreatDoorS10
import Derived.Test.YthljpnmhddfblaaGreatDoorS11
namespace Go.Proofs.YthljpnmhddfblaaGreatDoor
open Go.RowKit Go
set_option maxRecDepth 100000
set_option maxHeartbeats 8000000
set_option linter.all false
abbrev PTab (w : World) : Prop := Lib.TabIs Tryz.prog w "internal/strconv.uint64pow10" .u64 Lib.pow10Tab
end Go.Proofs.YthljpnmhddfblaaGreatDoor
