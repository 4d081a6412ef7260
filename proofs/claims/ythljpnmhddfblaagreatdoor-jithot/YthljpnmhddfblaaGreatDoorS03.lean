/- Plain arithmetic: Go's 64-bit wrap, and division that rounds down. Nothing of the program stands here. -/
import Derived.RowKit
namespace Go.Proofs.YthljpnmhddfblaaGreatDoor
set_option maxRecDepth 100000
set_option maxHeartbeats 8000000
set_option linter.all false
open Go.RowKit (wrap64)
end Go.Proofs.YthljpnmhddfblaaGreatDoor
