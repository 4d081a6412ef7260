/- Get. -/
import Derived.Test.YthljpnmhddfblaaGreatDoorS08
namespace Go.Proofs.YthljpnmhddfblaaGreatDoor
open Go.RowKit Go.Shelf Go
set_option maxRecDepth 100000
set_option maxHeartbeats 8000000
set_option linter.all false
section
variable [DecidableEq Vl]
attribute [local go_sem] Oper.semAt_some
end
section
variable [DecidableEq Vl]
attribute [local go_sem] Oper.semAt_some
end
section
variable [DecidableEq Vl]
def numV (i:Nat):Vl:=if h:i<=1000 then ⟨2,i,E0,by decide,WalkArith.wf_i64 (by omega),by decide⟩ else nilV
theorem numV_eq{i:Nat}(h:i<=1000):(numV i).v=val 2 i E0:=by simp[numV,h]
end
end Go.Proofs.YthljpnmhddfblaaGreatDoor
