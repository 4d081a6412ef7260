/- The machine's states and steps in plain words. -/
import Derived.Test.YthljpnmhddfblaaGreatDoorS24
import Derived.Test.YthljpnmhddfblaaGreatDoorS13
import Derived.Test.YthljpnmhddfblaaGreatDoorS22
import Derived.Test.YthljpnmhddfblaaGreatDoorS05
namespace Go.Proofs.YthljpnmhddfblaaGreatDoor
open Go
set_option maxRecDepth 100000
set_option maxHeartbeats 8000000
set_option linter.all false
section
variable [DecidableEq Vl]
structure Frm where
 f:Int
 pc:Int
 d:Int
 rs:List Vl
structure Tb where
 ks:List Vl
 vs:List Vl
structure St where
 fr:List Frm
 tb:List Tb
 out:List ByteArray
 st:Int
 en:Int
 er:Int
 la:Vl
section
variable (F:Int->Vl->Vl->Vl×Int) (fs:List Fd)
end
end
end Go.Proofs.YthljpnmhddfblaaGreatDoor
