/- What an operation makes of two values: one answer, whatever the world. -/
import Derived.Test.YthljpnmhddfblaaGreatDoorS22
import Derived.Test.YthljpnmhddfblaaGreatDoorS17
import Derived.Test.YthljpnmhddfblaaGreatDoorS01
import Derived.Lib.ItoaLen
namespace Go.Proofs.YthljpnmhddfblaaGreatDoor
open Go.RowKit Go
set_option maxRecDepth 100000
set_option maxHeartbeats 8000000
set_option linter.all false
def OC (op:Int) (x y:Vl) (k n er:Int) (s:ByteArray):Prop :=
 ∀w,PTab w->Calls Tryz.prog 98 #[.int .i64 op,x.v,y.v] w fun e w'=>e=.returned (.tuple #[val k n s,.int .i64 er])/\Below w.heap.size w w'
def OX (op:Int) (x y:Vl):Prop:=∃(r:Vl) (er:Int),OC op x y r.k r.n er r.s/\(er=0->mayB r.k r.n r.s=true/\¬r.k=4/\¬r.k=5) /\
 ((1<=op/\op<=11/\mayB x.k x.n x.s=true/\mayB y.k y.n y.s=true)->er=0\/er=1\/er=3\/er=7)
end Go.Proofs.YthljpnmhddfblaaGreatDoor
