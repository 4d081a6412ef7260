/- What counts as true, whatever the value. -/
import Derived.Test.YthljpnmhddfblaaGreatDoorS18
import Derived.Test.YthljpnmhddfblaaGreatDoorS19
import Derived.Test.YthljpnmhddfblaaGreatDoorS20
namespace Go.Proofs.YthljpnmhddfblaaGreatDoor
open Go.RowKit Go
set_option maxRecDepth 100000
set_option maxHeartbeats 8000000
set_option linter.all false
def truthB (k n:Int) (s:ByteArray):Bool:=mayB k n s && !(k == 0) && !(k == 1&&n == 0)
theorem truth_any(k n:Int)(s:ByteArray)(w:World):Calls Tryz.prog 51 #[val k n s] w fun e w'=>e=.returned (.bool (truthB k n s))/\Below w.heap.size w w':=by
 unfold truthB
 rcases Bool.eq_false_or_eq_true (mayB k n s)with h|h
 ·rcases Bool.eq_false_or_eq_true (k == 0)with k0|k0
  ·rw[h,k0];exact truth_nil k n s w h k0
  ·by_cases k1:k=1
   ·subst k1
    by_cases n0:n=0
    ·subst n0
     have he:s.toList=[]:=by
      unfold mayB at h
      rw[if_neg (by decide)]at h
      rcases Bool.eq_false_or_eq_true s.toList.isEmpty with e|e
      ·simpa using e
      ·rw[if_pos e]at h;cases h
     rw[h];exact truth_e s w h rfl he
    ·have e:(n == 0)=false:=by simpa using n0
     rw[h,e];exact truth_n n s w h rfl n0
   ·have e:(k == 1)=false:=by simpa using k1
    rw[h,k0,e];exact truth_k k n s w h k0 k1
 ·rw[h];exact truth_f k n s w h
end Go.Proofs.YthljpnmhddfblaaGreatDoor
