/- Walks of the value package, on the way to the statements of chapter 1. -/
import Derived.Test.YthljpnmhddfblaaGreatDoorProg
import Derived.WalkSpells
import Derived.WalkLawsBesides
import Derived.Handy
namespace Go.Proofs.YthljpnmhddfblaaGreatDoor
open Go.RowKit Go
set_option maxRecDepth 100000
set_option maxHeartbeats 8000000
set_option linter.all false
theorem ret_bool{a b:Bool}(h:a=b):Ending.returned (.bool a)=.returned (.bool b):=by rw[h]
theorem contains1(b:Nat)(y x:Int)(w:World)(hc:w.cell? ⟨b,0,none⟩=some (.int .i64 y)) :
  Calls Tryz.prog 59 #[.slice (some ⟨b,0,none⟩) 1 1,.int .i64 x] w fun e w'=>e=.returned (.bool (x == y))/\w'=w:=by
 go_enter Tryz.func59,Tryz.ntmps59
 go_wp2
 refine wp_loop_rounds 2 ?_
 rw[rounds_succ]
 by_cases h:(x == y)=true
 ·go_wp2
  go_ret
  exact⟨by rw[h];rfl,rfl⟩
 ·have h':(x == y)=false:=by simpa using h
  clear h
  go_wp2
  rw[rounds_succ]
  go_wp2
  go_ret
  exact⟨by rw[h'];rfl,rfl⟩
theorem contains2(b:Nat)(y z x:Int)(w:World)(hc:w.cell? ⟨b,0,none⟩=some (.int .i64 y))(hd:w.cell? ⟨b,1,none⟩=some (.int .i64 z)) :
  Calls Tryz.prog 59 #[.slice (some ⟨b,0,none⟩) 2 2,.int .i64 x] w fun e w'=>e=.returned (.bool (x == y||x == z))/\w'=w:=by
 go_enter Tryz.func59,Tryz.ntmps59
 go_wp2
 refine wp_loop_rounds 3 ?_
 rw[rounds_succ]
 by_cases h:(x == y)=true
 ·go_wp2
  go_ret
  exact⟨by rw[h];rfl,rfl⟩
 ·have h':(x == y)=false:=by simpa using h
  clear h
  go_wp2
  rw[rounds_succ]
  by_cases k:(x == z)=true
  ·go_wp2
   go_ret
   exact⟨by rw[h',k];rfl,rfl⟩
  ·have k':(x == z)=false:=by simpa using k
   clear k
   go_wp2
   rw[rounds_succ]
   go_wp2
   go_ret
   exact⟨by rw[h',k'];rfl,rfl⟩
theorem each11(b c v:Nat)(y k n:Int)(s:ByteArray)(w:World)(hc:w.cell? ⟨b,0,none⟩=some (.int .i64 y))
  (hp:w.cell? ⟨c,0,none⟩=some (.slice (some ⟨v,0,none⟩) 1 1))
  (h0:w.cell? ⟨v,0,none⟩=some (.int .i64 k)) (h1:w.cell? ⟨v,1,none⟩=some (.int .i64 n)) (h2:w.cell? ⟨v,2,none⟩=some (.string s)) (hb:b<w.heap.size) :
  Calls Tryz.prog 58 #[.slice (some ⟨b,0,none⟩) 1 1,.pointer (some ⟨c,0,none⟩)] w fun e w'=>e=.returned (.bool (k == y))/\w'=w.alloc (.cells #[.int .i64 k,.int .i64 n,.string s] 25):=by
 go_enter Tryz.func58,Tryz.ntmps58
 go_wp2
 refine wp_loop_rounds 2 ?_
 rw[rounds_succ]
 by_cases h:(k == y)=true
 ·go_wp2_with (go_at_call 59;refine(contains1 _ y _ _ ((World.cell?_alloc_past _ _ _ hb).trans hc)).mono ?_;rintro e w' ⟨rfl,rfl⟩)
  rw[rounds_succ]
  go_wp2
  go_ret
  exact⟨by rw[h];rfl,rfl⟩
 ·have h':(k == y)=false:=by simpa using h
  clear h
  go_wp2_with (go_at_call 59;refine(contains1 _ y _ _ ((World.cell?_alloc_past _ _ _ hb).trans hc)).mono ?_;rintro e w' ⟨rfl,rfl⟩)
  go_ret
  exact⟨by rw[h'];rfl,rfl⟩
theorem each12(b c v:Nat)(y z k n:Int)(s:ByteArray)(w:World)(hc:w.cell? ⟨b,0,none⟩=some (.int .i64 y))(hd:w.cell? ⟨b,1,none⟩=some (.int .i64 z))
  (hp:w.cell? ⟨c,0,none⟩=some (.slice (some ⟨v,0,none⟩) 1 1))
  (h0:w.cell? ⟨v,0,none⟩=some (.int .i64 k)) (h1:w.cell? ⟨v,1,none⟩=some (.int .i64 n)) (h2:w.cell? ⟨v,2,none⟩=some (.string s)) (hb:b<w.heap.size) :
  Calls Tryz.prog 58 #[.slice (some ⟨b,0,none⟩) 2 2,.pointer (some ⟨c,0,none⟩)] w fun e w'=>e=.returned (.bool (k == y||k == z))/\w'=w.alloc (.cells #[.int .i64 k,.int .i64 n,.string s] 25):=by
 go_enter Tryz.func58,Tryz.ntmps58
 go_wp2
 refine wp_loop_rounds 2 ?_
 rw[rounds_succ]
 by_cases h:(k == y||k == z)=true
 ·go_wp2_with (go_at_call 59;refine(contains2 _ y z _ _ ((World.cell?_alloc_past _ _ _ hb).trans hc) ((World.cell?_alloc_past _ _ _ hb).trans hd)).mono ?_;rw[h];rintro e w' ⟨rfl,rfl⟩)
  rw[rounds_succ]
  go_wp2
  go_ret
  exact⟨by rw[h];rfl,rfl⟩
 ·have h':(k == y||k == z)=false:=by simpa using h
  clear h
  go_wp2_with (go_at_call 59;refine(contains2 _ y z _ _ ((World.cell?_alloc_past _ _ _ hb).trans hc) ((World.cell?_alloc_past _ _ _ hb).trans hd)).mono ?_;rw[h'];rintro e w' ⟨rfl,rfl⟩)
  go_ret
  exact⟨by rw[h'];rfl,rfl⟩
def Asks (c v:Nat) (k n:Int) (s:ByteArray) (w:World):Prop :=
 w.cell? ⟨c,0,none⟩=some (.slice (some ⟨v,0,none⟩) 1 1)/\w.cell? ⟨v,0,none⟩=some (.int .i64 k)/\w.cell? ⟨v,1,none⟩=some (.int .i64 n)/\w.cell? ⟨v,2,none⟩=some (.string s)
theorem ask1(y k n:Int)(s:ByteArray)(b c v:Nat)(w:World)(hb:b=w.heap.size)(h:Asks c v k n s w) :
  Calls Tryz.prog 58 #[.slice (some ⟨b,0,none⟩) 1 1,.pointer (some ⟨c,0,none⟩)] (w.alloc (.cells #[.int .i64 y] 3)) fun e w' =>
   e=.returned (.bool (k == y))/\w'=(w.alloc (.cells #[.int .i64 y] 3)).alloc (.cells #[.int .i64 k,.int .i64 n,.string s] 25):=by
 obtain⟨hp,h0,h1,h2⟩:=h
 have hc:=World.block_lt_of_cell? _ _ hp
 have hv:=World.block_lt_of_cell? _ _ h0
 exact each11 b c v y k n s _ (by simp[hb]) ((World.cell?_alloc_past _ _ _ hc).trans hp) ((World.cell?_alloc_past _ _ _ hv).trans h0) ((World.cell?_alloc_past _ _ _ hv).trans h1) ((World.cell?_alloc_past _ _ _ hv).trans h2) (by simp[hb])
theorem ask2(y z k n:Int)(s:ByteArray)(b c v:Nat)(w:World)(hb:b=w.heap.size)(h:Asks c v k n s w) :
  Calls Tryz.prog 58 #[.slice (some ⟨b,0,none⟩) 2 2,.pointer (some ⟨c,0,none⟩)] (w.alloc (.cells #[.int .i64 y,.int .i64 z] 3)) fun e w' =>
   e=.returned (.bool (k == y||k == z))/\w'=(w.alloc (.cells #[.int .i64 y,.int .i64 z] 3)).alloc (.cells #[.int .i64 k,.int .i64 n,.string s] 25):=by
 obtain⟨hp,h0,h1,h2⟩:=h
 have hc:=World.block_lt_of_cell? _ _ hp
 have hv:=World.block_lt_of_cell? _ _ h0
 exact each12 b c v y z k n s _ (by simp[hb]) (by simp[hb]) ((World.cell?_alloc_past _ _ _ hc).trans hp) ((World.cell?_alloc_past _ _ _ hv).trans h0) ((World.cell?_alloc_past _ _ _ hv).trans h1) ((World.cell?_alloc_past _ _ _ hv).trans h2) (by simp[hb])
end Go.Proofs.YthljpnmhddfblaaGreatDoor
