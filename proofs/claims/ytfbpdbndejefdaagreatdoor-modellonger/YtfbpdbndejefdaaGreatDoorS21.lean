/- Walks of the value package, on the way to the statements of chapter 1. -/
import Derived.Test.YtfbpdbndejefdaaGreatDoorS09
import Derived.Test.YtfbpdbndejefdaaGreatDoorS06
namespace Go.Proofs.YtfbpdbndejefdaaGreatDoor.V
open Go.RowKit Go
set_option maxRecDepth 100000
set_option maxHeartbeats 8000000
set_option linter.all false
variable {k n k' n' k2 n2:Int} {s s' s2:ByteArray} {w:World} {b:Nat}
structure a6h (c v:Nat) (k n k' n':Int) (s s':ByteArray) (w:World):Prop where
 hp:w.cell? (Ad c 0)=some (.slice (some (Ad v 0)) 2 2)
 h0:w.cell? (Ad v 0)=some (vi k)
 h1:w.cell? (Ad v 1)=some (vi n)
 h2:w.cell? (Ad v 2)=some (.string s)
 h3:w.cell? (Ad v 3)=some (vi k')
 h4:w.cell? (Ad v 4)=some (vi n')
 h5:w.cell? (Ad v 5)=some (.string s')
theorem a6h.alloc{c v:Nat}(h:a6h c v k n k' n' s s' w)(o:Obj):a6h c v k n k' n' s s' (w.alloc o):=by
 obtain⟨hp,h0,h1,h2,h3,h4,h5⟩:=h
 have z:=World.block_lt_of_cell? _ _ hp
 have hv:=World.block_lt_of_cell? _ _ h0
 exact⟨(World.cell?_alloc_past _ _ _ z).trans hp,(World.cell?_alloc_past _ _ _ hv).trans h0,(World.cell?_alloc_past _ _ _ hv).trans h1,(World.cell?_alloc_past _ _ _ hv).trans h2,(World.cell?_alloc_past _ _ _ hv).trans h3,(World.cell?_alloc_past _ _ _ hv).trans h4,(World.cell?_alloc_past _ _ _ hv).trans h5⟩
theorem d1w(b c v:Nat)(y k n k' n':Int)(s s':ByteArray)(w:World)(hc:w.cell? (Ad b 0)=some (vi y))(ha:a6h c v k n k' n' s s' w)(h:(k == y)=true)(h':(k' == y)=true) :
  Cl 85 #[.slice (some (Ad b 0)) 1 1,Po c 0] w fun e z=>e=.returned (.bool true)/\z=(w.alloc (box k n s)).alloc (box k' n' s'):=by
 have q:=World.block_lt_of_cell? _ _ hc
 have hv:=World.block_lt_of_cell? _ _ ha.h0
 obtain⟨hp,h0,h1,h2,h3,h4,h5⟩:=ha
 have u:b<w.heap.size+1:=Nat.lt_succ_of_lt q
 have p:v<w.heap.size+1:=Nat.lt_succ_of_lt hv
 go_enter Tryz.func85,Tryz.ntmps85
 go_wp2
 refine wp_loop_rounds 3 ?_
 rw[rounds_succ]
 go_wp2_with (go_at_call 86;refine(contains1 _ y _ _ ((World.cell?_alloc_past _ _ _ q).trans hc)).mono ?_;rw[h];rintro e z ⟨rfl,rfl⟩)
 rw[rounds_succ]
 go_wp2_with (go_at_call 86;refine(contains1 _ y _ _ ((World.cell?_alloc_past _ _ _ (by simpa using u)).trans ((World.cell?_alloc_past _ _ _ q).trans hc))).mono ?_;rw[h'];rintro e z ⟨rfl,rfl⟩)
 rw[rounds_succ]
 go_wp2
 go_ret
 exact⟨rfl,rfl⟩
theorem d1x(b c v:Nat)(y k n k' n':Int)(s s':ByteArray)(w:World)(hc:w.cell? (Ad b 0)=some (vi y))(ha:a6h c v k n k' n' s s' w)(h:(k == y)=false) :
  Cl 85 #[.slice (some (Ad b 0)) 1 1,Po c 0] w fun e z=>e=.returned (.bool false)/\z=w.alloc (box k n s):=by
 have u:=World.block_lt_of_cell? _ _ hc
 have hv:=World.block_lt_of_cell? _ _ ha.h0
 obtain⟨hp,h0,h1,h2,h3,h4,h5⟩:=ha
 go_enter Tryz.func85,Tryz.ntmps85
 go_wp2
 refine wp_loop_rounds 3 ?_
 rw[rounds_succ]
 go_wp2_with (go_at_call 86;refine(contains1 _ y _ _ ((World.cell?_alloc_past _ _ _ u).trans hc)).mono ?_;rw[h];rintro e z ⟨rfl,rfl⟩)
 go_ret
 exact⟨rfl,rfl⟩
theorem d1y(b c v:Nat)(y k n k' n':Int)(s s':ByteArray)(w:World)(hc:w.cell? (Ad b 0)=some (vi y))(ha:a6h c v k n k' n' s s' w)(h:(k == y)=true)(h':(k' == y)=false) :
  Cl 85 #[.slice (some (Ad b 0)) 1 1,Po c 0] w fun e z=>e=.returned (.bool false)/\z=(w.alloc (box k n s)).alloc (box k' n' s'):=by
 have q:=World.block_lt_of_cell? _ _ hc
 have hv:=World.block_lt_of_cell? _ _ ha.h0
 obtain⟨hp,h0,h1,h2,h3,h4,h5⟩:=ha
 have u:b<w.heap.size+1:=Nat.lt_succ_of_lt q
 have p:v<w.heap.size+1:=Nat.lt_succ_of_lt hv
 go_enter Tryz.func85,Tryz.ntmps85
 go_wp2
 refine wp_loop_rounds 3 ?_
 rw[rounds_succ]
 go_wp2_with (go_at_call 86;refine(contains1 _ y _ _ ((World.cell?_alloc_past _ _ _ q).trans hc)).mono ?_;rw[h];rintro e z ⟨rfl,rfl⟩)
 rw[rounds_succ]
 go_wp2_with (go_at_call 86;refine(contains1 _ y _ _ ((World.cell?_alloc_past _ _ _ (by simpa using u)).trans ((World.cell?_alloc_past _ _ _ q).trans hc))).mono ?_;rw[h'];rintro e z ⟨rfl,rfl⟩)
 go_ret
 exact⟨rfl,rfl⟩
theorem d1z(b c v:Nat)(y z k n k' n':Int)(s s':ByteArray)(w:World)(hc:w.cell? (Ad b 0)=some (vi y))(hd:w.cell? (Ad b 1)=some (vi z))(ha:a6h c v k n k' n' s s' w)(h:(k == y||k == z)=true)(h':(k' == y||k' == z)=true) :
  Cl 85 #[.slice (some (Ad b 0)) 2 2,Po c 0] w fun e p=>e=.returned (.bool true)/\p=(w.alloc (box k n s)).alloc (box k' n' s'):=by
 have q:=World.block_lt_of_cell? _ _ hc
 have hv:=World.block_lt_of_cell? _ _ ha.h0
 obtain⟨hp,h0,h1,h2,h3,h4,h5⟩:=ha
 have u:b<w.heap.size+1:=Nat.lt_succ_of_lt q
 have o:v<w.heap.size+1:=Nat.lt_succ_of_lt hv
 go_enter Tryz.func85,Tryz.ntmps85
 go_wp2
 refine wp_loop_rounds 3 ?_
 rw[rounds_succ]
 go_wp2_with (go_at_call 86;refine(contains2 _ y z _ _ ((World.cell?_alloc_past _ _ _ q).trans hc) ((World.cell?_alloc_past _ _ _ q).trans hd)).mono ?_;rw[h];rintro e p ⟨rfl,rfl⟩)
 rw[rounds_succ]
 go_wp2_with (go_at_call 86;refine(contains2 _ y z _ _ ((World.cell?_alloc_past _ _ _ (by simpa using u)).trans ((World.cell?_alloc_past _ _ _ q).trans hc)) ((World.cell?_alloc_past _ _ _ (by simpa using u)).trans ((World.cell?_alloc_past _ _ _ q).trans hd))).mono ?_;rw[h'];rintro e p ⟨rfl,rfl⟩)
 rw[rounds_succ]
 go_wp2
 go_ret
 exact⟨rfl,rfl⟩
theorem d2a(b c v:Nat)(y z k n k' n':Int)(s s':ByteArray)(w:World)(hc:w.cell? (Ad b 0)=some (vi y))(hd:w.cell? (Ad b 1)=some (vi z))(ha:a6h c v k n k' n' s s' w)(h:(k == y||k == z)=false) :
  Cl 85 #[.slice (some (Ad b 0)) 2 2,Po c 0] w fun e u=>e=.returned (.bool false)/\u=w.alloc (box k n s):=by
 have q:=World.block_lt_of_cell? _ _ hc
 have hv:=World.block_lt_of_cell? _ _ ha.h0
 obtain⟨hp,h0,h1,h2,h3,h4,h5⟩:=ha
 go_enter Tryz.func85,Tryz.ntmps85
 go_wp2
 refine wp_loop_rounds 3 ?_
 rw[rounds_succ]
 go_wp2_with (go_at_call 86;refine(contains2 _ y z _ _ ((World.cell?_alloc_past _ _ _ q).trans hc) ((World.cell?_alloc_past _ _ _ q).trans hd)).mono ?_;rw[h];rintro e u ⟨rfl,rfl⟩)
 go_ret
 exact⟨rfl,rfl⟩
theorem d2b(b c v:Nat)(y z k n k' n':Int)(s s':ByteArray)(w:World)(hc:w.cell? (Ad b 0)=some (vi y))(hd:w.cell? (Ad b 1)=some (vi z))(ha:a6h c v k n k' n' s s' w)(h:(k == y||k == z)=true)(h':(k' == y||k' == z)=false) :
  Cl 85 #[.slice (some (Ad b 0)) 2 2,Po c 0] w fun e p=>e=.returned (.bool false)/\p=(w.alloc (box k n s)).alloc (box k' n' s'):=by
 have q:=World.block_lt_of_cell? _ _ hc
 have hv:=World.block_lt_of_cell? _ _ ha.h0
 obtain⟨hp,h0,h1,h2,h3,h4,h5⟩:=ha
 have u:b<w.heap.size+1:=Nat.lt_succ_of_lt q
 have o:v<w.heap.size+1:=Nat.lt_succ_of_lt hv
 go_enter Tryz.func85,Tryz.ntmps85
 go_wp2
 refine wp_loop_rounds 3 ?_
 rw[rounds_succ]
 go_wp2_with (go_at_call 86;refine(contains2 _ y z _ _ ((World.cell?_alloc_past _ _ _ q).trans hc) ((World.cell?_alloc_past _ _ _ q).trans hd)).mono ?_;rw[h];rintro e p ⟨rfl,rfl⟩)
 rw[rounds_succ]
 go_wp2_with (go_at_call 86;refine(contains2 _ y z _ _ ((World.cell?_alloc_past _ _ _ (by simpa using u)).trans ((World.cell?_alloc_past _ _ _ q).trans hc)) ((World.cell?_alloc_past _ _ _ (by simpa using u)).trans ((World.cell?_alloc_past _ _ _ q).trans hd))).mono ?_;rw[h'];rintro e p ⟨rfl,rfl⟩)
 go_ret
 exact⟨rfl,rfl⟩
theorem a3g(n:Int)(w:World) :
  Cl 72 #[vi n] w fun e z=>e=.returned (val 2 n ⟨#[]⟩)/\z=w.alloc (box 2 n ⟨#[]⟩):=by
 go_enter Tryz.func72,Tryz.ntmps72
 go_wp2
 exact bodyPost_ret (v:=val 2 n ⟨#[]⟩) (by simp[results,Tryz.results72,go_sem]) rfl ⟨rfl,rfl⟩
theorem a1c(b:Bool)(w:World) :
  Cl 73 #[.bool b] w fun e z=>e=.returned (val 1 (if b then 1 else 0) ⟨#[]⟩)/\z=w.alloc (box 1 (if b then 1 else 0) ⟨#[]⟩):=by
 cases b
 all_goals
  go_enter Tryz.func73,Tryz.ntmps73
  go_wp2
  exact bodyPost_ret (v:=val 1 _ ⟨#[]⟩) (by simp[results,Tryz.results73,go_sem]) rfl ⟨rfl,rfl⟩
theorem b3y(a b:Int)(w:World)(hb:(b == 0)=false) :
  Cl 167 #[vi a,vi b] w fun e u=>e=.returned (vi (divV a b))/\u=w:=by
 have y:b≠0:=by simpa using hb
 rcases Bool.eq_false_or_eq_true (a.tmod b == 0)with v|v
 ·have z:a.tmod b=0:=by simpa using v
  go_enter Tryz.func167,Tryz.ntmps167
  go_wp2
  go_ret
  exact⟨ret_int (by unfold divV;rw[<- c0l y z]),rfl⟩
 ·have z:¬a.tmod b=0:=by simpa using v
  clear v
  by_cases ha:a<0
  ·by_cases hc:b<0
   ·go_enter Tryz.func167,Tryz.ntmps167
    go_wp2
    go_ret
    exact⟨ret_int (by unfold divV;rw[<- b3f y (by simp[ha,hc])]),rfl⟩
   ·go_enter Tryz.func167,Tryz.ntmps167
    go_wp2
    go_ret
    exact⟨ret_int (by unfold divV;rw[<- b3g y z (by simp[ha];omega),b3e]),rfl⟩
  ·have s:¬a % b=0:=by rw[<- Int.tmod_eq_emod_of_nonneg (by omega)];exact z
   by_cases hc:b<0
   ·go_enter Tryz.func167,Tryz.ntmps167
    go_wp2
    go_ret
    exact⟨ret_int (by unfold divV;rw[<- b3g y z (by simp[hc];omega),b3e]),rfl⟩
   ·go_enter Tryz.func167,Tryz.ntmps167
    go_wp2
    go_ret
    exact⟨ret_int (by unfold divV;rw[<- b3f y (by omega)]),rfl⟩
structure a8w (b:Nat) (k n k' n' k2 n2:Int) (s s' s2:ByteArray) (w:World):Prop where
 a0:w.cell? ⟨b,0,none⟩=some (.int .i64 k)
 a1:w.cell? ⟨b,1,none⟩=some (.int .i64 n)
 a2:w.cell? ⟨b,2,none⟩=some (.string s)
 b0:w.cell? ⟨b+1,0,none⟩=some (.int .i64 k')
 b1:w.cell? ⟨b+1,1,none⟩=some (.int .i64 n')
 b2:w.cell? ⟨b+1,2,none⟩=some (.string s')
 c0:w.cell? ⟨b+1+1,0,none⟩=some (.int .i64 k2)
 c1:w.cell? ⟨b+1+1,1,none⟩=some (.int .i64 n2)
 c2:w.cell? ⟨b+1+1,2,none⟩=some (.string s2)
 f0:w.frozen? ⟨b+1+1,0,none⟩=false
 f1:w.frozen? ⟨b+1+1,1,none⟩=false
 f2:w.frozen? ⟨b+1+1,2,none⟩=false
theorem a2y(w:World)(k n k' n' k2 n2:Int)(s s' s2:ByteArray):a8w w.heap.size k n k' n' k2 n2 s s' s2 (((w.alloc (box k n s)).alloc (box k' n' s')).alloc (box k2 n2 s2)):=by
 constructor
 ·rw[World.cell?_alloc_past _ _ _ (by simp;omega),World.cell?_alloc_past _ _ _ (by simp),World.cell?_alloc_at _ _ _ _ rfl];rfl
 ·rw[World.cell?_alloc_past _ _ _ (by simp;omega),World.cell?_alloc_past _ _ _ (by simp),World.cell?_alloc_at _ _ _ _ rfl];rfl
 ·rw[World.cell?_alloc_past _ _ _ (by simp;omega),World.cell?_alloc_past _ _ _ (by simp),World.cell?_alloc_at _ _ _ _ rfl];rfl
 ·rw[World.cell?_alloc_past _ _ _ (by simp),World.cell?_alloc_at _ _ _ _ (by simp)];rfl
 ·rw[World.cell?_alloc_past _ _ _ (by simp),World.cell?_alloc_at _ _ _ _ (by simp)];rfl
 ·rw[World.cell?_alloc_past _ _ _ (by simp),World.cell?_alloc_at _ _ _ _ (by simp)];rfl
 ·rw[World.cell?_alloc_at _ _ _ _ (by simp)];rfl
 ·rw[World.cell?_alloc_at _ _ _ _ (by simp)];rfl
 ·rw[World.cell?_alloc_at _ _ _ _ (by simp)];rfl
 ·exact World.frozen?_alloc_at _ _ _ _ (by simp)
 ·exact World.frozen?_alloc_at _ _ _ _ (by simp)
 ·exact World.frozen?_alloc_at _ _ _ _ (by simp)
theorem a8w.on{w1:World}(h:a8w b k n k' n' k2 n2 s s' s2 w)(hb:Below w.heap.size w w1):a8w b k n k' n' k2 n2 s s' s2 w1:=by
 have lc:=World.block_lt_of_cell? _ _ h.c0
 exact⟨cell_later hb h.a0,cell_later hb h.a1,cell_later hb h.a2,cell_later hb h.b0,cell_later hb h.b1,cell_later hb h.b2,cell_later hb h.c0,cell_later hb h.c1,cell_later hb h.c2,(hb.frozen (p:=⟨b+1+1,0,none⟩) lc).trans h.f0,(hb.frozen (p:=⟨b+1+1,1,none⟩) lc).trans h.f1,(hb.frozen (p:=⟨b+1+1,2,none⟩) lc).trans h.f2⟩
theorem a8w.size(h:a8w b k n k' n' k2 n2 s s' s2 w):b+1+1<w.heap.size:=World.block_lt_of_cell? _ _ h.c0
theorem a2p(w:World)(o1 o2 o3:Obj):Below w.heap.size w (((w.alloc o1).alloc o2).alloc o3):=ext_alloc (ext_alloc (ext_alloc (Below.refl _ _) _) _) _
theorem a8e(k n k' n':Int)(s s':ByteArray)(k3 n3 er:Int)(s3:ByteArray)(w:World)(ha:mayB k n s=true)(hb:mayB k' n' s'=true)(hr:∀w,Calls Tryz.prog 156 #[.int .i64 1,val k n s,val k' n' s'] w fun e p=>e=.returned (.tuple #[val k3 n3 s3,.int .i64 er])/\Below w.heap.size w p) :
  Calls Tryz.prog 137 #[.int .i64 1,val k n s,val k' n' s'] w fun e p=>e=.returned (.tuple #[val k3 n3 s3,.int .i64 er])/\Below w.heap.size w p:=by
 have B0:=a2y w k n k' n' 0 0 s s' ⟨#[]⟩
 go_enter Tryz.func137,Tryz.ntmps137
 go_wp2_with (go_at_call 35;refine(a1r _ _ _ _ ha).mono ?_;rintro e w1 ⟨rfl,u⟩;have m:=B0.on u;obtain⟨a0,a1,a2,b0,b1,b2,c0,c1,c2,f0,f1,f2⟩:=id m;refine Hid.out ?_)
 refine Lib.hid ?_
 go_wp2_with (go_at_call 35;refine(a1r _ _ _ _ hb).mono ?_;rintro e w2 ⟨rfl,y⟩;clear a0 a1 a2 b0 b1 b2 c0 c1 c2 f0 f1 f2;have B2:=m.on y;obtain⟨a0,a1,a2,b0,b1,b2,c0,c1,c2,f0,f1,f2⟩:=id B2;refine Hid.out ?_)
 refine Lib.hid ?_
 go_wp2_with (go_at_call 156;refine(hr _).mono ?_;rintro e j ⟨rfl,z⟩;clear a0 a1 a2 b0 b1 b2 c0 c1 c2 f0 f1 f2;have o:=B2.on z;obtain⟨a0,a1,a2,b0,b1,b2,c0,c1,c2,f0,f1,f2⟩:=id o;refine Hid.out ?_)
 refine Lib.hid ?_
 have i:=o.size
 go_wp2
 refine bodyPost_ret (v:=.tuple #[val k3 n3 s3,.int .i64 er]) (by simp[results,Tryz.results137,go_sem,c0,c1,c2]) rfl ⟨rfl,?_⟩
 have q:=ext_trans (a2p w _ _ _) (ext_trans u (ext_trans y z))
 exact((q.setCell (by simp;omega) _).setCell (by simp;omega) _).setCell (by simp;omega) _
theorem a8f(k n k' n':Int)(s s':ByteArray)(k3 n3 er:Int)(s3:ByteArray)(w:World)(ha:mayB k n s=true)(hb:mayB k' n' s'=true)(hr:∀w,Calls Tryz.prog 156 #[.int .i64 2,val k n s,val k' n' s'] w fun e p=>e=.returned (.tuple #[val k3 n3 s3,.int .i64 er])/\Below w.heap.size w p) :
  Calls Tryz.prog 137 #[.int .i64 2,val k n s,val k' n' s'] w fun e p=>e=.returned (.tuple #[val k3 n3 s3,.int .i64 er])/\Below w.heap.size w p:=by
 have B0:=a2y w k n k' n' 0 0 s s' ⟨#[]⟩
 go_enter Tryz.func137,Tryz.ntmps137
 go_wp2_with (go_at_call 35;refine(a1r _ _ _ _ ha).mono ?_;rintro e w1 ⟨rfl,u⟩;have m:=B0.on u;obtain⟨a0,a1,a2,b0,b1,b2,c0,c1,c2,f0,f1,f2⟩:=id m;refine Hid.out ?_)
 refine Lib.hid ?_
 go_wp2_with (go_at_call 35;refine(a1r _ _ _ _ hb).mono ?_;rintro e w2 ⟨rfl,y⟩;clear a0 a1 a2 b0 b1 b2 c0 c1 c2 f0 f1 f2;have B2:=m.on y;obtain⟨a0,a1,a2,b0,b1,b2,c0,c1,c2,f0,f1,f2⟩:=id B2;refine Hid.out ?_)
 refine Lib.hid ?_
 go_wp2_with (go_at_call 156;refine(hr _).mono ?_;rintro e j ⟨rfl,z⟩;clear a0 a1 a2 b0 b1 b2 c0 c1 c2 f0 f1 f2;have o:=B2.on z;obtain⟨a0,a1,a2,b0,b1,b2,c0,c1,c2,f0,f1,f2⟩:=id o;refine Hid.out ?_)
 refine Lib.hid ?_
 have i:=o.size
 go_wp2
 refine bodyPost_ret (v:=.tuple #[val k3 n3 s3,.int .i64 er]) (by simp[results,Tryz.results137,go_sem,c0,c1,c2]) rfl ⟨rfl,?_⟩
 have q:=ext_trans (a2p w _ _ _) (ext_trans u (ext_trans y z))
 exact((q.setCell (by simp;omega) _).setCell (by simp;omega) _).setCell (by simp;omega) _
theorem a8g(k n k' n':Int)(s s':ByteArray)(k3 n3 er:Int)(s3:ByteArray)(w:World)(ha:mayB k n s=true)(hb:mayB k' n' s'=true)(hr:∀w,Calls Tryz.prog 156 #[.int .i64 3,val k n s,val k' n' s'] w fun e p=>e=.returned (.tuple #[val k3 n3 s3,.int .i64 er])/\Below w.heap.size w p) :
  Calls Tryz.prog 137 #[.int .i64 3,val k n s,val k' n' s'] w fun e p=>e=.returned (.tuple #[val k3 n3 s3,.int .i64 er])/\Below w.heap.size w p:=by
 have B0:=a2y w k n k' n' 0 0 s s' ⟨#[]⟩
 go_enter Tryz.func137,Tryz.ntmps137
 go_wp2_with (go_at_call 35;refine(a1r _ _ _ _ ha).mono ?_;rintro e w1 ⟨rfl,u⟩;have m:=B0.on u;obtain⟨a0,a1,a2,b0,b1,b2,c0,c1,c2,f0,f1,f2⟩:=id m;refine Hid.out ?_)
 refine Lib.hid ?_
 go_wp2_with (go_at_call 35;refine(a1r _ _ _ _ hb).mono ?_;rintro e w2 ⟨rfl,y⟩;clear a0 a1 a2 b0 b1 b2 c0 c1 c2 f0 f1 f2;have B2:=m.on y;obtain⟨a0,a1,a2,b0,b1,b2,c0,c1,c2,f0,f1,f2⟩:=id B2;refine Hid.out ?_)
 refine Lib.hid ?_
 go_wp2_with (go_at_call 156;refine(hr _).mono ?_;rintro e j ⟨rfl,z⟩;clear a0 a1 a2 b0 b1 b2 c0 c1 c2 f0 f1 f2;have o:=B2.on z;obtain⟨a0,a1,a2,b0,b1,b2,c0,c1,c2,f0,f1,f2⟩:=id o;refine Hid.out ?_)
 refine Lib.hid ?_
 have i:=o.size
 go_wp2
 refine bodyPost_ret (v:=.tuple #[val k3 n3 s3,.int .i64 er]) (by simp[results,Tryz.results137,go_sem,c0,c1,c2]) rfl ⟨rfl,?_⟩
 have q:=ext_trans (a2p w _ _ _) (ext_trans u (ext_trans y z))
 exact((q.setCell (by simp;omega) _).setCell (by simp;omega) _).setCell (by simp;omega) _
theorem a6a(k n k' n':Int)(s s':ByteArray)(k3 n3 er:Int)(s3:ByteArray)(w:World)(ha:mayB k n s=true)(hb:mayB k' n' s'=true)(hr:∀w,Calls Tryz.prog 156 #[.int .i64 4,val k n s,val k' n' s'] w fun e p=>e=.returned (.tuple #[val k3 n3 s3,.int .i64 er])/\Below w.heap.size w p) :
  Calls Tryz.prog 137 #[.int .i64 4,val k n s,val k' n' s'] w fun e p=>e=.returned (.tuple #[val k3 n3 s3,.int .i64 er])/\Below w.heap.size w p:=by
 have B0:=a2y w k n k' n' 0 0 s s' ⟨#[]⟩
 go_enter Tryz.func137,Tryz.ntmps137
 go_wp2_with (go_at_call 35;refine(a1r _ _ _ _ ha).mono ?_;rintro e w1 ⟨rfl,u⟩;have m:=B0.on u;obtain⟨a0,a1,a2,b0,b1,b2,c0,c1,c2,f0,f1,f2⟩:=id m;refine Hid.out ?_)
 refine Lib.hid ?_
 go_wp2_with (go_at_call 35;refine(a1r _ _ _ _ hb).mono ?_;rintro e w2 ⟨rfl,y⟩;clear a0 a1 a2 b0 b1 b2 c0 c1 c2 f0 f1 f2;have B2:=m.on y;obtain⟨a0,a1,a2,b0,b1,b2,c0,c1,c2,f0,f1,f2⟩:=id B2;refine Hid.out ?_)
 refine Lib.hid ?_
 go_wp2_with (go_at_call 156;refine(hr _).mono ?_;rintro e j ⟨rfl,z⟩;clear a0 a1 a2 b0 b1 b2 c0 c1 c2 f0 f1 f2;have o:=B2.on z;obtain⟨a0,a1,a2,b0,b1,b2,c0,c1,c2,f0,f1,f2⟩:=id o;refine Hid.out ?_)
 refine Lib.hid ?_
 have i:=o.size
 go_wp2
 refine bodyPost_ret (v:=.tuple #[val k3 n3 s3,.int .i64 er]) (by simp[results,Tryz.results137,go_sem,c0,c1,c2]) rfl ⟨rfl,?_⟩
 have q:=ext_trans (a2p w _ _ _) (ext_trans u (ext_trans y z))
 exact((q.setCell (by simp;omega) _).setCell (by simp;omega) _).setCell (by simp;omega) _
theorem a6b(k n k' n':Int)(s s':ByteArray)(k3 n3 er:Int)(s3:ByteArray)(w:World)(ha:mayB k n s=true)(hb:mayB k' n' s'=true)(hr:∀w,Calls Tryz.prog 156 #[.int .i64 5,val k n s,val k' n' s'] w fun e p=>e=.returned (.tuple #[val k3 n3 s3,.int .i64 er])/\Below w.heap.size w p) :
  Calls Tryz.prog 137 #[.int .i64 5,val k n s,val k' n' s'] w fun e p=>e=.returned (.tuple #[val k3 n3 s3,.int .i64 er])/\Below w.heap.size w p:=by
 have B0:=a2y w k n k' n' 0 0 s s' ⟨#[]⟩
 go_enter Tryz.func137,Tryz.ntmps137
 go_wp2_with (go_at_call 35;refine(a1r _ _ _ _ ha).mono ?_;rintro e w1 ⟨rfl,u⟩;have m:=B0.on u;obtain⟨a0,a1,a2,b0,b1,b2,c0,c1,c2,f0,f1,f2⟩:=id m;refine Hid.out ?_)
 refine Lib.hid ?_
 go_wp2_with (go_at_call 35;refine(a1r _ _ _ _ hb).mono ?_;rintro e w2 ⟨rfl,y⟩;clear a0 a1 a2 b0 b1 b2 c0 c1 c2 f0 f1 f2;have B2:=m.on y;obtain⟨a0,a1,a2,b0,b1,b2,c0,c1,c2,f0,f1,f2⟩:=id B2;refine Hid.out ?_)
 refine Lib.hid ?_
 go_wp2_with (go_at_call 156;refine(hr _).mono ?_;rintro e j ⟨rfl,z⟩;clear a0 a1 a2 b0 b1 b2 c0 c1 c2 f0 f1 f2;have o:=B2.on z;obtain⟨a0,a1,a2,b0,b1,b2,c0,c1,c2,f0,f1,f2⟩:=id o;refine Hid.out ?_)
 refine Lib.hid ?_
 have i:=o.size
 go_wp2
 refine bodyPost_ret (v:=.tuple #[val k3 n3 s3,.int .i64 er]) (by simp[results,Tryz.results137,go_sem,c0,c1,c2]) rfl ⟨rfl,?_⟩
 have q:=ext_trans (a2p w _ _ _) (ext_trans u (ext_trans y z))
 exact((q.setCell (by simp;omega) _).setCell (by simp;omega) _).setCell (by simp;omega) _
theorem a2z(k n k' n':Int)(s s':ByteArray)(k3 n3 er:Int)(s3:ByteArray)(w:World)(ha:mayB k n s=true)(hb:mayB k' n' s'=true)(hr:∀w,Calls Tryz.prog 157 #[.int .i64 8,val k n s,val k' n' s'] w fun e p=>e=.returned (.tuple #[val k3 n3 s3,.int .i64 er])/\Below w.heap.size w p) :
  Calls Tryz.prog 137 #[.int .i64 8,val k n s,val k' n' s'] w fun e p=>e=.returned (.tuple #[val k3 n3 s3,.int .i64 er])/\Below w.heap.size w p:=by
 have B0:=a2y w k n k' n' 0 0 s s' ⟨#[]⟩
 go_enter Tryz.func137,Tryz.ntmps137
 go_wp2_with (go_at_call 35;refine(a1r _ _ _ _ ha).mono ?_;rintro e w1 ⟨rfl,u⟩;have m:=B0.on u;obtain⟨a0,a1,a2,b0,b1,b2,c0,c1,c2,f0,f1,f2⟩:=id m;refine Hid.out ?_)
 refine Lib.hid ?_
 go_wp2_with (go_at_call 35;refine(a1r _ _ _ _ hb).mono ?_;rintro e w2 ⟨rfl,y⟩;clear a0 a1 a2 b0 b1 b2 c0 c1 c2 f0 f1 f2;have B2:=m.on y;obtain⟨a0,a1,a2,b0,b1,b2,c0,c1,c2,f0,f1,f2⟩:=id B2;refine Hid.out ?_)
 refine Lib.hid ?_
 go_wp2_with (go_at_call 157;refine(hr _).mono ?_;rintro e j ⟨rfl,z⟩;clear a0 a1 a2 b0 b1 b2 c0 c1 c2 f0 f1 f2;have o:=B2.on z;obtain⟨a0,a1,a2,b0,b1,b2,c0,c1,c2,f0,f1,f2⟩:=id o;refine Hid.out ?_)
 refine Lib.hid ?_
 have i:=o.size
 go_wp2
 refine bodyPost_ret (v:=.tuple #[val k3 n3 s3,.int .i64 er]) (by simp[results,Tryz.results137,go_sem,c0,c1,c2]) rfl ⟨rfl,?_⟩
 have q:=ext_trans (a2p w _ _ _) (ext_trans u (ext_trans y z))
 exact((q.setCell (by simp;omega) _).setCell (by simp;omega) _).setCell (by simp;omega) _
theorem a3a(k n k' n':Int)(s s':ByteArray)(k3 n3 er:Int)(s3:ByteArray)(w:World)(ha:mayB k n s=true)(hb:mayB k' n' s'=true)(hr:∀w,Calls Tryz.prog 157 #[.int .i64 9,val k n s,val k' n' s'] w fun e p=>e=.returned (.tuple #[val k3 n3 s3,.int .i64 er])/\Below w.heap.size w p) :
  Calls Tryz.prog 137 #[.int .i64 9,val k n s,val k' n' s'] w fun e p=>e=.returned (.tuple #[val k3 n3 s3,.int .i64 er])/\Below w.heap.size w p:=by
 have B0:=a2y w k n k' n' 0 0 s s' ⟨#[]⟩
 go_enter Tryz.func137,Tryz.ntmps137
 go_wp2_with (go_at_call 35;refine(a1r _ _ _ _ ha).mono ?_;rintro e w1 ⟨rfl,u⟩;have m:=B0.on u;obtain⟨a0,a1,a2,b0,b1,b2,c0,c1,c2,f0,f1,f2⟩:=id m;refine Hid.out ?_)
 refine Lib.hid ?_
 go_wp2_with (go_at_call 35;refine(a1r _ _ _ _ hb).mono ?_;rintro e w2 ⟨rfl,y⟩;clear a0 a1 a2 b0 b1 b2 c0 c1 c2 f0 f1 f2;have B2:=m.on y;obtain⟨a0,a1,a2,b0,b1,b2,c0,c1,c2,f0,f1,f2⟩:=id B2;refine Hid.out ?_)
 refine Lib.hid ?_
 go_wp2_with (go_at_call 157;refine(hr _).mono ?_;rintro e j ⟨rfl,z⟩;clear a0 a1 a2 b0 b1 b2 c0 c1 c2 f0 f1 f2;have o:=B2.on z;obtain⟨a0,a1,a2,b0,b1,b2,c0,c1,c2,f0,f1,f2⟩:=id o;refine Hid.out ?_)
 refine Lib.hid ?_
 have i:=o.size
 go_wp2
 refine bodyPost_ret (v:=.tuple #[val k3 n3 s3,.int .i64 er]) (by simp[results,Tryz.results137,go_sem,c0,c1,c2]) rfl ⟨rfl,?_⟩
 have q:=ext_trans (a2p w _ _ _) (ext_trans u (ext_trans y z))
 exact((q.setCell (by simp;omega) _).setCell (by simp;omega) _).setCell (by simp;omega) _
theorem d6h(op k n k' n':Int)(s s':ByteArray)(w:World)(h:op<1) :
  Cl 137 #[vi op,val k n s,val k' n' s'] w fun e z=>e=.returned (.tuple #[val 0 0 ⟨#[]⟩,vi 2])/\Bw w z:=by
 go_enter Tryz.func137,Tryz.ntmps137
 go_wp2
 refine bodyPost_ret (v:=.tuple #[val 0 0 ⟨#[]⟩,vi 2]) (by simp[results,Tryz.results137,go_sem]) rfl ⟨rfl,?_⟩
 exact a2p _ _ _ _
theorem d2c(op k n k' n':Int)(s s':ByteArray)(w:World)(h:11<op) :
  Cl 137 #[vi op,val k n s,val k' n' s'] w fun e z=>e=.returned (.tuple #[val 0 0 ⟨#[]⟩,vi 2])/\Bw w z:=by
 go_enter Tryz.func137,Tryz.ntmps137
 go_wp2
 refine bodyPost_ret (v:=.tuple #[val 0 0 ⟨#[]⟩,vi 2]) (by simp[results,Tryz.results137,go_sem]) rfl ⟨rfl,?_⟩
 exact a2p _ _ _ _
theorem op_a(op k n k' n':Int)(s s':ByteArray)(w:World)(h1:1<=op)(h2:op<=11)(ha:mayB k n s=false) :
  Cl 137 #[vi op,val k n s,val k' n' s'] w fun e q=>e=.returned (.tuple #[val 0 0 ⟨#[]⟩,vi 2])/\Bw w q:=by
 have B0:=a2y w k n k' n' 0 0 s s' ⟨#[]⟩
 go_enter Tryz.func137,Tryz.ntmps137
 go_wp2_with (go_at_call 35;refine(c0p _ _ _ _ ha).mono ?_;rintro e w1 ⟨rfl,z⟩;have u:=B0.on z;obtain⟨a0,a1,a2,b0,b1,b2,c0,c1,c2,f0,f1,f2⟩:=id u;refine Hid.out ?_)
 refine Lib.hid ?_
 have p:=u.size
 go_wp2
 refine bodyPost_ret (v:=.tuple #[val 0 0 ⟨#[]⟩,vi 2]) (by simp[results,Tryz.results137,go_sem,c0,c1,c2]) rfl ⟨rfl,?_⟩
 have y:=ext_trans (a2p w _ _ _) z
 exact((y.setCell (by simp;omega) _).setCell (by simp;omega) _).setCell (by simp;omega) _
theorem op_b(op k n k' n':Int)(s s':ByteArray)(w:World)(h1:1<=op)(h2:op<=11)(ha:mayB k n s=true)(hb:mayB k' n' s'=false) :
  Cl 137 #[vi op,val k n s,val k' n' s'] w fun e p=>e=.returned (.tuple #[val 0 0 ⟨#[]⟩,vi 2])/\Bw w p:=by
 have B0:=a2y w k n k' n' 0 0 s s' ⟨#[]⟩
 go_enter Tryz.func137,Tryz.ntmps137
 go_wp2_with (go_at_call 35;refine(a1r _ _ _ _ ha).mono ?_;rintro e w1 ⟨rfl,y⟩;have q:=B0.on y;obtain⟨a0,a1,a2,b0,b1,b2,c0,c1,c2,f0,f1,f2⟩:=id q;refine Hid.out ?_)
 refine Lib.hid ?_
 go_wp2_with (go_at_call 35;refine(c0p _ _ _ _ hb).mono ?_;rintro e w2 ⟨rfl,z⟩;clear a0 a1 a2 b0 b1 b2 c0 c1 c2 f0 f1 f2;have B2:=q.on z;obtain⟨a0,a1,a2,b0,b1,b2,c0,c1,c2,f0,f1,f2⟩:=id B2;refine Hid.out ?_)
 refine Lib.hid ?_
 have o:=B2.size
 go_wp2
 refine bodyPost_ret (v:=.tuple #[val 0 0 ⟨#[]⟩,vi 2]) (by simp[results,Tryz.results137,go_sem,c0,c1,c2]) rfl ⟨rfl,?_⟩
 have u:=ext_trans (a2p w _ _ _) (ext_trans y z)
 exact((u.setCell (by simp;omega) _).setCell (by simp;omega) _).setCell (by simp;omega) _
theorem c2o(k n:Int)(s:ByteArray)(w:World)(ha:mayB k n s=true)(hb:mayB k n s=true) :
  Cl 137 #[vi 7,val k n s,val k n s] w fun e p=>e=.returned (.tuple #[val 1 1 ⟨#[]⟩,vi 0])/\Bw w p:=by
 have B0:=a2y w k n k n 0 0 s s ⟨#[]⟩
 go_enter Tryz.func137,Tryz.ntmps137
 go_wp2_with (go_at_call 35;refine(a1r _ _ _ _ ha).mono ?_;rintro e w1 ⟨rfl,y⟩;have q:=B0.on y;obtain⟨a0,a1,a2,b0,b1,b2,c0,c1,c2,f0,f1,f2⟩:=id q;refine Hid.out ?_)
 refine Lib.hid ?_
 go_wp2_with (go_at_call 35;refine(a1r _ _ _ _ hb).mono ?_;rintro e w2 ⟨rfl,z⟩;clear a0 a1 a2 b0 b1 b2 c0 c1 c2 f0 f1 f2;have B2:=q.on z;obtain⟨a0,a1,a2,b0,b1,b2,c0,c1,c2,f0,f1,f2⟩:=id B2;refine Hid.out ?_)
 refine Lib.hid ?_
 have o:=B2.size
 go_wp2_with (go_at_call 73;refine(a1c true _).mono ?_;rintro e m ⟨rfl,rfl⟩)
 refine bodyPost_ret (v:=.tuple #[val 1 1 ⟨#[]⟩,vi 0]) (by simp[results,Tryz.results137,go_sem,c0,c1,c2,o]) rfl ⟨rfl,?_⟩
 have u:=ext_trans (a2p w _ _ _) (ext_trans y z)
 exact ext_alloc (((u.setCell (by simp;omega) _).setCell (by simp;omega) _).setCell (by simp;omega) _) _
theorem c2p(k n k' n':Int)(s s':ByteArray)(w:World)(ha:mayB k n s=true)(hb:mayB k' n' s'=true)(hk:¬k=k') :
  Cl 137 #[vi 7,val k n s,val k' n' s'] w fun e p=>e=.returned (.tuple #[val 1 0 ⟨#[]⟩,vi 0])/\Bw w p:=by
 have B0:=a2y w k n k' n' 0 0 s s' ⟨#[]⟩
 go_enter Tryz.func137,Tryz.ntmps137
 go_wp2_with (go_at_call 35;refine(a1r _ _ _ _ ha).mono ?_;rintro e w1 ⟨rfl,y⟩;have q:=B0.on y;obtain⟨a0,a1,a2,b0,b1,b2,c0,c1,c2,f0,f1,f2⟩:=id q;refine Hid.out ?_)
 refine Lib.hid ?_
 go_wp2_with (go_at_call 35;refine(a1r _ _ _ _ hb).mono ?_;rintro e w2 ⟨rfl,z⟩;clear a0 a1 a2 b0 b1 b2 c0 c1 c2 f0 f1 f2;have B2:=q.on z;obtain⟨a0,a1,a2,b0,b1,b2,c0,c1,c2,f0,f1,f2⟩:=id B2;refine Hid.out ?_)
 refine Lib.hid ?_
 have o:=B2.size
 go_wp2_with (go_at_call 73;refine(a1c false _).mono ?_;rintro e m ⟨rfl,rfl⟩)
 refine bodyPost_ret (v:=.tuple #[val 1 0 ⟨#[]⟩,vi 0]) (by simp[results,Tryz.results137,go_sem,c0,c1,c2,o]) rfl ⟨rfl,?_⟩
 have u:=ext_trans (a2p w _ _ _) (ext_trans y z)
 exact ext_alloc (((u.setCell (by simp;omega) _).setCell (by simp;omega) _).setCell (by simp;omega) _) _
theorem c2q(k n n':Int)(s s':ByteArray)(w:World)(ha:mayB k n s=true)(hb:mayB k n' s'=true)(hk:¬n=n') :
  Cl 137 #[vi 7,val k n s,val k n' s'] w fun e p=>e=.returned (.tuple #[val 1 0 ⟨#[]⟩,vi 0])/\Bw w p:=by
 have B0:=a2y w k n k n' 0 0 s s' ⟨#[]⟩
 go_enter Tryz.func137,Tryz.ntmps137
 go_wp2_with (go_at_call 35;refine(a1r _ _ _ _ ha).mono ?_;rintro e w1 ⟨rfl,y⟩;have q:=B0.on y;obtain⟨a0,a1,a2,b0,b1,b2,c0,c1,c2,f0,f1,f2⟩:=id q;refine Hid.out ?_)
 refine Lib.hid ?_
 go_wp2_with (go_at_call 35;refine(a1r _ _ _ _ hb).mono ?_;rintro e w2 ⟨rfl,z⟩;clear a0 a1 a2 b0 b1 b2 c0 c1 c2 f0 f1 f2;have B2:=q.on z;obtain⟨a0,a1,a2,b0,b1,b2,c0,c1,c2,f0,f1,f2⟩:=id B2;refine Hid.out ?_)
 refine Lib.hid ?_
 have o:=B2.size
 go_wp2_with (go_at_call 73;refine(a1c false _).mono ?_;rintro e m ⟨rfl,rfl⟩)
 refine bodyPost_ret (v:=.tuple #[val 1 0 ⟨#[]⟩,vi 0]) (by simp[results,Tryz.results137,go_sem,c0,c1,c2,o]) rfl ⟨rfl,?_⟩
 have u:=ext_trans (a2p w _ _ _) (ext_trans y z)
 exact ext_alloc (((u.setCell (by simp;omega) _).setCell (by simp;omega) _).setCell (by simp;omega) _) _
theorem c2r(k n:Int)(s s':ByteArray)(w:World)(ha:mayB k n s=true)(hb:mayB k n s'=true)(hk:¬s.toList=s'.toList) :
  Cl 137 #[vi 7,val k n s,val k n s'] w fun e p=>e=.returned (.tuple #[val 1 0 ⟨#[]⟩,vi 0])/\Bw w p:=by
 have B0:=a2y w k n k n 0 0 s s' ⟨#[]⟩
 go_enter Tryz.func137,Tryz.ntmps137
 go_wp2_with (go_at_call 35;refine(a1r _ _ _ _ ha).mono ?_;rintro e w1 ⟨rfl,y⟩;have q:=B0.on y;obtain⟨a0,a1,a2,b0,b1,b2,c0,c1,c2,f0,f1,f2⟩:=id q;refine Hid.out ?_)
 refine Lib.hid ?_
 go_wp2_with (go_at_call 35;refine(a1r _ _ _ _ hb).mono ?_;rintro e w2 ⟨rfl,z⟩;clear a0 a1 a2 b0 b1 b2 c0 c1 c2 f0 f1 f2;have B2:=q.on z;obtain⟨a0,a1,a2,b0,b1,b2,c0,c1,c2,f0,f1,f2⟩:=id B2;refine Hid.out ?_)
 refine Lib.hid ?_
 have o:=B2.size
 go_wp2_with (go_at_call 73;refine(a1c false _).mono ?_;rintro e m ⟨rfl,rfl⟩)
 refine bodyPost_ret (v:=.tuple #[val 1 0 ⟨#[]⟩,vi 0]) (by simp[results,Tryz.results137,go_sem,c0,c1,c2,o]) rfl ⟨rfl,?_⟩
 have u:=ext_trans (a2p w _ _ _) (ext_trans y z)
 exact ext_alloc (((u.setCell (by simp;omega) _).setCell (by simp;omega) _).setCell (by simp;omega) _) _
theorem a0m(w:World)(c v:Nat)(hv:v=w.heap.size)(hc:c=w.heap.size+1)(k n k' n':Int)(s s':ByteArray):a6h c v k n k' n' s s'
  ((w.alloc (.cells #[vi k,vi n,.string s,vi k',vi n',.string s'] 52)).alloc (.cells #[.slice (some (Ad v 0)) 2 2] 61)):=by
 subst hv;subst hc
 constructor
 ·rw[World.cell?_alloc_at _ _ _ _ (by simp)];rfl
 all_goals rw[World.cell?_alloc_past _ _ _ (by simp),World.cell?_alloc_at _ _ _ _ rfl];rfl
theorem a3b(y k n k' n':Int)(s s':ByteArray)(b c v:Nat)(w:World)(hb:b=w.heap.size)(ha:a6h c v k n k' n' s s' w)(h:(k == y)=true)(h':(k' == y)=true) :
  Cl 85 #[.slice (some (Ad b 0)) 1 1,Po c 0] (w.alloc (.cells #[vi y] 3)) fun e z=>e=.returned (.bool true)/\z=((w.alloc (.cells #[vi y] 3)).alloc (box k n s)).alloc (box k' n' s') :=
 d1w b c v y k n k' n' s s' _ (by rw[World.cell?_alloc_at _ _ _ _ hb];rfl) (ha.alloc _) h h'
theorem a5o(y k n k' n':Int)(s s':ByteArray)(b c v:Nat)(w:World)(hb:b=w.heap.size)(ha:a6h c v k n k' n' s s' w)(h:(k == y)=false) :
  Cl 85 #[.slice (some (Ad b 0)) 1 1,Po c 0] (w.alloc (.cells #[vi y] 3)) fun e z=>e=.returned (.bool false)/\z=(w.alloc (.cells #[vi y] 3)).alloc (box k n s) :=
 d1x b c v y k n k' n' s s' _ (by rw[World.cell?_alloc_at _ _ _ _ hb];rfl) (ha.alloc _) h
theorem c2s(y k n k' n':Int)(s s':ByteArray)(b c v:Nat)(w:World)(hb:b=w.heap.size)(ha:a6h c v k n k' n' s s' w)(h:(k == y)=true)(h':(k' == y)=false) :
  Cl 85 #[.slice (some (Ad b 0)) 1 1,Po c 0] (w.alloc (.cells #[vi y] 3)) fun e z=>e=.returned (.bool false)/\z=((w.alloc (.cells #[vi y] 3)).alloc (box k n s)).alloc (box k' n' s') :=
 d1y b c v y k n k' n' s s' _ (by rw[World.cell?_alloc_at _ _ _ _ hb];rfl) (ha.alloc _) h h'
theorem c9r(y z k n k' n':Int)(s s':ByteArray)(b c v:Nat)(w:World)(hb:b=w.heap.size)(ha:a6h c v k n k' n' s s' w)(h:(k == y||k == z)=true)(h':(k' == y||k' == z)=true) :
  Cl 85 #[.slice (some (Ad b 0)) 2 2,Po c 0] (w.alloc (.cells #[vi y,vi z] 3)) fun e u=>e=.returned (.bool true)/\u=((w.alloc (.cells #[vi y,vi z] 3)).alloc (box k n s)).alloc (box k' n' s') :=
 d1z b c v y z k n k' n' s s' _ (by rw[World.cell?_alloc_at _ _ _ _ hb];rfl) (by rw[World.cell?_alloc_at _ _ _ _ hb];rfl) (ha.alloc _) h h'
theorem d6i(y z k n k' n':Int)(s s':ByteArray)(b c v:Nat)(w:World)(hb:b=w.heap.size)(ha:a6h c v k n k' n' s s' w)(h:(k == y||k == z)=false) :
  Cl 85 #[.slice (some (Ad b 0)) 2 2,Po c 0] (w.alloc (.cells #[vi y,vi z] 3)) fun e u=>e=.returned (.bool false)/\u=(w.alloc (.cells #[vi y,vi z] 3)).alloc (box k n s) :=
 d2a b c v y z k n k' n' s s' _ (by rw[World.cell?_alloc_at _ _ _ _ hb];rfl) (by rw[World.cell?_alloc_at _ _ _ _ hb];rfl) (ha.alloc _) h
theorem d6j(y z k n k' n':Int)(s s':ByteArray)(b c v:Nat)(w:World)(hb:b=w.heap.size)(ha:a6h c v k n k' n' s s' w)(h:(k == y||k == z)=true)(h':(k' == y||k' == z)=false) :
  Cl 85 #[.slice (some (Ad b 0)) 2 2,Po c 0] (w.alloc (.cells #[vi y,vi z] 3)) fun e u=>e=.returned (.bool false)/\u=((w.alloc (.cells #[vi y,vi z] 3)).alloc (box k n s)).alloc (box k' n' s') :=
 d2b b c v y z k n k' n' s s' _ (by rw[World.cell?_alloc_at _ _ _ _ hb];rfl) (by rw[World.cell?_alloc_at _ _ _ _ hb];rfl) (ha.alloc _) h h'
theorem a7m(op:Int)(k n k' n':Int)(s s':ByteArray)(w:World)(h:(k == 2)=false) :
  Cl 156 #[vi op,val k n s,val k' n' s'] w fun e z=>e=.returned (.tuple #[val 0 0 ⟨#[]⟩,vi 3])/\Bw w z:=by
 have hmf:=hmf
 go_enter Tryz.func156,Tryz.ntmps156
 go_wp2_with (first|(go_at_call 54;go_in)|(go_at_call 85;refine(a5o _ k n k' n' s s' _ _ _ _ (by simp) (a0m _ _ _ (by simp) (by simp) _ _ _ _ _ _) h).mono ?_;rintro e z ⟨rfl,rfl⟩))
 refine bodyPost_ret (v:=.tuple #[val 0 0 ⟨#[]⟩,vi 3]) (by simp[results,Tryz.results156,go_sem]) rfl ⟨rfl,?_⟩
 repeat(first|exact Below.refl _ _|refine ext_alloc ?_ _)
theorem a6c(op:Int)(k n k' n':Int)(s s':ByteArray)(w:World)(h:(k == 2)=true)(h':(k' == 2)=false) :
  Cl 156 #[vi op,val k n s,val k' n' s'] w fun e z=>e=.returned (.tuple #[val 0 0 ⟨#[]⟩,vi 3])/\Bw w z:=by
 have hmf:=hmf
 go_enter Tryz.func156,Tryz.ntmps156
 go_wp2_with (first|(go_at_call 54;go_in)|(go_at_call 85;refine(c2s _ k n k' n' s s' _ _ _ _ (by simp) (a0m _ _ _ (by simp) (by simp) _ _ _ _ _ _) h h').mono ?_;rintro e z ⟨rfl,rfl⟩))
 refine bodyPost_ret (v:=.tuple #[val 0 0 ⟨#[]⟩,vi 3]) (by simp[results,Tryz.results156,go_sem]) rfl ⟨rfl,?_⟩
 repeat(first|exact Below.refl _ _|refine ext_alloc ?_ _)
theorem b9i(k n k' n':Int)(s s':ByteArray)(w:World)(h:(k == 2)=true)(h':(k' == 2)=true) :
  Cl 156 #[vi 1,val k n s,val k' n' s'] w fun e z=>e=.returned (.tuple #[val 2 (wrap64 (n+n')) ⟨#[]⟩,vi 0])/\Bw w z:=by
 have hmf:=hmf
 go_enter Tryz.func156,Tryz.ntmps156
 go_wp2_with (first|(go_at_call 54;go_in)|(go_at_call 85;refine(a3b _ k n k' n' s s' _ _ _ _ (by simp) (a0m _ _ _ (by simp) (by simp) _ _ _ _ _ _) h h').mono ?_;rintro e z ⟨rfl,rfl⟩)|(go_at_call 72;refine(a3g _ _).mono ?_;rintro e z ⟨rfl,rfl⟩))
 refine bodyPost_ret (v:=.tuple #[val 2 (wrap64 (n+n')) ⟨#[]⟩,vi 0]) (by simp[results,Tryz.results156,go_sem]) rfl ⟨rfl,?_⟩
 repeat(first|exact Below.refl _ _|refine ext_alloc ?_ _)
theorem b1i(k n k' n':Int)(s s':ByteArray)(w:World)(h:(k == 2)=true)(h':(k' == 2)=true) :
  Cl 156 #[vi 2,val k n s,val k' n' s'] w fun e z=>e=.returned (.tuple #[val 2 (wrap64 (n-n')) ⟨#[]⟩,vi 0])/\Bw w z:=by
 have hmf:=hmf
 go_enter Tryz.func156,Tryz.ntmps156
 go_wp2_with (first|(go_at_call 54;go_in)|(go_at_call 85;refine(a3b _ k n k' n' s s' _ _ _ _ (by simp) (a0m _ _ _ (by simp) (by simp) _ _ _ _ _ _) h h').mono ?_;rintro e z ⟨rfl,rfl⟩)|(go_at_call 72;refine(a3g _ _).mono ?_;rintro e z ⟨rfl,rfl⟩))
 refine bodyPost_ret (v:=.tuple #[val 2 (wrap64 (n-n')) ⟨#[]⟩,vi 0]) (by simp[results,Tryz.results156,go_sem]) rfl ⟨rfl,?_⟩
 repeat(first|exact Below.refl _ _|refine ext_alloc ?_ _)
theorem b9j(k n k' n':Int)(s s':ByteArray)(w:World)(h:(k == 2)=true)(h':(k' == 2)=true) :
  Cl 156 #[vi 3,val k n s,val k' n' s'] w fun e z=>e=.returned (.tuple #[val 2 (wrap64 (n*n')) ⟨#[]⟩,vi 0])/\Bw w z:=by
 have hmf:=hmf
 go_enter Tryz.func156,Tryz.ntmps156
 go_wp2_with (first|(go_at_call 54;go_in)|(go_at_call 85;refine(a3b _ k n k' n' s s' _ _ _ _ (by simp) (a0m _ _ _ (by simp) (by simp) _ _ _ _ _ _) h h').mono ?_;rintro e z ⟨rfl,rfl⟩)|(go_at_call 72;refine(a3g _ _).mono ?_;rintro e z ⟨rfl,rfl⟩))
 refine bodyPost_ret (v:=.tuple #[val 2 (wrap64 (n*n')) ⟨#[]⟩,vi 0]) (by simp[results,Tryz.results156,go_sem]) rfl ⟨rfl,?_⟩
 repeat(first|exact Below.refl _ _|refine ext_alloc ?_ _)
theorem b5n(k n k' n':Int)(s s':ByteArray)(w:World)(h:(k == 2)=true)(h':(k' == 2)=true)(hz:(n' == 0)=true) :
  Cl 156 #[vi 4,val k n s,val k' n' s'] w fun e z=>e=.returned (.tuple #[val 0 0 ⟨#[]⟩,vi 7])/\Bw w z:=by
 have hmf:=hmf
 go_enter Tryz.func156,Tryz.ntmps156
 go_wp2_with (first|(go_at_call 54;go_in)|(go_at_call 85;refine(a3b _ k n k' n' s s' _ _ _ _ (by simp) (a0m _ _ _ (by simp) (by simp) _ _ _ _ _ _) h h').mono ?_;rintro e z ⟨rfl,rfl⟩))
 refine bodyPost_ret (v:=.tuple #[val 0 0 ⟨#[]⟩,vi 7]) (by simp[results,Tryz.results156,go_sem]) rfl ⟨rfl,?_⟩
 repeat(first|exact Below.refl _ _|refine ext_alloc ?_ _)
theorem b5o(k n k' n':Int)(s s':ByteArray)(w:World)(h:(k == 2)=true)(h':(k' == 2)=true)(hz:(n' == 0)=true) :
  Cl 156 #[vi 5,val k n s,val k' n' s'] w fun e z=>e=.returned (.tuple #[val 0 0 ⟨#[]⟩,vi 7])/\Bw w z:=by
 have hmf:=hmf
 go_enter Tryz.func156,Tryz.ntmps156
 go_wp2_with (first|(go_at_call 54;go_in)|(go_at_call 85;refine(a3b _ k n k' n' s s' _ _ _ _ (by simp) (a0m _ _ _ (by simp) (by simp) _ _ _ _ _ _) h h').mono ?_;rintro e z ⟨rfl,rfl⟩))
 refine bodyPost_ret (v:=.tuple #[val 0 0 ⟨#[]⟩,vi 7]) (by simp[results,Tryz.results156,go_sem]) rfl ⟨rfl,?_⟩
 repeat(first|exact Below.refl _ _|refine ext_alloc ?_ _)
theorem b9k(k n k' n':Int)(s s':ByteArray)(w:World)(h:(k == 2)=true)(h':(k' == 2)=true)(hz:(n' == 0)=false) :
  Cl 156 #[vi 4,val k n s,val k' n' s'] w fun e z=>e=.returned (.tuple #[val 2 (divV n n') ⟨#[]⟩,vi 0])/\Bw w z:=by
 have hmf:=hmf
 go_enter Tryz.func156,Tryz.ntmps156
 go_wp2_with (first|(go_at_call 54;go_in)|(go_at_call 85;refine(a3b _ k n k' n' s s' _ _ _ _ (by simp) (a0m _ _ _ (by simp) (by simp) _ _ _ _ _ _) h h').mono ?_;rintro e z ⟨rfl,rfl⟩)|(go_at_call 72;refine(a3g _ _).mono ?_;rintro e z ⟨rfl,rfl⟩)|(go_at_call 167;refine(b3y _ _ _ hz).mono ?_;rintro e z ⟨rfl,rfl⟩))
 refine bodyPost_ret (v:=.tuple #[val 2 (divV n n') ⟨#[]⟩,vi 0]) (by simp[results,Tryz.results156,go_sem]) rfl ⟨rfl,?_⟩
 repeat(first|exact Below.refl _ _|refine ext_alloc ?_ _)
theorem b9l(k n k' n':Int)(s s':ByteArray)(w:World)(h:(k == 2)=true)(h':(k' == 2)=true)(hz:(n' == 0)=false) :
  Cl 156 #[vi 5,val k n s,val k' n' s'] w fun e z=>e=.returned (.tuple #[val 2 (modV n n') ⟨#[]⟩,vi 0])/\Bw w z:=by
 have hmf:=hmf
 go_enter Tryz.func156,Tryz.ntmps156
 go_wp2_with (first|(go_at_call 54;go_in)|(go_at_call 85;refine(a3b _ k n k' n' s s' _ _ _ _ (by simp) (a0m _ _ _ (by simp) (by simp) _ _ _ _ _ _) h h').mono ?_;rintro e z ⟨rfl,rfl⟩)|(go_at_call 72;refine(a3g _ _).mono ?_;rintro e z ⟨rfl,rfl⟩)|(go_at_call 167;refine(b3y _ _ _ hz).mono ?_;rintro e z ⟨rfl,rfl⟩))
 refine bodyPost_ret (v:=.tuple #[val 2 (modV n n') ⟨#[]⟩,vi 0]) (by simp[results,Tryz.results156,go_sem];rfl) rfl ⟨rfl,?_⟩
 repeat(first|exact Below.refl _ _|refine ext_alloc ?_ _)
end Go.Proofs.YtfbpdbndejefdaaGreatDoor.V
