/- Walks of the value package, on the way to the statements of chapter 1. -/
import Derived.Test.YthljpnmhddfblaaGreatDoorS06
namespace Go.Proofs.YthljpnmhddfblaaGreatDoor
open Go.RowKit Go
set_option maxRecDepth 100000
set_option maxHeartbeats 8000000
set_option linter.all false
structure Boxes (b:Nat) (k n k' n' k2 n2:Int) (s s' s2:ByteArray) (w:World):Prop where
 a0:w.cell? ⟨b,0,none⟩=some (.int .i64 k)
 a1:w.cell? ⟨b,1,none⟩=some (.int .i64 n)
 a2:w.cell? ⟨b,2,none⟩=some (.string s)
 b0:w.cell? ⟨b+1,0,none⟩=some (.int .i64 k')
 b1:w.cell? ⟨b+1,1,none⟩=some (.int .i64 n')
 b2:w.cell? ⟨b+1,2,none⟩=some (.string s')
 c0:w.cell? ⟨b+1+1,0,none⟩=some (.int .i64 k2)
 c1:w.cell? ⟨b+1+1,1,none⟩=some (.int .i64 n2)
 c2:w.cell? ⟨b+1+1,2,none⟩=some (.string s2)
 f0:w.frozen? ⟨b+1+1,0,none⟩=false
 f1:w.frozen? ⟨b+1+1,1,none⟩=false
 f2:w.frozen? ⟨b+1+1,2,none⟩=false
theorem boxes0(w:World)(k n k' n' k2 n2:Int)(s s' s2:ByteArray):Boxes w.heap.size k n k' n' k2 n2 s s' s2 (((w.alloc (box k n s)).alloc (box k' n' s')).alloc (box k2 n2 s2)):=by
 constructor
 ·rw[World.cell?_alloc_past _ _ _ (by simp;omega),World.cell?_alloc_past _ _ _ (by simp),World.cell?_alloc_at _ _ _ _ rfl];rfl
 ·rw[World.cell?_alloc_past _ _ _ (by simp;omega),World.cell?_alloc_past _ _ _ (by simp),World.cell?_alloc_at _ _ _ _ rfl];rfl
 ·rw[World.cell?_alloc_past _ _ _ (by simp;omega),World.cell?_alloc_past _ _ _ (by simp),World.cell?_alloc_at _ _ _ _ rfl];rfl
 ·rw[World.cell?_alloc_past _ _ _ (by simp),World.cell?_alloc_at _ _ _ _ (by simp)];rfl
 ·rw[World.cell?_alloc_past _ _ _ (by simp),World.cell?_alloc_at _ _ _ _ (by simp)];rfl
 ·rw[World.cell?_alloc_past _ _ _ (by simp),World.cell?_alloc_at _ _ _ _ (by simp)];rfl
 ·rw[World.cell?_alloc_at _ _ _ _ (by simp)];rfl
 ·rw[World.cell?_alloc_at _ _ _ _ (by simp)];rfl
 ·rw[World.cell?_alloc_at _ _ _ _ (by simp)];rfl
 ·exact World.frozen?_alloc_at _ _ _ _ (by simp)
 ·exact World.frozen?_alloc_at _ _ _ _ (by simp)
 ·exact World.frozen?_alloc_at _ _ _ _ (by simp)
theorem Boxes.on{b:Nat}{k n k' n' k2 n2:Int}{s s' s2:ByteArray}{w w1:World}(h:Boxes b k n k' n' k2 n2 s s' s2 w)(hb:Below w.heap.size w w1):Boxes b k n k' n' k2 n2 s s' s2 w1:=by
 have lc:=World.block_lt_of_cell? _ _ h.c0
 exact⟨cell_later hb h.a0,cell_later hb h.a1,cell_later hb h.a2,cell_later hb h.b0,cell_later hb h.b1,cell_later hb h.b2,cell_later hb h.c0,cell_later hb h.c1,cell_later hb h.c2,(hb.frozen (p:=⟨b+1+1,0,none⟩) lc).trans h.f0,(hb.frozen (p:=⟨b+1+1,1,none⟩) lc).trans h.f1,(hb.frozen (p:=⟨b+1+1,2,none⟩) lc).trans h.f2⟩
theorem Boxes.size{b:Nat}{k n k' n' k2 n2:Int}{s s' s2:ByteArray}{w:World}(h:Boxes b k n k' n' k2 n2 s s' s2 w):b+1+1<w.heap.size:=World.block_lt_of_cell? _ _ h.c0
theorem below3(w:World)(o1 o2 o3:Obj):Below w.heap.size w (((w.alloc o1).alloc o2).alloc o3):=ext_alloc (ext_alloc (ext_alloc (Below.refl _ _) _) _) _
theorem op_reckon1(k n k' n':Int)(s s':ByteArray)(k3 n3 er:Int)(s3:ByteArray)(w:World)(ha:mayB k n s=true)(hb:mayB k' n' s'=true)
  (hr:∀w,Calls Tryz.prog 122 #[.int .i64 1,val k n s,val k' n' s'] w fun e w'=>e=.returned (.tuple #[val k3 n3 s3,.int .i64 er])/\Below w.heap.size w w') :
  Calls Tryz.prog 98 #[.int .i64 1,val k n s,val k' n' s'] w fun e w'=>e=.returned (.tuple #[val k3 n3 s3,.int .i64 er])/\Below w.heap.size w w':=by
 have B0:=boxes0 w k n k' n' 0 0 s s' ⟨#[]⟩
 go_enter Tryz.func98,Tryz.ntmps98
 go_wp2_with (go_at_call 36;refine(may_t _ _ _ _ ha).mono ?_;rintro e w1 ⟨rfl,hb1⟩;have B1:=B0.on hb1;obtain⟨a0,a1,a2,b0,b1,b2,c0,c1,c2,f0,f1,f2⟩:=id B1;refine Hid.out ?_)
 refine Lib.hid ?_
 go_wp2_with (go_at_call 36;refine(may_t _ _ _ _ hb).mono ?_;rintro e w2 ⟨rfl,hb2⟩;clear a0 a1 a2 b0 b1 b2 c0 c1 c2 f0 f1 f2;have B2:=B1.on hb2;obtain⟨a0,a1,a2,b0,b1,b2,c0,c1,c2,f0,f1,f2⟩:=id B2;refine Hid.out ?_)
 refine Lib.hid ?_
 go_wp2_with (go_at_call 122;refine(hr _).mono ?_;rintro e w3 ⟨rfl,hb3⟩;clear a0 a1 a2 b0 b1 b2 c0 c1 c2 f0 f1 f2;have B3:=B2.on hb3;obtain⟨a0,a1,a2,b0,b1,b2,c0,c1,c2,f0,f1,f2⟩:=id B3;refine Hid.out ?_)
 refine Lib.hid ?_
 have hz:=B3.size
 go_wp2
 refine bodyPost_ret (v:=.tuple #[val k3 n3 s3,.int .i64 er]) (by simp[results,Tryz.results98,go_sem,c0,c1,c2]) rfl ⟨rfl,?_⟩
 have hall:=ext_trans (below3 w _ _ _) (ext_trans hb1 (ext_trans hb2 hb3))
 exact((hall.setCell (by simp;omega) _).setCell (by simp;omega) _).setCell (by simp;omega) _
theorem op_order8(k n k' n':Int)(s s':ByteArray)(k3 n3 er:Int)(s3:ByteArray)(w:World)(ha:mayB k n s=true)(hb:mayB k' n' s'=true)
  (hr:∀w,Calls Tryz.prog 123 #[.int .i64 8,val k n s,val k' n' s'] w fun e w'=>e=.returned (.tuple #[val k3 n3 s3,.int .i64 er])/\Below w.heap.size w w') :
  Calls Tryz.prog 98 #[.int .i64 8,val k n s,val k' n' s'] w fun e w'=>e=.returned (.tuple #[val k3 n3 s3,.int .i64 er])/\Below w.heap.size w w':=by
 have B0:=boxes0 w k n k' n' 0 0 s s' ⟨#[]⟩
 go_enter Tryz.func98,Tryz.ntmps98
 go_wp2_with (go_at_call 36;refine(may_t _ _ _ _ ha).mono ?_;rintro e w1 ⟨rfl,hb1⟩;have B1:=B0.on hb1;obtain⟨a0,a1,a2,b0,b1,b2,c0,c1,c2,f0,f1,f2⟩:=id B1;refine Hid.out ?_)
 refine Lib.hid ?_
 go_wp2_with (go_at_call 36;refine(may_t _ _ _ _ hb).mono ?_;rintro e w2 ⟨rfl,hb2⟩;clear a0 a1 a2 b0 b1 b2 c0 c1 c2 f0 f1 f2;have B2:=B1.on hb2;obtain⟨a0,a1,a2,b0,b1,b2,c0,c1,c2,f0,f1,f2⟩:=id B2;refine Hid.out ?_)
 refine Lib.hid ?_
 go_wp2_with (go_at_call 123;refine(hr _).mono ?_;rintro e w3 ⟨rfl,hb3⟩;clear a0 a1 a2 b0 b1 b2 c0 c1 c2 f0 f1 f2;have B3:=B2.on hb3;obtain⟨a0,a1,a2,b0,b1,b2,c0,c1,c2,f0,f1,f2⟩:=id B3;refine Hid.out ?_)
 refine Lib.hid ?_
 have hz:=B3.size
 go_wp2
 refine bodyPost_ret (v:=.tuple #[val k3 n3 s3,.int .i64 er]) (by simp[results,Tryz.results98,go_sem,c0,c1,c2]) rfl ⟨rfl,?_⟩
 have hall:=ext_trans (below3 w _ _ _) (ext_trans hb1 (ext_trans hb2 hb3))
 exact((hall.setCell (by simp;omega) _).setCell (by simp;omega) _).setCell (by simp;omega) _
theorem op_low(op k n k' n':Int)(s s':ByteArray)(w:World)(h:op<1) :
  Calls Tryz.prog 98 #[.int .i64 op,val k n s,val k' n' s'] w fun e w'=>e=.returned (.tuple #[val 0 0 ⟨#[]⟩,.int .i64 2])/\Below w.heap.size w w':=by
 go_enter Tryz.func98,Tryz.ntmps98
 go_wp2
 refine bodyPost_ret (v:=.tuple #[val 0 0 ⟨#[]⟩,.int .i64 2]) (by simp[results,Tryz.results98,go_sem]) rfl ⟨rfl,?_⟩
 exact below3 _ _ _ _
end Go.Proofs.YthljpnmhddfblaaGreatDoor
