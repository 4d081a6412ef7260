/- Walks of the value package: what counts as true. -/
import Derived.Test.YthljpnmhddfblaaGreatDoorS06
import Derived.Deep.RegionHeld3
namespace Go.Proofs.YthljpnmhddfblaaGreatDoor
open Go.RowKit Go
set_option maxRecDepth 100000
set_option maxHeartbeats 8000000
set_option linter.all false
def Box1 (b:Nat) (k n:Int) (s:ByteArray) (w:World):Prop :=
 w.cell? ⟨b,0,none⟩=some (.int .i64 k)/\w.cell? ⟨b,1,none⟩=some (.int .i64 n)/\w.cell? ⟨b,2,none⟩=some (.string s)
theorem Box1.on{b:Nat}{k n:Int}{s:ByteArray}{w w1:World}(h:Box1 b k n s w)(hb:Below w.heap.size w w1):Box1 b k n s w1:=⟨cell_later hb h.1,cell_later hb h.2.1,cell_later hb h.2.2⟩
theorem Box1.alloc{b:Nat}{k n:Int}{s:ByteArray}{w:World}(h:Box1 b k n s w)(o:Obj):Box1 b k n s (w.alloc o):=h.on (ext_alloc (Below.refl _ _) o)
theorem box1_0(w:World)(k n:Int)(s:ByteArray):Box1 w.heap.size k n s (w.alloc (box k n s)) :=
 ⟨by rw[World.cell?_alloc_at _ _ _ _ rfl];rfl,by rw[World.cell?_alloc_at _ _ _ _ rfl];rfl,by rw[World.cell?_alloc_at _ _ _ _ rfl];rfl⟩
theorem Box1.drew{b:Nat}{k n:Int}{s:ByteArray}{w:World}(h:Box1 b k n s w):Box1 b k n s w.drew:=h
theorem ext_drew{a w:World}(h:Below a.heap.size a w):Below a.heap.size a w.drew:=h.drew
theorem each_any(a:Addr)(m:Nat)(w:World) :
  Calls Tryz.prog 45 #[.slice (some a) m m] w fun e w'=>e=.returned (.func (.func 58) #[] #[.pointer (some ⟨w.heap.size,0,none⟩)])/\w'=w.alloc (.cells #[.slice (some a) m m] 27):=by
 have hmf:=hmf
 go_enter Tryz.func45,Tryz.ntmps45
 go_wp2
 go_ret
 exact⟨rfl,rfl⟩
theorem truth_f(k n:Int)(s:ByteArray)(w:World)(h:mayB k n s=false) :
  Calls Tryz.prog 51 #[val k n s] w fun e w'=>e=.returned (.bool false)/\Below w.heap.size w w':=by
 have hmf:=hmf
 go_enter Tryz.func51,Tryz.ntmps51
 go_wp2
 go_region_with (go_at_call 36;refine(may_f _ _ _ _ h).mono ?_;rintro e w1 ⟨rfl,hb1⟩)
 all_goals
  go_wp2
  go_ret
  exact⟨rfl,ext_trans (ext_drew (ext_alloc (Below.refl _ _) _)) hb1⟩
theorem each_letter(v:Nat)(k n:Int)(s:ByteArray)(w:World)(h:Box1 v k n s w) :
  Calls Tryz.prog 45 #[.slice (some ⟨v,0,none⟩) 1 1] w fun e w'=>e=.returned (.func (.func 58) #[] #[.pointer (some ⟨w.heap.size,0,none⟩)])/\Asks w.heap.size v k n s w'/\Below w.heap.size w w':=by
 refine(each_any _ _ _).mono ?_
 rintro e w' ⟨rfl,rfl⟩
 obtain⟨h0,h1,h2⟩:=h.alloc (.cells #[.slice (some ⟨v,0,none⟩) 1 1] 27)
 exact⟨rfl,⟨by rw[World.cell?_alloc_at _ _ _ _ rfl];rfl,h0,h1,h2⟩,ext_alloc (Below.refl _ _) _⟩
theorem late(y k n:Int)(s:ByteArray)(c v:Nat)(w:World)(h:Asks c v k n s w) :
  Calls Tryz.prog 58 #[.slice (some ⟨w.heap.size,0,none⟩) 1 1,.pointer (some ⟨c,0,none⟩)] (w.alloc (.cells #[.int .i64 y] 3)) fun e w' =>
   e=.returned (.bool (k == y))/\Below (w.alloc (.cells #[.int .i64 y] 3)).heap.size (w.alloc (.cells #[.int .i64 y] 3)) w':=by
 refine(ask1 y k n s _ c v w rfl h).mono ?_
 rintro e w' ⟨rfl,rfl⟩
 exact⟨rfl,ext_alloc (Below.refl _ _) _⟩
theorem early(y k n:Int)(s:ByteArray)(b c v:Nat)(w:World)(h:Asks c v k n s w)(hc:w.cell? ⟨b,0,none⟩=some (.int .i64 y)) :
  Calls Tryz.prog 58 #[.slice (some ⟨b,0,none⟩) 1 1,.pointer (some ⟨c,0,none⟩)] w fun e w'=>e=.returned (.bool (k == y))/\Below w.heap.size w w':=by
 refine(each11 b c v y k n s w hc h.1 h.2.1 h.2.2.1 h.2.2.2 (World.block_lt_of_cell? _ _ hc)).mono ?_
 rintro e w' ⟨rfl,rfl⟩
 exact⟨rfl,ext_alloc (Below.refl _ _) _⟩
theorem truth_nil(k n:Int)(s:ByteArray)(w:World)(h:mayB k n s=true)(hk:(k == 0)=true) :
  Calls Tryz.prog 51 #[val k n s] w fun e w'=>e=.returned (.bool false)/\Below w.heap.size w w':=by
 have hmf:=hmf
 go_enter Tryz.func51,Tryz.ntmps51
 go_wp2
 go_region_with (first|(go_at_call 36;refine(may_t _ _ _ _ h).mono ?_;rintro e w1 ⟨rfl,hb1⟩;have E1:Below w.heap.size w w1:=ext_trans (ext_drew (ext_alloc (Below.refl _ _) _)) hb1;have X1:Box1 w.heap.size k n s w1:=(box1_0 w k n s).drew.on hb1;obtain⟨c0,c1,c2⟩:=id X1;have z1:=World.block_lt_of_cell? _ _ c0;dsimp only at z1)|(go_at_call 45;refine(each_letter _ k n s _ (by simp[Box1,go_sem])).mono ?_;rintro e w2 ⟨rfl,hA,hb2⟩;simp only[World.size_alloc]at hA;have E2:Below w.heap.size w w2:=ext_trans (by repeat(first|exact E1|refine ext_alloc ?_ _)) hb2;have X2:Box1 w.heap.size k n s w2:=Box1.on (by repeat(first|exact X1|refine Box1.alloc ?_ _)) hb2)|(go_at_call_of 58 w2;refine(late 0 k n s _ _ _ hA).mono ?_;rw[hk];rintro e w3 ⟨rfl,hb3⟩;have E3:Below w.heap.size w w3:=ext_trans (ext_alloc E2 _) hb3;obtain⟨d0,d1,d2⟩:=(X2.alloc _).on hb3;have z3:=World.block_lt_of_cell? _ _ d0;dsimp only at z3)|(go_at_call 58;refine(early 0 k n s _ _ _ _ hA (cell_later hb2 (by simp[go_sem]))).mono ?_;rw[hk];rintro e w3 ⟨rfl,hb3⟩;have E3:Below w.heap.size w w3:=ext_trans E2 hb3;obtain⟨d0,d1,d2⟩:=X2.on hb3;have z3:=World.block_lt_of_cell? _ _ d0;dsimp only at z3)|(go_at_call 73;refine(boolean_any false _).mono ?_;rintro e w4 ⟨rfl,rfl⟩))
 all_goals
  go_wp2
  go_ret
  refine⟨rfl,?_⟩
  first|exact E3|exact ext_alloc E3 _
end Go.Proofs.YthljpnmhddfblaaGreatDoor
