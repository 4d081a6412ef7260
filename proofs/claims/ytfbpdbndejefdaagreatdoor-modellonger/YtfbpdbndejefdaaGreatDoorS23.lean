/- Walks of the value package: what counts as true. -/
import Derived.Test.YtfbpdbndejefdaaGreatDoorS21
import Derived.Deep.RegionHeld3
namespace Go.Proofs.YtfbpdbndejefdaaGreatDoor.V
open Go.RowKit Go
set_option maxRecDepth 100000
set_option maxHeartbeats 8000000
set_option linter.all false
variable {b:Nat} {k n:Int} {s:ByteArray} {w:World}
def Box1 (b:Nat) (k n:Int) (s:ByteArray) (w:World):Prop :=
 w.cell? ⟨b,0,none⟩=some (.int .i64 k)/\w.cell? ⟨b,1,none⟩=some (.int .i64 n)/\w.cell? ⟨b,2,none⟩=some (.string s)
theorem Box1.on{w1:World}(h:Box1 b k n s w)(hb:Below w.heap.size w w1):Box1 b k n s w1:=⟨cell_later hb h.1,cell_later hb h.2.1,cell_later hb h.2.2⟩
theorem Box1.alloc(h:Box1 b k n s w)(o:Obj):Box1 b k n s (w.alloc o):=h.on (ext_alloc (Below.refl _ _) o)
theorem a5i(w:World)(k n:Int)(s:ByteArray):Box1 w.heap.size k n s (w.alloc (box k n s)) :=
 ⟨by rw[World.cell?_alloc_at _ _ _ _ rfl];rfl,by rw[World.cell?_alloc_at _ _ _ _ rfl];rfl,by rw[World.cell?_alloc_at _ _ _ _ rfl];rfl⟩
theorem Box1.drew(h:Box1 b k n s w):Box1 b k n s w.drew:=h
theorem a1x{a:World}(h:Below a.heap.size a w):Below a.heap.size a w.drew:=h.drew
theorem c6y(a:Addr)(m:Nat)(w:World) :
  Calls Tryz.prog 54 #[.slice (some a) m m] w fun e z=>e=.returned (.func (.func 85) #[] #[.pointer (some ⟨w.heap.size,0,none⟩)])/\z=w.alloc (.cells #[.slice (some a) m m] 61):=by
 have hmf:=hmf
 go_enter Tryz.func54,Tryz.ntmps54
 go_wp2
 go_ret
 exact⟨rfl,rfl⟩
theorem d2l(k n:Int)(s:ByteArray)(w:World)(h:mayB k n s=false) :
  Calls Tryz.prog 84 #[val k n s] w fun e y=>e=.returned (.bool false)/\Below w.heap.size w y:=by
 have hmf:=hmf
 go_enter Tryz.func84,Tryz.ntmps84
 go_wp2
 go_region_with (go_at_call 35;refine(c0p _ _ _ _ h).mono ?_;rintro e w1 ⟨rfl,z⟩)
 all_goals
  go_wp2
  go_ret
  exact⟨rfl,ext_trans (a1x (ext_alloc (Below.refl _ _) _)) z⟩
theorem a4z(v:Nat)(k n:Int)(s:ByteArray)(w:World)(h:Box1 v k n s w) :
  Cl 54 #[.slice (some (Ad v 0)) 1 1] w fun e z=>e=.returned (.func (.func 85) #[] #[Po w.heap.size 0])/\Asks w.heap.size v k n s z/\Bw w z:=by
 refine(c6y _ _ _).mono ?_
 rintro e z ⟨rfl,rfl⟩
 obtain⟨h0,h1,h2⟩:=h.alloc (.cells #[.slice (some (Ad v 0)) 1 1] 61)
 exact⟨rfl,⟨by rw[World.cell?_alloc_at _ _ _ _ rfl];rfl,h0,h1,h2⟩,ext_alloc (Below.refl _ _) _⟩
theorem late(y k n:Int)(s:ByteArray)(c v:Nat)(w:World)(h:Asks c v k n s w) :
  Cl 85 #[.slice (some (Ad w.heap.size 0)) 1 1,Po c 0] (w.alloc (.cells #[vi y] 3)) fun e z =>
   e=.returned (.bool (k == y))/\Below (w.alloc (.cells #[vi y] 3)).heap.size (w.alloc (.cells #[vi y] 3)) z:=by
 refine(ask1 y k n s _ c v w rfl h).mono ?_
 rintro e z ⟨rfl,rfl⟩
 exact⟨rfl,ext_alloc (Below.refl _ _) _⟩
theorem c6z(y k n:Int)(s:ByteArray)(b c v:Nat)(w:World)(h:Asks c v k n s w)(hc:w.cell? (Ad b 0)=some (vi y)) :
  Cl 85 #[.slice (some (Ad b 0)) 1 1,Po c 0] w fun e z=>e=.returned (.bool (k == y))/\Bw w z:=by
 refine(c9b b c v y k n s w hc h.1 h.2.1 h.2.2.1 h.2.2.2 (World.block_lt_of_cell? _ _ hc)).mono ?_
 rintro e z ⟨rfl,rfl⟩
 exact⟨rfl,ext_alloc (Below.refl _ _) _⟩
theorem c2w(k n:Int)(s:ByteArray)(w:World)(h:mayB k n s=true)(hk:(k == 0)=true) :
  Cl 84 #[val k n s] w fun e d=>e=.returned (.bool false)/\Bw w d:=by
 have hmf:=hmf
 go_enter Tryz.func84,Tryz.ntmps84
 go_wp2
 go_region_with (first|(go_at_call 35;refine(a1r _ _ _ _ h).mono ?_;rintro e w1 ⟨rfl,v⟩;have E1:Bw w w1:=ext_trans (a1x (ext_alloc (Below.refl _ _) _)) v;have i:Box1 w.heap.size k n s w1:=(a5i w k n s).drew.on v;obtain⟨c0,c1,c2⟩:=id i;have f:=World.block_lt_of_cell? _ _ c0;dsimp only at f)|(go_at_call 54;refine(a4z _ k n s _ (by simp[Box1,go_sem])).mono ?_;rintro e w2 ⟨rfl,p,y⟩;simp only[World.size_alloc]at p;have g:Bw w w2:=ext_trans (by repeat(first|exact E1|refine ext_alloc ?_ _)) y;have j:Box1 w.heap.size k n s w2:=Box1.on (by repeat(first|exact i|refine Box1.alloc ?_ _)) y)|(go_at_call_of 85 w2;refine(late 0 k n s _ _ _ p).mono ?_;rw[hk];rintro e q ⟨rfl,z⟩;have m:Bw w q:=ext_trans (ext_alloc g _) z;obtain⟨o,d1,a⟩:=(j.alloc _).on z;have u:=World.block_lt_of_cell? _ _ o;dsimp only at u)|(go_at_call 85;refine(c6z 0 k n s _ _ _ _ p (cell_later y (by simp[go_sem]))).mono ?_;rw[hk];rintro e q ⟨rfl,z⟩;have m:Bw w q:=ext_trans g z;obtain⟨o,d1,a⟩:=j.on z;have u:=World.block_lt_of_cell? _ _ o;dsimp only at u)|(go_at_call 73;refine(a1c false _).mono ?_;rintro e w4 ⟨rfl,rfl⟩))
 all_goals
  go_wp2
  go_ret
  refine⟨rfl,?_⟩
  first|exact m|exact ext_alloc m _
theorem d2m(k n:Int)(s:ByteArray)(w:World)(h:mayB k n s=true)(hk:(k == 0)=false)(h1:¬k=1) :
  Cl 84 #[val k n s] w fun e d=>e=.returned (.bool true)/\Bw w d:=by
 have hmf:=hmf
 go_enter Tryz.func84,Tryz.ntmps84
 go_wp2
 go_region_with (first|(go_at_call 35;refine(a1r _ _ _ _ h).mono ?_;rintro e w1 ⟨rfl,v⟩;have E1:Bw w w1:=ext_trans (a1x (ext_alloc (Below.refl _ _) _)) v;have i:Box1 w.heap.size k n s w1:=(a5i w k n s).drew.on v;obtain⟨c0,c1,c2⟩:=id i;have f:=World.block_lt_of_cell? _ _ c0;dsimp only at f)|(go_at_call 54;refine(a4z _ k n s _ (by simp[Box1,go_sem])).mono ?_;rintro e w2 ⟨rfl,p,y⟩;simp only[World.size_alloc]at p;have g:Bw w w2:=ext_trans (by repeat(first|exact E1|refine ext_alloc ?_ _)) y;have j:Box1 w.heap.size k n s w2:=Box1.on (by repeat(first|exact i|refine Box1.alloc ?_ _)) y)|(go_at_call_of 85 w2;refine(late 0 k n s _ _ _ p).mono ?_;rw[hk];rintro e q ⟨rfl,z⟩;have m:Bw w q:=ext_trans (ext_alloc g _) z;obtain⟨o,d1,a⟩:=(j.alloc _).on z;have u:=World.block_lt_of_cell? _ _ o;dsimp only at u)|(go_at_call 85;refine(c6z 0 k n s _ _ _ _ p (cell_later y (by simp[go_sem]))).mono ?_;rw[hk];rintro e q ⟨rfl,z⟩;have m:Bw w q:=ext_trans g z;obtain⟨o,d1,a⟩:=j.on z;have u:=World.block_lt_of_cell? _ _ o;dsimp only at u)|(go_at_call 73;refine(a1c false _).mono ?_;rintro e w4 ⟨rfl,rfl⟩))
 all_goals
  go_wp2
  go_ret
  refine⟨rfl,?_⟩
  first|exact m|exact ext_alloc m _
end Go.Proofs.YtfbpdbndejefdaaGreatDoor.V
