/- Walks of the value package: what counts as true. -/
import Derived.Test.YtfbpdbndejefdaaGreatDoorS23
namespace Go.Proofs.YtfbpdbndejefdaaGreatDoor.V
open Go.RowKit Go
set_option maxRecDepth 100000
set_option maxHeartbeats 8000000
set_option linter.all false
theorem d3a(n:Int)(s:ByteArray)(w:World)(h:mayB 1 n s=true)(hk:((1:Int) == 0)=false)(h1:¬n=0) :
  Cl 84 #[val 1 n s] w fun e d=>e=.returned (.bool true)/\Bw w d:=by
 have hmf:=hmf
 go_enter Tryz.func84,Tryz.ntmps84
 go_wp2
 go_region_with (first|(go_at_call 35;refine(a1r _ _ _ _ h).mono ?_;rintro e w1 ⟨rfl,v⟩;have E1:Bw w w1:=ext_trans (a1x (ext_alloc (Below.refl _ _) _)) v;have i:Box1 w.heap.size 1 n s w1:=(a5i w 1 n s).drew.on v;obtain⟨c0,c1,c2⟩:=id i;have f:=World.block_lt_of_cell? _ _ c0;dsimp only at f)|(go_at_call 54;refine(a4z _ 1 n s _ (by simp[Box1,go_sem])).mono ?_;rintro e w2 ⟨rfl,p,y⟩;simp only[World.size_alloc]at p;have g:Bw w w2:=ext_trans (by repeat(first|exact E1|refine ext_alloc ?_ _)) y;have j:Box1 w.heap.size 1 n s w2:=Box1.on (by repeat(first|exact i|refine Box1.alloc ?_ _)) y)|(go_at_call_of 85 w2;refine(late 0 1 n s _ _ _ p).mono ?_;rw[hk];rintro e q ⟨rfl,z⟩;have m:Bw w q:=ext_trans (ext_alloc g _) z;obtain⟨o,d1,a⟩:=(j.alloc _).on z;have u:=World.block_lt_of_cell? _ _ o;dsimp only at u)|(go_at_call 85;refine(c6z 0 1 n s _ _ _ _ p (cell_later y (by simp[go_sem]))).mono ?_;rw[hk];rintro e q ⟨rfl,z⟩;have m:Bw w q:=ext_trans g z;obtain⟨o,d1,a⟩:=j.on z;have u:=World.block_lt_of_cell? _ _ o;dsimp only at u)|(go_at_call 73;refine(a1c false _).mono ?_;rintro e w4 ⟨rfl,rfl⟩))
 all_goals
  go_wp2
  go_ret
  refine⟨rfl,?_⟩
  first|exact m|exact ext_alloc m _
theorem d3b(s:ByteArray)(w:World)(h:mayB 1 0 s=true)(hk:((1:Int) == 0)=false)(h1:s.toList=[]) :
  Cl 84 #[val 1 0 s] w fun e f=>e=.returned (.bool false)/\Bw w f:=by
 have hmf:=hmf
 go_enter Tryz.func84,Tryz.ntmps84
 go_wp2
 go_region_with (first|(go_at_call 35;refine(a1r _ _ _ _ h).mono ?_;rintro e w1 ⟨rfl,v⟩;have E1:Bw w w1:=ext_trans (a1x (ext_alloc (Below.refl _ _) _)) v;have j:Box1 w.heap.size 1 0 s w1:=(a5i w 1 0 s).drew.on v;obtain⟨c0,c1,c2⟩:=id j;have g:=World.block_lt_of_cell? _ _ c0;dsimp only at g)|(go_at_call 54;refine(a4z _ 1 0 s _ (by simp[Box1,go_sem])).mono ?_;rintro e w2 ⟨rfl,p,y⟩;simp only[World.size_alloc]at p;have i:Bw w w2:=ext_trans (by repeat(first|exact E1|refine ext_alloc ?_ _)) y;have m:Box1 w.heap.size 1 0 s w2:=Box1.on (by repeat(first|exact j|refine Box1.alloc ?_ _)) y)|(go_at_call_of 85 w2;refine(late 0 1 0 s _ _ _ p).mono ?_;rw[hk];rintro e q ⟨rfl,z⟩;have n:Bw w q:=ext_trans (ext_alloc i _) z;obtain⟨o,a,d⟩:=(m.alloc _).on z;have u:=World.block_lt_of_cell? _ _ o;dsimp only at u)|(go_at_call 85;refine(c6z 0 1 0 s _ _ _ _ p (cell_later y (by simp[go_sem]))).mono ?_;rw[hk];rintro e q ⟨rfl,z⟩;have n:Bw w q:=ext_trans i z;obtain⟨o,a,d⟩:=m.on z;have u:=World.block_lt_of_cell? _ _ o;dsimp only at u)|(go_at_call 73;refine(a1c false _).mono ?_;rintro e w4 ⟨rfl,rfl⟩))
 all_goals
  go_wp2
  go_ret
  refine⟨rfl,?_⟩
  first|exact n|exact ext_alloc n _
def truthB (k n:Int) (s:ByteArray):Bool:=mayB k n s && !(k == 0) && !(k == 1&&n == 0)
theorem a7p(k n:Int)(s:ByteArray)(w:World):Cl 84 #[val k n s] w fun e z=>e=.returned (.bool (truthB k n s))/\Bw w z:=by
 unfold truthB
 rcases Bool.eq_false_or_eq_true (mayB k n s)with h|h
 ·rcases Bool.eq_false_or_eq_true (k == 0)with k0|k0
  ·rw[h,k0];exact c2w k n s w h k0
  ·by_cases k1:k=1
   ·subst k1
    by_cases n0:n=0
    ·subst n0
     have y:s.toList=[]:=by
      unfold mayB at h
      rw[if_neg (by decide)]at h
      rcases Bool.eq_false_or_eq_true s.toList.isEmpty with e|e
      ·simpa using e
      ·rw[if_pos e]at h;cases h
     rw[h];exact d3b s w h rfl y
    ·have e:(n == 0)=false:=by simpa using n0
     rw[h,e];exact d3a n s w h rfl n0
   ·have e:(k == 1)=false:=by simpa using k1
    rw[h,k0,e];exact d2m k n s w h k0 k1
 ·rw[h];exact d2l k n s w h
end Go.Proofs.YtfbpdbndejefdaaGreatDoor.V
