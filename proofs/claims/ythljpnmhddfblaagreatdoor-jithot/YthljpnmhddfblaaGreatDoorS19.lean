/- Walks of the value package: what counts as true. -/
import Derived.Test.YthljpnmhddfblaaGreatDoorS09
namespace Go.Proofs.YthljpnmhddfblaaGreatDoor
open Go.RowKit Go
set_option maxRecDepth 100000
set_option maxHeartbeats 8000000
set_option linter.all false
theorem truth_n(n:Int)(s:ByteArray)(w:World)(h:mayB 1 n s=true)(hk:((1:Int) == 0)=false)(h1:¬n=0) :
  Calls Tryz.prog 51 #[val 1 n s] w fun e w'=>e=.returned (.bool true)/\Below w.heap.size w w':=by
 have hmf:=hmf
 go_enter Tryz.func51,Tryz.ntmps51
 go_wp2
 go_region_with (first|(go_at_call 36;refine(may_t _ _ _ _ h).mono ?_;rintro e w1 ⟨rfl,hb1⟩;have E1:Below w.heap.size w w1:=ext_trans (ext_drew (ext_alloc (Below.refl _ _) _)) hb1;have X1:Box1 w.heap.size 1 n s w1:=(box1_0 w 1 n s).drew.on hb1;obtain⟨c0,c1,c2⟩:=id X1;have z1:=World.block_lt_of_cell? _ _ c0;dsimp only at z1)|(go_at_call 45;refine(each_letter _ 1 n s _ (by simp[Box1,go_sem])).mono ?_;rintro e w2 ⟨rfl,hA,hb2⟩;simp only[World.size_alloc]at hA;have E2:Below w.heap.size w w2:=ext_trans (by repeat(first|exact E1|refine ext_alloc ?_ _)) hb2;have X2:Box1 w.heap.size 1 n s w2:=Box1.on (by repeat(first|exact X1|refine Box1.alloc ?_ _)) hb2)|(go_at_call_of 58 w2;refine(late 0 1 n s _ _ _ hA).mono ?_;rw[hk];rintro e w3 ⟨rfl,hb3⟩;have E3:Below w.heap.size w w3:=ext_trans (ext_alloc E2 _) hb3;obtain⟨d0,d1,d2⟩:=(X2.alloc _).on hb3;have z3:=World.block_lt_of_cell? _ _ d0;dsimp only at z3)|(go_at_call 58;refine(early 0 1 n s _ _ _ _ hA (cell_later hb2 (by simp[go_sem]))).mono ?_;rw[hk];rintro e w3 ⟨rfl,hb3⟩;have E3:Below w.heap.size w w3:=ext_trans E2 hb3;obtain⟨d0,d1,d2⟩:=X2.on hb3;have z3:=World.block_lt_of_cell? _ _ d0;dsimp only at z3)|(go_at_call 73;refine(boolean_any false _).mono ?_;rintro e w4 ⟨rfl,rfl⟩))
 all_goals
  go_wp2
  go_ret
  refine⟨rfl,?_⟩
  first|exact E3|exact ext_alloc E3 _
end Go.Proofs.YthljpnmhddfblaaGreatDoor
