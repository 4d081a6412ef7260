/- mayOrder: an order at its place, of which three fields are asked. -/
import Derived.Test.YthljpnmhddfblaaGreatDoorS14
namespace Go.Proofs.YthljpnmhddfblaaGreatDoor
open Go.RowKit Go
set_option maxRecDepth 100000
set_option maxHeartbeats 8000000
set_option linter.all false
theorem mo_row3(f:Fd)(x:Od)(i:Nat)(w:World)(q0 q1 q2:Nat)(hq0:isQ q0)(hq1:isQ q1)(hq2:isQ q2)(hl:fieldsR x.op=some [q0,q1,q2]) :
  Calls Tryz.prog 37 #[plc f x i] w fun e w'=>e=.returned (.bool (qB f x i q0 x.a&&qB f x i q1 x.b&&qB f x i q2 x.c))/\Below w.heap.size w w':=by
 have hF:=fields_some x.op _ hl
 simp only[List.length_cons,List.length_nil,List.map_cons,List.map_nil,Nat.reduceAdd,fnV]at hF
 clear hl
 have k0:=fun u=>ask_any f x i q0 hq0 x.a u
 have k1:=fun u=>ask_any f x i q1 hq1 x.b u
 have k2:=fun u=>ask_any f x i q2 hq2 x.c u
 obtain⟨B0,hB0⟩:∃B,qB f x i q0 x.a=B:=⟨_,rfl⟩
 obtain⟨B1,hB1⟩:∃B,qB f x i q1 x.b=B:=⟨_,rfl⟩
 obtain⟨B2,hB2⟩:∃B,qB f x i q2 x.c=B:=⟨_,rfl⟩
 rw[hB0]at k0⊢
 rw[hB1]at k1⊢
 rw[hB2]at k2⊢
 replace k0:Hid _:=k0
 replace k1:Hid _:=k1
 replace k2:Hid _:=k2
 obtain⟨w1,hw1⟩:∃w1,(w.alloc (.cells #[.int .i64 f.p,.int .i64 f.r,f.cv,f.iv,.int .i64 x.op,.int .i64 x.a,.int .i64 x.b,.int .i64 x.c,.int .i64 i] 93)).alloc (.cells #[.func (.func q0) #[] #[],.func (.func q1) #[] #[],.func (.func q2) #[] #[]] 114)=w1:=⟨_,rfl⟩
 have hp:w1.heap[w.heap.size]?=some (.cells #[.int .i64 f.p,.int .i64 f.r,f.cv,f.iv,.int .i64 x.op,.int .i64 x.a,.int .i64 x.b,.int .i64 x.c,.int .i64 i] 93):=by rw[<- hw1];exact(Below.heap_alloc _ _ _ (by simp)).trans (heap_new _ _)
 have hq:w1.heap[w.heap.size+1]?=some (.cells #[.func (.func q0) #[] #[],.func (.func q1) #[] #[],.func (.func q2) #[] #[]] 114):=by rw[<- hw1];simpa using heap_new (w.alloc _) _
 have hb1:Below w.heap.size w w1:=by rw[<- hw1];exact ext_alloc (ext_alloc (Below.refl _ _) _) _
 have hC:∀u,Below w1.heap.size w1 u->(u.cell? ⟨w.heap.size,0,none⟩=some (.int .i64 f.p)/\u.cell? ⟨w.heap.size,1,none⟩=some (.int .i64 f.r)/\u.cell? ⟨w.heap.size,2,none⟩=some f.cv/\u.cell? ⟨w.heap.size,3,none⟩=some f.iv/\u.cell? ⟨w.heap.size,4,none⟩=some (.int .i64 x.op)/\u.cell? ⟨w.heap.size,5,none⟩=some (.int .i64 x.a)/\u.cell? ⟨w.heap.size,6,none⟩=some (.int .i64 x.b)/\u.cell? ⟨w.heap.size,7,none⟩=some (.int .i64 x.c)/\u.cell? ⟨w.heap.size,8,none⟩=some (.int .i64 i))/\u.cell? ⟨w.heap.size+1,0,none⟩=some (.func (.func q0) #[] #[])/\u.cell? ⟨w.heap.size+1,1,none⟩=some (.func (.func q1) #[] #[])/\u.cell? ⟨w.heap.size+1,2,none⟩=some (.func (.func q2) #[] #[]):=fun u hu=>⟨nine (blk_below hu hp),(hu.cell (p:=⟨_,_,none⟩) (Array.getElem?_eq_some_iff.1 hq).1).trans (cell_blk hq rfl),(hu.cell (p:=⟨_,_,none⟩) (Array.getElem?_eq_some_iff.1 hq).1).trans (cell_blk hq rfl),(hu.cell (p:=⟨_,_,none⟩) (Array.getElem?_eq_some_iff.1 hq).1).trans (cell_blk hq rfl)⟩
 have hnil:=eql46
 have i0:=idx0
 have i1:=idx1
 have i2:=idx2
 obtain⟨⟨p0,p1,p2,p3,p4,p5,p6,p7,p8⟩,_⟩:=hC w1 (Below.refl _ _)
 replace hC:Hid _:=hC
 clear hp hq
 go_enter Tryz.func37,Tryz.ntmps37
 go_wp2_with (go_at_call 46;refine(hF _).mono ?_;rintro e w' ⟨rfl,hw'⟩;subst w')
 go_loopw [22] (fun v wr=>∃m:Nat,m<=3/\v=.int .i64 m/\upTo m B0 B1 B2/\Below w1.heap.size w1 wr) (fun v _=>3-(intOf v).toNat)
 case atStart=>exact⟨0,by omega,rfl,⟨fun h=>by omega,fun h=>by omega,fun h=>by omega⟩,Below.refl _ _⟩
 case round =>
  clear p0 p1 p2 p3 p4 p5 p6 p7 p8
  obtain⟨m,hm,rfl,hG,hb⟩:=hrel
  obtain⟨g1,g2,g3⟩:=hG
  obtain rfl|rfl|rfl|rfl:m=0\/m=1\/m=2\/m=3:=by omega
  ·skip
   clear g1 g2 g3
   clear hB0 hB1 hB2
   cases eB:B0
   ·have kk:=k0.out
    rw[eB]at kk
    replace kk:Hid _:=kk
    replace eB:Hid _:=eB
    go_wp2
    refine wp_quiet (Below w1.heap.size w1) (by kernel_rfl) (by kernel_rfl) hb.drew ?_
    repeat(first
     | go_big_quiet_skip
     | (
      apply quiet_want
      ·kernel_rfl
      ·intro u hu
       obtain⟨⟨_,_,_,_,_,_,_,_,_⟩,_,_,_⟩:=hC.out u hu
       first|(go_simp;done)|(go_simp;with_reducible rfl)|(rcases hq0 with rfl|rfl|rfl|rfl|rfl <;> (go_simp;refine(kk.out u).mono ?_;rintro e w2 ⟨rfl,hb2⟩;exact⟨rfl,ext_trans hu hb2⟩))
      simp only[Act.put,List.setIfInBounds_toArray,List.set_cons_zero,List.set_cons_succ]))
    refine wpQuiet_nil (fun w2 hb2=>?_)
    go_wp2
    go_ret
    exact⟨by rw[eB.out];rfl,ext_trans hb1 hb2⟩
   ·have kk:=k0.out
    rw[eB]at kk
    replace kk:Hid _:=kk
    replace eB:Hid _:=eB
    go_wp2
    refine wp_quiet (Below w1.heap.size w1) (by kernel_rfl) (by kernel_rfl) hb.drew ?_
    repeat(first
     | go_big_quiet_skip
     | (
      apply quiet_want
      ·kernel_rfl
      ·intro u hu
       obtain⟨⟨_,_,_,_,_,_,_,_,_⟩,_,_,_⟩:=hC.out u hu
       first|(go_simp;done)|(go_simp;with_reducible rfl)|(rcases hq0 with rfl|rfl|rfl|rfl|rfl <;> (go_simp;refine(kk.out u).mono ?_;rintro e w2 ⟨rfl,hb2⟩;exact⟨rfl,ext_trans hu hb2⟩))
      simp only[Act.put,List.setIfInBounds_toArray,List.set_cons_zero,List.set_cons_succ]))
    refine wpQuiet_nil (fun w2 hb2=>?_)
    go_wp2
    go_roundw
    case rel=>exact⟨1,by omega,by simp,⟨fun _=>rfl,fun h=>by omega,fun h=>by omega⟩,hb2⟩
    case measure=>simp[intOf]
  ·have c0:=g1 (by omega)
   clear g1 g2 g3
   replace c0:Hid _:=c0
   clear hB0 hB1 hB2
   cases eB:B1
   ·have kk:=k1.out
    rw[eB]at kk
    replace kk:Hid _:=kk
    replace eB:Hid _:=eB
    go_wp2
    refine wp_quiet (Below w1.heap.size w1) (by kernel_rfl) (by kernel_rfl) hb.drew ?_
    repeat(first
     | go_big_quiet_skip
     | (
      apply quiet_want
      ·kernel_rfl
      ·intro u hu
       obtain⟨⟨_,_,_,_,_,_,_,_,_⟩,_,_,_⟩:=hC.out u hu
       first|(go_simp;done)|(go_simp;with_reducible rfl)|(rcases hq1 with rfl|rfl|rfl|rfl|rfl <;> (go_simp;refine(kk.out u).mono ?_;rintro e w2 ⟨rfl,hb2⟩;exact⟨rfl,ext_trans hu hb2⟩))
      simp only[Act.put,List.setIfInBounds_toArray,List.set_cons_zero,List.set_cons_succ]))
    refine wpQuiet_nil (fun w2 hb2=>?_)
    go_wp2
    go_ret
    exact⟨by rw[eB.out];simp,ext_trans hb1 hb2⟩
   ·have kk:=k1.out
    rw[eB]at kk
    replace kk:Hid _:=kk
    replace eB:Hid _:=eB
    go_wp2
    refine wp_quiet (Below w1.heap.size w1) (by kernel_rfl) (by kernel_rfl) hb.drew ?_
    repeat(first
     | go_big_quiet_skip
     | (
      apply quiet_want
      ·kernel_rfl
      ·intro u hu
       obtain⟨⟨_,_,_,_,_,_,_,_,_⟩,_,_,_⟩:=hC.out u hu
       first|(go_simp;done)|(go_simp;with_reducible rfl)|(rcases hq1 with rfl|rfl|rfl|rfl|rfl <;> (go_simp;refine(kk.out u).mono ?_;rintro e w2 ⟨rfl,hb2⟩;exact⟨rfl,ext_trans hu hb2⟩))
      simp only[Act.put,List.setIfInBounds_toArray,List.set_cons_zero,List.set_cons_succ]))
    refine wpQuiet_nil (fun w2 hb2=>?_)
    go_wp2
    go_roundw
    case rel=>exact⟨2,by omega,by simp,⟨fun _=>c0.out,fun _=>rfl,fun h=>by omega⟩,hb2⟩
    case measure=>simp[intOf]
  ·have c0:=g1 (by omega)
   have c1:=g2 (by omega)
   clear g1 g2 g3
   replace c0:Hid _:=c0
   replace c1:Hid _:=c1
   clear hB0 hB1 hB2
   cases eB:B2
   ·have kk:=k2.out
    rw[eB]at kk
    replace kk:Hid _:=kk
    replace eB:Hid _:=eB
    go_wp2
    refine wp_quiet (Below w1.heap.size w1) (by kernel_rfl) (by kernel_rfl) hb.drew ?_
    repeat(first
     | go_big_quiet_skip
     | (
      apply quiet_want
      ·kernel_rfl
      ·intro u hu
       obtain⟨⟨_,_,_,_,_,_,_,_,_⟩,_,_,_⟩:=hC.out u hu
       first|(go_simp;done)|(go_simp;with_reducible rfl)|(rcases hq2 with rfl|rfl|rfl|rfl|rfl <;> (go_simp;refine(kk.out u).mono ?_;rintro e w2 ⟨rfl,hb2⟩;exact⟨rfl,ext_trans hu hb2⟩))
      simp only[Act.put,List.setIfInBounds_toArray,List.set_cons_zero,List.set_cons_succ]))
    refine wpQuiet_nil (fun w2 hb2=>?_)
    go_wp2
    go_ret
    exact⟨by rw[eB.out];simp,ext_trans hb1 hb2⟩
   ·have kk:=k2.out
    rw[eB]at kk
    replace kk:Hid _:=kk
    replace eB:Hid _:=eB
    go_wp2
    refine wp_quiet (Below w1.heap.size w1) (by kernel_rfl) (by kernel_rfl) hb.drew ?_
    repeat(first
     | go_big_quiet_skip
     | (
      apply quiet_want
      ·kernel_rfl
      ·intro u hu
       obtain⟨⟨_,_,_,_,_,_,_,_,_⟩,_,_,_⟩:=hC.out u hu
       first|(go_simp;done)|(go_simp;with_reducible rfl)|(rcases hq2 with rfl|rfl|rfl|rfl|rfl <;> (go_simp;refine(kk.out u).mono ?_;rintro e w2 ⟨rfl,hb2⟩;exact⟨rfl,ext_trans hu hb2⟩))
      simp only[Act.put,List.setIfInBounds_toArray,List.set_cons_zero,List.set_cons_succ]))
    refine wpQuiet_nil (fun w2 hb2=>?_)
    go_wp2
    go_roundw
    case rel=>exact⟨3,by omega,by simp,⟨fun _=>c0.out,fun _=>c1.out,fun _=>rfl⟩,hb2⟩
    case measure=>simp[intOf]
  ·have c0:=g1 (by omega)
   have c1:=g2 (by omega)
   have c2:=g3 (by omega)
   clear g1 g2 g3
   replace c0:Hid _:=c0
   replace c1:Hid _:=c1
   replace c2:Hid _:=c2
   go_wp2
   go_ret
   exact⟨by rw[c0.out,c1.out,c2.out];rfl,ext_trans hb1 hb⟩
end Go.Proofs.YthljpnmhddfblaaGreatDoor
