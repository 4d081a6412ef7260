/- mayOrder: an order at its place. -/
import Derived.Test.YthljpnmhddfblaaGreatDoorS08
import Derived.Deep.RegionWith
namespace Go.Proofs.YthljpnmhddfblaaGreatDoor
open Go.RowKit Go
set_option maxRecDepth 100000
set_option maxHeartbeats 8000000
set_option linter.all false
theorem cell_blk{W:World}{B i:Nat}{c:Array Value}{t:TypeId}{z:Nat×Nat}{v:Value}(h:W.heap[B]?=some (.cells c t z))(hv:c[i]?=some v):W.cell? ⟨B,i,none⟩=some v:=by
 simp[World.cell?,h,hv]
theorem blk_below{W W':World}{B:Nat}{o:Obj}(hb:Below W.heap.size W W')(h:W.heap[B]?=some o):W'.heap[B]?=some o:=(hb.block B (Array.getElem?_eq_some_iff.1 h).1).trans h
theorem heap_new(w:World)(o:Obj):(w.alloc o).heap[w.heap.size]?=some o:=by
 show(w.heap.push o)[w.heap.size]?=some o
 simp
theorem idx0(a b c:Value)(w:World):(Instr.index 112 (.agg #[a,b,c]) (.int .i64 0)).run Tryz.prog w=.ok a w:=by
 simp[Instr.index,run_underlying Tryz.underlying112,asIntOf,go_sem]
theorem idx1(a b c:Value)(w:World):(Instr.index 112 (.agg #[a,b,c]) (.int .i64 1)).run Tryz.prog w=.ok b w:=by
 simp[Instr.index,run_underlying Tryz.underlying112,asIntOf,go_sem]
theorem idx2(a b c:Value)(w:World):(Instr.index 112 (.agg #[a,b,c]) (.int .i64 2)).run Tryz.prog w=.ok c w:=by
 simp[Instr.index,run_underlying Tryz.underlying112,asIntOf,go_sem]
theorem drewN_below{m n:Nat}{w W:World}(h:Below m w W):Below m w (W.drewN n):=⟨h.os,h.tape,h.output,h.size,h.block⟩
theorem eql46(w:World)(a:Option Addr)(n c:Nat):(binOp .eql 110 (.slice a n c) (.slice none 0 0)).run Tryz.prog w=.ok (.bool a.isNone) w:=Lib.run_eql_slice_nil w 110 114 a n c 0 0 Tryz.underlying110
theorem nine{W:World}{B:Nat}{t:TypeId}{v0 v1 v2 v3 v4 v5 v6 v7 v8:Value}(h:W.heap[B]?=some (.cells #[v0,v1,v2,v3,v4,v5,v6,v7,v8] t)) :
  W.cell? ⟨B,0,none⟩=some v0/\W.cell? ⟨B,1,none⟩=some v1/\W.cell? ⟨B,2,none⟩=some v2/\W.cell? ⟨B,3,none⟩=some v3/\W.cell? ⟨B,4,none⟩=some v4/\W.cell? ⟨B,5,none⟩=some v5/\W.cell? ⟨B,6,none⟩=some v6/\W.cell? ⟨B,7,none⟩=some v7/\W.cell? ⟨B,8,none⟩=some v8 :=
 ⟨cell_blk h rfl,cell_blk h rfl,cell_blk h rfl,cell_blk h rfl,cell_blk h rfl,cell_blk h rfl,cell_blk h rfl,cell_blk h rfl,cell_blk h rfl⟩
theorem wp_quiet{P:Program}{id:Nat}{Q:Exit->Act->World->Prop}{a:Act}{w:World}{l:List Oper}(C:World->Prop)(hm:P.follows .mixedOrders=true)(hB:Region.lexB .any l.toArray=true)(hC:C w.drew)(h:wpQuiet P l.toArray C (fun a'=>∀w',C w'->Q .normal a' w') l a):(Code.region id l.toArray true).wp P Q a w :=
 wp_region_quiet (C:=C) hm hB hC (by simpa using h)
theorem quiet_want{P:Program}{ops:Array Oper}{C:World->Prop}{Q:Act->Prop}{a:Act}{o:Oper}{rest:List Oper}{v:Value}(hw:Region.wanted o (yielded ops a.tmps)=true)(hv:∀u,C u->o.quietAt P a C u v)(h:wpQuiet P ops C Q rest (a.put o.dst v)):wpQuiet P ops C Q (o::rest) a:=BigFrame.wpQuiet_want hw fun _ hK=>⟨v,hv,hK _ h⟩
def qB (f:Fd) (x:Od) (i q:Nat) (n:Int):Bool:=if q=60 then belB n f.r else if q=61 then belB n f.cs.length else if q=62 then belB n f.is.length else if q=63 then frB 0 n i else argB f x n
def upTo (m:Nat) (B0 B1 B2:Bool):Prop:=(1<=m->B0=true)/\(2<=m->B1=true)/\(3<=m->B2=true)
def isQ (q:Nat):Prop:=q=60\/q=61\/q=62\/q=63\/q=64
theorem ask_any(f:Fd)(x:Od)(i q:Nat)(hq:isQ q)(n:Int)(w:World):Calls Tryz.prog q #[plc f x i,.int .i64 n] w fun r w'=>r=.returned (.bool (qB f x i q n))/\Below w.heap.size w w':=by
 rcases hq with rfl|rfl|rfl|rfl|rfl
 ·exact reg_any f x i n w
 ·exact const_any f x i n w
 ·exact order_any f x i n w
 ·exact back_any f x i n w
 ·exact args_any f x i n w
theorem mo_row1(f:Fd)(x:Od)(i:Nat)(w:World)(q0:Nat)(hq0:isQ q0)(hl:fieldsR x.op=some [q0]) :
  Calls Tryz.prog 37 #[plc f x i] w fun e w'=>e=.returned (.bool (qB f x i q0 x.a&&(x.b == 0)&&(x.c == 0)))/\Below w.heap.size w w':=by
 have hF:=fields_some x.op _ hl
 simp only[List.length_cons,List.length_nil,List.map_cons,List.map_nil,Nat.reduceAdd,fnV]at hF
 clear hl
 have k0:=fun u=>ask_any f x i q0 hq0 x.a u
 obtain⟨B0,hB0⟩:∃B,qB f x i q0 x.a=B:=⟨_,rfl⟩
 obtain⟨B1,hB1⟩:∃B,(x.b == 0)=B:=⟨_,rfl⟩
 obtain⟨B2,hB2⟩:∃B,(x.c == 0)=B:=⟨_,rfl⟩
 rw[hB0]at k0⊢
 rw[hB1]
 rw[hB2]
 replace k0:Hid _:=k0
 obtain⟨w1,hw1⟩:∃w1,(w.alloc (.cells #[.int .i64 f.p,.int .i64 f.r,f.cv,f.iv,.int .i64 x.op,.int .i64 x.a,.int .i64 x.b,.int .i64 x.c,.int .i64 i] 93)).alloc (.cells #[.func (.func q0) #[] #[]] 114)=w1:=⟨_,rfl⟩
 have hp:w1.heap[w.heap.size]?=some (.cells #[.int .i64 f.p,.int .i64 f.r,f.cv,f.iv,.int .i64 x.op,.int .i64 x.a,.int .i64 x.b,.int .i64 x.c,.int .i64 i] 93):=by rw[<- hw1];exact(Below.heap_alloc _ _ _ (by simp)).trans (heap_new _ _)
 have hq:w1.heap[w.heap.size+1]?=some (.cells #[.func (.func q0) #[] #[]] 114):=by rw[<- hw1];simpa using heap_new (w.alloc _) _
 have hb1:Below w.heap.size w w1:=by rw[<- hw1];exact ext_alloc (ext_alloc (Below.refl _ _) _) _
 have hC:∀u,Below w1.heap.size w1 u->(u.cell? ⟨w.heap.size,0,none⟩=some (.int .i64 f.p)/\u.cell? ⟨w.heap.size,1,none⟩=some (.int .i64 f.r)/\u.cell? ⟨w.heap.size,2,none⟩=some f.cv/\u.cell? ⟨w.heap.size,3,none⟩=some f.iv/\u.cell? ⟨w.heap.size,4,none⟩=some (.int .i64 x.op)/\u.cell? ⟨w.heap.size,5,none⟩=some (.int .i64 x.a)/\u.cell? ⟨w.heap.size,6,none⟩=some (.int .i64 x.b)/\u.cell? ⟨w.heap.size,7,none⟩=some (.int .i64 x.c)/\u.cell? ⟨w.heap.size,8,none⟩=some (.int .i64 i))/\u.cell? ⟨w.heap.size+1,0,none⟩=some (.func (.func q0) #[] #[]):=fun u hu=>⟨nine (blk_below hu hp),(hu.cell (p:=⟨_,_,none⟩) (Array.getElem?_eq_some_iff.1 hq).1).trans (cell_blk hq rfl)⟩
 have hnil:=eql46
 have i0:=idx0
 have i1:=idx1
 have i2:=idx2
 obtain⟨⟨p0,p1,p2,p3,p4,p5,p6,p7,p8⟩,_⟩:=hC w1 (Below.refl _ _)
 replace hC:Hid _:=hC
 clear hp hq
 go_enter Tryz.func37,Tryz.ntmps37
 go_wp2_with (go_at_call 46;refine(hF _).mono ?_;rintro e w' ⟨rfl,hw'⟩;subst w')
 go_loopw [22] (fun v wr=>∃m:Nat,m<=3/\v=.int .i64 m/\upTo m B0 B1 B2/\Below w1.heap.size w1 wr) (fun v _=>3-(intOf v).toNat)
 case atStart=>exact⟨0,by omega,rfl,⟨fun h=>by omega,fun h=>by omega,fun h=>by omega⟩,Below.refl _ _⟩
 case round =>
  clear p0 p1 p2 p3 p4 p5 p6 p7 p8
  obtain⟨m,hm,rfl,hG,hb⟩:=hrel
  obtain⟨g1,g2,g3⟩:=hG
  obtain rfl|rfl|rfl|rfl:m=0\/m=1\/m=2\/m=3:=by omega
  ·skip
   clear g1 g2 g3
   clear hB0 hB1 hB2
   cases eB:B0
   ·have kk:=k0.out
    rw[eB]at kk
    replace kk:Hid _:=kk
    replace eB:Hid _:=eB
    go_wp2
    refine wp_quiet (Below w1.heap.size w1) (by kernel_rfl) (by kernel_rfl) hb.drew ?_
    repeat(first
     | go_big_quiet_skip
     | (
      apply quiet_want
      ·kernel_rfl
      ·intro u hu
       obtain⟨⟨_,_,_,_,_,_,_,_,_⟩,_⟩:=hC.out u hu
       first|(go_simp;done)|(go_simp;with_reducible rfl)|(rcases hq0 with rfl|rfl|rfl|rfl|rfl <;> (go_simp;refine(kk.out u).mono ?_;rintro e w2 ⟨rfl,hb2⟩;exact⟨rfl,ext_trans hu hb2⟩))
      simp only[Act.put,List.setIfInBounds_toArray,List.set_cons_zero,List.set_cons_succ]))
    refine wpQuiet_nil (fun w2 hb2=>?_)
    go_wp2
    go_ret
    exact⟨by rw[eB.out];rfl,ext_trans hb1 hb2⟩
   ·have kk:=k0.out
    rw[eB]at kk
    replace kk:Hid _:=kk
    replace eB:Hid _:=eB
    go_wp2
    refine wp_quiet (Below w1.heap.size w1) (by kernel_rfl) (by kernel_rfl) hb.drew ?_
    repeat(first
     | go_big_quiet_skip
     | (
      apply quiet_want
      ·kernel_rfl
      ·intro u hu
       obtain⟨⟨_,_,_,_,_,_,_,_,_⟩,_⟩:=hC.out u hu
       first|(go_simp;done)|(go_simp;with_reducible rfl)|(rcases hq0 with rfl|rfl|rfl|rfl|rfl <;> (go_simp;refine(kk.out u).mono ?_;rintro e w2 ⟨rfl,hb2⟩;exact⟨rfl,ext_trans hu hb2⟩))
      simp only[Act.put,List.setIfInBounds_toArray,List.set_cons_zero,List.set_cons_succ]))
    refine wpQuiet_nil (fun w2 hb2=>?_)
    go_wp2
    go_roundw
    case rel=>exact⟨1,by omega,by simp,⟨fun _=>rfl,fun h=>by omega,fun h=>by omega⟩,hb2⟩
    case measure=>simp[intOf]
  ·have c0:=g1 (by omega)
   clear g1 g2 g3
   replace c0:Hid _:=c0
   have hx:(x.b != 0)=!B1:=by rw[<- hB1];rfl
   clear hB0 hB1 hB2
   cases eB:B1
   ·rw[eB]at hx
    simp only[Bool.not_false]at hx
    replace eB:Hid _:=eB
    go_wp2
    refine wp_quiet (Below w1.heap.size w1) (by kernel_rfl) (by kernel_rfl) hb.drew ?_
    repeat(first
     | go_big_quiet_skip
     | (
      apply quiet_want
      ·kernel_rfl
      ·intro u hu
       obtain⟨⟨_,_,_,_,_,_,_,_,_⟩,_⟩:=hC.out u hu
       first|(go_simp;done)|(go_simp;with_reducible rfl)
      simp only[Act.put,List.setIfInBounds_toArray,List.set_cons_zero,List.set_cons_succ]))
    refine wpQuiet_nil (fun w2 hb2=>?_)
    go_wp2
    go_ret
    exact⟨by rw[eB.out];simp,ext_trans hb1 hb2⟩
   ·rw[eB]at hx
    simp only[Bool.not_true]at hx
    replace eB:Hid _:=eB
    go_wp2
    refine wp_quiet (Below w1.heap.size w1) (by kernel_rfl) (by kernel_rfl) hb.drew ?_
    repeat(first
     | go_big_quiet_skip
     | (
      apply quiet_want
      ·kernel_rfl
      ·intro u hu
       obtain⟨⟨_,_,_,_,_,_,_,_,_⟩,_⟩:=hC.out u hu
       first|(go_simp;done)|(go_simp;with_reducible rfl)
      simp only[Act.put,List.setIfInBounds_toArray,List.set_cons_zero,List.set_cons_succ]))
    refine wpQuiet_nil (fun w2 hb2=>?_)
    go_wp2
    go_roundw
    case rel=>exact⟨2,by omega,by simp,⟨fun _=>c0.out,fun _=>rfl,fun h=>by omega⟩,hb2⟩
    case measure=>simp[intOf]
  ·have c0:=g1 (by omega)
   have c1:=g2 (by omega)
   clear g1 g2 g3
   replace c0:Hid _:=c0
   replace c1:Hid _:=c1
   have hx:(x.c != 0)=!B2:=by rw[<- hB2];rfl
   clear hB0 hB1 hB2
   cases eB:B2
   ·rw[eB]at hx
    simp only[Bool.not_false]at hx
    replace eB:Hid _:=eB
    go_wp2
    refine wp_quiet (Below w1.heap.size w1) (by kernel_rfl) (by kernel_rfl) hb.drew ?_
    repeat(first
     | go_big_quiet_skip
     | (
      apply quiet_want
      ·kernel_rfl
      ·intro u hu
       obtain⟨⟨_,_,_,_,_,_,_,_,_⟩,_⟩:=hC.out u hu
       first|(go_simp;done)|(go_simp;with_reducible rfl)
      simp only[Act.put,List.setIfInBounds_toArray,List.set_cons_zero,List.set_cons_succ]))
    refine wpQuiet_nil (fun w2 hb2=>?_)
    go_wp2
    go_ret
    exact⟨by rw[eB.out];simp,ext_trans hb1 hb2⟩
   ·rw[eB]at hx
    simp only[Bool.not_true]at hx
    replace eB:Hid _:=eB
    go_wp2
    refine wp_quiet (Below w1.heap.size w1) (by kernel_rfl) (by kernel_rfl) hb.drew ?_
    repeat(first
     | go_big_quiet_skip
     | (
      apply quiet_want
      ·kernel_rfl
      ·intro u hu
       obtain⟨⟨_,_,_,_,_,_,_,_,_⟩,_⟩:=hC.out u hu
       first|(go_simp;done)|(go_simp;with_reducible rfl)
      simp only[Act.put,List.setIfInBounds_toArray,List.set_cons_zero,List.set_cons_succ]))
    refine wpQuiet_nil (fun w2 hb2=>?_)
    go_wp2
    go_roundw
    case rel=>exact⟨3,by omega,by simp,⟨fun _=>c0.out,fun _=>c1.out,fun _=>rfl⟩,hb2⟩
    case measure=>simp[intOf]
  ·have c0:=g1 (by omega)
   have c1:=g2 (by omega)
   have c2:=g3 (by omega)
   clear g1 g2 g3
   replace c0:Hid _:=c0
   replace c1:Hid _:=c1
   replace c2:Hid _:=c2
   go_wp2
   go_ret
   exact⟨by rw[c0.out,c1.out,c2.out];rfl,ext_trans hb1 hb⟩
end Go.Proofs.YthljpnmhddfblaaGreatDoor
