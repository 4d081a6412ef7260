/- fold: of the loop's trace nothing is known ahead. -/
import Derived.Test.YthljpnmhddfblaaGreatDoorS32
namespace Go.Proofs.YthljpnmhddfblaaGreatDoor
open Go.RowKit Go Go.Shelf
set_option maxRecDepth 100000
set_option maxHeartbeats 8000000
set_option linter.all false
section
variable [DecidableEq Vl]
abbrev arr0:Value:=.agg #[.int .i64 0,.int .i64 0,.string ⟨#[]⟩,.int .i64 0,.int .i64 0,.string ⟨#[]⟩,.int .i64 0,.int .i64 0,.string ⟨#[]⟩]
abbrev arrb:Obj:=.cells #[.int .i64 0,.int .i64 0,.string ⟨#[]⟩,.int .i64 0,.int .i64 0,.string ⟨#[]⟩,.int .i64 0,.int .i64 0,.string ⟨#[]⟩] 180
theorem nine180{W:World}{B:Nat}(h:W.heap[B]?=some arrb):(W.cell? ⟨B,0,none⟩=some (.int .i64 0)/\W.cell? ⟨B,1,none⟩=some (.int .i64 0)/\W.cell? ⟨B,2,none⟩=some (.string ⟨#[]⟩))/\(W.cell? ⟨B,3,none⟩=some (.int .i64 0)/\W.cell? ⟨B,4,none⟩=some (.int .i64 0)/\W.cell? ⟨B,5,none⟩=some (.string ⟨#[]⟩))/\(W.cell? ⟨B,6,none⟩=some (.int .i64 0)/\W.cell? ⟨B,7,none⟩=some (.int .i64 0)/\W.cell? ⟨B,8,none⟩=some (.string ⟨#[]⟩))/\∀i,W.frozen? ⟨B,i,none⟩=false :=
 ⟨⟨cell_block h rfl,cell_block h rfl,cell_block h rfl⟩,⟨cell_block h rfl,cell_block h rfl,cell_block h rfl⟩,⟨cell_block h rfl,cell_block h rfl,cell_block h rfl⟩,fun i=>frozen_block h⟩
theorem res112{tm:Array Value}{W:World}{C:Nat}{x:Value}(h:tm[4]?.getD undef=.pointer (some ⟨C,0,none⟩))(hx:tm[5]?.getD undef=x)(hy:W.heap[C]?=some arrb):(results Tryz.f112 tm).run Tryz.prog W=.ok (.tuple #[arr0,x]) W:=by
 obtain⟨⟨c0,c1,c2⟩,⟨c3,c4,c5⟩,⟨c6,c7,c8⟩,_⟩:=nine180 hy
 simp[results,Tryz.results112,go_sem,h,hx,c0,c1,c2,c3,c4,c5,c6,c7,c8]
theorem arr_store{W:World}{B:Nat}(h:W.heap[B]?=some arrb):((((((((W.setCell ⟨B,0,none⟩ (.int .i64 0)).setCell ⟨B,1,none⟩ (.int .i64 0)).setCell ⟨B,2,none⟩ (.string ⟨#[]⟩)).setCell ⟨B,3,none⟩ (.int .i64 0)).setCell ⟨B,4,none⟩ (.int .i64 0)).setCell ⟨B,5,none⟩ (.string ⟨#[]⟩)).setCell ⟨B,6,none⟩ (.int .i64 0)).setCell ⟨B,7,none⟩ (.int .i64 0)).setCell ⟨B,8,none⟩ (.string ⟨#[]⟩) |>.heap[B]?=some arrb:=by
 have:=set_block (i:=8) (.string ⟨#[]⟩) (set_block (i:=7) (.int .i64 0) (set_block (i:=6) (.int .i64 0) (set_block (i:=5) (.string ⟨#[]⟩) (set_block (i:=4) (.int .i64 0) (set_block (i:=3) (.int .i64 0) (set_block (i:=2) (.string ⟨#[]⟩) (set_block (i:=1) (.int .i64 0) (set_block (i:=0) (.int .i64 0) h))))))))
 simpa using this
theorem arr_below{w W:World}{B m:Nat}(hb:Below m w W)(hB:m<=B):Below m w (((((((((W.setCell ⟨B,0,none⟩ (.int .i64 0)).setCell ⟨B,1,none⟩ (.int .i64 0)).setCell ⟨B,2,none⟩ (.string ⟨#[]⟩)).setCell ⟨B,3,none⟩ (.int .i64 0)).setCell ⟨B,4,none⟩ (.int .i64 0)).setCell ⟨B,5,none⟩ (.string ⟨#[]⟩)).setCell ⟨B,6,none⟩ (.int .i64 0)).setCell ⟨B,7,none⟩ (.int .i64 0)).setCell ⟨B,8,none⟩ (.string ⟨#[]⟩)) :=
 ((((((((hb.setCell (p:=⟨B,0,none⟩) hB _).setCell (p:=⟨B,1,none⟩) hB _).setCell (p:=⟨B,2,none⟩) hB _).setCell (p:=⟨B,3,none⟩) hB _).setCell (p:=⟨B,4,none⟩) hB _).setCell (p:=⟨B,5,none⟩) hB _).setCell (p:=⟨B,6,none⟩) hB _).setCell (p:=⟨B,7,none⟩) hB _).setCell (p:=⟨B,8,none⟩) hB _
structure VaQ (W:World) (b:Bool) (e:Ending) (W':World):Prop where
 e:e=.returned (.tuple #[arr0,.bool b])
 b:Below W.heap.size W W'
theorem values_any(ia:Option Addr)(n ic:Nat)(o:Ti)(hop:opH o.op)(W:World)(hin:1<=askN o.op->∃(g m:Nat) (p:Int),ia=some ⟨g,0,none⟩/\o.x=m/\m<n/\(p != 2)=true/\W.cell? ⟨g,m*8,none⟩=some (.int .i64 p)) :
  Calls Tryz.prog 112 #[.slice ia n ic,o.val] W (VaQ W (decide (askN o.op=0))):=by
 obtain⟨w2,hw2⟩:∃w2,(W.alloc o.box).alloc arrb=w2:=⟨_,rfl⟩
 have E2:Below W.heap.size W w2:=by rw[<- hw2];exact ext_alloc (ext_alloc (Below.refl _ _) _) _
 have g0:w2.heap[W.heap.size]?=some o.box:=by rw[<- hw2];exact block_alloc _ (heap_new _ _)
 have g1:w2.heap[W.heap.size+1]?=some arrb:=by rw[<- hw2];exact new2' W _ _
 have hask:=asked_any W.heap.size o hop w2 g0
 have hfin:∀V b,Below W.heap.size W V->V.heap[W.heap.size+1]?=some arrb->VaQ W b (.returned (.tuple #[arr0,.bool b])) (((((((((V.setCell ⟨W.heap.size+1,0,none⟩ (.int .i64 0)).setCell ⟨W.heap.size+1,1,none⟩ (.int .i64 0)).setCell ⟨W.heap.size+1,2,none⟩ (.string ⟨#[]⟩)).setCell ⟨W.heap.size+1,3,none⟩ (.int .i64 0)).setCell ⟨W.heap.size+1,4,none⟩ (.int .i64 0)).setCell ⟨W.heap.size+1,5,none⟩ (.string ⟨#[]⟩)).setCell ⟨W.heap.size+1,6,none⟩ (.int .i64 0)).setCell ⟨W.heap.size+1,7,none⟩ (.int .i64 0)).setCell ⟨W.heap.size+1,8,none⟩ (.string ⟨#[]⟩)):=fun V b hb hg=>⟨rfl,arr_below hb (by omega)⟩
 obtain⟨a,ha⟩:∃a,askN o.op=a:=⟨_,rfl⟩
 rw[ha]at hin hask⊢
 replace hfin:Hid _:=hfin
 by_cases h0:a=0
 ·subst h0
  clear hin ha hop
  go_enter Tryz.func112,Tryz.ntmps112
  go_wp2_with (go_at_call 141;refine hask.mono ?_;rintro e w4 ⟨G,rfl,hG,gG,hb4⟩;refine Hid.out ?_)
  refine Lib.hid ?_
  have E4:=ext_trans E2 hb4
  have g4:=block_below hb4 g1
  go_wp2
  go_loopw [10] (fun i wr=>i=.int .i64 0/\wr=w4) (fun _ _=>0)
  case atStart=>exact⟨rfl,rfl⟩
  case round =>
   obtain⟨rfl,rfl⟩:=hrel
   obtain⟨⟨c0,c1,c2⟩,⟨c3,c4,c5⟩,⟨c6,c7,c8⟩,z⟩:=nine180 g4
   have z0:=z 0
   have z1:=z 1
   have z2:=z 2
   have z3:=z 3
   have z4:=z 4
   have z5:=z 5
   have z6:=z 6
   have z7:=z 7
   have z8:=z 8
   go_wp2
   exact bodyPost_ret (res112 (C:=W.heap.size+1) rfl rfl (arr_store g4)) rfl (hfin.out _ _ E4 g4)
 ·obtain⟨g,m,p,rfl,hx,hm,hp,hc⟩:=hin (by omega)
  have hd:decide (a=0)=false:=by simpa using h0
  rw[hd]
  have ha2:a<=2:=by rw[<- ha];unfold askN;split <;> (try split) <;> omega
  have k1:(0:Int)<(a:Int):=by omega
  replace hx:Hid _:=hx
  clear hin ha hop hd
  go_enter Tryz.func112,Tryz.ntmps112
  go_wp2_with (go_at_call 141;refine hask.mono ?_;rintro e w4 ⟨G,rfl,hG,gG,hb4⟩;refine Hid.out ?_)
  refine Lib.hid ?_
  have E4:=ext_trans E2 hb4
  have g4:=block_below hb4 g1
  have G0:w4.cell? ⟨G,0,none⟩=some (.pointer (some ⟨W.heap.size,1,none⟩)):=cell_block gG rfl
  have x4:w4.cell? ⟨W.heap.size,1,none⟩=some (.int .i64 (m:Nat)):=by rw[<- hx.out];exact cell_block (block_below hb4 g0) rfl
  have p4:=cellB E4 hc
  go_wp2
  go_loopw [10] (fun i wr=>i=.int .i64 0/\wr=w4) (fun _ _=>0)
  case atStart=>exact⟨rfl,rfl⟩
  case round =>
   obtain⟨rfl,rfl⟩:=hrel
   obtain⟨⟨c0,c1,c2⟩,⟨c3,c4,c5⟩,⟨c6,c7,c8⟩,z⟩:=nine180 g4
   have z0:=z 0
   have z1:=z 1
   have z2:=z 2
   have z3:=z 3
   have z4:=z 4
   have z5:=z 5
   have z6:=z 6
   have z7:=z 7
   have z8:=z 8
   go_wp2
   exact bodyPost_ret (res112 (C:=W.heap.size+1) rfl rfl (arr_store g4)) rfl (hfin.out _ _ E4 g4)
theorem holds_1(o:Ti)(ho:o.op=1)(W:World):Calls Tryz.prog 113 #[o.val,nilV.v] W fun e W'=>e=.returned (.bool false)/\Below W.heap.size W W':=by
 have hB:∀a b:Obj,Below W.heap.size W ((W.alloc a).alloc b):=fun a b=>ext_alloc (ext_alloc (Below.refl _ _) _) _
 obtain⟨op,x,y,z,v,sn⟩:=o
 simp only at ho
 subst ho
 replace hB:Hid _:=hB
 go_enter Tryz.func113,Tryz.ntmps113
 go_wp2
 go_ret
 exact⟨rfl,hB.out _ _⟩
theorem res114{tm:Array Value}{W:World}{C:Nat}{x:Vl}{y:Value}(h:tm[4]?.getD undef=.pointer (some ⟨C,0,none⟩))(hx:tm[5]?.getD undef=y)(hy:W.heap[C]?=some (bx x)):(results Tryz.f114 tm).run Tryz.prog W=.ok (.tuple #[x.v,y]) W:=by
 obtain⟨c0,c1,c2,_,_,_⟩:=in3 hy
 simp[results,Tryz.results114,go_sem,h,hx,c0,c1,c2]
theorem outcome_1(o:Ti)(ho:o.op=1)(W:World):Calls Tryz.prog 114 #[o.val,arr0] W fun e W'=>e=.returned (.tuple #[nilV.v,.int .i64 2])/\Below W.heap.size W W':=by
 have hq:=fun u=>op_low (-19) 0 0 0 0 ⟨#[]⟩ ⟨#[]⟩ u (by omega)
 obtain⟨op,x,y,z,v,sn⟩:=o
 simp only at ho
 subst ho
 obtain⟨w3,hw3⟩:∃w3,((W.alloc (.cells #[.int .i64 1,.int .i64 x,.int .i64 y,.int .i64 z,.int .i64 v.k,.int .i64 v.n,.string v.s,.int .i64 sn] 121)).alloc arrb).alloc (.cells #[.int .i64 0,.int .i64 0,.string ⟨#[]⟩] 25)=w3:=⟨_,rfl⟩
 have E3:Below W.heap.size W w3:=by rw[<- hw3];exact ext_alloc (ext_alloc (ext_alloc (Below.refl _ _) _) _) _
 have g3:w3.heap[W.heap.size+1+1]?=some (bx nilV):=by rw[<- hw3];exact new3 W _ _ _
 have g1:w3.heap[W.heap.size+1]?=some arrb:=by rw[<- hw3];exact block_alloc _ (new2' W _ _)
 have g0:w3.heap[W.heap.size]?=some (.cells #[.int .i64 1,.int .i64 x,.int .i64 y,.int .i64 z,.int .i64 v.k,.int .i64 v.n,.string v.s,.int .i64 sn] 121):=by rw[<- hw3];exact block_alloc _ (block_alloc _ (heap_new _ _))
 have c0:=cell_block (i:=0) g0 rfl
 obtain⟨⟨a0,a1,a2⟩,⟨a3,a4,a5⟩,_,_⟩:=nine180 g1
 go_enter Tryz.func114,Tryz.ntmps114
 go_wp2_with (go_at_call 98;refine(hq _).mono ?_;rintro e w4 ⟨rfl,hb4⟩;refine Hid.out ?_)
 refine Lib.hid ?_
 have g4:=block_below hb4 g3
 obtain⟨b0,b1,b2,f0,f1,f2⟩:=in3 g4
 have E4:=ext_trans E3 hb4
 go_wp2
 exact bodyPost_ret (res114 (C:=W.heap.size+1+1) (x:=nilV) rfl rfl (put3_same nilV g4)) rfl ⟨rfl,put3_below nilV E4 (by omega)⟩
theorem en111'(u:World)(args:Array Value):(callFunc 111 args).run Tryz.prog u=.ok (.enter 111 args) u:=by kernel_rfl
section
variable {C:Nat->Prop} {w1:World} {B:Nat} {t:Tr} {now:List Int} {W:World}
structure AdQ (C:Nat->Prop) (w1:World) (B:Nat) (t:Tr) (now:List Int) (o:Ti) (W:World) (e:Ending) (W':World):Prop where
 e:e=.returned (.int .i64 (t.ins.length:Nat))
 m:Mk C w1 B { t with ins:=t.ins++[o] } now W'
 l:∀k,k<w1.heap.size->W'.heap[k]?=W.heap[k]?
 c:W'.cell? ⟨B,4,none⟩=W.cell? ⟨B,4,none⟩
theorem add_q(h:Mk C w1 B t now W)(o:Ti)(hs:o.v.s.size<=300)(hn:t.ins.length<=1000){V:World}(hb:Below W.heap.size W V):Calls Tryz.prog 107 #[.pointer (some ⟨B,0,none⟩),o.val] V fun e W'=>e=.returned (.int .i64 (t.ins.length:Nat))/\Hid (AdQ C w1 B t now o W e W')/\Hid (∀k,W.heap.size<=k->k<V.heap.size->W'.heap[k]?=V.heap[k]?):=by
 have hBW:B<W.heap.size:=by obtain⟨_,_,_,_,h1,_⟩:=h.ex;exact block_lt h1
 refine(add_any h hb o hs hn).mono fun e W' k=>⟨k.1,⟨k.1,k.2.1,fun j hj=>(k.2.2.1 j hj).trans (hb.block j (by have:=h.kp.size;omega)),k.2.2.2.1.trans (hb.cell (p:=⟨B,4,none⟩) hBW)⟩,k.2.2.2.2⟩
theorem fold1_any(h:Mk C w1 B t now W)(o:Ti)(hop:opH o.op)(hs:o.v.s.size<=300)(hn:t.ins.length<=1000)(hx:1<=askN o.op->∃m:Nat,o.x=m/\m<t.ins.length)(hins:∀q∈t.ins,opH q.op) :
  Calls Tryz.prog 111 #[.pointer (some ⟨B,0,none⟩),o.val] W (AdQ C w1 B t now o W):=by
 obtain⟨ia,ic,hA⟩:=h.addR o
 have g0:(W.alloc o.box).heap[W.heap.size]?=some o.box:=heap_new _ _
 have E0:=ext_alloc (Below.refl W.heap.size W) o.box
 obtain⟨n,hnn⟩:∃n,t.ins.length=n:=⟨_,rfl⟩
 have hv:∀u,Below W.heap.size W u->Calls Tryz.prog 112 #[.slice ia n ic,o.val] u (VaQ u (decide (askN o.op=0))):=fun u hu=>by
  refine values_any ia n ic o hop u (fun h1=>?_)
  obtain⟨m,e1,e2⟩:=hx h1
  have hr:=(hA u hu).own
  rw[hnn]at hr e2
  obtain⟨q,hq⟩:∃q,t.ins[m]?=some q:=⟨t.ins[m]'(by rw[hnn];exact e2),List.getElem?_eq_getElem _⟩
  obtain⟨g,cap,hrd⟩:=Rwo.rd (r:=insR t.ins (.slice ia n ic)) (lo:=w1.heap.size) (by show World.ownsRow _ _ _ _ _ t.ins.length _;rw[hnn];exact hr) (by show t.ins.length≠0;omega)
  have hv':(Value.slice ia n ic)=.slice (some ⟨g,0,none⟩) t.ins.length cap:=hrd.v
  cases hv'
  refine⟨g,m,q.op,rfl,e1,e2,?_,(tiAt_of hrd hq).c0⟩
  rcases hins q (List.mem_of_getElem? hq)with e|e|e|e <;> rw[e] <;> rfl
 have hadd:∀u,Below W.heap.size W u->Calls Tryz.prog 107 #[.pointer (some ⟨B,0,none⟩),o.val] u _:=fun u hu=>add_q h o hs hn hu
 have ld1:(W.alloc o.box).cell? ⟨B,2,none⟩=some (.slice ia n ic):=by rw[<- hnn];exact(hA _ E0).ld
 have hld:∀u,Below W.heap.size W u->u.cell? ⟨B,2,none⟩=some (.slice ia n ic):=fun u hu=>by rw[<- hnn];exact(hA u hu).ld
 rw[hnn]at hadd
 have o0:=cell_block (i:=0) g0 rfl
 have o1:=cell_block (i:=1) g0 rfl
 have o2:=cell_block (i:=2) g0 rfl
 have o3:=cell_block (i:=3) g0 rfl
 have o4:=cell_block (i:=4) g0 rfl
 have o5:=cell_block (i:=5) g0 rfl
 have o6:=cell_block (i:=6) g0 rfl
 have o7:=cell_block (i:=7) g0 rfl
 have hcs:∀u u',Below u.heap.size u u'->Below W.heap.size W u->u.heap[W.heap.size]?=some o.box->Below W.heap.size W u'/\u'.heap[W.heap.size]?=some o.box/\u'.cell? ⟨B,2,none⟩=some (.slice ia n ic):=fun u u' h1 h2 h3=>⟨ext_trans h2 h1,(h1.block _ (block_lt h3)).trans h3,hld u' (ext_trans h2 h1)⟩
 have hzz:∀u',Below ((W.alloc o.box).alloc arrb).drew.heap.size ((W.alloc o.box).alloc arrb).drew u'->((u'.cell? ⟨W.heap.size+1,0,none⟩=some (.int .i64 0)/\u'.cell? ⟨W.heap.size+1,1,none⟩=some (.int .i64 0)/\u'.cell? ⟨W.heap.size+1,2,none⟩=some (.string ⟨#[]⟩))/\(u'.cell? ⟨W.heap.size+1,3,none⟩=some (.int .i64 0)/\u'.cell? ⟨W.heap.size+1,4,none⟩=some (.int .i64 0)/\u'.cell? ⟨W.heap.size+1,5,none⟩=some (.string ⟨#[]⟩))/\(u'.cell? ⟨W.heap.size+1,6,none⟩=some (.int .i64 0)/\u'.cell? ⟨W.heap.size+1,7,none⟩=some (.int .i64 0)/\u'.cell? ⟨W.heap.size+1,8,none⟩=some (.string ⟨#[]⟩))/\∀i,u'.frozen? ⟨W.heap.size+1,i,none⟩=false)/\W.heap.size+1<u'.heap.size:=fun u' h1=>by
  have g:u'.heap[W.heap.size+1]?=some arrb:=(h1.block (W.heap.size+1) (by simp)).trans (new2' W _ _)
  exact⟨nine180 g,block_lt g⟩
 have hzg:∀u',Below ((W.alloc o.box).alloc arrb).drew.heap.size ((W.alloc o.box).alloc arrb).drew u'->u'.heap[W.heap.size+1]?=some arrb:=fun u' h1=>(h1.block (W.heap.size+1) (by simp)).trans (new2' W _ _)
 replace hzg:Hid _:=hzg
 replace hzz:Hid _:=hzz
 have hBW:B<W.heap.size:=by obtain⟨_,_,_,_,h1,_⟩:=h.ex;exact block_lt h1
 have nB1:¬B=W.heap.size+1:=by omega
 have nB2:¬W.heap.size+1=B:=by omega
 replace hv:Hid _:=hv
 replace hadd:Hid _:=hadd
 replace hcs:Hid _:=hcs
 replace hnn:Hid _:=hnn
 clear hA hld hx hins h
 by_cases ha:askN o.op=0
 ·have ho1:o.op=1:=by
   unfold askN at ha
   by_cases h1:o.op=1
   ·exact h1
   ·rw[if_neg h1]at ha;split at ha <;> omega
  rw[decide_eq_true ha]at hv
  have hho:=fun u=>holds_1 o ho1 u
  have hou:=fun u=>outcome_1 o ho1 u
  replace hho:Hid _:=hho
  replace hou:Hid _:=hou
  clear ha hop ho1
  go_enter Tryz.func111,Tryz.ntmps111
  go_wp2
  go_region_held3 (fun u=>u.cell? ⟨B,2,none⟩=some (.slice ia n ic)/\u.cell? ⟨W.heap.size,0,none⟩=some (.int .i64 o.op)/\u.cell? ⟨W.heap.size,1,none⟩=some (.int .i64 o.x)/\u.cell? ⟨W.heap.size,2,none⟩=some (.int .i64 o.y)/\u.cell? ⟨W.heap.size,3,none⟩=some (.int .i64 o.z)/\u.cell? ⟨W.heap.size,4,none⟩=some (.int .i64 o.v.k)/\u.cell? ⟨W.heap.size,5,none⟩=some (.int .i64 o.v.n)/\u.cell? ⟨W.heap.size,6,none⟩=some (.string o.v.s)/\u.cell? ⟨W.heap.size,7,none⟩=some (.int .i64 o.sn)) (go_keep) (first|(go_at_call 112;refine(hv.out _ (by first|exact ext_drew E0|exact ext_alloc (ext_drew E0) _|exact ext_drew (ext_alloc E0 _))).mono ?_;rintro e w4 ⟨rfl,hb4⟩;obtain⟨E4,g4,ld4⟩:=hcs.out _ _ hb4 (by first|exact ext_drew E0|exact ext_alloc (ext_drew E0) _|exact ext_drew (ext_alloc E0 _)) (by first|exact g0|exact block_alloc _ g0);have hw4:=block_lt g4;have nB3:¬B=w4.heap.size:=(by omega);have nB4:¬W.heap.size=w4.heap.size:=(by omega);have p0:=cell_block (i:=0) g4 rfl;have p1:=cell_block (i:=1) g4 rfl;have p2:=cell_block (i:=2) g4 rfl;have p3:=cell_block (i:=3) g4 rfl;have p4:=cell_block (i:=4) g4 rfl;have p5:=cell_block (i:=5) g4 rfl;have p6:=cell_block (i:=6) g4 rfl;have p7:=cell_block (i:=7) g4 rfl;first|(have hz9:=hzz.out _ hb4;have y0:=hz9.1.1.1;have y1:=hz9.1.1.2.1;have y2:=hz9.1.1.2.2;have y3:=hz9.1.2.1.1;have y4:=hz9.1.2.1.2.1;have y5:=hz9.1.2.1.2.2;have y6:=hz9.1.2.2.1.1;have y7:=hz9.1.2.2.1.2.1;have y8:=hz9.1.2.2.1.2.2;have q0:=hz9.1.2.2.2 0;have q1:=hz9.1.2.2.2 1;have q2:=hz9.1.2.2.2 2;have q3:=hz9.1.2.2.2 3;have q4:=hz9.1.2.2.2 4;have q5:=hz9.1.2.2.2 5;have q6:=hz9.1.2.2.2 6;have q7:=hz9.1.2.2.2 7;have q8:=hz9.1.2.2.2 8;clear hz9)|skip))
  ·have hE5:=E4.size
   obtain⟨V,hV⟩:∃V,w4.alloc arrb=V:=⟨_,rfl⟩
   have EV:Below W.heap.size W V:=by rw[<- hV];exact ext_alloc E4 _
   have gV:V.heap[w4.heap.size]?=some arrb:=by rw[<- hV];exact heap_new _ _
   have gO:V.heap[W.heap.size]?=some o.box:=by rw[<- hV];exact block_alloc _ g4
   obtain⟨⟨a0,a1,a2⟩,⟨a3,a4,a5⟩,⟨a6,a7,a8⟩,_⟩:=nine180 gV
   have e0:=cell_block (i:=0) gO rfl
   have e1:=cell_block (i:=1) gO rfl
   have e2:=cell_block (i:=2) gO rfl
   have e3:=cell_block (i:=3) gO rfl
   have e4:=cell_block (i:=4) gO rfl
   have e5:=cell_block (i:=5) gO rfl
   have e6:=cell_block (i:=6) gO rfl
   have e7:=cell_block (i:=7) gO rfl
   rw[hV]
   clear hV p0 p1 p2 p3 p4 p5 p6 p7 hb4 E4 g4
   go_wp2_with (go_at_call 113;refine(hho.out _).mono ?_;rintro e w5 ⟨rfl,hb5⟩;refine Hid.out ?_)
   refine Lib.hid ?_
   have E5:=ext_trans EV hb5
   have g5:=block_below hb5 gO
   have g6:=block_below hb5 gV
   clear a0 a1 a2 a3 a4 a5 a6 a7 a8 e0 e1 e2 e3 e4 e5 e6 e7
   obtain⟨⟨a0,a1,a2⟩,⟨a3,a4,a5⟩,⟨a6,a7,a8⟩,_⟩:=nine180 g6
   have e0:=cell_block (i:=0) g5 rfl
   have e1:=cell_block (i:=1) g5 rfl
   have e2:=cell_block (i:=2) g5 rfl
   have e3:=cell_block (i:=3) g5 rfl
   have e4:=cell_block (i:=4) g5 rfl
   have e5:=cell_block (i:=5) g5 rfl
   have e6:=cell_block (i:=6) g5 rfl
   have e7:=cell_block (i:=7) g5 rfl
   go_wp2_with (go_at_call 114;refine(hou.out _).mono ?_;rintro e w6 ⟨rfl,hb6⟩;refine Hid.out ?_)
   refine Lib.hid ?_
   have E6:=ext_trans E5 hb6
   have g7:=block_below hb6 g5
   clear a0 a1 a2 a3 a4 a5 a6 a7 a8 e0 e1 e2 e3 e4 e5 e6 e7
   have e0:=cell_block (i:=0) g7 rfl
   have e1:=cell_block (i:=1) g7 rfl
   have e2:=cell_block (i:=2) g7 rfl
   have e3:=cell_block (i:=3) g7 rfl
   have e4:=cell_block (i:=4) g7 rfl
   have e5:=cell_block (i:=5) g7 rfl
   have e6:=cell_block (i:=6) g7 rfl
   have e7:=cell_block (i:=7) g7 rfl
   have hw6:=block_lt g7
   have E7:=ext_alloc E6 (bx nilV)
   go_wp2_with (go_at_call 107;refine(hadd.out _ E7).mono ?_;rintro e w7 ⟨rfl,hQ,_⟩)
   go_ret
   exact hQ.out
  ·have hE5:=E4.size
   obtain⟨V,hV⟩:∃V,((((((((w4.setCell ⟨W.heap.size+1,0,none⟩ (.int .i64 0)).setCell ⟨W.heap.size+1,1,none⟩ (.int .i64 0)).setCell ⟨W.heap.size+1,2,none⟩ (.string ⟨#[]⟩)).setCell ⟨W.heap.size+1,3,none⟩ (.int .i64 0)).setCell ⟨W.heap.size+1,4,none⟩ (.int .i64 0)).setCell ⟨W.heap.size+1,5,none⟩ (.string ⟨#[]⟩)).setCell ⟨W.heap.size+1,6,none⟩ (.int .i64 0)).setCell ⟨W.heap.size+1,7,none⟩ (.int .i64 0)).setCell ⟨W.heap.size+1,8,none⟩ (.string ⟨#[]⟩)=V:=⟨_,rfl⟩
   have EV:Below W.heap.size W V:=by rw[<- hV];exact arr_below (B:=W.heap.size+1) E4 (by omega)
   have gV:V.heap[W.heap.size+1]?=some arrb:=by rw[<- hV];exact arr_store (B:=W.heap.size+1) ((hzg.out _ hb4))
   have gO:V.heap[W.heap.size]?=some o.box:=by rw[<- hV];exact((set1_other _ _ (by omega)).trans ((set1_other _ _ (by omega)).trans ((set1_other _ _ (by omega)).trans ((set1_other _ _ (by omega)).trans ((set1_other _ _ (by omega)).trans ((set1_other _ _ (by omega)).trans ((set1_other _ _ (by omega)).trans ((set1_other _ _ (by omega)).trans (set1_other _ _ (by omega)))))))))).trans g4
   obtain⟨⟨a0,a1,a2⟩,⟨a3,a4,a5⟩,⟨a6,a7,a8⟩,_⟩:=nine180 gV
   have e0:=cell_block (i:=0) gO rfl
   have e1:=cell_block (i:=1) gO rfl
   have e2:=cell_block (i:=2) gO rfl
   have e3:=cell_block (i:=3) gO rfl
   have e4:=cell_block (i:=4) gO rfl
   have e5:=cell_block (i:=5) gO rfl
   have e6:=cell_block (i:=6) gO rfl
   have e7:=cell_block (i:=7) gO rfl
   rw[hV]
   clear hV p0 p1 p2 p3 p4 p5 p6 p7 hb4 E4 g4
   go_wp2_with (go_at_call 113;refine(hho.out _).mono ?_;rintro e w5 ⟨rfl,hb5⟩;refine Hid.out ?_)
   refine Lib.hid ?_
   have E5:=ext_trans EV hb5
   have g5:=block_below hb5 gO
   have g6:=block_below hb5 gV
   clear a0 a1 a2 a3 a4 a5 a6 a7 a8 e0 e1 e2 e3 e4 e5 e6 e7
   obtain⟨⟨a0,a1,a2⟩,⟨a3,a4,a5⟩,⟨a6,a7,a8⟩,_⟩:=nine180 g6
   have e0:=cell_block (i:=0) g5 rfl
   have e1:=cell_block (i:=1) g5 rfl
   have e2:=cell_block (i:=2) g5 rfl
   have e3:=cell_block (i:=3) g5 rfl
   have e4:=cell_block (i:=4) g5 rfl
   have e5:=cell_block (i:=5) g5 rfl
   have e6:=cell_block (i:=6) g5 rfl
   have e7:=cell_block (i:=7) g5 rfl
   go_wp2_with (go_at_call 114;refine(hou.out _).mono ?_;rintro e w6 ⟨rfl,hb6⟩;refine Hid.out ?_)
   refine Lib.hid ?_
   have E6:=ext_trans E5 hb6
   have g7:=block_below hb6 g5
   clear a0 a1 a2 a3 a4 a5 a6 a7 a8 e0 e1 e2 e3 e4 e5 e6 e7
   have e0:=cell_block (i:=0) g7 rfl
   have e1:=cell_block (i:=1) g7 rfl
   have e2:=cell_block (i:=2) g7 rfl
   have e3:=cell_block (i:=3) g7 rfl
   have e4:=cell_block (i:=4) g7 rfl
   have e5:=cell_block (i:=5) g7 rfl
   have e6:=cell_block (i:=6) g7 rfl
   have e7:=cell_block (i:=7) g7 rfl
   have hw6:=block_lt g7
   have E7:=ext_alloc E6 (bx nilV)
   go_wp2_with (go_at_call 107;refine(hadd.out _ E7).mono ?_;rintro e w7 ⟨rfl,hQ,_⟩)
   go_ret
   exact hQ.out
 ·rw[decide_eq_false ha]at hv
  clear ha hop
  go_enter Tryz.func111,Tryz.ntmps111
  go_wp2
  go_region_held3 (fun u=>u.cell? ⟨B,2,none⟩=some (.slice ia n ic)/\u.cell? ⟨W.heap.size,0,none⟩=some (.int .i64 o.op)/\u.cell? ⟨W.heap.size,1,none⟩=some (.int .i64 o.x)/\u.cell? ⟨W.heap.size,2,none⟩=some (.int .i64 o.y)/\u.cell? ⟨W.heap.size,3,none⟩=some (.int .i64 o.z)/\u.cell? ⟨W.heap.size,4,none⟩=some (.int .i64 o.v.k)/\u.cell? ⟨W.heap.size,5,none⟩=some (.int .i64 o.v.n)/\u.cell? ⟨W.heap.size,6,none⟩=some (.string o.v.s)/\u.cell? ⟨W.heap.size,7,none⟩=some (.int .i64 o.sn)) (go_keep) (first|(go_at_call 112;refine(hv.out _ (by first|exact ext_drew E0|exact ext_alloc (ext_drew E0) _|exact ext_drew (ext_alloc E0 _))).mono ?_;rintro e w4 ⟨rfl,hb4⟩;obtain⟨E4,g4,ld4⟩:=hcs.out _ _ hb4 (by first|exact ext_drew E0|exact ext_alloc (ext_drew E0) _|exact ext_drew (ext_alloc E0 _)) (by first|exact g0|exact block_alloc _ g0);have hw4:=block_lt g4;have nB3:¬B=w4.heap.size:=(by omega);have nB4:¬W.heap.size=w4.heap.size:=(by omega);have p0:=cell_block (i:=0) g4 rfl;have p1:=cell_block (i:=1) g4 rfl;have p2:=cell_block (i:=2) g4 rfl;have p3:=cell_block (i:=3) g4 rfl;have p4:=cell_block (i:=4) g4 rfl;have p5:=cell_block (i:=5) g4 rfl;have p6:=cell_block (i:=6) g4 rfl;have p7:=cell_block (i:=7) g4 rfl;first|(have hz9:=hzz.out _ hb4;have y0:=hz9.1.1.1;have y1:=hz9.1.1.2.1;have y2:=hz9.1.1.2.2;have y3:=hz9.1.2.1.1;have y4:=hz9.1.2.1.2.1;have y5:=hz9.1.2.1.2.2;have y6:=hz9.1.2.2.1.1;have y7:=hz9.1.2.2.1.2.1;have y8:=hz9.1.2.2.1.2.2;have q0:=hz9.1.2.2.2 0;have q1:=hz9.1.2.2.2 1;have q2:=hz9.1.2.2.2 2;have q3:=hz9.1.2.2.2 3;have q4:=hz9.1.2.2.2 4;have q5:=hz9.1.2.2.2 5;have q6:=hz9.1.2.2.2 6;have q7:=hz9.1.2.2.2 7;have q8:=hz9.1.2.2.2 8;clear hz9)|skip))
  ·have hE5:=E4.size
   have hEe:=ext_alloc E4 arrb
   go_wp2_with (go_at_call 107;refine(hadd.out _ hEe).mono ?_;rintro e w6 ⟨rfl,hQ,_⟩)
   go_ret
   exact hQ.out
  ·have hE5:=E4.size
   have hEe:=arr_below (B:=W.heap.size+1) E4 (by omega)
   go_wp2_with (go_at_call 107;refine(hadd.out _ hEe).mono ?_;rintro e w6 ⟨rfl,hQ,_⟩)
   go_ret
   exact hQ.out
end
structure BeQ (w:World) (t:Tr) (e:Ending) (W':World):Prop where
 ex:∃iv sv vs,e=.returned (trv t iv sv)/\TrV w.heap.size t iv sv vs W'/\Below w.heap.size w W'
theorem tk_add{t:Tr}{i:Nat}{o:Ti}(ho:t.ins[i]?=some o):({ tk t i 0 with ins:=(tk t i 0).ins++[o] } : Tr)=tk t (i+1) 0:=by
 show(⟨t.fn,t.hd,t.ins.take i++[o],t.sns.take 0⟩:Tr)=_
 rw[take_snoc1 ho]
theorem tk_len{t:Tr}{i:Nat}{o:Ti}(ho:t.ins[i]?=some o):(tk t i 0).ins.length=i:=by
 have:=(List.getElem?_eq_some_iff.1 ho).1
 simp;omega
theorem cl_fold{t:Tr}(hI:IdT t)(w:World):Cl (fun _=>False) (fun _ _=>True) w t 111 #[]:=by
 refine⟨en111',fun _ _ _ _ _=>trivial,fun w1 B W i o hw ho hM _=>?_⟩
 have hom:=List.mem_of_getElem? ho
 have hl:=tk_len ho
 have:=fold1_any hM o (hI.op o hom) (hI.vs o hom) (by rw[hl];have:=hI.n1.2;have:=(List.getElem?_eq_some_iff.1 ho).1;omega) (fun h1=>by rw[hl];exact(hI.ax i o ho).1 h1) (fun q hq=>hI.op q (List.mem_of_mem_take hq))
 refine this.mono fun e W' k=>⟨?_,?_,trivial,k.c⟩
 ·rw[k.e,hl]
 ·rw[<- tk_add ho];exact k.m
structure BtA (w:World) (t:Tr) (iv sv:Value) (vs:List Value) (wa:World):Prop where
 b:Below w.heap.size w wa
 g:wa.heap[w.heap.size]?=some (trb t iv sv)
 z:wa.heap[w.heap.size+1]?=some (.cells #[.int .i64 0,.int .i64 0,.slice none 0 0,.slice none 0 0] 102)
theorem btA{w:World}{t:Tr}{iv sv:Value}{vs:List Value} : BtA w t iv sv vs ((w.alloc (trb t iv sv)).alloc (.cells #[.int .i64 0,.int .i64 0,.slice none 0 0,.slice none 0 0] 102)) :=
 ⟨ext_alloc (ext_alloc (Below.refl _ _) _) _,block_alloc _ (heap_new _ _),new2' w _ _⟩
theorem set4_block{W:World}{B:Nat}{a b c d:Value}(h:W.heap[B]?=some (.cells #[.int .i64 0,.int .i64 0,.slice none 0 0,.slice none 0 0] 102)):((((W.setCell ⟨B,0,none⟩ a).setCell ⟨B,1,none⟩ b).setCell ⟨B,2,none⟩ c).setCell ⟨B,3,none⟩ d).heap[B]?=some (.cells #[a,b,c,d] 102):=by
 have:=set_block (i:=3) d (set_block (i:=2) c (set_block (i:=1) b (set_block (i:=0) a h)))
 simpa using this
theorem set4_keeps{W:World}{B:Nat}{a b c d:Value} : Keeps (fun k=>k=B) W ((((W.setCell ⟨B,0,none⟩ a).setCell ⟨B,1,none⟩ b).setCell ⟨B,2,none⟩ c).setCell ⟨B,3,none⟩ d):=(((keeps_one _ _ _ _).trans (keeps_one _ _ _ _)).trans (keeps_one _ _ _ _)).trans (keeps_one _ _ _ _)
theorem res88{tm:Array Value}{W:World}{C:Nat}{a b c d:Value}(h:tm[2]?.getD undef=.pointer (some ⟨C,0,none⟩))(hy:W.heap[C]?=some (.cells #[a,b,c,d] 102)):(results Tryz.f88 tm).run Tryz.prog W=.ok (.agg #[a,b,c,d]) W:=by
 have d0:W.cell? ⟨C,0,none⟩=some a:=cell_block hy rfl
 have d1:W.cell? ⟨C,1,none⟩=some b:=cell_block hy rfl
 have d2:W.cell? ⟨C,2,none⟩=some c:=cell_block hy rfl
 have d3:W.cell? ⟨C,3,none⟩=some d:=cell_block hy rfl
 simp[results,Tryz.results88,go_sem,h,d0,d1,d2,d3]
theorem be_end{w wb u:World}{t:Tr}{B:Nat}{ia sa:Option Addr}{ic sc:Nat}{vs:List Value}(hw:w.heap.size<=B)(hB:B<wb.heap.size)(hb:Below w.heap.size w wb)(hT:TrV wb.heap.size t (.slice ia t.ins.length ic) (.slice sa t.sns.length sc) vs u)(hk:Below w.heap.size w u) :
  BeQ w t (.returned (trv t (.slice ia t.ins.length ic) (.slice sa t.sns.length sc))) ((((u.setCell ⟨B,0,none⟩ (.int .i64 t.fn)).setCell ⟨B,1,none⟩ (.int .i64 t.hd)).setCell ⟨B,2,none⟩ (.slice ia t.ins.length ic)).setCell ⟨B,3,none⟩ (.slice sa t.sns.length sc)):=by
 refine⟨_,_,vs,rfl,?_,?_⟩
 ·have:=hT.wrote (set4_keeps (B:=B) (a:=.int .i64 t.fn) (b:=.int .i64 t.hd) (c:=.slice ia t.ins.length ic) (d:=.slice sa t.sns.length sc)) (fun k hk e=>by have h1:=(hT.lt k hk).1;have e':k=B:=e;omega)
  exact⟨this.ln,this.rs.mono (by have:=hb.size;omega)⟩
 ·exact(((hk.setCell (p:=⟨B,0,none⟩) hw _).setCell (p:=⟨B,1,none⟩) hw _).setCell (p:=⟨B,2,none⟩) hw _).setCell (p:=⟨B,3,none⟩) hw _
theorem trV_slices{lo:Nat}{t:Tr}{iv sv:Value}{vs:List Value}{W:World}(h:TrV lo t iv sv vs W):(∃ia ic,iv=.slice ia t.ins.length ic)/\∃sa sc,sv=.slice sa t.sns.length sc:=by
 obtain⟨_,_,ia,ic,ei⟩:=Rwo.len (h.rs.ok (insR t.ins iv) (by simp[trR]))
 obtain⟨_,_,sa,sc,es⟩:=Rwo.len (h.rs.ok (snsR t.sns sv vs) (by simp[trR]))
 exact⟨⟨ia,ic,ei⟩,sa,sc,es⟩
theorem keeps_below{C:Nat->Prop}{w wb u:World}(h1:Below w.heap.size w wb)(h2:Keeps C wb u)(hC:∀k,C k->w.heap.size<=k):Below w.heap.size w u :=
 ⟨h2.os.trans h1.os,h2.tape.trans h1.tape,h2.output.trans h1.output,Nat.le_trans h1.size h2.size,fun k hk=>(h2.block k (Nat.lt_of_lt_of_le hk h1.size) (fun e=>by have:=hC k e;omega)).trans (h1.block k hk)⟩
theorem fold_any{lo:Nat}{t:Tr}{iv sv:Value}{vs:List Value}{w:World}(hT:TrV lo t iv sv vs w)(hI:IdT t):Calls Tryz.prog 88 #[trv t iv sv] w (BeQ w t):=by
 obtain⟨⟨ia,ic,rfl⟩,sa,sc,rfl⟩:=trV_slices hT
 have hA:=btA (w:=w) (t:=t) (iv:=.slice ia t.ins.length ic) (sv:=.slice sa t.sns.length sc) (vs:=vs)
 obtain⟨wa,hwa⟩:∃wa,(w.alloc (trb t (.slice ia t.ins.length ic) (.slice sa t.sns.length sc))).alloc (.cells #[.int .i64 0,.int .i64 0,.slice none 0 0,.slice none 0 0] 102)=wa:=⟨_,rfl⟩
 rw[hwa]at hA
 have hq:∀_:Unit,Calls Tryz.prog 105 #[trv t (.slice ia t.ins.length ic) (.slice sa t.sns.length sc),.func (.func 111) #[] #[]] wa _:=fun _=>each_id (hT.below hA.b) hI (fun k hk=>hk.elim) (cl_fold hI wa) trivial
 have a0:=cell_block (i:=0) hA.g rfl
 have a1:=cell_block (i:=1) hA.g rfl
 have a2:=cell_block (i:=2) hA.g rfl
 have a3:=cell_block (i:=3) hA.g rfl
 have hAg:=hA.z
 have hAb:=hA.b
 obtain⟨n,hn⟩:∃n,t.ins.length=n:=⟨_,rfl⟩
 obtain⟨m,hm⟩:∃m,t.sns.length=m:=⟨_,rfl⟩
 rw[hn,hm]at hq a2 a3 hwa
 rw[hn,hm]
 replace hq:Hid _:=hq
 replace hn:Hid _:=hn
 replace hm:Hid _:=hm
 clear hA hT hI
 go_enter Tryz.func88,Tryz.ntmps88
 go_wp2_with (go_at_call 105;refine(hq.out ()).mono ?_;rintro e u ⟨iv',sv',vs',rfl,hT',_,hK⟩;refine Hid.out ?_)
 refine Lib.hid ?_
 obtain⟨⟨ia',ic',rfl⟩,sa',sc',rfl⟩:=trV_slices hT'
 have hzu:u.heap[w.heap.size+1]?=_:=(hK.block _ (block_lt hAg) (fun e=>e)).trans hAg
 have s0:=cell_block (i:=0) hzu rfl
 have s1:=cell_block (i:=1) hzu rfl
 have s2:=cell_block (i:=2) hzu rfl
 have s3:=cell_block (i:=3) hzu rfl
 have y0:=frozen_block (i:=0) hzu
 have y1:=frozen_block (i:=1) hzu
 have y2:=frozen_block (i:=2) hzu
 have y3:=frozen_block (i:=3) hzu
 have hfin:=be_end (w:=w) (B:=w.heap.size+1) (by omega) (block_lt hAg) hAb hT' (keeps_below hAb hK (fun k h=>h.elim))
 have gY:=set4_block (a:=.int .i64 t.fn) (b:=.int .i64 t.hd) (c:=.slice ia' t.ins.length ic') (d:=.slice sa' t.sns.length sc') hzu
 replace hfin:Hid (∀_:Unit,_):=fun _=>hfin
 replace gY:Hid _:=gY
 clear hzu hK hT' a0 a1 a2 a3
 go_wp2
 exact bodyPost_ret (res88 (C:=w.heap.size+1) rfl gY.out) rfl (hfin.out ())
theorem en108(u:World)(args:Array Value):(callFunc 108 args).run Tryz.prog u=.ok (.enter 108 args) u:=by kernel_rfl
section
variable {C:Nat->Prop} {w1:World} {B:Nat} {t:Tr} {now:List Int} {W:World}
theorem forward1_any(h:Mk C w1 B t now W)(o:Ti)(hop:opH o.op)(hs:o.v.s.size<=300)(hn:t.ins.length<=1000)(c:Value) :
  Calls Tryz.prog 108 #[.pointer (some ⟨B,0,none⟩),o.val,c] W (AdQ C w1 B t now o W):=by
 have g0:(W.alloc o.box).heap[W.heap.size]?=some o.box:=heap_new _ _
 have E0:=ext_alloc (Below.refl W.heap.size W) o.box
 have hadd:∀u,Below W.heap.size W u->Calls Tryz.prog 107 #[.pointer (some ⟨B,0,none⟩),o.val] u _:=fun u hu=>add_q h o hs hn hu
 have h5:(o.op == 5)=false:=by rcases hop with e|e|e|e <;> rw[e] <;> rfl
 have h4:(o.op == 4)=false:=by rcases hop with e|e|e|e <;> rw[e] <;> rfl
 have o0:=cell_block (i:=0) g0 rfl
 have o1:=cell_block (i:=1) g0 rfl
 have o2:=cell_block (i:=2) g0 rfl
 have o3:=cell_block (i:=3) g0 rfl
 have o4:=cell_block (i:=4) g0 rfl
 have o5:=cell_block (i:=5) g0 rfl
 have o6:=cell_block (i:=6) g0 rfl
 have o7:=cell_block (i:=7) g0 rfl
 have E1:=ext_alloc E0 (.cells #[.int .i64 o.x,.int .i64 o.y] 173)
 replace hadd:Hid _:=hadd
 clear h hop
 go_enter Tryz.func108,Tryz.ntmps108
 go_wp2_with (go_at_call 107;refine(hadd.out _ E1).mono ?_;rintro e w6 ⟨rfl,hQ,_⟩)
 go_ret
 exact hQ.out
end
theorem cl_forward{t:Tr}(hI:IdT t)(w:World)(c:Value):Cl (fun _=>False) (fun _ _=>True) w t 108 #[c]:=by
 refine⟨en108,fun _ _ _ _ _=>trivial,fun w1 B W i o hw ho hM _=>?_⟩
 have hom:=List.mem_of_getElem? ho
 have hl:=tk_len ho
 have:=forward1_any hM o (hI.op o hom) (hI.vs o hom) (by rw[hl];have:=hI.n1.2;have:=(List.getElem?_eq_some_iff.1 ho).1;omega) c
 refine Calls.mono (show Calls Tryz.prog 108 #[.pointer (some ⟨B,0,none⟩),o.val,c] W _ from this) fun e W' k=>⟨?_,?_,trivial,k.c⟩
 ·rw[k.e,hl]
 ·rw[<- tk_add ho];exact k.m
theorem makeMap171(w:World):(Instr.makeMap 171 none).run Tryz.prog w=.ok (.map (some w.heap.size)) (w.alloc (.map #[] 0)):=by
 have u:=Tryz.underlying171
 simp[Instr.makeMap,run_underlying u,Result.andThen]
theorem res86{tm:Array Value}{W:World}{C:Nat}{a b c d:Value}(h:tm[2]?.getD undef=.pointer (some ⟨C,0,none⟩))(hy:W.heap[C]?=some (.cells #[a,b,c,d] 102)):(results Tryz.f86 tm).run Tryz.prog W=.ok (.agg #[a,b,c,d]) W:=by
 have d0:W.cell? ⟨C,0,none⟩=some a:=cell_block hy rfl
 have d1:W.cell? ⟨C,1,none⟩=some b:=cell_block hy rfl
 have d2:W.cell? ⟨C,2,none⟩=some c:=cell_block hy rfl
 have d3:W.cell? ⟨C,3,none⟩=some d:=cell_block hy rfl
 simp[results,Tryz.results86,go_sem,h,d0,d1,d2,d3]
theorem forward_any{lo:Nat}{t:Tr}{iv sv:Value}{vs:List Value}{w:World}(hT:TrV lo t iv sv vs w)(hI:IdT t):Calls Tryz.prog 86 #[trv t iv sv] w (BeQ w t):=by
 obtain⟨⟨ia,ic,rfl⟩,sa,sc,rfl⟩:=trV_slices hT
 have hA:=btA (w:=w) (t:=t) (iv:=.slice ia t.ins.length ic) (sv:=.slice sa t.sns.length sc) (vs:=vs)
 obtain⟨wa,hwa⟩:∃wa,(w.alloc (trb t (.slice ia t.ins.length ic) (.slice sa t.sns.length sc))).alloc (.cells #[.int .i64 0,.int .i64 0,.slice none 0 0,.slice none 0 0] 102)=wa:=⟨_,rfl⟩
 rw[hwa]at hA
 obtain⟨wb,hwb⟩:∃wb,(wa.alloc (.map #[] 0)).alloc (.cells #[.map (some (w.heap.size+1+1))] 171)=wb:=⟨_,rfl⟩
 have Eb:Below wa.heap.size wa wb:=by rw[<- hwb];exact ext_alloc (ext_alloc (Below.refl _ _) _) _
 have hmm:=makeMap171
 have hsa:wa.heap.size=w.heap.size+1+1:=by rw[<- hwa];simp
 have hq:∀_:Unit,Calls Tryz.prog 105 #[trv t (.slice ia t.ins.length ic) (.slice sa t.sns.length sc),.func (.func 108) #[] #[.pointer (some ⟨w.heap.size+1+1+1,0,none⟩)]] wb _:=fun _=>each_id ((hT.below hA.b).below Eb) hI (fun k hk=>hk.elim) (cl_forward hI wb _) trivial
 have a0:=cell_block (i:=0) hA.g rfl
 have a1:=cell_block (i:=1) hA.g rfl
 have a2:=cell_block (i:=2) hA.g rfl
 have a3:=cell_block (i:=3) hA.g rfl
 have hAg:=(Eb.block _ (block_lt hA.z)).trans hA.z
 have hAb:=ext_trans hA.b Eb
 replace a0:=cellB Eb a0
 replace a1:=cellB Eb a1
 replace a2:=cellB Eb a2
 replace a3:=cellB Eb a3
 obtain⟨n,hn⟩:∃n,t.ins.length=n:=⟨_,rfl⟩
 obtain⟨m,hm⟩:∃m,t.sns.length=m:=⟨_,rfl⟩
 rw[hn,hm]at hq a2 a3 hwa
 rw[hn,hm]
 replace hq:Hid _:=hq
 replace hn:Hid _:=hn
 replace hm:Hid _:=hm
 clear hA hT hI
 go_enter Tryz.func86,Tryz.ntmps86
 go_wp2_with (go_at_call 105;refine(hq.out ()).mono ?_;rintro e u ⟨iv',sv',vs',rfl,hT',_,hK⟩;refine Hid.out ?_)
 refine Lib.hid ?_
 obtain⟨⟨ia',ic',rfl⟩,sa',sc',rfl⟩:=trV_slices hT'
 have hzu:u.heap[w.heap.size+1]?=_:=(hK.block _ (block_lt hAg) (fun e=>e)).trans hAg
 have s0:=cell_block (i:=0) hzu rfl
 have s1:=cell_block (i:=1) hzu rfl
 have s2:=cell_block (i:=2) hzu rfl
 have s3:=cell_block (i:=3) hzu rfl
 have y0:=frozen_block (i:=0) hzu
 have y1:=frozen_block (i:=1) hzu
 have y2:=frozen_block (i:=2) hzu
 have y3:=frozen_block (i:=3) hzu
 have hfin:=be_end (w:=w) (B:=w.heap.size+1) (by omega) (block_lt hAg) hAb hT' (keeps_below hAb hK (fun k h=>h.elim))
 have gY:=set4_block (a:=.int .i64 t.fn) (b:=.int .i64 t.hd) (c:=.slice ia' t.ins.length ic') (d:=.slice sa' t.sns.length sc') hzu
 replace hfin:Hid (∀_:Unit,_):=fun _=>hfin
 replace gY:Hid _:=gY
 clear hzu hK hT' a0 a1 a2 a3
 go_wp2
 exact bodyPost_ret (res86 (C:=w.heap.size+1) rfl gY.out) rfl (hfin.out ())
end
open Go.WideMaps (KeyLaw)
section
variable [DecidableEq Vl]
theorem rowD:179<Tryz.prog.types.size:=of_decide_eq_true (by kernel_rfl)
theorem lawD:KeyLaw Tryz.prog 179:=deep_law_laid laidOut (m:=5) (by omega) rowD (by kernel_rfl) (by kernel_rfl)
theorem keyedD:Maps.Keyed Tryz.prog 179:=Maps.Keyed.of_law lawD
abbrev deed (o:Ti):Value:=.agg #[.int .i64 o.op,.int .i64 o.x,.int .i64 o.y,.int .i64 o.v.k,.int .i64 o.v.n,.string o.v.s]
structure DWf (o:Ti):Prop where
 a:(Lit.int .i64 o.op).wf=true
 b:(Lit.int .i64 o.x).wf=true
 c:(Lit.int .i64 o.y).wf=true
theorem keyTD:Tryz.prog.keyType 179=true:=by kernel_rfl
theorem cellsD:Tryz.prog.cellsOf 179=6:=by kernel_rfl
theorem keyOf_d(o:Ti)(h:DWf o):∃l,keyOf Tryz.prog 179 (deed o)=some l:=by
 obtain⟨m,hm⟩:∃m,Tryz.prog.types.size=m+1+1:=⟨264,by kernel_rfl⟩
 have u:=Tryz.underlying179
 have u2:=Tryz.underlying2
 have u3:=Tryz.underlying3
 have u9:=Tryz.underlying9
 have u25:=Tryz.underlying25
 have hf:(deed o).formed Tryz.prog 179=true:=by
  simp[Value.formed,u,cellsD]
 have ha:=h.a
 have hb:=h.b
 have hc:=h.c
 have hk:=o.v.wk
 have hn:=o.v.wn
 have hs:=o.v.ws
 simp only[keyOf,u,keyTD,hf]
 rw[hm]
 have hdd : ∀ (a b c : Field), a.name ≠ "_" → b.name ≠ "_" → c.name ≠ "_" → ∀ (i : Nat) (x : i < 3), ¬ ([a, b, c][i]'(by simpa using x)).name = "_" := fun a b c h1 h2 h3 i x => by
  match i,x with
  | 0,_=>exact h1
  | 1,_=>exact h2
  | 2,_=>exact h3
 simp[Program.keyLits,u,u2,u3,u9,u25,cellsD,cells26,cells2,cells3,cells9,Value.cells,ha,hb,hc,hk,hn,hs]
 rw[if_pos (hdd _ _ _ (by decide) (by decide) (by decide))]
 exact⟨_,rfl⟩
end
end Go.Proofs.YthljpnmhddfblaaGreatDoor
