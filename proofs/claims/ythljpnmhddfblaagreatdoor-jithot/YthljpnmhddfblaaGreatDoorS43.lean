/- A machine of one frame: an order is done. -/
import Derived.Test.YthljpnmhddfblaaGreatDoorS36
import Derived.StillTailTactics
import Derived.Test.YthljpnmhddfblaaGreatDoorS31
namespace Go.Proofs.YthljpnmhddfblaaGreatDoor
open Go.RowKit Go
set_option maxRecDepth 100000
set_option maxHeartbeats 8000000
set_option linter.all false
section
variable [DecidableEq Vl]
section
variable {w0:World} {m:Hm} {s:Ms} {W:World}
structure HAt (m:Hm) (s:Ms) (o:Od) (W w1:World):Prop where
 b:Below W.heap.size W w1
 g:w1.heap[W.heap.size]?=some (.cells #[.int .i64 o.op,.int .i64 o.a,.int .i64 o.b,.int .i64 o.c] 32)
 c2:w1.cell? ⟨m.B,2,none⟩=some (.slice (some ⟨m.F,0,none⟩) 1 m.fc)
 f1:w1.cell? ⟨m.F,1,none⟩=some (.int .i64 s.x.pc)
 f3:w1.cell? ⟨m.F,3,none⟩=some (.slice (some ⟨m.g,0,none⟩) s.x.rs.length m.c)
 z1:w1.frozen? ⟨m.F,1,none⟩=false
theorem hAt(h:Mh w0 m s W)(o:Od):HAt m s o W (W.alloc (.cells #[.int .i64 o.op,.int .i64 o.a,.int .i64 o.b,.int .i64 o.c] 32)):=by
 have hb:=ext_alloc (Below.refl W.heap.size W) (.cells #[.int .i64 o.op,.int .i64 o.a,.int .i64 o.b,.int .i64 o.c] 32)
 have c:=(h.on hb).cs
 exact⟨hb,heap_new _ _,c.c2,c.d1,c.d3,c.z1⟩
structure HQ (w0:World) (m:Hm) (W:World) (s':Ms) (e:Ending) (W':World):Prop where
 e:e=.returned (.tuple #[])
 h:Mh w0 m s' W'
 k:MK m.own W m.own W'
theorem h_jump(h:Mh w0 m s W)(o:Od)(ho:o.op=10):Calls Tryz.prog 43 #[.pointer (some ⟨m.B,0,none⟩),o.v] W (HQ w0 m W { s with x:={ s.x with pc:=o.a } }):=by
 have hD:=hAt h o
 have hfin:∀V,Below W.heap.size W V->HQ w0 m W { s with x:={ s.x with pc:=o.a } } (.returned (.tuple #[])) (V.setCell ⟨m.F,1,none⟩ (.int .i64 o.a)):=fun V hb=>by
  obtain⟨a,b⟩:=(h.on hb).setPC o.a
  exact⟨rfl,a,(MK.below hb).trans b⟩
 replace hfin:Hid _:=hfin
 obtain⟨op,oa,ob,oc,_,_,_,_⟩:=o
 simp only at ho hD hfin⊢
 subst ho
 obtain⟨w1,hw1⟩:∃w1,W.alloc (.cells #[.int .i64 10,.int .i64 oa,.int .i64 ob,.int .i64 oc] 32)=w1:=⟨_,rfl⟩
 rw[hw1]at hD
 obtain⟨hb,hg,c2,f1,f3,z1⟩:=hD
 have o0:=cell_block (i:=0) hg rfl
 have o1:=cell_block (i:=1) hg rfl
 have ht:=top0 c2
 clear h
 go_enter Tryz.func43,Tryz.ntmps43
 go_wp2_with (go_at_call 39;refine ht.mono ?_;rintro e w2 ⟨rfl,n,rfl⟩)
 go_end0
 exact hfin.out _ (drewN_below hb)
theorem h_test(h:Mh w0 m s W)(a:Nat)(ob oc:Int){v:Vl}(hv:s.x.rs[a]?=some v)(pc:Int)(hpc:s.x.pc=pc)(hp1:0<=pc)(hp2:pc<=1000000) :
  Calls Tryz.prog 43 #[.pointer (some ⟨m.B,0,none⟩),.agg #[.int .i64 9,.int .i64 (a:Nat),.int .i64 ob,.int .i64 oc]] W (HQ w0 m W { s with x:={ s.x with pc:=if truthB v.k v.n v.s=true then pc+1 else ob } }):=by
 have hla:=(List.getElem?_eq_some_iff.1 hv).1
 have hb:=ext_alloc (Below.refl W.heap.size W) (.cells #[.int .i64 9,.int .i64 (a:Nat),.int .i64 ob,.int .i64 oc] 32)
 have hgb:(W.alloc (.cells #[.int .i64 9,.int .i64 (a:Nat),.int .i64 ob,.int .i64 oc] 32)).heap[W.heap.size]?=some (.cells #[.int .i64 9,.int .i64 (a:Nat),.int .i64 ob,.int .i64 oc] 32):=heap_new _ _
 obtain⟨w1,hw1⟩:∃w1,W.alloc (.cells #[.int .i64 9,.int .i64 (a:Nat),.int .i64 ob,.int .i64 oc] 32)=w1:=⟨_,rfl⟩
 rw[hw1]at hb hgb
 have h1:=h.on hb
 have hc:=h1.cs
 have c2:=hc.c2
 have x1:=hc.d1
 have xf:=hc.z1
 have o0:=cell_block (i:=0) hgb rfl
 have hFl:=h.lt.2.1
 obtain⟨n,hn⟩:∃n,s.x.rs.length=n:=⟨_,rfl⟩
 rw[hn]at hla
 rw[hpc]at x1
 have ht:=top0 c2
 have key:∀k,Mh w0 m { s with x:={ s.x with pc:=pc+1 } } ((w1.drewN k).setCell ⟨m.F,1,none⟩ (.int .i64 (pc+1)))/\MK m.own W m.own ((w1.drewN k).setCell ⟨m.F,1,none⟩ (.int .i64 (pc+1))):=fun k=>by
  obtain⟨a,b⟩:=(h1.on (drewN_below (n:=k) (Below.refl _ _))).setPC (pc+1)
  exact⟨a,(MK.below (drewN_below (n:=k) hb)).trans b⟩
 have htr:=truth_any v.k v.n v.s
 obtain⟨tb,htb⟩:∃tb,truthB v.k v.n v.s=tb:=⟨_,rfl⟩
 rw[htb]at htr⊢
 obtain⟨px,hpx⟩:∃px,(if tb=true then pc+1 else ob)=px:=⟨_,rfl⟩
 rw[hpx]
 replace hpx:Hid _:=hpx
 replace key:Hid _:=key
 clear htb hc h1 h
 go_enter Tryz.func43,Tryz.ntmps43
 go_wp2_with (go_at_call 39;refine ht.mono ?_;rintro e w2 ⟨rfl,k,rfl⟩)
 obtain⟨hM,hK0⟩:=key.out k
 have hgX:((w1.drewN k).setCell ⟨m.F,1,none⟩ (.int .i64 (pc+1))).heap[W.heap.size]?=some (.cells #[.int .i64 9,.int .i64 (a:Nat),.int .i64 ob,.int .i64 oc] 32):=(set1_other _ _ (by omega)).trans hgb
 obtain⟨X,hX⟩:∃X,(w1.drewN k).setCell ⟨m.F,1,none⟩ (.int .i64 (pc+1))=X:=⟨_,rfl⟩
 rw[hX]at hM hK0 hgX
 obtain⟨⟨r0,r1,r2⟩,_,_,_⟩:=hM.cs.rg a v hv
 have y1:=hM.cs.d1
 have yf:=hM.cs.z1
 have o1:=cell_block (i:=1) hgX rfl
 have o2:=cell_block (i:=2) hgX rfl
 have y3:X.cell? ⟨m.F,3,none⟩=some (.slice (some ⟨m.g,0,none⟩) n m.c):=by rw[<- hn];exact hM.cs.d3
 rw[hX]
 clear hX x1 xf hv hn hpc o0
 go_wp2
 refine wp_region_still_tail 8 (by kernel_rfl) (by kernel_rfl) ?_
 change wpStill _ _ X.drew _ _ _
 simp only[List.take_succ_cons,List.take_zero,List.drop_succ_cons,List.drop_zero]
 repeat still_step
 refine wpStill_nil ?_
 have hFX:m.F<X.heap.size:=hM.lt.2.1
 cases tb with
 | true =>
  go_wp2_with (go_at_call 51;refine(htr _).mono ?_;rintro E w3 ⟨rfl,hb3⟩)
  have hb4:Below X.heap.size X w3:=ext_trans (ext_drew (Below.refl _ _)) hb3
  go_end0
  exact⟨rfl,by have:=hpx.out;simp at this;rw[<- this];exact hM.on hb4,hK0.trans (MK.below hb4)⟩
 | false =>
  go_wp2_with (go_at_call 51;refine(htr _).mono ?_;rintro E w3 ⟨rfl,hb3⟩;have o2:=cellB (ext_trans (ext_drew (Below.refl _ _)) hb3) o2;have y1:=cellB (ext_trans (ext_drew (Below.refl _ _)) hb3) y1;have yf:=((ext_trans (ext_drew (Below.refl X.heap.size X)) hb3).frozen (p:=⟨m.F,1,none⟩) hFX).trans yf)
  have hb4:Below X.heap.size X w3:=ext_trans (ext_drew (Below.refl _ _)) hb3
  obtain⟨hP,hmk⟩:=(hM.on hb4).setPC ob
  go_end0
  exact⟨rfl,by have:=hpx.out;simp at this;rw[<- this];exact hP,hK0.trans ((MK.below hb4).trans hmk)⟩
theorem h_plain(h:Mh w0 m s W)(o:Od)(n8:(o.op == 8)=false)(n9:(o.op == 9)=false)(n10:(o.op == 10)=false)(n11:(o.op == 11)=false)(n12:(o.op == 12)=false)(a:Nat)(r:Vl)(pc:Int)(hpc:s.x.pc=pc)(hp1:0<=pc)(hp2:pc<=1000000)
  (hpl:∀w2,Below W.heap.size W w2->Calls Tryz.prog 54 #[.pointer (some ⟨m.B,0,none⟩),.slice (some ⟨m.g,0,none⟩) s.x.rs.length m.c,o.v] w2 fun e W'=>e=.returned (.tuple #[])/\∃V,Below w2.heap.size w2 V/\W'=putg V m.g a r) :
  Calls Tryz.prog 43 #[.pointer (some ⟨m.B,0,none⟩),o.v] W (HQ w0 m W { s with x:={ s.x with rs:=s.x.rs.set a r,pc:=pc+1 } }):=by
 have hD:=hAt h o
 obtain⟨op,oa,ob,oc,_,_,_,_⟩:=o
 simp only at n8 n9 n10 n11 n12 hD hpl⊢
 obtain⟨w1,hw1⟩:∃w1,W.alloc (.cells #[.int .i64 op,.int .i64 oa,.int .i64 ob,.int .i64 oc] 32)=w1:=⟨_,rfl⟩
 rw[hw1]at hD
 obtain⟨hb,hg,c2,f1,f3,z1⟩:=hD
 have o0:=cell_block (i:=0) hg rfl
 have o1:=cell_block (i:=1) hg rfl
 have o2:=cell_block (i:=2) hg rfl
 have o3:=cell_block (i:=3) hg rfl
 have ht:=top0 c2
 have key:∀V,Below W.heap.size W V->(putg V m.g a r).cell? ⟨m.F,1,none⟩=some (.int .i64 pc)/\(putg V m.g a r).frozen? ⟨m.F,1,none⟩=false/\HQ w0 m W { s with x:={ s.x with rs:=s.x.rs.set a r,pc:=pc+1 } } (.returned (.tuple #[])) ((putg V m.g a r).setCell ⟨m.F,1,none⟩ (.int .i64 (pc+1))):=fun V hbV=>by
  obtain⟨x1,x2⟩:=(h.on hbV).setReg a r
  obtain⟨y1,y2⟩:=x1.setPC (pc+1)
  have c:=x1.cs
  exact⟨by rw[c.d1,<- hpc],c.z1,rfl,y1,((MK.below hbV).trans x2).trans y2⟩
 obtain⟨n,hn⟩:∃n,s.x.rs.length=n:=⟨_,rfl⟩
 rw[hn]at hpl f3
 rw[hpc]at f1
 replace hpl:Hid _:=hpl
 replace key:Hid _:=key
 clear h hn hpc
 go_enter Tryz.func43,Tryz.ntmps43
 go_wp2_with (go_at_call 39;refine ht.mono ?_;rintro e w2 ⟨rfl,k,rfl⟩)
 have hbD:Below W.heap.size W (w1.drewN k).drew:=ext_drew (drewN_below hb)
 refine wp_region_still_tail 6 (by kernel_rfl) (by kernel_rfl) ?_
 change wpStill _ _ (w1.drewN k).drew _ _ _
 simp only[List.take_succ_cons,List.take_zero,List.drop_succ_cons,List.drop_zero]
 repeat still_step
 refine wpStill_nil ?_
 go_wp2_with (go_at_call 54;refine(hpl.out _ hbD).mono ?_;rintro E w3 ⟨rfl,V,hbV,hw3⟩;obtain⟨x1,xf,hfin⟩:=key.out V (ext_trans hbD hbV);rw[<- hw3]at x1 xf hfin;clear hw3)
 go_end0
 exact hfin
theorem h_back(h:Mh w0 m s W)(v:Vl):Calls Tryz.prog 53 #[.pointer (some ⟨m.B,0,none⟩),v.v] W (HQ w0 m W { s with en:=1,la:=v }):=by
 have hb1:=ext_alloc (Below.refl W.heap.size W) (.cells #[.int .i64 v.k,.int .i64 v.n,.string v.s] 25)
 have g1:(W.alloc (.cells #[.int .i64 v.k,.int .i64 v.n,.string v.s] 25)).heap[W.heap.size]?=some (bx v):=heap_new _ _
 obtain⟨w1,hw1⟩:∃w1,W.alloc (.cells #[.int .i64 v.k,.int .i64 v.n,.string v.s] 25)=w1:=⟨_,rfl⟩
 rw[hw1]at hb1 g1
 have hM:=h.on hb1
 have c:=hM.cs
 have c2:=c.c2
 have c6:=c.c6
 have c8:=c.c8
 have c9:=c.c9
 have c10:=c.c10
 have f6:=c.zb 6
 have f8:=c.zb 8
 have f9:=c.zb 9
 have f10:=c.zb 10
 obtain⟨p0,p1,p2,_,_,_⟩:=in3 g1
 have hB:=h.lt.1
 have n1:¬W.heap.size=m.B:=by omega
 have n2:¬m.B=W.heap.size:=by omega
 have hbox:=hM.box
 clear c
 go_enter Tryz.func53,Tryz.ntmps53
 go_wp2
 go_region
 have hk:MK m.own w1 m.own ((((w1.setCell ⟨m.B,6,none⟩ (.int .i64 1)).setCell ⟨m.B,8,none⟩ (.int .i64 v.k)).setCell ⟨m.B,9,none⟩ (.int .i64 v.n)).setCell ⟨m.B,10,none⟩ (.string v.s)).drew :=
  ⟨(((((Keeps.refl _ _).set m.B 6 _ (fun _=>by simp)).set m.B 8 _ (fun _=>by simp)).set m.B 9 _ (fun _=>by simp)).set m.B 10 _ (fun _=>by simp)).drew,fun _=>.inl⟩
 have hx:=set_block (i:=10) (.string v.s) (set_block (i:=9) (.int .i64 v.n) (set_block (i:=8) (.int .i64 v.k) (set_block (i:=6) (.int .i64 1) hbox)))
 have hres:=hM.scal (s':={ s with en:=1,la:=v }) rfl hk (fun b hb=>(set1_other _ _ hb).trans ((set1_other _ _ hb).trans ((set1_other _ _ hb).trans (set1_other _ _ hb)))) (by refine Eq.trans hx ?_;simp[hbox])
 go_wp2
 exact bodyPost_ret (v:=.tuple #[]) (by simp[results,Tryz.results53,go_sem]) rfl ⟨rfl,hres,(MK.below hb1).trans hk⟩
theorem h_ret(h:Mh w0 m s W)(a:Nat)(ob oc:Int){v:Vl}(hv:s.x.rs[a]?=some v) :
  Calls Tryz.prog 43 #[.pointer (some ⟨m.B,0,none⟩),.agg #[.int .i64 12,.int .i64 (a:Nat),.int .i64 ob,.int .i64 oc]] W (HQ w0 m W { s with en:=1,la:=v }):=by
 have hla:=(List.getElem?_eq_some_iff.1 hv).1
 have hb:=ext_alloc (Below.refl W.heap.size W) (.cells #[.int .i64 12,.int .i64 (a:Nat),.int .i64 ob,.int .i64 oc] 32)
 have hgb:(W.alloc (.cells #[.int .i64 12,.int .i64 (a:Nat),.int .i64 ob,.int .i64 oc] 32)).heap[W.heap.size]?=some (.cells #[.int .i64 12,.int .i64 (a:Nat),.int .i64 ob,.int .i64 oc] 32):=heap_new _ _
 obtain⟨w1,hw1⟩:∃w1,W.alloc (.cells #[.int .i64 12,.int .i64 (a:Nat),.int .i64 ob,.int .i64 oc] 32)=w1:=⟨_,rfl⟩
 rw[hw1]at hb hgb
 have hc:=(h.on hb).cs
 have c2:=hc.c2
 have x3:=hc.d3
 obtain⟨⟨r0,r1,r2⟩,_,_,_⟩:=hc.rg a v hv
 have o0:=cell_block (i:=0) hgb rfl
 have o1:=cell_block (i:=1) hgb rfl
 have hback:∀w2,Below W.heap.size W w2->Calls Tryz.prog 53 #[.pointer (some ⟨m.B,0,none⟩),v.v] w2 fun e W'=>e=.returned (.tuple #[])/\HQ w0 m W { s with en:=1,la:=v } e W':=fun w2 hb=>(h_back (h.on hb) v).mono fun e W' k=>⟨k.1,k.1,k.2,(MK.below hb).trans k.3⟩
 obtain⟨n,hn⟩:∃n,s.x.rs.length=n:=⟨_,rfl⟩
 rw[hn]at hla x3
 have ht:=top0 c2
 replace hback:Hid _:=hback
 clear hv hn hc h
 go_enter Tryz.func43,Tryz.ntmps43
 go_wp2_with (go_at_call 39;refine ht.mono ?_;rintro e w2 ⟨rfl,k,rfl⟩)
 have hbD:Below W.heap.size W (w1.drewN k).drew:=ext_drew (drewN_below hb)
 refine wp_region_still_tail 9 (by kernel_rfl) (by kernel_rfl) ?_
 change wpStill _ _ (w1.drewN k).drew _ _ _
 simp only[List.take_succ_cons,List.take_zero,List.drop_succ_cons,List.drop_zero]
 repeat still_step
 refine wpStill_nil ?_
 go_wp2_with (go_at_call 53;refine(hback.out _ hbD).mono ?_;rintro E w3 ⟨rfl,hQ⟩)
 go_end0
 exact hQ
end
theorem wp_any{c:Code}{P:Program}{a:Act}{w:World}{Q:Exit->Act->World->Prop}{R:Act->World->Prop}(h:∀Q':Exit->Act->World->Prop,(∀a' w',R a' w'->Q' .normal a' w')->c.wp P Q' a w)(hq:∀a' w',R a' w'->Q .normal a' w'):c.wp P Q a w:=h Q hq
theorem catch_idle(p:Addr)(w:World) :
  CallsD Tryz.prog 50 #[.pointer (some p)] .returning w fun e u' w'=>e=.returned (.tuple #[])/\u'=.returning/\w'=w:=by
 refine callsD_of_wpS Tryz.func50 rfl fun c₀ cs hu=>?_
 apply wpS_seq
 apply wpS_region
 simp[wpOpsS,go_sem,recoverD,hu,Tryz.ntmps50,Exit.thenS]
 refine wpS_of_wp ?_
 refine wp_any (R:=fun a' w'=>a'.defers=[]/\w'=w) (fun Q hQ=>?_) ?_
 ·clear hu
  have hf:#[Value.pointer (some p)]++(Array.replicate 11 undef).setIfInBounds 3 Value.nilIface=#[.pointer (some p),undef,undef,undef,.nilIface,undef,undef,undef,undef,undef,undef,undef]:=by kernel_rfl
  rw[hf]
  clear hf
  go_wp2
 ·rintro a' w' ⟨h1,rfl⟩
  cases c₀
  simp_all [bodyPostS,results,Tryz.results50]
theorem res51{tm:Array Value}{W:World}{C:Nat}{x:Value}(h:tm[2]?.getD undef=.pointer (some ⟨C,0,none⟩))(hy:W.heap[C]?=some (.cells #[x] 36)):(results Tryz.f41 tm).run Tryz.prog W=.ok x W:=by
 have d0:W.cell? ⟨C,0,none⟩=some x:=cell_block hy rfl
 simp[results,Tryz.results41,go_sem,h,d0]
theorem try42(c:Nat){W:World}{Q:World->Prop}(hq:∀w2,Below W.heap.size W w2->W.heap.size<w2.heap.size->Calls Tryz.prog 42 #[.pointer (some ⟨c,0,none⟩)] w2 fun e W'=>e=.returned (.tuple #[])/\Q W'/\W'.heap[W.heap.size]?=w2.heap[W.heap.size]?) :
  Calls Tryz.prog 41 #[.func (.func 42) #[] #[.pointer (some ⟨c,0,none⟩)]] W fun e W'=>e=.returned (.int .i64 0)/\∃V,Q V/\W.heap.size<V.heap.size/\W'=V.setCell ⟨W.heap.size,0,none⟩ (.int .i64 0):=by
 have hb1:=ext_alloc (Below.refl W.heap.size W) (.cells #[.int .i64 0] 36)
 have g1:(W.alloc (.cells #[.int .i64 0] 36)).heap[W.heap.size]?=some (.cells #[.int .i64 0] 36):=heap_new _ _
 have hs1:=hq _ hb1 (block_lt g1)
 rw[g1]at hs1
 clear hq
 go_enter_defers Tryz.func41,Tryz.ntmps41
 go_wp2_with (go_at_call 42;refine hs1.mono ?_;rintro E w2 ⟨rfl,hQ,g2⟩;have d0:w2.cell? ⟨W.heap.size,0,none⟩=some (.int .i64 0):=cell_block g2 rfl;have f0:w2.frozen? ⟨W.heap.size,0,none⟩=false:=frozen_block g2)
 refine leaves_cons (f:=50) (args:=#[.pointer (some ⟨W.heap.size,0,none⟩)]) (by simp) (by simp[go_sem]) ?_
 refine(catch_idle _ _).mono ?_
 rintro e u' w'' ⟨rfl,rfl,rfl⟩
 have hx:=set_block (i:=0) (.int .i64 0) g2
 exact⟨_,res51 rfl hx,rfl,w2,hQ,block_lt g2,rfl⟩
theorem try71(c1 c2 c3:Nat){W:World}{Q:World->Prop}(hq:∀w2,Below W.heap.size W w2->W.heap.size<w2.heap.size->Calls Tryz.prog 71 #[.pointer (some ⟨c1,0,none⟩),.pointer (some ⟨c2,0,none⟩),.pointer (some ⟨c3,0,none⟩)] w2 fun e W'=>e=.returned (.tuple #[])/\Q W'/\W'.heap[W.heap.size]?=w2.heap[W.heap.size]?) :
  Calls Tryz.prog 41 #[.func (.func 71) #[] #[.pointer (some ⟨c1,0,none⟩),.pointer (some ⟨c2,0,none⟩),.pointer (some ⟨c3,0,none⟩)]] W fun e W'=>e=.returned (.int .i64 0)/\∃V,Q V/\W.heap.size<V.heap.size/\W'=V.setCell ⟨W.heap.size,0,none⟩ (.int .i64 0):=by
 have hb1:=ext_alloc (Below.refl W.heap.size W) (.cells #[.int .i64 0] 36)
 have g1:(W.alloc (.cells #[.int .i64 0] 36)).heap[W.heap.size]?=some (.cells #[.int .i64 0] 36):=heap_new _ _
 have hs1:=hq _ hb1 (block_lt g1)
 rw[g1]at hs1
 clear hq
 go_enter_defers Tryz.func41,Tryz.ntmps41
 go_wp2_with (go_at_call 71;refine hs1.mono ?_;rintro E w2 ⟨rfl,hQ,g2⟩;have d0:w2.cell? ⟨W.heap.size,0,none⟩=some (.int .i64 0):=cell_block g2 rfl;have f0:w2.frozen? ⟨W.heap.size,0,none⟩=false:=frozen_block g2)
 refine leaves_cons (f:=50) (args:=#[.pointer (some ⟨W.heap.size,0,none⟩)]) (by simp) (by simp[go_sem]) ?_
 refine(catch_idle _ _).mono ?_
 rintro e u' w'' ⟨rfl,rfl,rfl⟩
 have hx:=set_block (i:=0) (.int .i64 0) g2
 exact⟨_,res51 rfl hx,rfl,w2,hQ,block_lt g2,rfl⟩
section
variable {w0:World} {m:Hm} {s:Ms} {W:World}
theorem h_step1{o:Od}{s':Ms}(c:Nat)(hc:W.heap[c]?=some (.cells #[.pointer (some ⟨m.B,0,none⟩)] 53))(hn:c∉m.own)
  (hord:∀w2,Below W.heap.size W w2->Calls Tryz.prog 32 #[.pointer (some ⟨m.B,0,none⟩)] w2 fun e W'=>e=.returned o.v/\Below w2.heap.size w2 W')
  (hdo:∀w2,Below W.heap.size W w2->Calls Tryz.prog 43 #[.pointer (some ⟨m.B,0,none⟩),o.v] w2 (HQ w0 m w2 s')):Calls Tryz.prog 42 #[.pointer (some ⟨c,0,none⟩)] W (HQ w0 m W s'):=by
 have c0:W.cell? ⟨c,0,none⟩=some (.pointer (some ⟨m.B,0,none⟩)):=cell_block hc rfl
 have hdo':∀w2,Below W.heap.size W w2->Calls Tryz.prog 43 #[.pointer (some ⟨m.B,0,none⟩),o.v] w2 fun e W'=>e=.returned (.tuple #[])/\HQ w0 m W s' e W'/\W'.cell? ⟨c,0,none⟩=some (.pointer (some ⟨m.B,0,none⟩)):=fun w2 hb=>(hdo w2 hb).mono fun e W' k=>by
  refine⟨k.1,⟨k.1,k.2,(MK.below hb).trans k.3⟩,?_⟩
  exact cell_block (k.3.box ((hb.block c (block_lt hc)).trans hc) hn).1 rfl
 replace hord:Hid _:=hord
 replace hdo':Hid _:=hdo'
 clear hdo
 go_enter Tryz.func42,Tryz.ntmps42
 go_region_held2 (fun u=>u.cell? ⟨c,0,none⟩=some (.pointer (some ⟨m.B,0,none⟩))) (go_keep) (first|(go_at_call 32;refine(hord.out _ (ext_drew (Below.refl _ _))).mono ?_;rintro E w2 ⟨rfl,hb2⟩;have E2:=ext_trans (ext_drew (Below.refl W.heap.size W)) hb2;have c1:=cellB E2 c0)|(go_at_call 43;refine(hdo'.out _ E2).mono ?_;rintro E w3 ⟨rfl,hD,c3⟩))
 all_goals
  go_wp2
  go_end0
  exact hD
theorem h_step{o:Od}{s':Ms}(h:Mh w0 m s W)(h0:0<=s.st)(h60:s.st<60000)
  (hord:∀w2,Mh w0 m { s with st:=s.st+1 } w2->Calls Tryz.prog 32 #[.pointer (some ⟨m.B,0,none⟩)] w2 fun e W'=>e=.returned o.v/\Below w2.heap.size w2 W')
  (hdo:∀w2,Mh w0 m { s with st:=s.st+1 } w2->Calls Tryz.prog 43 #[.pointer (some ⟨m.B,0,none⟩),o.v] w2 (HQ w0 m w2 s')):Calls Tryz.prog 33 #[.pointer (some ⟨m.B,0,none⟩)] W (HQ w0 m W s'):=by
 have hb1:=ext_alloc (Below.refl W.heap.size W) (.cells #[.pointer (some ⟨m.B,0,none⟩)] 53)
 have g1:(W.alloc (.cells #[.pointer (some ⟨m.B,0,none⟩)] 53)).heap[W.heap.size]?=some (.cells #[.pointer (some ⟨m.B,0,none⟩)] 53):=heap_new _ _
 obtain⟨w1,hw1⟩:∃w1,W.alloc (.cells #[.pointer (some ⟨m.B,0,none⟩)] 53)=w1:=⟨_,rfl⟩
 rw[hw1]at hb1 g1
 have hM1:=h.on hb1
 obtain⟨st,hst⟩:∃st,s.st=st:=⟨_,rfl⟩
 rw[hst]at hord hdo h0 h60
 obtain⟨hMX,hkX⟩:=hM1.setSt (st+1)
 have hBW:=h.lt.1
 have hFW:=h.lt.2.1
 have hgW:=h.lt.2.2
 have c5:=hM1.cs.c5
 have z5:=hM1.cs.zb 5
 rw[hst]at c5
 have m0:=cell_block (i:=0) g1 rfl
 have gX:(w1.setCell ⟨m.B,5,none⟩ (.int .i64 (st+1))).heap[W.heap.size]?=some (.cells #[.pointer (some ⟨m.B,0,none⟩)] 53):=(set1_other _ _ (by omega)).trans g1
 obtain⟨X,hX⟩:∃X,w1.setCell ⟨m.B,5,none⟩ (.int .i64 (st+1))=X:=⟨_,rfl⟩
 rw[hX]at hMX gX hkX
 have hnot:W.heap.size∉m.own:=fun e=>by have:=h.ltm _ e;omega
 have hKX:MK m.own W m.own X:=(MK.below hb1).trans hkX
 have hnX:X.heap.size∉m.own:=fun e=>by have:=hMX.ltm _ e;omega
 have htry:=try42 W.heap.size (W:=X) (Q:=fun W'=>HQ w0 m X s' (.returned (.tuple #[])) W') (fun w2 hb2 hlt=>by
  refine(h_step1 W.heap.size ((hb2.block _ (block_lt gX)).trans gX) hnot (fun u hu=>hord u ((hMX.on hb2).on hu)) (fun u hu=>hdo u ((hMX.on hb2).on hu))).mono fun e W' k=>?_
  refine⟨k.1,⟨rfl,k.2,(MK.below hb2).trans k.3⟩,?_⟩
  exact k.3.k.block _ hlt hnX)
 have hfin:∀V,HQ w0 m X s' (.returned (.tuple #[])) V->HQ w0 m W s' (.returned (.tuple #[])) (V.setCell ⟨X.heap.size,0,none⟩ (.int .i64 0)):=fun V hV=>by
  have hk:=(Keeps.refl (fun k=>k=X.heap.size) V).set X.heap.size 0 (.int .i64 0) (fun _=>rfl)
  refine⟨rfl,hV.2.wrote hk (fun k e=>e▸hnX) (fun k e=>by rw[e];exact hMX.bl.size),?_⟩
  refine⟨?_,fun k hk=>.inl hk⟩
  exact(hKX.k.trans hV.3.k).then hk (fun j hj e=>by have:=hKX.k.size;omega)
 replace hfin:Hid _:=hfin
 clear hst hMX hM1 h hord hdo
 go_enter Tryz.func33,Tryz.ntmps33
 go_wp2_with (go_at_call 41;refine htry.mono ?_;rintro E w3 ⟨rfl,V,hV,_,hw3⟩)
 go_end0
 exact hfin.out V hV
end
def tV:Vl:=⟨1,1,E0,by decide,by decide,by decide⟩
def fV:Vl:=⟨1,0,E0,by decide,by decide,by decide⟩
def boV (b:Bool):Vl:=if b=true then tV else fV
theorem numV_k{i:Nat}(h:i<=1000):(numV i).k=2/\(numV i).n=i/\(numV i).s=E0:=by simp[numV,h]
theorem may_num{i:Nat} : mayB (numV i).k (numV i).n (numV i).s=true:=by
 unfold numV
 split <;> simp[mayB,nilV]
theorem boV_truth(b:Bool):truthB (boV b).k (boV b).n (boV b).s=b:=by cases b <;> simp[truthB,boV,tV,fV,mayB]
theorem lt_op{a b:Nat}(ha:a<=1000)(hb:b<=1000)(w:World):Calls Tryz.prog 98 #[.int .i64 8,(numV a).v,(numV b).v] w fun e w'=>e=.returned (.tuple #[(boV (decide (a<b))).v,.int .i64 0])/\Below w.heap.size w w':=by
 have m1:=may_num (i:=a)
 have m2:=may_num (i:=b)
 obtain⟨k1,n1,s1⟩:=numV_k ha
 obtain⟨k2,n2,s2⟩:=numV_k hb
 rw[k1,n1,s1]at m1
 rw[k2,n2,s2]at m2
 rw[numV_eq ha,numV_eq hb]
 by_cases h:a<b
 ·rw[show boV (decide (a<b))=tV by simp[boV,h]]
  exact op_order8 _ _ _ _ _ _ _ _ _ _ w m1 m2 (fun w=>order_int_lt8 2 a 2 b _ _ w rfl rfl (by omega))
 ·rw[show boV (decide (a<b))=fV by simp[boV,h]]
  by_cases h2:b<a
  ·exact op_order8 _ _ _ _ _ _ _ _ _ _ w m1 m2 (fun w=>order_int_gt8 2 a 2 b _ _ w rfl rfl (by omega))
  ·obtain rfl:a=b:=by omega
   exact op_order8 _ _ _ _ _ _ _ _ _ _ w m1 m2 (fun w=>order_int_eq8 2 a 2 _ _ w rfl rfl)
theorem add_op{a b:Nat}(ha:a+b<=1000)(w:World):Calls Tryz.prog 98 #[.int .i64 1,(numV a).v,(numV b).v] w fun e w'=>e=.returned (.tuple #[(numV (a+b)).v,.int .i64 0])/\Below w.heap.size w w':=by
 have m1:=may_num (i:=a)
 have m2:=may_num (i:=b)
 obtain⟨k1,n1,s1⟩:=numV_k (i:=a) (by omega)
 obtain⟨k2,n2,s2⟩:=numV_k (i:=b) (by omega)
 rw[k1,n1,s1]at m1
 rw[k2,n2,s2]at m2
 rw[numV_eq (i:=a) (by omega),numV_eq (i:=b) (by omega),numV_eq ha]
 have:=op_reckon1 2 a 2 b E0 E0 _ _ _ _ w m1 m2 (fun w=>reckon_add 2 a 2 b E0 E0 w rfl rfl)
 rw[show wrap64 ((a:Int)+b)=((a+b:Nat):Int) by unfold wrap64;omega]at this
 exact this
def od (op a b c:Int) (h:((Lit.int .i64 op).wf&&(Lit.int .i64 a).wf&&(Lit.int .i64 b).wf&&(Lit.int .i64 c).wf)=true):Od :=
 ⟨op,a,b,c,by simp only[Bool.and_eq_true]at h;exact h.1.1.1,by simp only[Bool.and_eq_true]at h;exact h.1.1.2,by simp only[Bool.and_eq_true]at h;exact h.1.2,by simp only[Bool.and_eq_true]at h;exact h.2⟩
def odL:List Od:=[od 2 0 0 0 rfl,od 2 1 1 0 rfl,od 2 2 2 0 rfl,od 28 3 0 1 rfl,od 9 3 7 0 rfl,od 21 0 0 2 rfl,od 10 3 0 0 rfl,od 12 0 0 0 rfl]
def csL (n:Nat):List Vl:=[numV 0,numV n,numV 1]
structure Ph (w0:World) (m:Hm) (n:Nat):Prop where
 ex:∃f:Fd,f.p=0/\f.r=4/\f.cs=csL n/\f.is=odL/\Pg w0 m [f]
abbrev stS (pc:Nat) (rs:List Vl) (st:Nat):Ms:=⟨⟨0,(pc:Nat),0,rs⟩,(st:Nat),0,0,nilV⟩
section
variable {w0:World} {m:Hm} {n:Nat} {W:World}
theorem p_order(hP:Ph w0 m n){s:Ms}(h:Mh w0 m s W)(hf:s.x.f=0){pc:Nat}(hpc:s.x.pc=pc){o:Od}(ho:odL[pc]?=some o) :
  Calls Tryz.prog 32 #[.pointer (some ⟨m.B,0,none⟩)] W fun e W'=>e=.returned o.v/\Below W.heap.size W W':=by
 obtain⟨f,_,_,_,e,hp⟩:=hP.ex
 exact h_order hp h (f:=f) (fn:=0) hf hpc rfl (by rw[e];exact ho)
theorem p_step(hP:Ph w0 m n){s s':Ms}(h:Mh w0 m s W)(hf:s.x.f=0){pc:Nat}(hpc:s.x.pc=pc){o:Od}(ho:odL[pc]?=some o)(h0:0<=s.st)(h60:s.st<60000)
  (hdo:∀w2,Mh w0 m { s with st:=s.st+1 } w2->Calls Tryz.prog 43 #[.pointer (some ⟨m.B,0,none⟩),o.v] w2 (HQ w0 m w2 s')):Calls Tryz.prog 33 #[.pointer (some ⟨m.B,0,none⟩)] W (HQ w0 m W s') :=
 h_step h h0 h60 (fun w2 h2=>p_order hP h2 hf hpc ho) hdo
theorem pq_of{W:World}{g a:Nat}{r:Vl}{e:Ending}{W':World}(h:PQ W g a (.inr r) e W'):e=.returned (.tuple #[])/\∃V,Below W.heap.size W V/\W'=putg V g a r:=by
 rcases h with⟨c,h,_⟩|⟨r',h,h1,h2⟩
 ·cases h
 ·cases h;exact⟨h1,h2⟩
theorem hq_eq{fn:Nat}{args:Array Value}{w2:World}{s1 s2:Ms}(h:Calls Tryz.prog fn args w2 (HQ w0 m w2 s1))(e:s1=s2):Calls Tryz.prog fn args w2 (HQ w0 m w2 s2):=e▸h
theorem s_const(hP:Ph w0 m n)(k:Nat)(hk:k<3){a b c d v:Vl}(hv:(csL n)[k]?=some v){st:Nat}(h:Mh w0 m (stS k [a,b,c,d] st) W)(h60:st<60000) :
  Calls Tryz.prog 33 #[.pointer (some ⟨m.B,0,none⟩)] W (HQ w0 m W (stS (k+1) (([a,b,c,d]:List Vl).set k v) (st+1))):=by
 have ho:odL[k]?=some (od 2 k k 0 (by
                      have:k=0\/k=1\/k=2:=by omega
                      rcases this with rfl|rfl|rfl <;> rfl)):=by
  have:k=0\/k=1\/k=2:=by omega
  rcases this with rfl|rfl|rfl <;> rfl
 refine p_step hP h rfl (pc:=k) rfl ho (by simp) (by simp;omega) (fun w2 h2=>?_)
 have:=h_plain h2 (od 2 k k 0 (by
                   have:k=0\/k=1\/k=2:=by omega
                   rcases this with rfl|rfl|rfl <;> rfl)) rfl rfl rfl rfl rfl k v (k:Nat) rfl (by omega) (by omega) (fun u hu=>?_)
 ·exact hq_eq this (by simp)
 ·have h3:=h2.on hu
  have hc:=h3.cs
  obtain⟨f,_,_,e1,_,hp⟩:=hP.ex
  obtain⟨fa,fcp,hfv,hR⟩:=hp.ex
  have hR':=hR.below h3.bl
  obtain⟨fb,off,rfl,hfb,hel⟩:=hR'.2 (by simp)
  obtain⟨h1,hcs,_⟩:=hel 0 f rfl
  obtain⟨cb,coff,e4,hcb,hes⟩:=hcs.2 (by rw[e1];simp[csL])
  have e5:=h1.c
  rw[e4]at e5
  have c0:=hc.c0
  rw[hfv]at c0
  have hlo:=h3.lo m.g (by simp)
  obtain⟨va,hva⟩:∃va,([a,b,c,d]:List Vl)[k]?=some va:=⟨_,List.getElem?_eq_getElem (by simp;omega)⟩
  exact pl_const m.B m.F m.fc 0 m.g 4 m.c k k 0 1 0 fb off fcp cb coff f.cs.length f.cc va v u (hc.rg k va hva) (by omega) c0 hc.c2 (by omega) (by simpa using hc.d0) (by omega) e5 (by rw[e1];simp[csL];omega) (hes k v (by rw[e1];exact hv)) h3.bg h3.fg (by omega) (by omega)
theorem s_less(hP:Ph w0 m n)(hn:n<=1000){i:Nat}(hi:i<=1000){c d:Vl}{st:Nat}(h:Mh w0 m (stS 3 [numV i,numV n,c,d] st) W)(h60:st<60000) :
  Calls Tryz.prog 33 #[.pointer (some ⟨m.B,0,none⟩)] W (HQ w0 m W (stS 4 [numV i,numV n,c,boV (decide (i<n))] (st+1))):=by
 refine p_step hP h rfl (pc:=3) rfl (o:=od 28 3 0 1 rfl) rfl (by simp) (by simp;omega) (fun w2 h2=>?_)
 have:=h_plain h2 (od 28 3 0 1 rfl) rfl rfl rfl rfl rfl 3 (boV (decide (i<n))) (3:Nat) rfl (by omega) (by omega) (fun u hu=>?_)
 ·exact hq_eq this (by simp)
 ·have hc:=(h2.on hu).cs
  refine(pl_op m.B m.g 4 m.c 3 0 1 28 _ _ _ (.inr (boV (decide (i<n)))) u (hc.rg 3 _ rfl) (hc.rg 0 _ rfl) (hc.rg 1 _ rfl) (by omega) (by omega) (by omega) rfl rfl rfl rfl rfl rfl rfl rfl rfl rfl (by omega) (by omega) (fun u2 hu2=>mop_ok _ _ _ _ _ _ (fun w _=>lt_op hi hn w))).mono fun e W' hh=>pq_of hh
theorem s_add(hP:Ph w0 m n){i:Nat}(hi:i+1<=1000){b d:Vl}{st:Nat}(h:Mh w0 m (stS 5 [numV i,b,numV 1,d] st) W)(h60:st<60000) :
  Calls Tryz.prog 33 #[.pointer (some ⟨m.B,0,none⟩)] W (HQ w0 m W (stS 6 [numV (i+1),b,numV 1,d] (st+1))):=by
 refine p_step hP h rfl (pc:=5) rfl (o:=od 21 0 0 2 rfl) rfl (by simp) (by simp;omega) (fun w2 h2=>?_)
 have:=h_plain h2 (od 21 0 0 2 rfl) rfl rfl rfl rfl rfl 0 (numV (i+1)) (5:Nat) rfl (by omega) (by omega) (fun u hu=>?_)
 ·exact hq_eq this (by simp)
 ·have hc:=(h2.on hu).cs
  refine(pl_op m.B m.g 4 m.c 0 0 2 21 _ _ _ (.inr (numV (i+1))) u (hc.rg 0 _ rfl) (hc.rg 0 _ rfl) (hc.rg 2 _ rfl) (by omega) (by omega) (by omega) rfl rfl rfl rfl rfl rfl rfl rfl rfl rfl (by omega) (by omega) (fun u2 hu2=>mop_ok _ _ _ _ _ _ (fun w _=>add_op hi w))).mono fun e W' hh=>pq_of hh
theorem s_test(hP:Ph w0 m n){a b c:Vl}{t:Bool}{st:Nat}(h:Mh w0 m (stS 4 [a,b,c,boV t] st) W)(h60:st<60000) :
  Calls Tryz.prog 33 #[.pointer (some ⟨m.B,0,none⟩)] W (HQ w0 m W (stS (if t=true then 5 else 7) [a,b,c,boV t] (st+1))):=by
 refine p_step hP h rfl (pc:=4) rfl (o:=od 9 3 7 0 rfl) rfl (by simp) (by simp;omega) (fun w2 h2=>?_)
 have:=h_test h2 3 7 0 (v:=boV t) rfl (4:Nat) rfl (by omega) (by omega)
 rw[boV_truth]at this
 exact hq_eq this (by cases t <;> simp)
theorem s_loop(hP:Ph w0 m n){rs:List Vl}{st:Nat}(h:Mh w0 m (stS 6 rs st) W)(h60:st<60000) :
  Calls Tryz.prog 33 #[.pointer (some ⟨m.B,0,none⟩)] W (HQ w0 m W (stS 3 rs (st+1))):=by
 refine p_step hP h rfl (pc:=6) rfl (o:=od 10 3 0 0 rfl) rfl (by simp) (by simp;omega) (fun w2 h2=>?_)
 have:=h_jump h2 (od 10 3 0 0 rfl) rfl
 exact hq_eq this (by simp[od])
theorem s_end(hP:Ph w0 m n){a b c d:Vl}{st:Nat}(h:Mh w0 m (stS 7 [a,b,c,d] st) W)(h60:st<60000) :
  Calls Tryz.prog 33 #[.pointer (some ⟨m.B,0,none⟩)] W (HQ w0 m W ⟨⟨0,(7:Nat),0,[a,b,c,d]⟩,((st+1:Nat):Int),1,0,a⟩):=by
 refine p_step hP h rfl (pc:=7) rfl (o:=od 12 0 0 0 rfl) rfl (by simp) (by simp;omega) (fun w2 h2=>?_)
 have:=h_ret h2 0 0 0 (v:=a) rfl
 exact hq_eq this (by simp[od])
end
theorem do_reg(R vb nv nc at_ x B F fc g k c:Nat)(o:Ti)(ho:o.op=1)(hx:o.x=(x:Nat)){v old:Vl}(W:World)(c0:W.cell? ⟨R,0,none⟩=some (.pointer (some ⟨B,0,none⟩)))(c5:W.cell? ⟨R,5,none⟩=some (.slice (some ⟨vb,0,none⟩) nv nc))(c2:W.cell? ⟨B,2,none⟩=some (.slice (some ⟨F,0,none⟩) 1 fc))(d3:W.cell? ⟨F,3,none⟩=some (.slice (some ⟨g,0,none⟩) k c))(hr:Three W g (x*3) v)(hw:RegAt W vb at_ old)(hxk:x<k)(hat:at_<nv)(nRv:R≠vb)(nFv:F≠vb)(ngv:g≠vb) :
  Calls Tryz.prog 49 #[.pointer (some ⟨R,0,none⟩),.int .i64 (at_:Nat),o.val] W fun e W'=>e=.returned (.tuple #[])/\∃V,Below W.heap.size W V/\W'=putg V vb at_ v:=by
 obtain⟨op,ox,oy,oz,ov,sn⟩:=o
 simp only at ho hx
 subst ho hx
 obtain⟨w3,hw3⟩:∃w3,((W.alloc (.cells #[.pointer (some ⟨R,0,none⟩)] 83)).alloc (.cells #[.int .i64 (at_:Nat)] 3)).alloc (.cells #[.int .i64 1,.int .i64 (x:Nat),.int .i64 oy,.int .i64 oz,.int .i64 ov.k,.int .i64 ov.n,.string ov.s,.int .i64 sn] 121)=w3:=⟨_,rfl⟩
 have E3:Below W.heap.size W w3:=by rw[<- hw3];exact ext_alloc (ext_alloc (ext_alloc (Below.refl _ _) _) _) _
 have g0:w3.heap[W.heap.size]?=some (.cells #[.pointer (some ⟨R,0,none⟩)] 83):=by rw[<- hw3];exact block_alloc _ (block_alloc _ (heap_new _ _))
 have g1:w3.heap[W.heap.size+1]?=some (.cells #[.int .i64 (at_:Nat)] 3):=by rw[<- hw3];exact block_alloc _ (new2' W _ _)
 have g2:w3.heap[W.heap.size+1+1]?=some (.cells #[.int .i64 1,.int .i64 (x:Nat),.int .i64 oy,.int .i64 oz,.int .i64 ov.k,.int .i64 ov.n,.string ov.s,.int .i64 sn] 121):=by rw[<- hw3];exact new3 W _ _ _
 have a0:w3.cell? ⟨W.heap.size,0,none⟩=some (.pointer (some ⟨R,0,none⟩)):=cell_block g0 rfl
 have a1:w3.cell? ⟨W.heap.size+1,0,none⟩=some (.int .i64 (at_:Nat)):=cell_block g1 rfl
 have b0:=cell_block (i:=0) g2 rfl
 have b1:w3.cell? ⟨W.heap.size+1+1,1,none⟩=some (.int .i64 (x:Nat)):=cell_block g2 rfl
 have r0:=cellB E3 c0
 have r5:=cellB E3 c5
 have m2:=cellB E3 c2
 have m3:=cellB E3 d3
 have t0:=cellB E3 hr.k
 have t1:=cellB E3 hr.n
 have t2:=cellB E3 hr.s
 have hvl:vb<W.heap.size:=World.block_lt_of_cell? _ _ hw.t.k
 have hW3:=hw.on E3
 obtain⟨⟨k0,k1,k2⟩,z0,z1,z2⟩:=hW3
 have hfin:∀n,Below W.heap.size W (w3.drewN n):=fun n=>drewN_below E3
 have n1:¬W.heap.size=vb:=by omega
 have n2:¬W.heap.size+1=vb:=by omega
 have n3:¬W.heap.size+1+1=vb:=by omega
 have htop:∀u:World,u.cell? ⟨B,2,none⟩=some (.slice (some ⟨F,0,none⟩) 1 fc)->Calls Tryz.prog 39 #[.pointer (some ⟨B,0,none⟩)] u fun e W'=>e=.returned (.pointer (some ⟨F,0,none⟩))/\∃n,W'=u.drewN n:=fun u h=>top0 h
 replace htop:Hid _:=htop
 replace hfin:Hid _:=hfin
 clear g0 g1 g2 hr hw c0 c5 c2 d3
 go_enter Tryz.func49,Tryz.ntmps49
 go_wp2
 go_region_held2 (fun u=>u.cell? ⟨W.heap.size,0,none⟩=some (.pointer (some ⟨R,0,none⟩))/\u.cell? ⟨W.heap.size+1,0,none⟩=some (.int .i64 (at_:Nat))/\u.cell? ⟨W.heap.size+1+1,1,none⟩=some (.int .i64 (x:Nat))/\u.cell? ⟨R,0,none⟩=some (.pointer (some ⟨B,0,none⟩))/\u.cell? ⟨R,5,none⟩=some (.slice (some ⟨vb,0,none⟩) nv nc)/\u.cell? ⟨F,3,none⟩=some (.slice (some ⟨g,0,none⟩) k c)/\u.cell? ⟨g,x*3,none⟩=some (.int .i64 v.k)/\u.cell? ⟨g,x*3+1,none⟩=some (.int .i64 v.n)/\u.cell? ⟨g,x*3+2,none⟩=some (.string v.s)) (first|go_keep|with_reducible exact⟨(kg n1).trans a0,(kg n2).trans a1,(kg n3).trans b1,(kg nRv).trans r0,(kg nRv).trans r5,(kg nFv).trans m3,(kg ngv).trans t0,(kg ngv).trans t1,(kg ngv).trans t2⟩|exact⟨(kg n1).trans a0,(kg n2).trans a1,(kg n3).trans b1,(kg nRv).trans r0,(kg nRv).trans r5,(kg nFv).trans m3,(kg ngv).trans t0,(kg ngv).trans t1,(kg ngv).trans t2⟩) (first|(go_at_call 39;refine(htop.out _ (by simpa using m2)).mono ?_;rintro e w4 ⟨rfl,n4,rfl⟩))
 all_goals
  go_wp2
  go_end0
  exact⟨rfl,w3.drewN (1+n4),hfin.out _,rfl⟩
theorem true_1(b0 b2 R vb nv nc x:Nat){v:Vl}(W:World)(a0:W.cell? ⟨b0,0,none⟩=some (.pointer (some ⟨R,0,none⟩)))(a1:W.cell? ⟨b2,1,none⟩=some (.int .i64 (x:Nat)))(c5:W.cell? ⟨R,5,none⟩=some (.slice (some ⟨vb,0,none⟩) nv nc))(hr:Three W vb (x*3) v)(hx:x<nv) :
  Calls Tryz.prog 68 #[.pointer (some ⟨b0,0,none⟩),.pointer (some ⟨b2,0,none⟩)] W fun e W'=>e=.returned (.bool (truthB v.k v.n v.s))/\Below W.heap.size W W':=by
 have htr:=truth_any v.k v.n v.s
 obtain⟨t0,t1,t2⟩:=hr
 have hb:Below W.heap.size W W.drew:=ext_drew (Below.refl _ _)
 go_enter Tryz.func68,Tryz.ntmps68
 go_wp2
 refine wp_region_still_tail 8 (by kernel_rfl) (by kernel_rfl) ?_
 change wpStill _ _ W.drew _ _ _
 simp only[List.take_succ_cons,List.take_zero,List.drop_succ_cons,List.drop_zero]
 repeat still_step
 refine wpStill_nil ?_
 go_wp2_with (go_at_call 51;refine(htr _).mono ?_;rintro E w3 ⟨rfl,hb3⟩)
 go_ret
 exact⟨rfl,ext_trans hb hb3⟩
theorem en68(u:World)(args:Array Value):(callFunc 68 args).run Tryz.prog u=.ok (.enter 68 args) u:=by kernel_rfl
theorem en70(u:World)(args:Array Value):(callFunc 70 args).run Tryz.prog u=.ok (.enter 70 args) u:=by kernel_rfl
abbrev exV (pc st:Int) (rv:Value):Value:=.iface 118 (.agg #[.int .i64 pc,.int .i64 st,rv])
theorem need_yes(pR:Value)(o:Ti)(N:Nat)(bs:Array Value)(W:World){Q:World->Prop}(hen:∀(u:World) (args:Array Value),(callFunc N args).run Tryz.prog u=.ok (.enter N args) u)(hq:∀u,Below W.heap.size W u->Calls Tryz.prog N bs u fun e W'=>e=.returned (.bool true)/\Q W') :
  Calls Tryz.prog 66 #[pR,o.val,.func (.func N) #[] bs] W fun e W'=>e=.returned (.tuple #[])/\Q W':=by
 have E1:=ext_alloc (Below.refl W.heap.size W) o.box
 have hq1:∀_:Unit,Calls Tryz.prog N (#[]++bs) (W.alloc o.box) _:=fun _=>by rw[Array.empty_append];exact hq _ E1
 have hq2:∀_:Unit,Calls Tryz.prog N bs (W.alloc o.box) _:=fun _=>hq _ E1
 replace hq1:Hid _:=hq1
 replace hq2:Hid _:=hq2
 clear hq
 go_enter Tryz.func66,Tryz.ntmps66
 go_wp2_with (first|(refine(hq2.out ()).mono ?_;rintro e w2 ⟨rfl,hQ⟩)|(refine(hq1.out ()).mono ?_;rintro e w2 ⟨rfl,hQ⟩))
 go_end0
 exact⟨rfl,hQ⟩
theorem need_not(R sb ns sc sn:Nat)(o:Ti)(ho:o.sn=(sn:Nat))(N:Nat)(bs:Array Value)(W:World){pc st:Int}{rb rn rc:Nat}(hen:∀(u:World) (args:Array Value),(callFunc N args).run Tryz.prog u=.ok (.enter N args) u)(c4:W.cell? ⟨R,4,none⟩=some (.slice (some ⟨sb,0,none⟩) ns sc))(d0:W.cell? ⟨sb,sn*3,none⟩=some (.int .i64 pc))(d1:W.cell? ⟨sb,sn*3+1,none⟩=some (.int .i64 st))(d2:W.cell? ⟨sb,sn*3+2,none⟩=some (.slice (some ⟨rb,0,none⟩) rn rc))(hsn:sn<ns)
  (hq:∀u,Below W.heap.size W u->Calls Tryz.prog N bs u fun e W'=>e=.returned (.bool false)/\Below u.heap.size u W') :
  Calls Tryz.prog 66 #[.pointer (some ⟨R,0,none⟩),o.val,.func (.func N) #[] bs] W fun e W'=>e=.panicked (pan (exV pc st (.slice (some ⟨rb,0,none⟩) rn rc)))/\Below W.heap.size W W':=by
 have E1:=ext_alloc (Below.refl W.heap.size W) o.box
 have g1:(W.alloc o.box).heap[W.heap.size]?=some o.box:=heap_new _ _
 have hq1:∀_:Unit,Calls Tryz.prog N (#[]++bs) (W.alloc o.box) _:=fun _=>by rw[Array.empty_append];exact hq _ E1
 have hq2:∀_:Unit,Calls Tryz.prog N bs (W.alloc o.box) _:=fun _=>hq _ E1
 replace hq1:Hid _:=hq1
 replace hq2:Hid _:=hq2
 replace ho:Hid _:=ho
 clear hq
 go_enter Tryz.func66,Tryz.ntmps66
 go_wp2_with (first|(refine(hq2.out ()).mono ?_;rintro e w2 ⟨rfl,hb2⟩;refine Hid.out ?_)|(refine(hq1.out ()).mono ?_;rintro e w2 ⟨rfl,hb2⟩;refine Hid.out ?_))
 refine Lib.hid ?_
 have E2:=ext_trans E1 hb2
 have q4:=cellB E2 c4
 have p0:=cellB E2 d0
 have p1:=cellB E2 d1
 have p2:=cellB E2 d2
 have p5:w2.cell? ⟨W.heap.size,7,none⟩=some (.int .i64 (sn:Nat)):=by rw[<- ho.out];exact cell_block (block_below hb2 g1) rfl
 have hbf:Below W.heap.size W w2.drew:=ext_drew E2
 go_wp2
 refine wp_region_still_tail 11 (by kernel_rfl) (by kernel_rfl) ?_
 change wpStill _ _ w2.drew _ _ _
 simp only[List.take_succ_cons,List.take_zero,List.drop_succ_cons,List.drop_zero]
 repeat still_step
 refine wpStill_nil ?_
 go_wp2
 exact⟨rfl,rfl,hbf⟩
theorem do_true(R vb nv nc at_ x:Nat)(o:Ti)(ho:o.op=10)(hx:o.x=(x:Nat)){v:Vl}(W:World)(c5:W.cell? ⟨R,5,none⟩=some (.slice (some ⟨vb,0,none⟩) nv nc))(hr:Three W vb (x*3) v)(hxn:x<nv)(hv:truthB v.k v.n v.s=true) :
  Calls Tryz.prog 49 #[.pointer (some ⟨R,0,none⟩),.int .i64 (at_:Nat),o.val] W fun e W'=>e=.returned (.tuple #[])/\Below W.heap.size W W':=by
 obtain⟨w3,hw3⟩:∃w3,((W.alloc (.cells #[.pointer (some ⟨R,0,none⟩)] 83)).alloc (.cells #[.int .i64 (at_:Nat)] 3)).alloc o.box=w3:=⟨_,rfl⟩
 have E3:Below W.heap.size W w3:=by rw[<- hw3];exact ext_alloc (ext_alloc (ext_alloc (Below.refl _ _) _) _) _
 have g0:w3.heap[W.heap.size]?=some (.cells #[.pointer (some ⟨R,0,none⟩)] 83):=by rw[<- hw3];exact block_alloc _ (block_alloc _ (heap_new _ _))
 have g2:w3.heap[W.heap.size+1+1]?=some o.box:=by rw[<- hw3];exact new3 W _ _ _
 have hvb:vb<W.heap.size:=World.block_lt_of_cell? _ _ hr.k
 have hq:∀_:Unit,Calls Tryz.prog 66 #[.pointer (some ⟨R,0,none⟩),o.val,.func (.func 68) #[] #[.pointer (some ⟨W.heap.size,0,none⟩),.pointer (some ⟨W.heap.size+1+1,0,none⟩)]] w3 _:=fun _=>need_yes _ o 68 _ w3 (Q:=fun W'=>Below W.heap.size W W') en68 (fun u hu=>by
  have h1:=true_1 W.heap.size (W.heap.size+1+1) R vb nv nc x (v:=v) u (cellB hu (cell_block g0 rfl)) (by rw[<- hx];exact cellB hu (cell_block g2 rfl)) (cellB hu (cellB E3 c5)) ((hr.below E3 hvb).below hu (by have:=E3.size;omega)) hxn
  rw[hv]at h1
  exact h1.mono fun e W' k=>⟨k.1,ext_trans (ext_trans E3 hu) k.2⟩)
 have hmf:=hmf
 have a0:=cell_block (i:=0) g0 rfl
 have b0:=cell_block (i:=0) g2 rfl
 have b1:=cell_block (i:=1) g2 rfl
 have b2:=cell_block (i:=2) g2 rfl
 have b3:=cell_block (i:=3) g2 rfl
 have b4:=cell_block (i:=4) g2 rfl
 have b5:=cell_block (i:=5) g2 rfl
 have b6:=cell_block (i:=6) g2 rfl
 have b7:=cell_block (i:=7) g2 rfl
 have t1:(o.op == 1)=false:=by rw[ho];rfl
 have t2:(o.op == 2)=false:=by rw[ho];rfl
 have t8:(o.op == 8)=false:=by rw[ho];rfl
 have t9:(o.op == 9)=false:=by rw[ho];rfl
 have t10:(o.op == 10)=true:=by rw[ho];rfl
 replace hq:Hid _:=hq
 clear hx ho hr c5 g0 g2
 go_enter Tryz.func49,Tryz.ntmps49
 go_wp2_with (go_at_call 66;refine(hq.out ()).mono ?_;rintro e w4 ⟨rfl,hb4⟩)
 go_end0
 exact⟨rfl,hb4⟩
theorem do_left(R vb nv nc at_ x sb ns sc sn:Nat)(o:Ti)(ho:o.op=10)(hx:o.x=(x:Nat))(hsn:o.sn=(sn:Nat)){v:Vl}{pc st:Int}{rb rn rc:Nat}(W:World)(c5:W.cell? ⟨R,5,none⟩=some (.slice (some ⟨vb,0,none⟩) nv nc))(hr:Three W vb (x*3) v)(hxn:x<nv)(hv:truthB v.k v.n v.s=false)(c4:W.cell? ⟨R,4,none⟩=some (.slice (some ⟨sb,0,none⟩) ns sc))(d0:W.cell? ⟨sb,sn*3,none⟩=some (.int .i64 pc))(d1:W.cell? ⟨sb,sn*3+1,none⟩=some (.int .i64 st))(d2:W.cell? ⟨sb,sn*3+2,none⟩=some (.slice (some ⟨rb,0,none⟩) rn rc))(hs:sn<ns) :
  Calls Tryz.prog 49 #[.pointer (some ⟨R,0,none⟩),.int .i64 (at_:Nat),o.val] W fun e W'=>e=.panicked (pan (exV pc st (.slice (some ⟨rb,0,none⟩) rn rc)))/\Below W.heap.size W W':=by
 obtain⟨w3,hw3⟩:∃w3,((W.alloc (.cells #[.pointer (some ⟨R,0,none⟩)] 83)).alloc (.cells #[.int .i64 (at_:Nat)] 3)).alloc o.box=w3:=⟨_,rfl⟩
 have E3:Below W.heap.size W w3:=by rw[<- hw3];exact ext_alloc (ext_alloc (ext_alloc (Below.refl _ _) _) _) _
 have g0:w3.heap[W.heap.size]?=some (.cells #[.pointer (some ⟨R,0,none⟩)] 83):=by rw[<- hw3];exact block_alloc _ (block_alloc _ (heap_new _ _))
 have g2:w3.heap[W.heap.size+1+1]?=some o.box:=by rw[<- hw3];exact new3 W _ _ _
 have hvb:vb<W.heap.size:=World.block_lt_of_cell? _ _ hr.k
 have hq:∀_:Unit,Calls Tryz.prog 66 #[.pointer (some ⟨R,0,none⟩),o.val,.func (.func 68) #[] #[.pointer (some ⟨W.heap.size,0,none⟩),.pointer (some ⟨W.heap.size+1+1,0,none⟩)]] w3 _:=fun _=>need_not R sb ns sc sn o hsn 68 _ w3 en68 (cellB E3 c4) (cellB E3 d0) (cellB E3 d1) (cellB E3 d2) hs (fun u hu=>by
  have h1:=true_1 W.heap.size (W.heap.size+1+1) R vb nv nc x (v:=v) u (cellB hu (cell_block g0 rfl)) (by rw[<- hx];exact cellB hu (cell_block g2 rfl)) (cellB hu (cellB E3 c5)) ((hr.below E3 hvb).below hu (by have:=E3.size;omega)) hxn
  rw[hv]at h1
  exact h1)
 have hmf:=hmf
 have a0:=cell_block (i:=0) g0 rfl
 have b0:=cell_block (i:=0) g2 rfl
 have b1:=cell_block (i:=1) g2 rfl
 have b2:=cell_block (i:=2) g2 rfl
 have b3:=cell_block (i:=3) g2 rfl
 have b4:=cell_block (i:=4) g2 rfl
 have b5:=cell_block (i:=5) g2 rfl
 have b6:=cell_block (i:=6) g2 rfl
 have b7:=cell_block (i:=7) g2 rfl
 have t1:(o.op == 1)=false:=by rw[ho];rfl
 have t2:(o.op == 2)=false:=by rw[ho];rfl
 have t8:(o.op == 8)=false:=by rw[ho];rfl
 have t9:(o.op == 9)=false:=by rw[ho];rfl
 have t10:(o.op == 10)=true:=by rw[ho];rfl
 replace hq:Hid _:=hq
 clear hx ho hr c5 g0 g2 hsn
 go_enter Tryz.func49,Tryz.ntmps49
 go_wp2_with (go_at_call 66;refine(hq.out ()).mono ?_;rintro e w4 ⟨rfl,hb4⟩)
 exact⟨rfl,rfl,ext_trans E3 hb4⟩
theorem res72s{tm:Array Value}{W:World}{B:Nat}{x:Vl}(h:tm[4]?.getD undef=.pointer (some ⟨B,0,none⟩))(hx:W.heap[B]?=some (bx x)):(results Tryz.f72 tm).run Tryz.prog W=.ok x.v W:=by
 obtain⟨c0,c1,c2,_,_,_⟩:=in3 hx
 simp[results,Tryz.results72,go_sem,h,c0,c1,c2]
theorem answer_op(R vb nv nc x y:Nat)(pB:Value)(hpB:∃B:Nat,pB=.pointer (some ⟨B,0,none⟩))(o:Ti)(ho:o.op=21\/o.op=28)(hx:o.x=(x:Nat))(hy:o.y=(y:Nat)){vx vy r:Vl}(W:World)(c0:W.cell? ⟨R,0,none⟩=some pB)(c5:W.cell? ⟨R,5,none⟩=some (.slice (some ⟨vb,0,none⟩) nv nc))(hr:Three W vb (x*3) vx)(hs:Three W vb (y*3) vy)(hxn:x<nv)(hyn:y<nv)(hop:∀u,Calls Tryz.prog 98 #[.int .i64 (o.op-20),vx.v,vy.v] u fun e w'=>e=.returned (.tuple #[r.v,.int .i64 0])/\Below u.heap.size u w') :
  Calls Tryz.prog 72 #[.pointer (some ⟨R,0,none⟩),o.val] W fun e W'=>e=.returned r.v/\Below W.heap.size W W':=by
 obtain⟨B,rfl⟩:=hpB
 obtain⟨op,ox,oy,oz,ov,sn⟩:=o
 simp only at ho hx hy hop
 subst hx hy
 obtain⟨w2,hw2⟩:∃w2,(W.alloc (.cells #[.int .i64 op,.int .i64 (x:Nat),.int .i64 (y:Nat),.int .i64 oz,.int .i64 ov.k,.int .i64 ov.n,.string ov.s,.int .i64 sn] 121)).alloc (.cells #[.int .i64 0,.int .i64 0,.string ⟨#[]⟩] 25)=w2:=⟨_,rfl⟩
 have E2:Below W.heap.size W w2:=by rw[<- hw2];exact ext_alloc (ext_alloc (Below.refl _ _) _) _
 have g0:w2.heap[W.heap.size]?=some (.cells #[.int .i64 op,.int .i64 (x:Nat),.int .i64 (y:Nat),.int .i64 oz,.int .i64 ov.k,.int .i64 ov.n,.string ov.s,.int .i64 sn] 121):=by rw[<- hw2];exact block_alloc _ (heap_new _ _)
 have g1:w2.heap[W.heap.size+1]?=some (bx nilV):=by rw[<- hw2];exact new2' W _ _
 have b0:=cell_block (i:=0) g0 rfl
 have b1:=cell_block (i:=1) g0 rfl
 have b2:=cell_block (i:=2) g0 rfl
 have r0:=cellB E2 c0
 have r5:=cellB E2 c5
 have t0:=cellB E2 hr.k
 have t1:=cellB E2 hr.n
 have t2:=cellB E2 hr.s
 have s0:=cellB E2 hs.k
 have s1:=cellB E2 hs.n
 have s2:=cellB E2 hs.s
 have hcall:∀u,Calls Tryz.prog 80 #[.pointer (some ⟨B,0,none⟩),.int .i64 (op-20),vx.v,vy.v] u fun e W'=>e=.returned r.v/\Below u.heap.size u W':=fun u=>(mop_ok _ (op-20) vx vy r u (fun w _=>hop w)).mono fun e W' k=>⟨k.2,k.1⟩
 have hw:IntKind.i64.wrap (op-20)=op-20:=IntWalk.i64_in _ ⟨by omega,by omega⟩
 have q3:(op == 3)=false:=by rcases ho with rfl|rfl <;> rfl
 have q4:(op == 4)=false:=by rcases ho with rfl|rfl <;> rfl
 have q5:(op == 5)=false:=by rcases ho with rfl|rfl <;> rfl
 have q6:(op == 6)=false:=by rcases ho with rfl|rfl <;> rfl
 have q7:(op == 7)=false:=by rcases ho with rfl|rfl <;> rfl
 have q30:(op == 30)=false:=by rcases ho with rfl|rfl <;> rfl
 have q31:(op == 31)=false:=by rcases ho with rfl|rfl <;> rfl
 have hE:∀u,Below w2.drew.heap.size w2.drew u->u.heap[W.heap.size+1]?=some (bx nilV)/\Below W.heap.size W u:=fun u hu=>⟨(hu.block _ (block_lt g1)).trans g1,ext_trans (ext_drew E2) hu⟩
 replace hcall:Hid _:=hcall
 replace hE:Hid _:=hE
 clear hop hr hs c0 c5 g0 g1 ho
 go_enter Tryz.func72,Tryz.ntmps72
 go_wp2
 refine wp_region_still_tail 23 (by kernel_rfl) (by kernel_rfl) ?_
 change wpStill _ _ w2.drew _ _ _
 simp only[List.take_succ_cons,List.take_zero,List.drop_succ_cons,List.drop_zero]
 repeat still_step
 refine wpStill_nil ?_
 go_wp2_with (go_at_call 80;refine(hcall.out _).mono ?_;rintro E w3 ⟨rfl,hb3⟩;obtain⟨g3,E3⟩:=hE.out _ hb3;obtain⟨k0,k1,k2,z0,z1,z2⟩:=in3 g3)
 exact bodyPost_ret (res72s (B:=W.heap.size+1) rfl (put3_same r g3)) rfl ⟨rfl,put3_below r E3 (by omega)⟩
theorem op_11(b0 b1 b2 R vb nv nc at_:Nat)(o:Ti){r old:Vl}(W:World)(g0:W.heap[b0]?=some (.cells #[.pointer (some ⟨R,0,none⟩)] 83))(g1:W.heap[b1]?=some (.cells #[.int .i64 (at_:Nat)] 3))(g2:W.heap[b2]?=some o.box)(r5:W.cell? ⟨R,5,none⟩=some (.slice (some ⟨vb,0,none⟩) nv nc))(hw:RegAt W vb at_ old)(hat:at_<nv)(n0:b0≠vb)(n1:b1≠vb)(n2:b2≠vb)(nR:R≠vb)
  (hans:∀u,Below W.heap.size W u->Calls Tryz.prog 72 #[.pointer (some ⟨R,0,none⟩),o.val] u fun e W'=>e=.returned r.v/\Below u.heap.size u W') :
  Calls Tryz.prog 71 #[.pointer (some ⟨b0,0,none⟩),.pointer (some ⟨b2,0,none⟩),.pointer (some ⟨b1,0,none⟩)] W fun e W'=>e=.returned (.tuple #[])/\∃V,Below W.heap.size W V/\W'=putg V vb at_ r:=by
 have a0:=cell_block (i:=0) g0 rfl
 have a1:W.cell? ⟨b1,0,none⟩=some (.int .i64 (at_:Nat)):=cell_block g1 rfl
 have o0:=cell_block (i:=0) g2 rfl
 have o1:=cell_block (i:=1) g2 rfl
 have o2:=cell_block (i:=2) g2 rfl
 have o3:=cell_block (i:=3) g2 rfl
 have o4:=cell_block (i:=4) g2 rfl
 have o5:=cell_block (i:=5) g2 rfl
 have o6:=cell_block (i:=6) g2 rfl
 have o7:=cell_block (i:=7) g2 rfl
 have hvl:vb<W.heap.size:=World.block_lt_of_cell? _ _ hw.t.k
 have hE:∀u,Below W.drew.heap.size W.drew u->Below W.heap.size W u/\RegAt u vb at_ old/\u.heap[b0]?=some (.cells #[.pointer (some ⟨R,0,none⟩)] 83)/\u.heap[b1]?=some (.cells #[.int .i64 (at_:Nat)] 3)/\u.heap[b2]?=some o.box/\u.cell? ⟨R,5,none⟩=some (.slice (some ⟨vb,0,none⟩) nv nc):=fun u hu=>by
  have E:=ext_trans (ext_drew (Below.refl W.heap.size W)) hu
  exact⟨E,hw.on E,block_below E g0,block_below E g1,block_below E g2,cellB E r5⟩
 replace hE:Hid _:=hE
 replace hans:Hid _:=hans
 clear g0 g1 g2 hw
 go_enter Tryz.func71,Tryz.ntmps71
 go_region_held3 (fun u=>u.cell? ⟨b0,0,none⟩=some (.pointer (some ⟨R,0,none⟩))/\u.cell? ⟨b1,0,none⟩=some (.int .i64 (at_:Nat))/\u.cell? ⟨R,5,none⟩=some (.slice (some ⟨vb,0,none⟩) nv nc)/\u.cell? ⟨b2,0,none⟩=some (.int .i64 o.op)/\u.cell? ⟨b2,1,none⟩=some (.int .i64 o.x)/\u.cell? ⟨b2,2,none⟩=some (.int .i64 o.y)/\u.cell? ⟨b2,3,none⟩=some (.int .i64 o.z)/\u.cell? ⟨b2,4,none⟩=some (.int .i64 o.v.k)/\u.cell? ⟨b2,5,none⟩=some (.int .i64 o.v.n)/\u.cell? ⟨b2,6,none⟩=some (.string o.v.s)/\u.cell? ⟨b2,7,none⟩=some (.int .i64 o.sn)) (first|go_keep|with_reducible exact⟨(kg n0).trans p0,(kg n1).trans p1,(kg nR).trans p5,(kg n2).trans q0,(kg n2).trans q1,(kg n2).trans q2,(kg n2).trans q3,(kg n2).trans q4,(kg n2).trans q5,(kg n2).trans q6,(kg n2).trans q7⟩|exact⟨(kg n0).trans p0,(kg n1).trans p1,(kg nR).trans p5,(kg n2).trans q0,(kg n2).trans q1,(kg n2).trans q2,(kg n2).trans q3,(kg n2).trans q4,(kg n2).trans q5,(kg n2).trans q6,(kg n2).trans q7⟩) (first|(go_at_call 72;refine(hans.out _ (ext_drew (Below.refl _ _))).mono ?_;rintro e w4 ⟨rfl,hb4⟩;obtain⟨E4,hw4,k0,k1,k2,p5⟩:=hE.out _ hb4;obtain⟨⟨h0,h1,h2⟩,z0,z1,z2⟩:=hw4;have p0:=cell_block (i:=0) k0 rfl;have p1:w4.cell? ⟨b1,0,none⟩=some (.int .i64 (at_:Nat)):=cell_block k1 rfl;have q0:=cell_block (i:=0) k2 rfl;have q1:=cell_block (i:=1) k2 rfl;have q2:=cell_block (i:=2) k2 rfl;have q3:=cell_block (i:=3) k2 rfl;have q4:=cell_block (i:=4) k2 rfl;have q5:=cell_block (i:=5) k2 rfl;have q6:=cell_block (i:=6) k2 rfl;have q7:=cell_block (i:=7) k2 rfl))
 all_goals
  go_wp2
  go_end0
  exact⟨rfl,w4,E4,rfl⟩
structure PutV (W:World) (vb at_:Nat) (r:Vl) (e:Ending) (W':World):Prop where
 e:e=.returned (.tuple #[])
 k:Keeps (fun k=>k=vb) W W'
 b:W'.heap[vb]?=(putg W vb at_ r).heap[vb]?
theorem putg_keeps(W:World)(vb a:Nat)(r:Vl):Keeps (fun k=>k=vb) W (putg W vb a r):=((keeps_one' W vb (a*3) _).trans (keeps_one' _ vb (a*3+1) _)).trans (keeps_one' _ vb (a*3+2) _)
 where keeps_one' (W:World) (B i:Nat) (v:Value):Keeps (fun q=>q=B) W (W.setCell ⟨B,i,none⟩ v):=(Keeps.refl _ _).set B i v (fun _=>rfl)
theorem putg_block{V W:World}{vb a:Nat}{r:Vl}{cur:Array Value}{t:TypeId}(hW:W.heap[vb]?=some (.cells cur t (0,0)))(hV:V.heap[vb]?=W.heap[vb]?):(putg V vb a r).heap[vb]?=(putg W vb a r).heap[vb]?:=by
 have h1:=set_block (i:=a*3+2) (.string r.s) (set_block (i:=a*3+1) (.int .i64 r.n) (set_block (i:=a*3) (.int .i64 r.k) (hV.trans hW)))
 have h2:=set_block (i:=a*3+2) (.string r.s) (set_block (i:=a*3+1) (.int .i64 r.n) (set_block (i:=a*3) (.int .i64 r.k) hW))
 exact h1.trans h2.symm
theorem PutV.of{W V W':World}{vb a:Nat}{r:Vl}{cur:Array Value}(hW:W.heap[vb]?=some (.cells cur 25 (0,0)))(hb:Below W.heap.size W V)(e:W'=putg V vb a r):PutV W vb a r (.returned (.tuple #[])) W':=by
 subst e
 exact⟨rfl,(Keeps.of_below hb).trans (putg_keeps V vb a r),putg_block hW (hb.block vb (block_lt hW))⟩
theorem op_4(b0 b1 b2 R vb nv nc at_:Nat)(o:Ti){r old:Vl}{cur:Array Value}(W:World)(g0:W.heap[b0]?=some (.cells #[.pointer (some ⟨R,0,none⟩)] 83))(g1:W.heap[b1]?=some (.cells #[.int .i64 (at_:Nat)] 3))(g2:W.heap[b2]?=some o.box)(r5:W.cell? ⟨R,5,none⟩=some (.slice (some ⟨vb,0,none⟩) nv nc))(hv:W.heap[vb]?=some (.cells cur 25 (0,0)))(hw:RegAt W vb at_ old)(hat:at_<nv)(n0:b0≠vb)(n1:b1≠vb)(n2:b2≠vb)(nR:R≠vb)
  (hans:∀u,Below W.heap.size W u->Calls Tryz.prog 72 #[.pointer (some ⟨R,0,none⟩),o.val] u fun e W'=>e=.returned r.v/\Below u.heap.size u W') :
  Calls Tryz.prog 70 #[.pointer (some ⟨b0,0,none⟩),.pointer (some ⟨b2,0,none⟩),.pointer (some ⟨b1,0,none⟩)] W fun e W'=>e=.returned (.bool true)/\PutV W vb at_ r (.returned (.tuple #[])) W':=by
 have hvl:=block_lt hv
 have htry:∀_:Unit,Calls Tryz.prog 41 #[.func (.func 71) #[] #[.pointer (some ⟨b0,0,none⟩),.pointer (some ⟨b2,0,none⟩),.pointer (some ⟨b1,0,none⟩)]] W _:=fun _=>try71 b0 b2 b1 (W:=W) (Q:=fun W'=>PutV W vb at_ r (.returned (.tuple #[])) W') (fun u hu hlt=>by
  refine(op_11 b0 b1 b2 R vb nv nc at_ o (r:=r) (old:=old) u (block_below hu g0) (block_below hu g1) (block_below hu g2) (cellB hu r5) (hw.on hu) hat n0 n1 n2 nR (fun z hz=>hans z (ext_trans hu hz))).mono fun e W' k=>?_
  obtain⟨k1,V,k2,k3⟩:=k
  refine⟨k1,PutV.of hv (ext_trans hu k2) k3,?_⟩
  rw[k3]
  have hne:W.heap.size≠vb:=by omega
  exact(((set1_other _ _ hne).trans (set1_other _ _ hne)).trans (set1_other _ _ hne)).trans (k2.block _ hlt))
 have hmf:=hmf
 have hfin:∀V W',PutV W vb at_ r (.returned (.tuple #[])) V->W'=V.setCell ⟨W.heap.size,0,none⟩ (.int .i64 0)->PutV W vb at_ r (.returned (.tuple #[])) W':=fun V W' hV e=>by
  subst e
  have hne:vb≠W.heap.size:=by omega
  exact⟨rfl,hV.k.then ((Keeps.refl (fun q=>q=W.heap.size) V).set W.heap.size 0 _ (fun _=>rfl)) (fun j hj e=>by have e':j=W.heap.size:=e;omega),(set1_other _ _ hne).trans hV.b⟩
 replace htry:Hid _:=htry
 replace hfin:Hid _:=hfin
 clear hans hw
 go_enter Tryz.func70,Tryz.ntmps70
 go_wp2_with (go_at_call 41;refine(htry.out ()).mono ?_;rintro E w3 ⟨rfl,V,hV,_,hw3⟩;have hP:=hfin.out V w3 hV hw3;clear hw3)
 go_ret
 exact⟨rfl,hP⟩
theorem do_op(R vb nv nc at_ x y:Nat)(pB:Value)(hpB:∃B:Nat,pB=.pointer (some ⟨B,0,none⟩))(o:Ti)(ho:o.op=21\/o.op=28)(hx:o.x=(x:Nat))(hy:o.y=(y:Nat)){vx vy r old:Vl}{cur:Array Value}(W:World)(c0:W.cell? ⟨R,0,none⟩=some pB)(c5:W.cell? ⟨R,5,none⟩=some (.slice (some ⟨vb,0,none⟩) nv nc))(hv:W.heap[vb]?=some (.cells cur 25 (0,0)))(hr:Three W vb (x*3) vx)(hs:Three W vb (y*3) vy)(hw:RegAt W vb at_ old)(hxn:x<nv)(hyn:y<nv)(hat:at_<nv)(nR:R≠vb)(hop:∀u,Calls Tryz.prog 98 #[.int .i64 (o.op-20),vx.v,vy.v] u fun e w'=>e=.returned (.tuple #[r.v,.int .i64 0])/\Below u.heap.size u w') :
  Calls Tryz.prog 49 #[.pointer (some ⟨R,0,none⟩),.int .i64 (at_:Nat),o.val] W (PutV W vb at_ r):=by
 obtain⟨w3,hw3⟩:∃w3,((W.alloc (.cells #[.pointer (some ⟨R,0,none⟩)] 83)).alloc (.cells #[.int .i64 (at_:Nat)] 3)).alloc o.box=w3:=⟨_,rfl⟩
 have E3:Below W.heap.size W w3:=by rw[<- hw3];exact ext_alloc (ext_alloc (ext_alloc (Below.refl _ _) _) _) _
 have g0:w3.heap[W.heap.size]?=some (.cells #[.pointer (some ⟨R,0,none⟩)] 83):=by rw[<- hw3];exact block_alloc _ (block_alloc _ (heap_new _ _))
 have g1:w3.heap[W.heap.size+1]?=some (.cells #[.int .i64 (at_:Nat)] 3):=by rw[<- hw3];exact block_alloc _ (new2' W _ _)
 have g2:w3.heap[W.heap.size+1+1]?=some o.box:=by rw[<- hw3];exact new3 W _ _ _
 have hvb:=block_lt hv
 have hq:∀_:Unit,Calls Tryz.prog 66 #[.pointer (some ⟨R,0,none⟩),o.val,.func (.func 70) #[] #[.pointer (some ⟨W.heap.size,0,none⟩),.pointer (some ⟨W.heap.size+1+1,0,none⟩),.pointer (some ⟨W.heap.size+1,0,none⟩)]] w3 _:=fun _=>need_yes _ o 70 _ w3 (Q:=fun W'=>PutV W vb at_ r (.returned (.tuple #[])) W') en70 (fun u hu=>by
  have Eu:=ext_trans E3 hu
  refine(op_4 W.heap.size (W.heap.size+1) (W.heap.size+1+1) R vb nv nc at_ o (r:=r) (old:=old) u (block_below hu g0) (block_below hu g1) (block_below hu g2) (cellB Eu c5) (block_below Eu hv) (hw.on Eu) hat (by omega) (by omega) (by omega) nR (fun z hz=>answer_op R vb nv nc x y pB hpB o ho hx hy z (cellB (ext_trans Eu hz) c0) (cellB (ext_trans Eu hz) c5) (hr.below (ext_trans Eu hz) hvb) (hs.below (ext_trans Eu hz) hvb) hxn hyn hop)).mono fun e W' k=>⟨k.1,rfl,?_,?_⟩
  ·exact(Keeps.of_below Eu).trans k.2.k
  ·exact k.2.b.trans (putg_block hv (Eu.block vb hvb)))
 have hmf:=hmf
 have a0:=cell_block (i:=0) g0 rfl
 have b0:=cell_block (i:=0) g2 rfl
 have b1:=cell_block (i:=1) g2 rfl
 have b2:=cell_block (i:=2) g2 rfl
 have b3:=cell_block (i:=3) g2 rfl
 have b4:=cell_block (i:=4) g2 rfl
 have b5:=cell_block (i:=5) g2 rfl
 have b6:=cell_block (i:=6) g2 rfl
 have b7:=cell_block (i:=7) g2 rfl
 have t1:(o.op == 1)=false:=by rcases ho with h|h <;> rw[h] <;> rfl
 have t2:(o.op == 2)=false:=by rcases ho with h|h <;> rw[h] <;> rfl
 have t8:(o.op == 8)=false:=by rcases ho with h|h <;> rw[h] <;> rfl
 have t9:(o.op == 9)=false:=by rcases ho with h|h <;> rw[h] <;> rfl
 have t10:(o.op == 10)=false:=by rcases ho with h|h <;> rw[h] <;> rfl
 have t11:(o.op == 11)=false:=by rcases ho with h|h <;> rw[h] <;> rfl
 replace hq:Hid _:=hq
 clear hx hy ho hr hs c5 g0 g1 g2 hop hw c0
 go_enter Tryz.func49,Tryz.ntmps49
 go_wp2_with (go_at_call 66;refine(hq.out ()).mono ?_;rintro e w4 ⟨rfl,hP⟩)
 go_end0
 exact hP
def layJ (vals rs:List Vl) (rg:List Int):Nat->List Vl
 | 0=>rs
 | j+1=>match rg[j]? with
  | some n=>if n=-1 then layJ vals rs rg j else (layJ vals rs rg j).set j ((vals[n.toNat]?).getD nilV)
  | none=>layJ vals rs rg j
theorem layJ_len(vals rs:List Vl)(rg:List Int):∀j,(layJ vals rs rg j).length=rs.length
 | 0=>rfl
 | j+1=>by
  unfold layJ
  split
  ·split
   ·exact layJ_len vals rs rg j
   ·rw[List.length_set];exact layJ_len vals rs rg j
  ·exact layJ_len vals rs rg j
abbrev sRs (s:Ms) (rs:List Vl):Ms:={ s with x:={ s.x with rs:=rs } }
abbrev sLay (s:Ms) (rs:List Vl) (pc st:Int):Ms:={ s with x:={ s.x with rs:=rs,pc:=pc },st:=s.st+st }
theorem goOn_any{w0:World}{m:Hm}{s:Ms}{W:World}(h:Mh w0 m s W)(R vb nv nc rb kr rc:Nat)(pc st:Int)(rg:List Int)(vals:List Vl)(c0:W.cell? ⟨R,0,none⟩=some (.pointer (some ⟨m.B,0,none⟩)))(c5:W.cell? ⟨R,5,none⟩=some (.slice (some ⟨vb,0,none⟩) nv nc))(hvals:∀(i:Nat) x,vals[i]?=some x->Three W vb (i*3) x)(hrg:∀(j:Nat) n,rg[j]?=some n->W.cell? ⟨rb,j,none⟩=some (.int .i64 n))(hkr:rg.length=kr)(hkl:kr<=s.x.rs.length)(hkm:kr<=1000)(hin:∀n∈rg,n=-1\/∃p:Nat,n=p/\p<vals.length)(hvl:vals.length<=nv)(hnv:nv<=1000)(nR:R∉m.own)(nv':vb∉m.own)(nr':rb∉m.own)(hst:0<=s.st/\s.st<=100000)(hst2:0<=st/\st<=100000) :
  Calls Tryz.prog 48 #[.pointer (some ⟨R,0,none⟩),.agg #[.int .i64 pc,.int .i64 st,.slice (some ⟨rb,0,none⟩) kr rc]] W (HQ w0 m W (sLay s (layJ vals s.x.rs rg kr) pc st)):=by
 obtain⟨w1,hw1⟩:∃w1,W.alloc (.cells #[.int .i64 pc,.int .i64 st,.slice (some ⟨rb,0,none⟩) kr rc] 98)=w1:=⟨_,rfl⟩
 have E1:Below W.heap.size W w1:=by rw[<- hw1];exact ext_alloc (Below.refl _ _) _
 have gb:w1.heap[W.heap.size]?=some (.cells #[.int .i64 pc,.int .i64 st,.slice (some ⟨rb,0,none⟩) kr rc] 98):=by rw[<- hw1];exact heap_new _ _
 have h1:=h.on E1
 have r0:=cellB E1 c0
 have ht:∀_:Unit,Calls Tryz.prog 39 #[.pointer (some ⟨m.B,0,none⟩)] w1 _:=fun _=>top0 h1.cs.c2
 have b2:=cell_block (i:=2) gb rfl
 have hnot:W.heap.size∉m.own:=fun e=>by have:=h.ltm _ e;omega
 have hcell:∀u,MK m.own w1 m.own u->u.cell? ⟨R,0,none⟩=some (.pointer (some ⟨m.B,0,none⟩))/\u.cell? ⟨R,5,none⟩=some (.slice (some ⟨vb,0,none⟩) nv nc)/\(∀(i:Nat) x,vals[i]?=some x->Three u vb (i*3) x)/\(∀(j:Nat) n,rg[j]?=some n->u.cell? ⟨rb,j,none⟩=some (.int .i64 n))/\u.heap[W.heap.size]?=some (.cells #[.int .i64 pc,.int .i64 st,.slice (some ⟨rb,0,none⟩) kr rc] 98):=fun u hu=>by
  refine⟨hu.k.cell r0 nR,hu.k.cell (cellB E1 c5) nR,fun i x hx=>?_,fun j n hj=>hu.k.cell (cellB E1 (hrg j n hj)) nr',(hu.k.block _ (block_lt gb) hnot).trans gb⟩
  have t:=hvals i x hx
  exact⟨hu.k.cell (cellB E1 t.k) nv',hu.k.cell (cellB E1 t.n) nv',hu.k.cell (cellB E1 t.s) nv'⟩
 have hM0:∀n,Mh w0 m s (w1.drewN n)/\MK m.own w1 m.own (w1.drewN n):=fun n=>⟨h1.on (drewN_below (Below.refl _ _)),MK.below (drewN_below (Below.refl _ _))⟩
 have hb2:∀n,(w1.drewN n).cell? ⟨W.heap.size,2,none⟩=some (.slice (some ⟨rb,0,none⟩) kr rc):=fun n=>b2
 replace ht:Hid _:=ht
 replace hcell:Hid _:=hcell
 replace hM0:Hid _:=hM0
 replace hin:Hid _:=hin
 replace hkr:Hid _:=hkr
 replace hst:Hid _:=hst
 clear gb h h1 c0 c5 hvals hrg
 go_enter Tryz.func48,Tryz.ntmps48
 go_wp2_with (go_at_call 39;refine(ht.out ()).mono ?_;rintro e w2 ⟨rfl,n2,rfl⟩)
 go_loopw [15] (fun i wr=>∃j:Nat,j<=kr/\i=.int .i64 (j:Nat)/\Hid (Mh w0 m (sRs s (layJ vals s.x.rs rg j)) wr)/\Hid (MK m.own w1 m.own wr)) (fun i _=>kr-(intOf i).toNat)
 case atStart=>exact⟨0,Nat.zero_le _,rfl,(hM0.out n2).1,(hM0.out n2).2⟩
 case round =>
  obtain⟨j,hj,rfl,hM,hK⟩:=hrel
  obtain⟨q0,q5,qv,qr,qg⟩:=hcell.out wr hK.out
  by_cases hlt:j<kr
  ·obtain⟨n,hn⟩:∃n,rg[j]?=some n:=⟨rg[j]'(by rw[hkr.out];exact hlt),List.getElem?_eq_getElem _⟩
   have r1:=qr j n hn
   rcases hin.out n (List.mem_of_getElem? hn)with rfl|⟨p,rfl,hp⟩
   ·have e1:layJ vals s.x.rs rg (j+1)=layJ vals s.x.rs rg j:=by rw[layJ,hn];simp
    clear qv qr qg
    go_wp2
    go_roundw
    case measure=>simp[intOf];omega
    case rel=>exact⟨j+1,by omega,by go_num,by rw[e1];exact hM,hK⟩
   ·obtain⟨v,hv⟩:∃v,vals[p]?=some v:=⟨vals[p],List.getElem?_eq_getElem _⟩
    have e1:layJ vals s.x.rs rg (j+1)=(layJ vals s.x.rs rg j).set j v:=by rw[layJ,hn];simp[hv]
    obtain⟨t0,t1,t2⟩:=qv p v hv
    have hc:=hM.out.cs
    have d3:=hc.d3
    simp only[layJ_len]at d3
    obtain⟨old,hold⟩:∃old,(layJ vals s.x.rs rg j)[j]?=some old:=⟨(layJ vals s.x.rs rg j)[j]'(by rw[layJ_len];omega),List.getElem?_eq_getElem _⟩
    obtain⟨⟨k0,k1,k2⟩,z0,z1,z2⟩:=hc.rg j old hold
    have hpn:((p:Int) != -1)=true:=by simp
    obtain⟨L,hL⟩:∃L,s.x.rs.length=L:=⟨_,rfl⟩
    rw[hL]at d3 hkl
    have hpv:p<nv:=by omega
    have nvg:vb≠m.g:=fun e=>nv' (by rw[e];simp)
    have fin:∀V,Below wr.heap.size wr V->Hid (Mh w0 m (sRs s (layJ vals s.x.rs rg (j+1))) (putg V m.g j v)/\MK m.own w1 m.own (putg V m.g j v)):=fun V hb=>by
     rw[e1]
     obtain⟨x1,x2⟩:=(hM.out.on hb).setReg j v
     exact⟨x1,(hK.out.trans (MK.below hb)).trans x2⟩
    replace fin:Hid _:=fin
    clear qv qr qg hc hold hM hK
    go_wp2
    go_region
    all_goals
     go_wp2
     go_roundw
     case measure=>simp[intOf];omega
     case rel =>
      have hf:=(fin.out wr.drew (ext_drew (Below.refl _ _))).out
      exact⟨j+1,by omega,by go_num,hf.1,hf.2⟩
  ·obtain rfl:j=kr:=by omega
   have p0:=cell_block (i:=0) qg rfl
   obtain⟨x1,x2⟩:=hM.out.setPC pc
   have hc:=hM.out.cs
   have d1:=hc.d1
   have z1:=hc.z1
   have hFw:=hM.out.lt.2.1
   have hnF:¬W.heap.size=m.F:=fun e=>hnot (by rw[e];simp)
   have hnB:¬W.heap.size=m.B:=fun e=>hnot (by rw[e];simp)
   have nRF:¬R=m.F:=fun e=>nR (by rw[e];simp)
   obtain⟨X,hX⟩:∃X,wr.setCell ⟨m.F,1,none⟩ (.int .i64 pc)=X:=⟨_,rfl⟩
   rw[hX]at x1 x2
   have hKX:=hK.out.trans x2
   obtain⟨y0,_,_,_,yg⟩:=hcell.out X hKX
   have u1:=cell_block (i:=1) yg rfl
   have hcX:=x1.cs
   have s5:=hcX.c5
   have f5:=hcX.zb 5
   obtain⟨sv,hsv⟩:∃sv,s.st=sv:=⟨_,rfl⟩
   have hs2:=hst.out
   rw[hsv]at hs2
   simp only[hsv]at s5
   have fin:Hid (∀V,Below X.heap.size X V->HQ w0 m W (sLay s (layJ vals s.x.rs rg j) pc st) (.returned (.tuple #[])) (V.setCell ⟨m.B,5,none⟩ (.int .i64 (sv+st)))):=fun V hb=>by
    obtain⟨a1,a2⟩:=(x1.on hb).setSt (sv+st)
    refine⟨rfl,?_,(((MK.below E1).trans hKX).trans (MK.below hb)).trans a2⟩
    show Mh w0 m { x:={ s.x with rs:=layJ vals s.x.rs rg j,pc:=pc },st:=s.st+st,en:=s.en,er:=s.er,la:=s.la } _
    rw[hsv]
    exact a1
   have hws:IntKind.i64.wrap (sv+st)=sv+st:=IntWalk.i64_in _ ⟨by omega,by omega⟩
   clear hM hK hc hcX x1 x2 hKX yg qg qv qr hst hsv
   go_wp2
   go_region
   all_goals
    go_wp2
    go_end0
    exact fin.out X.drew (ext_drew (Below.refl _ _))
theorem catch47_idle(p:Addr)(w:World) :
  CallsD Tryz.prog 47 #[.pointer (some p)] .returning w fun e u' w'=>e=.returned (.tuple #[])/\u'=.returning/\w'=w:=by
 refine callsD_of_wpS Tryz.func47 rfl fun c₀ cs hu=>?_
 apply wpS_seq
 apply wpS_region
 simp[wpOpsS,go_sem,recoverD,hu,Tryz.ntmps47,Exit.thenS]
 refine wpS_of_wp ?_
 refine wp_any (R:=fun a' w'=>a'.defers=[]/\w'=w) (fun Q hQ=>?_) ?_
 ·clear hu
  have hf:#[Value.pointer (some p)]++(Array.replicate 13 undef).setIfInBounds 3 Value.nilIface=#[.pointer (some p),undef,undef,undef,.nilIface,undef,undef,undef,undef,undef,undef,undef,undef,undef]:=by kernel_rfl
  rw[hf]
  clear hf
  go_wp2
 ·rintro a' w' ⟨h1,rfl⟩
  cases c₀
  simp_all [bodyPostS,results,Tryz.results47]
theorem catch47_exit(b R:Nat)(pc st:Int)(rb rn rc:Nat)(older:List PanicEntry)(w:World){Q1:World->Prop}(hc:w.heap[b]?=some (.cells #[.pointer (some ⟨R,0,none⟩)] 83))
  (hgo:∀u,Below w.heap.size w u->Calls Tryz.prog 48 #[.pointer (some ⟨R,0,none⟩),.agg #[.int .i64 pc,.int .i64 st,.slice (some ⟨rb,0,none⟩) rn rc]] u fun e W'=>e=.returned (.tuple #[])/\Q1 W') :
  CallsD Tryz.prog 47 #[.pointer (some ⟨b,0,none⟩)] (.panicking ({ v:=exV pc st (.slice (some ⟨rb,0,none⟩) rn rc),recovered:=false } :: older)) w fun e u' w'=>e=.returned (.tuple #[])/\u'=.panicking ({ v:=exV pc st (.slice (some ⟨rb,0,none⟩) rn rc),recovered:=true } :: older)/\Q1 w':=by
 have c0:=cell_block (i:=0) hc rfl
 have hbl:=block_lt hc
 have n1:¬w.heap.size=b:=by omega
 have E1:=ext_alloc (Below.refl w.heap.size w) (.cells #[.int .i64 pc,.int .i64 st,.slice (some ⟨rb,0,none⟩) rn rc] 118)
 have y1:∀u:World,(Instr.typeAssert (.iface 118 (.agg #[.int .i64 pc,.int .i64 st,.slice (some ⟨rb,0,none⟩) rn rc])) 20 118 true).run Tryz.prog u=.ok (.tuple #[.agg #[.int .i64 pc,.int .i64 st,.slice (some ⟨rb,0,none⟩) rn rc],.bool true]) u:=fun _=>by kernel_rfl
 replace hgo:Hid _:=hgo
 refine callsD_of_wpS Tryz.func47 rfl fun c₀ cs hu=>?_
 apply wpS_seq
 apply wpS_region
 simp[wpOpsS,go_sem,recoverD,hu,Tryz.ntmps47,Exit.thenS]
 refine wpS_of_wp ?_
 refine wp_any (R:=fun a' w'=>a'.defers=[]/\Q1 w') (fun Q hQ=>?_) ?_
 ·clear hu
  have hf:#[Value.pointer (some ⟨b,0,none⟩)]++(Array.replicate 13 undef).setIfInBounds 3 (Value.iface 118 (.agg #[.int .i64 pc,.int .i64 st,.slice (some ⟨rb,0,none⟩) rn rc]))=#[.pointer (some ⟨b,0,none⟩),undef,undef,undef,.iface 118 (.agg #[.int .i64 pc,.int .i64 st,.slice (some ⟨rb,0,none⟩) rn rc]),undef,undef,undef,undef,undef,undef,undef,undef,undef]:=by kernel_rfl
  rw[hf]
  clear hf hc
  go_wp2_with (go_at_call 48;refine(hgo.out _ E1).mono ?_;rintro e w5 ⟨rfl,hQ5⟩)
  exact hQ5
 ·rintro a' w' ⟨h1,h2⟩
  cases c₀
  simp_all [bodyPostS,results,Tryz.results47]
end
end Go.Proofs.YthljpnmhddfblaaGreatDoor
