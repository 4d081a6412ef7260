/- dead of a trace of which every order is needed; all four of them. -/
import Derived.Test.YthljpnmhddfblaaGreatDoorS41
import Derived.Test.YthljpnmhddfblaaGreatDoorS49
namespace Go.Proofs.YthljpnmhddfblaaGreatDoor
open Go.RowKit Go.Shelf Go
set_option maxRecDepth 100000
set_option maxHeartbeats 8000000
set_option linter.all false
section
variable [DecidableEq Vl]
theorem en106(u:World)(args:Array Value):(callFunc 106 args).run Tryz.prog u=.ok (.enter 106 args) u:=by kernel_rfl
theorem wrap_small{i:Nat}(h:i<=1000):wrap64 (i:Int)=(i:Int):=by
 unfold wrap64
 omega
structure KD (n A R N:Nat) (i:Nat) (W:World):Prop where
 a:W.heap[A]?=some (.cells #[.int .i64 ((i:Nat)-1)] 3)
 r:W.heap[R]?=some (.cells #[.slice (some ⟨N,0,none⟩) n n] 165)
 n:W.heap[N]?=some (nbo (List.replicate n true))
theorem cl_dead{t:Tr}(hI:IdT t)(w:World){A R N:Nat}(hA:A<w.heap.size)(hR:R<w.heap.size)(hN:N<w.heap.size)(h1:A≠R)(h2:A≠N):Cl (fun k=>k=A) (KD t.ins.length A R N) w t 106 #[.pointer (some ⟨A,0,none⟩),.pointer (some ⟨R,0,none⟩)]:=by
 refine⟨en106,fun i W W' hK hW=>⟨(hW A hA).trans hK.a,(hW R hR).trans hK.r,(hW N hN).trans hK.n⟩,fun w1 B W i o hw ho hMk hK=>?_⟩
 have hom:=List.mem_of_getElem? ho
 have hl:=tk_len ho
 have hi:=(List.getElem?_eq_some_iff.1 ho).1
 have hn1:=hI.n1
 have hsz:=hMk.kp.size
 have hvs:=hI.vs o hom
 have htk:({ tk t i 0 with ins:=(tk t i 0).ins++[o] } : Tr)=tk t (i+1) 0:=tk_add ho
 obtain⟨n,hn⟩:∃n,t.ins.length=n:=⟨_,rfl⟩
 rw[hn]at hK hi hn1⊢
 have g0:(W.alloc o.box).heap[W.heap.size]?=some o.box:=heap_new _ _
 have E0:=ext_alloc (Below.refl W.heap.size W) o.box
 obtain⟨w3,hw3⟩:∃w3,W.alloc o.box=w3:=⟨_,rfl⟩
 rw[hw3]at g0 E0
 have A3:=block_below E0 hK.a
 have R3:=block_below E0 hK.r
 have N3:=block_below E0 hK.n
 obtain⟨X,hX⟩:∃X,w3.setCell ⟨A,0,none⟩ (.int .i64 (i:Nat))=X:=⟨_,rfl⟩
 have hk3:=keeps_one w3 A 0 (.int .i64 (i:Nat))
 have AX:X.heap[A]?=some (.cells #[.int .i64 (i:Nat)] 3):=by rw[<- hX];exact set_block _ A3
 rw[hX]at hk3
 have RX:X.heap[R]?=_:=(hk3.block R (block_lt R3) (fun e=>h1 e.symm)).trans R3
 have NX:X.heap[N]?=_:=(hk3.block N (block_lt N3) (fun e=>h2 e.symm)).trans N3
 have gX:X.heap[W.heap.size]?=some o.box:=(hk3.block _ (block_lt g0) (by intro e;have e':W.heap.size=A:=e;omega)).trans g0
 have hMX:Mk (fun k=>k=A) w1 B (tk t i 0) (nowL i) X:=(hMk.on E0).wrote hk3 (fun k e=>by have e':k=A:=e;omega)
 have hB1:w1.heap.size<=B/\B<W.heap.size:=by obtain⟨_,_,_,_,h1,_,h2⟩:=hMk.ex;exact⟨(h2.lt B (by simp)).1,block_lt h1⟩
 have hc4:X.cell? ⟨B,4,none⟩=W.cell? ⟨B,4,none⟩:=(World.cell?_of_block (a:=⟨B,4,none⟩) (hk3.block B (by have:=E0.size;omega) (fun e=>by have e':B=A:=e;omega))).trans (E0.cell (p:=⟨B,4,none⟩) hB1.2)
 have hadd:∀_:Unit,Calls Tryz.prog 107 #[.pointer (some ⟨B,0,none⟩),o.val] X fun e W'=>e=.returned (.int .i64 (i:Nat))/\Hid (Mk (fun k=>k=A) w1 B (tk t (i+1) 0) (nowL i) W'/\KD n A R N (i+1) W'/\W'.cell? ⟨B,4,none⟩=W.cell? ⟨B,4,none⟩):=fun _=>(add_q hMX o hvs (by rw[hl];omega) (Below.refl _ _)).mono fun e W' k=>by
  have q:=k.2.1.out
  refine⟨by rw[k.1,hl],by rw[<- htk];exact q.m,⟨?_,(q.l R (by omega)).trans RX,(q.l N (by omega)).trans NX⟩,q.c.trans hc4⟩
  rw[q.l A (by omega),AX]
  congr 3
  simp
 have a0:=cell_block (i:=0) A3 rfl
 have z0:=frozen_block (i:=0) A3
 have a1:=cell_block (i:=0) AX rfl
 have r1:=cell_block (i:=0) RX rfl
 have n1:X.cell? ⟨N,i,none⟩=some (.bool true):=cell_block NX (by simp[hi])
 have e0:=cell_block (i:=0) gX rfl
 have e1:=cell_block (i:=1) gX rfl
 have e2:=cell_block (i:=2) gX rfl
 have e3:=cell_block (i:=3) gX rfl
 have e4:=cell_block (i:=4) gX rfl
 have e5:=cell_block (i:=5) gX rfl
 have e6:=cell_block (i:=6) gX rfl
 have e7:=cell_block (i:=7) gX rfl
 have hs:wrap64 (i:Int)=(i:Int):=wrap_small (by omega)
 have hi2:(i:Int)<(n:Int):=Int.ofNat_lt.2 hi
 replace hadd:Hid _:=hadd
 replace hn:Hid _:=hn
 replace hl:Hid _:=hl
 clear hK hMk hMX A3 R3 N3 AX RX NX gX g0 hk3 hn1 hc4 htk hsz E0 hw hom hI ho
 go_enter Tryz.func106,Tryz.ntmps106
 go_wp2_with (go_at_call 107;refine(hadd.out ()).mono ?_;rintro e w6 ⟨rfl,hQ⟩)
 go_ret
 exact⟨rfl,hQ.out⟩
theorem res85{tm:Array Value}{W:World}{C:Nat}{a b c d:Value}(h:tm[2]?.getD undef=.pointer (some ⟨C,0,none⟩))(hy:W.heap[C]?=some (.cells #[a,b,c,d] 102)):(results Tryz.f85 tm).run Tryz.prog W=.ok (.agg #[a,b,c,d]) W:=by
 have d0:W.cell? ⟨C,0,none⟩=some a:=cell_block hy rfl
 have d1:W.cell? ⟨C,1,none⟩=some b:=cell_block hy rfl
 have d2:W.cell? ⟨C,2,none⟩=some c:=cell_block hy rfl
 have d3:W.cell? ⟨C,3,none⟩=some d:=cell_block hy rfl
 simp[results,Tryz.results85,go_sem,h,d0,d1,d2,d3]
theorem dead_any{lo:Nat}{t:Tr}{iv sv:Value}{vs:List Value}{w:World}(hT:TrV lo t iv sv vs w)(hI:IdT t)(hD:IdD t):Calls Tryz.prog 85 #[trv t iv sv] w (BeQ w t):=by
 obtain⟨⟨ia,ic,rfl⟩,sa,sc,rfl⟩:=trV_slices hT
 have hA:=btA (w:=w) (t:=t) (iv:=.slice ia t.ins.length ic) (sv:=.slice sa t.sns.length sc) (vs:=vs)
 obtain⟨wa,hwa⟩:∃wa,(w.alloc (trb t (.slice ia t.ins.length ic) (.slice sa t.sns.length sc))).alloc (.cells #[.int .i64 0,.int .i64 0,.slice none 0 0,.slice none 0 0] 102)=wa:=⟨_,rfl⟩
 rw[hwa]at hA
 have hnd:∀_:Unit,Calls Tryz.prog 104 #[trv t (.slice ia t.ins.length ic) (.slice sa t.sns.length sc)] wa _:=fun _=>needed_any (hT.below hA.b) hI hD
 have a0:=cell_block (i:=0) hA.g rfl
 have a1:=cell_block (i:=1) hA.g rfl
 have a2:=cell_block (i:=2) hA.g rfl
 have a3:=cell_block (i:=3) hA.g rfl
 have hAg:=hA.z
 have hAt:=hA.g
 have hAb:=hA.b
 have hTa:=hT.below hA.b
 have hq:∀wc A R N,Below wa.heap.size wa wc->A<wc.heap.size->wa.heap.size<=A->R<wc.heap.size->N<wc.heap.size->A≠R->A≠N->KD t.ins.length A R N 0 wc->Calls Tryz.prog 105 #[trv t (.slice ia t.ins.length ic) (.slice sa t.sns.length sc),.func (.func 106) #[] #[.pointer (some ⟨A,0,none⟩),.pointer (some ⟨R,0,none⟩)]] wc (EaQ (fun k=>k=A) (KD t.ins.length A R N) wc t):=fun wc A R N hb h1 h2 h3 h4 h5 h6 hK=>each_id (hTa.below hb) hI (fun k hk=>by
  have e':k=A:=hk
  exact⟨by omega,fun hb'=>by have:=(hTa.lt k hb').2;omega⟩) (cl_dead hI wc h1 h3 h4 h5 h6) hK
 obtain⟨n,hn⟩:∃n,t.ins.length=n:=⟨_,rfl⟩
 obtain⟨m,hm⟩:∃m,t.sns.length=m:=⟨_,rfl⟩
 rw[hn,hm]at hnd hq a2 a3 hwa
 rw[hn,hm]
 rw[hn,hm]at hAt
 replace hnd:Hid _:=hnd
 replace hq:Hid _:=hq
 replace hn:Hid _:=hn
 replace hm:Hid _:=hm
 replace hAt:Hid _:=hAt
 have hza:=block_lt hAg
 clear hA hT hI hD hTa
 go_enter Tryz.func85,Tryz.ntmps85
 go_wp2_with (go_at_call 104;refine(hnd.out ()).mono ?_;rintro e wb ⟨rfl,hNb,hBb⟩;refine Hid.out ?_)
 refine Lib.hid ?_
 have hbs:=hBb.size
 have hNl:=block_lt hNb
 obtain⟨wc,hwc⟩:∃wc,(wb.alloc (.cells #[.slice (some ⟨wa.heap.size+1,0,none⟩) n n] 165)).alloc (.cells #[.int .i64 (-1)] 3)=wc:=⟨_,rfl⟩
 have Ec:Below wb.heap.size wb wc:=by rw[<- hwc];exact ext_alloc (ext_alloc (Below.refl _ _) _) _
 have gR:wc.heap[wb.heap.size]?=some (.cells #[.slice (some ⟨wa.heap.size+1,0,none⟩) n n] 165):=by rw[<- hwc];exact block_alloc _ (heap_new _ _)
 have gA:wc.heap[wb.heap.size+1]?=some (.cells #[.int .i64 (-1)] 3):=by rw[<- hwc];exact new2' wb _ _
 have gN:=block_below Ec hNb
 have hEac:Below wa.heap.size wa wc:=ext_trans hBb Ec
 have hRl:=block_lt gR
 have hAl:=block_lt gA
 have hq2:=hq.out wc (wb.heap.size+1) wb.heap.size (wa.heap.size+1) hEac hAl (by omega) hRl (by omega) (by omega) (by omega) ⟨gA,gR,gN⟩
 have b0:=cell_block (i:=0) (block_below hEac hAt.out) rfl
 have b1:=cell_block (i:=1) (block_below hEac hAt.out) rfl
 have b2:=cell_block (i:=2) (block_below hEac hAt.out) rfl
 have b3:=cell_block (i:=3) (block_below hEac hAt.out) rfl
 have hAg':=block_below hEac hAg
 have hAb':=ext_trans hAb hEac
 replace hq2:Hid (∀_:Unit,_):=fun _=>hq2
 clear hq hnd a0 a1 a2 a3 gN gR gA hNb Ec hBb hAg hEac
 go_wp2_with (go_at_call 105;refine(hq2.out ()).mono ?_;rintro e u ⟨iv',sv',vs',rfl,hT',_,hK⟩;refine Hid.out ?_)
 refine Lib.hid ?_
 have hn':=hn.out
 have hm':=hm.out
 obtain⟨⟨ia',ic',rfl⟩,sa',sc',rfl⟩:=trV_slices hT'
 have hzu:u.heap[w.heap.size+1]?=_:=(hK.block _ (block_lt hAg') (fun e=>by have e':w.heap.size+1=wb.heap.size+1:=e;omega)).trans hAg'
 have s0:=cell_block (i:=0) hzu rfl
 have s1:=cell_block (i:=1) hzu rfl
 have s2:=cell_block (i:=2) hzu rfl
 have s3:=cell_block (i:=3) hzu rfl
 have y0:=frozen_block (i:=0) hzu
 have y1:=frozen_block (i:=1) hzu
 have y2:=frozen_block (i:=2) hzu
 have y3:=frozen_block (i:=3) hzu
 have hfin:=be_end (w:=w) (B:=w.heap.size+1) (by omega) (block_lt hAg') hAb' hT' (keeps_below hAb' hK (fun k h=>by have e':k=wb.heap.size+1:=h;have:=hAb.size;omega))
 have gY:=set4_block (a:=.int .i64 t.fn) (b:=.int .i64 t.hd) (c:=.slice ia' t.ins.length ic') (d:=.slice sa' t.sns.length sc') hzu
 replace hfin:Hid (∀_:Unit,_):=fun _=>hfin
 replace gY:Hid _:=gY
 replace hn':Hid _:=hn'
 replace hm':Hid _:=hm'
 clear hzu hK hT' b0 b1 b2 b3
 go_wp2
 exact bodyPost_ret (res85 (C:=w.heap.size+1) rfl gY.out) rfl (hfin.out ())
theorem idD_trH:IdD trH:=by
 refine⟨fun o ho=>?_,fun i o ho h1=>?_⟩
 ·simp[trH]at ho
  rcases ho with rfl|rfl|rfl|rfl|rfl|rfl
  ·exact .inl rfl
  ·exact .inl rfl
  ·exact .inr ⟨0,rfl,by simp[trH]⟩
  ·exact .inr ⟨1,rfl,by simp[trH]⟩
  ·exact .inl rfl
  ·exact .inr ⟨2,rfl,by simp[trH]⟩
 ·have hi:=(List.getElem?_eq_some_iff.1 ho).1
  have h6:i=0\/i=1\/i=2\/i=3\/i=4\/i=5:=by simp[trH]at hi;omega
  rcases h6 with rfl|rfl|rfl|rfl|rfl|rfl
  ·exact⟨2,_,by omega,rfl,.inl ⟨by simp[askN],rfl⟩⟩
  ·exact⟨2,_,by omega,rfl,.inr ⟨by simp[askN],rfl⟩⟩
  ·cases ho;simp at h1
  ·cases ho;simp at h1
  ·exact⟨5,_,by omega,rfl,.inr ⟨by simp[askN],rfl⟩⟩
  ·cases ho;simp at h1
theorem res57{tm:Array Value}{W:World}{C:Nat}{a b c d:Value}(h:tm[2]?.getD undef=.pointer (some ⟨C,0,none⟩))(hy:W.heap[C]?=some (.cells #[a,b,c,d] 102)):(results Tryz.f57 tm).run Tryz.prog W=.ok (.agg #[a,b,c,d]) W:=by
 have d0:W.cell? ⟨C,0,none⟩=some a:=cell_block hy rfl
 have d1:W.cell? ⟨C,1,none⟩=some b:=cell_block hy rfl
 have d2:W.cell? ⟨C,2,none⟩=some c:=cell_block hy rfl
 have d3:W.cell? ⟨C,3,none⟩=some d:=cell_block hy rfl
 simp[results,Tryz.results57,go_sem,h,d0,d1,d2,d3]
theorem better_any{lo:Nat}{t:Tr}{iv sv:Value}{vs:List Value}{w:World}(hT:TrV lo t iv sv vs w)(hI:IdT t)(hS:IdS t)(hD:IdD t):Calls Tryz.prog 57 #[trv t iv sv] w (BeQ w t):=by
 obtain⟨⟨ia,ic,rfl⟩,sa,sc,rfl⟩:=trV_slices hT
 have hA:=btA (w:=w) (t:=t) (iv:=.slice ia t.ins.length ic) (sv:=.slice sa t.sns.length sc) (vs:=vs)
 obtain⟨wa,hwa⟩:∃wa,(w.alloc (trb t (.slice ia t.ins.length ic) (.slice sa t.sns.length sc))).alloc (.cells #[.int .i64 0,.int .i64 0,.slice none 0 0,.slice none 0 0] 102)=wa:=⟨_,rfl⟩
 rw[hwa]at hA
 have h88:∀_:Unit,Calls Tryz.prog 88 #[trv t (.slice ia t.ins.length ic) (.slice sa t.sns.length sc)] wa _:=fun _=>fold_any (hT.below hA.b) hI
 have hSl:∀{u:World} {iv sv:Value} {vs:List Value} {l:Nat},TrV l t iv sv vs u->∃ia ic sa sc,iv=.slice ia t.ins.length ic/\sv=.slice sa t.sns.length sc:=fun h=>by
  obtain⟨⟨a,b,e1⟩,c,d,e2⟩:=trV_slices h
  exact⟨a,b,c,d,e1,e2⟩
 have h87:∀{u:World} {iv sv:Value} {vs:List Value} {l:Nat},TrV l t iv sv vs u->Calls Tryz.prog 87 #[trv t iv sv] u (BeQ u t):=fun h=>same_any h hI hS
 have h86:∀{u:World} {iv sv:Value} {vs:List Value} {l:Nat},TrV l t iv sv vs u->Calls Tryz.prog 86 #[trv t iv sv] u (BeQ u t):=fun h=>forward_any h hI
 have h85:∀{u:World} {iv sv:Value} {vs:List Value} {l:Nat},TrV l t iv sv vs u->Calls Tryz.prog 85 #[trv t iv sv] u (BeQ u t):=fun h=>dead_any h hI hD
 have a0:=cell_block (i:=0) hA.g rfl
 have a1:=cell_block (i:=1) hA.g rfl
 have a2:=cell_block (i:=2) hA.g rfl
 have a3:=cell_block (i:=3) hA.g rfl
 have hAg:=hA.z
 have hAb:=hA.b
 obtain⟨n,hn⟩:∃n,t.ins.length=n:=⟨_,rfl⟩
 obtain⟨m,hm⟩:∃m,t.sns.length=m:=⟨_,rfl⟩
 rw[hn,hm]at h88 a2 a3 hwa
 rw[hn,hm] 
 replace h88:Hid _:=h88
 replace h87:Hid (∀{u:World} {iv sv:Value} {vs:List Value} {l:Nat},_):=@h87
 replace h86:Hid (∀{u:World} {iv sv:Value} {vs:List Value} {l:Nat},_):=@h86
 replace h85:Hid (∀{u:World} {iv sv:Value} {vs:List Value} {l:Nat},_):=@h85
 replace hSl:Hid (∀{u:World} {iv sv:Value} {vs:List Value} {l:Nat},_):=@hSl
 replace hn:Hid _:=hn
 replace hm:Hid _:=hm
 clear hA hT hI hS hD
 go_enter Tryz.func57,Tryz.ntmps57
 go_wp2_with (go_at_call 88;refine(h88.out ()).mono ?_;rintro e u1 ⟨iv1,sv1,vs1,rfl,hT1,hB1⟩;refine Hid.out ?_)
 refine Lib.hid ?_
 obtain⟨ia1,ic1,sa1,sc1,rfl,rfl⟩:=hSl.out hT1
 have hq1:=h87.out hT1
 replace hq1:Hid (∀_:Unit,_):=fun _=>hq1
 clear a0 a1 a2 a3 hT1
 go_wp2_with (go_at_call 87;refine(hq1.out ()).mono ?_;rintro e u2 ⟨iv2,sv2,vs2,rfl,hT2,hB2⟩;refine Hid.out ?_)
 refine Lib.hid ?_
 obtain⟨ia2,ic2,sa2,sc2,rfl,rfl⟩:=hSl.out hT2
 have hq2:=h86.out hT2
 replace hq2:Hid (∀_:Unit,_):=fun _=>hq2
 clear hT2 hq1
 go_wp2_with (go_at_call 86;refine(hq2.out ()).mono ?_;rintro e u3 ⟨iv3,sv3,vs3,rfl,hT3,hB3⟩;refine Hid.out ?_)
 refine Lib.hid ?_
 obtain⟨ia3,ic3,sa3,sc3,rfl,rfl⟩:=hSl.out hT3
 have hq3:=h85.out hT3
 replace hq3:Hid (∀_:Unit,_):=fun _=>hq3
 clear hT3 hq2
 go_wp2_with (go_at_call 85;refine(hq3.out ()).mono ?_;rintro e u4 ⟨iv4,sv4,vs4,rfl,hT4,hB4⟩;refine Hid.out ?_)
 refine Lib.hid ?_
 obtain⟨ia4,ic4,sa4,sc4,rfl,rfl⟩:=hSl.out hT4
 have E4:Below wa.heap.size wa u4:=ext_trans (ext_trans (ext_trans hB1 hB2) hB3) hB4
 have hE3:Below w.heap.size w u3:=ext_trans (ext_trans (ext_trans hAb hB1) hB2) hB3
 have hsz:=E4.size
 have hz3:=(ext_trans (ext_trans hB1 hB2) hB3).size
 have hzu:u4.heap[w.heap.size+1]?=_:=block_below E4 hAg
 have s0:=cell_block (i:=0) hzu rfl
 have s1:=cell_block (i:=1) hzu rfl
 have s2:=cell_block (i:=2) hzu rfl
 have s3:=cell_block (i:=3) hzu rfl
 have y0:=frozen_block (i:=0) hzu
 have y1:=frozen_block (i:=1) hzu
 have y2:=frozen_block (i:=2) hzu
 have y3:=frozen_block (i:=3) hzu
 have hzl:=block_lt hAg
 have hfin:=be_end (w:=w) (wb:=u3) (B:=w.heap.size+1) (by omega) (by omega) hE3 hT4 (ext_trans hE3 hB4)
 have gY:=set4_block (a:=.int .i64 t.fn) (b:=.int .i64 t.hd) (c:=.slice ia4 t.ins.length ic4) (d:=.slice sa4 t.sns.length sc4) hzu
 replace hfin:Hid (∀_:Unit,_):=fun _=>hfin
 replace gY:Hid _:=gY
 clear hzu hT4 hq3 hsz hz3 hzl
 go_wp2
 exact bodyPost_ret (res57 (C:=w.heap.size+1) rfl gY.out) rfl (hfin.out ())
theorem better_trH{lo:Nat}{iv sv:Value}{vs:List Value}{w:World}(hT:TrV lo trH iv sv vs w):Calls Tryz.prog 57 #[trv trH iv sv] w (BeQ w trH):=better_any hT idT_trH idS_trH idD_trH
end
end Go.Proofs.YthljpnmhddfblaaGreatDoor
