/- same of the loop's trace: nothing is done twice. -/
import Derived.Test.YthljpnmhddfblaaGreatDoorS44
import Derived.Lib.SmallJoins
namespace Go.Proofs.YthljpnmhddfblaaGreatDoor
open Go.RowKit Go.Shelf Go
set_option maxRecDepth 100000
set_option maxHeartbeats 8000000
set_option linter.all false
section
variable [DecidableEq Vl]
theorem en109(u:World)(args:Array Value):(callFunc 109 args).run Tryz.prog u=.ok (.enter 109 args) u:=by kernel_rfl
theorem lasts_any(op:Int)(ho:opH op)(w:World):Calls Tryz.prog 110 #[.int .i64 op] w fun r w'=>r=.returned (.bool true)/\w'=w:=by
 rcases ho with rfl|rfl|rfl|rfl
 all_goals
  go_enter Tryz.func110,Tryz.ntmps110
  go_wp2
  go_ret
  exact⟨rfl,rfl⟩
abbrev mapD (W:World) (M nn:Nat) (D:DataW Unit):Prop:=W.ownsMap Tryz.prog 179 (plainElem Tryz.prog 3) M nn D
theorem map_same{W W':World}{M nn:Nat}{D:DataW Unit}{T:Nat}(h:W.ownsMap Tryz.prog T (plainElem Tryz.prog 3) M nn D)(e:W'.heap[M]?=W.heap[M]?):W'.ownsMap Tryz.prog T (plainElem Tryz.prog 3) M nn D:=by
 obtain⟨es,clock,hb,F,hr⟩:=h
 exact⟨es,clock,e.trans hb,F,hr⟩
theorem turned_keeps{w w':World}{b:Nat}(h:w.mapTurned w' b):Keeps (fun k=>k=b) w w':=by
 obtain⟨es,clock,es',clock',hb,rfl⟩:=h
 exact⟨rfl,rfl,rfl,by simp[ChangeMaps.setBlock],fun k _ hn=>ChangeMaps.heap_setBlock_other hb _ hn⟩
section
variable {w1:World} {B M c:Nat} {t:Tr} {now:List Int} {W:World}
theorem same1_any(h:Mk (fun k=>k=M) w1 B t now W)(o:Ti)(hop:opH o.op)(hs:o.v.s.size<=300)(hn:t.ins.length<=1000)(hM:M<w1.heap.size)(hcw:c<w1.heap.size)(hcM:c≠M)
  (hc:W.cell? ⟨c,0,none⟩=some (.map (some M))) {D:DataW Unit} {nn:Nat} (hD:mapD W M nn D) (hnn:nn<=1000) {l:Lit} (hl:keyOf Tryz.prog 179 (deed o)=some l) (hno:Maps.has D l=false) :
  Calls Tryz.prog 109 #[.pointer (some ⟨B,0,none⟩),o.val,.pointer (some ⟨c,0,none⟩)] W fun e W'=>e=.returned (.int .i64 (t.ins.length:Nat))/\Mk (fun k=>k=M) w1 B { t with ins:=t.ins++[o] } now W'/\W'.cell? ⟨B,4,none⟩=W.cell? ⟨B,4,none⟩/\W'.cell? ⟨c,0,none⟩=some (.map (some M))/\∃d,mapD W' M (nn+1) (D.put l d):=by
 have g0:(W.alloc o.box).heap[W.heap.size]?=some o.box:=heap_new _ _
 have E0:=ext_alloc (Below.refl W.heap.size W) o.box
 have hla:=fun u=>lasts_any o.op hop u
 obtain⟨w3,hw3⟩:∃w3,(W.alloc o.box).alloc (.cells #[.int .i64 o.op,.int .i64 o.x,.int .i64 o.y,.int .i64 o.v.k,.int .i64 o.v.n,.string o.v.s] 179)=w3:=⟨_,rfl⟩
 have E3:Below W.heap.size W w3:=by rw[<- hw3];exact ext_alloc E0 _
 have gd:w3.heap[W.heap.size+1]?=some (.cells #[.int .i64 o.op,.int .i64 o.x,.int .i64 o.y,.int .i64 o.v.k,.int .i64 o.v.n,.string o.v.s] 179):=by rw[<- hw3];exact new2' W _ _
 have gO:w3.heap[W.heap.size]?=some o.box:=by rw[<- hw3];exact block_alloc _ g0
 have hBW:B<W.heap.size:=by obtain⟨_,_,_,_,h1,_⟩:=h.ex;exact block_lt h1
 have hww:=h.kp.size
 have D3:=map_same hD (W':=w3) (E3.block M (by omega))
 obtain⟨v,ps,hlook,hv⟩:=D3.look_ok keyedD Tryz.underlying177 (Tryz.zeroValue3 _) (plainElem_int Tryz.underlying3 (by decide)) hl
 rw[hno]at hlook
 obtain⟨vc,rfl,_,_⟩:=plainElem_int_inv Tryz.underlying3 hv
 have c3:=cellB E3 hc
 obtain⟨n,hn'⟩:∃n,t.ins.length=n:=⟨_,rfl⟩
 have hadd:∀_:Unit,Calls Tryz.prog 107 #[.pointer (some ⟨B,0,none⟩),o.val] w3 _:=fun _=>add_q h o hs hn E3
 have hend:∀w6,AdQ (fun k=>k=M) w1 B t now o W (.returned (.int .i64 (t.ins.length:Nat))) w6->w6.cell? ⟨c,0,none⟩=some (.map (some M))/\∃w7,(Instr.mapUpdate 177 (.map (some M)) (deed o) (.int .i64 (n:Nat))).run Tryz.prog w6=.ok () w7/\Hid (Mk (fun k=>k=M) w1 B { t with ins:=t.ins++[o] } now w7/\w7.cell? ⟨B,4,none⟩=W.cell? ⟨B,4,none⟩/\w7.cell? ⟨c,0,none⟩=some (.map (some M))/\∃d,mapD w7 M (nn+1) (D.put l d)):=fun w6 k=>by
  have D6:=map_same hD (W':=w6) (k.l M hM)
  have hwfn:(Lit.int .i64 (n:Nat)).wf=true:=WalkArith.wf_i64 (by omega)
  obtain⟨w7,h1,h2,h3⟩:=D6.store keyedD Tryz.underlying177 (by unfold maxLen;omega) hl (plainElem_int Tryz.underlying3 hwfn)
  have hk:=turned_keeps h3
  have c6:w6.cell? ⟨c,0,none⟩=some (.map (some M)):=(World.cell?_of_block (a:=⟨c,0,none⟩) (k.l c hcw)).trans hc
  have hB6:w1.heap.size<=B/\B<w6.heap.size:=by obtain⟨_,_,_,_,h1,_,h2⟩:=k.m.ex;exact⟨(h2.lt B (by simp)).1,block_lt h1⟩
  refine⟨c6,w7,h1,k.m.wrote hk (fun q e=>by have e':q=M:=e;omega),?_,hk.cell c6 hcM,_,h2⟩
  rw[<- k.c]
  exact World.cell?_of_block (a:=⟨B,4,none⟩) (hk.block B hB6.2 (fun e=>by have e':B=M:=e;omega))
 have o0:=cell_block (i:=0) g0 rfl
 have o1:=cell_block (i:=1) g0 rfl
 have o2:=cell_block (i:=2) g0 rfl
 have o4:=cell_block (i:=4) g0 rfl
 have o5:=cell_block (i:=5) g0 rfl
 have o6:=cell_block (i:=6) g0 rfl
 have e0:=cell_block (i:=0) gO rfl
 have e1:=cell_block (i:=1) gO rfl
 have e2:=cell_block (i:=2) gO rfl
 have e3:=cell_block (i:=3) gO rfl
 have e4:=cell_block (i:=4) gO rfl
 have e5:=cell_block (i:=5) gO rfl
 have e6:=cell_block (i:=6) gO rfl
 have e7:=cell_block (i:=7) gO rfl
 have d0:=cell_block (i:=0) gd rfl
 have d1:=cell_block (i:=1) gd rfl
 have d2:=cell_block (i:=2) gd rfl
 have d3:=cell_block (i:=3) gd rfl
 have d4:=cell_block (i:=4) gd rfl
 have d5:=cell_block (i:=5) gd rfl
 have hw3s:w3.heap.size=W.heap.size+1+1:=by rw[<- hw3];simp
 have hd6:∀w6:World,(∀k,W.heap.size<=k->k<w3.heap.size->w6.heap[k]?=w3.heap[k]?)->w6.heap[W.heap.size+1]?=some (.cells #[.int .i64 o.op,.int .i64 o.x,.int .i64 o.y,.int .i64 o.v.k,.int .i64 o.v.n,.string o.v.s] 179):=fun w6 hk=>(hk _ (by omega) (by omega)).trans gd
 rw[hn']at hadd hend⊢
 replace hadd:Hid _:=hadd
 replace hend:Hid _:=hend
 replace hd6:Hid _:=hd6
 replace hla:Hid _:=hla
 clear h hop hD D3 hv hc hn' hnn gO gd hl hno hw3s
 go_enter Tryz.func109,Tryz.ntmps109
 go_wp2_with (first|(go_at_call 110;refine(hla.out _).mono ?_;rintro e w' ⟨rfl,rfl⟩)|(go_at_call 107;refine(hadd.out ()).mono ?_;rintro e w6 ⟨rfl,hQ,hkp⟩;obtain⟨c6,w7,hst,hfin⟩:=hend.out w6 hQ.out;have g6:=hd6.out w6 hkp.out;have p0:=cell_block (i:=0) g6 rfl;have p1:=cell_block (i:=1) g6 rfl;have p2:=cell_block (i:=2) g6 rfl;have p3:=cell_block (i:=3) g6 rfl;have p4:=cell_block (i:=4) g6 rfl;have p5:=cell_block (i:=5) g6 rfl))
 go_ret
 exact⟨rfl,hfin.out⟩
end
structure IdS (t:Tr):Prop where
 wf:∀o∈t.ins,DWf o
 ds:∀(i j:Nat) p q,i<j->t.ins[i]?=some p->t.ins[j]?=some q->deed p≠deed q
def KS (t:Tr) (c M:Nat) (i:Nat) (W:World):Prop:=W.cell? ⟨c,0,none⟩=some (.map (some M))/\∃(D:DataW Unit) (nn:Nat),mapD W M nn D/\nn<=i/\∀(j:Nat) q l,i<=j->t.ins[j]?=some q->keyOf Tryz.prog 179 (deed q)=some l->Maps.has D l=false
theorem cl_same{t:Tr}(hI:IdT t)(hS:IdS t)(w:World){c M:Nat}(hM:M<w.heap.size)(hc:c<w.heap.size)(hne:c≠M):Cl (fun k=>k=M) (KS t c M) w t 109 #[.pointer (some ⟨c,0,none⟩)]:=by
 refine⟨en109,fun i W W' hK hW=>?_,fun w1 B W i o hw ho hMk hK=>?_⟩
 ·obtain⟨h1,D,nn,h2,h3,h4⟩:=hK
  exact⟨(World.cell?_of_block (a:=⟨c,0,none⟩) (hW c hc)).trans h1,D,nn,map_same h2 (hW M hM),h3,h4⟩
 ·obtain⟨h1,D,nn,h2,h3,h4⟩:=hK
  have hom:=List.mem_of_getElem? ho
  have hl:=tk_len ho
  have hil:=(List.getElem?_eq_some_iff.1 ho).1
  have hn2:=hI.n1.2
  obtain⟨l,hkl⟩:=keyOf_d o (hS.wf o hom)
  have:=same1_any hMk o (hI.op o hom) (hI.vs o hom) (by rw[hl];omega) (by omega) (by omega) hne h1 h2 (by omega) hkl (h4 i o l (Nat.le_refl _) ho hkl)
  refine Calls.mono (show Calls Tryz.prog 109 #[.pointer (some ⟨B,0,none⟩),o.val,.pointer (some ⟨c,0,none⟩)] W _ from this) fun e W' k=>?_
  obtain⟨k1,k2,k3,k4,d,k5⟩:=k
  refine⟨by rw[k1,hl],by rw[<- tk_add ho];exact k2,⟨k4,_,_,k5,by omega,fun j q l' hj hq hl'=>?_⟩,k3⟩
  rw[Maps.has_put_other]
  ·exact h4 j q l' (by omega) hq hl'
  ·intro e
   subst e
   exact hS.ds i j o q (by omega) ho hq (lawD.inj hkl hl')
theorem makeMap177(w:World):(Instr.makeMap 177 none).run Tryz.prog w=.ok (.map (some w.heap.size)) (w.alloc (.map #[] 0)):=by
 have u:=Tryz.underlying177
 simp[Instr.makeMap,run_underlying u,Result.andThen]
theorem res87{tm:Array Value}{W:World}{C:Nat}{a b c d:Value}(h:tm[2]?.getD undef=.pointer (some ⟨C,0,none⟩))(hy:W.heap[C]?=some (.cells #[a,b,c,d] 102)):(results Tryz.f87 tm).run Tryz.prog W=.ok (.agg #[a,b,c,d]) W:=by
 have d0:W.cell? ⟨C,0,none⟩=some a:=cell_block hy rfl
 have d1:W.cell? ⟨C,1,none⟩=some b:=cell_block hy rfl
 have d2:W.cell? ⟨C,2,none⟩=some c:=cell_block hy rfl
 have d3:W.cell? ⟨C,3,none⟩=some d:=cell_block hy rfl
 simp[results,Tryz.results87,go_sem,h,d0,d1,d2,d3]
theorem same_any{lo:Nat}{t:Tr}{iv sv:Value}{vs:List Value}{w:World}(hT:TrV lo t iv sv vs w)(hI:IdT t)(hS:IdS t):Calls Tryz.prog 87 #[trv t iv sv] w (BeQ w t):=by
 obtain⟨⟨ia,ic,rfl⟩,sa,sc,rfl⟩:=trV_slices hT
 have hA:=btA (w:=w) (t:=t) (iv:=.slice ia t.ins.length ic) (sv:=.slice sa t.sns.length sc) (vs:=vs)
 obtain⟨wa,hwa⟩:∃wa,(w.alloc (trb t (.slice ia t.ins.length ic) (.slice sa t.sns.length sc))).alloc (.cells #[.int .i64 0,.int .i64 0,.slice none 0 0,.slice none 0 0] 102)=wa:=⟨_,rfl⟩
 rw[hwa]at hA
 obtain⟨wb,hwb⟩:∃wb,(wa.alloc (.map #[] 0)).alloc (.cells #[.map (some (w.heap.size+1+1))] 177)=wb:=⟨_,rfl⟩
 have Eb:Below wa.heap.size wa wb:=by rw[<- hwb];exact ext_alloc (ext_alloc (Below.refl _ _) _) _
 have hmm:=makeMap177
 have hsa:wa.heap.size=w.heap.size+1+1:=by rw[<- hwa];simp
 have gM:wb.heap[w.heap.size+1+1]?=some (.map #[] 0):=by rw[<- hwb,<- hsa];exact block_alloc _ (heap_new _ _)
 have gC:wb.heap[w.heap.size+1+1+1]?=some (.cells #[.map (some (w.heap.size+1+1))] 177):=by rw[<- hwb,<- hsa];exact new2' wa _ _
 have hq:∀_:Unit,Calls Tryz.prog 105 #[trv t (.slice ia t.ins.length ic) (.slice sa t.sns.length sc),.func (.func 109) #[] #[.pointer (some ⟨w.heap.size+1+1+1,0,none⟩)]] wb _:=fun _=>each_id (C:=fun k=>k=w.heap.size+1+1) (K:=KS t (w.heap.size+1+1+1) (w.heap.size+1+1)) ((hT.below hA.b).below Eb) hI (fun k hk=>by
  have e':k=w.heap.size+1+1:=hk
  exact⟨by rw[e'];exact block_lt gM,fun hb=>by have:=(hT.lt k hb).2;omega⟩) (cl_same hI hS wb (block_lt gM) (block_lt gC) (by omega)) ⟨cell_block gC rfl,.map [],0,Joins.ownsMap_empty gM,Nat.le_refl _,fun _ _ _ _ _ _=>rfl⟩
 have a0:=cell_block (i:=0) hA.g rfl
 have a1:=cell_block (i:=1) hA.g rfl
 have a2:=cell_block (i:=2) hA.g rfl
 have a3:=cell_block (i:=3) hA.g rfl
 have hAg:=(Eb.block _ (block_lt hA.z)).trans hA.z
 have hAb:=ext_trans hA.b Eb
 replace a0:=cellB Eb a0
 replace a1:=cellB Eb a1
 replace a2:=cellB Eb a2
 replace a3:=cellB Eb a3
 obtain⟨n,hn⟩:∃n,t.ins.length=n:=⟨_,rfl⟩
 obtain⟨m,hm⟩:∃m,t.sns.length=m:=⟨_,rfl⟩
 rw[hn,hm]at hq a2 a3 hwa
 rw[hn,hm]
 replace hq:Hid _:=hq
 replace hn:Hid _:=hn
 replace hm:Hid _:=hm
 clear hA hT hI hS gM gC
 go_enter Tryz.func87,Tryz.ntmps87
 go_wp2_with (go_at_call 105;refine(hq.out ()).mono ?_;rintro e u ⟨iv',sv',vs',rfl,hT',_,hK⟩;refine Hid.out ?_)
 refine Lib.hid ?_
 obtain⟨⟨ia',ic',rfl⟩,sa',sc',rfl⟩:=trV_slices hT'
 have hzu:u.heap[w.heap.size+1]?=_:=(hK.block _ (block_lt hAg) (fun e=>by have e':w.heap.size+1=w.heap.size+1+1:=e;omega)).trans hAg
 have s0:=cell_block (i:=0) hzu rfl
 have s1:=cell_block (i:=1) hzu rfl
 have s2:=cell_block (i:=2) hzu rfl
 have s3:=cell_block (i:=3) hzu rfl
 have y0:=frozen_block (i:=0) hzu
 have y1:=frozen_block (i:=1) hzu
 have y2:=frozen_block (i:=2) hzu
 have y3:=frozen_block (i:=3) hzu
 have hfin:=be_end (w:=w) (B:=w.heap.size+1) (by omega) (block_lt hAg) hAb hT' (keeps_below hAb hK (fun k h=>by have e':k=w.heap.size+1+1:=h;omega))
 have gY:=set4_block (a:=.int .i64 t.fn) (b:=.int .i64 t.hd) (c:=.slice ia' t.ins.length ic') (d:=.slice sa' t.sns.length sc') hzu
 replace hfin:Hid (∀_:Unit,_):=fun _=>hfin
 replace gY:Hid _:=gY
 clear hzu hK hT' a0 a1 a2 a3
 go_wp2
 exact bodyPost_ret (res87 (C:=w.heap.size+1) rfl gY.out) rfl (hfin.out ())
end
end Go.Proofs.YthljpnmhddfblaaGreatDoor
