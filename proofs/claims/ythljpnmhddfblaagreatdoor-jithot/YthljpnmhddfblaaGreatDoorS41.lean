/- dead: which orders are needed: the walk. -/
import Derived.Test.YthljpnmhddfblaaGreatDoorS40
import Derived.StillTailTactics
import Derived.Sort.CutIn
namespace Go.Proofs.YthljpnmhddfblaaGreatDoor
open Go.RowKit Go.Shelf Go
set_option maxRecDepth 100000
set_option maxHeartbeats 8000000
set_option linter.all false
section
attribute [local go_sem] Oper.semAt_some
variable [DecidableEq Vl]
structure SnR (w:World) (sb:Nat) (i:Nat) (s:Sn) (rb rc:Nat):Prop where
 c:w.cell? ⟨sb,i*3+2,none⟩=some (.slice (some ⟨rb,0,none⟩) s.rg.length rc)
 r:∀(j:Nat) x,s.rg[j]?=some x->w.cell? ⟨rb,j,none⟩=some (.int .i64 x)
 l:sb<w.heap.size/\rb<w.heap.size
theorem snR_of{lo:Nat}{t:Tr}{iv sv:Value}{vs:List Value}{w:World}(hT:TrV lo t iv sv vs w)(hI:IdT t){sb sc:Nat}(hrs:Rd (snsR t.sns sv vs) w sb sc){i:Nat}{s:Sn}(hs:t.sns[i]?=some s):∃rb rc,SnR w sb i s rb rc:=by
 have hg:=hI.rg s (List.mem_of_getElem? hs)
 obtain⟨v,g,cap,hv,hr⟩:=hT.reg hs (fun e=>by rw[e]at hg;simp at hg)
 have ev:v=.slice (some ⟨g,0,none⟩) s.rg.length cap:=hr.v
 have h2:=(snAt_of hrs hs hv).c2
 rw[ev]at h2
 exact⟨g,cap,h2,fun j x hj=>hr.c j (.int .i64 x) (by simp[ints,hj]),hrs.lt,hr.lt⟩
theorem needed_in(n:Nat)(h3:3<=n){lo:Nat}{t:Tr}{iv sv:Value}{vs:List Value}{w:World}(hT:TrV lo t iv sv vs w)(hI:IdT t)(hD:IdD t) :
  CallsIn Fence.wide n Tryz.prog 104 #[trv t iv sv] w fun e w'=>e=.returned (.slice (some ⟨w.heap.size+1,0,none⟩) t.ins.length t.ins.length)/\w'.heap[w.heap.size+1]?=some (nbo (List.replicate t.ins.length true))/\Below w.heap.size w w':=by
 have h1:1<=n:=by omega
 have hn1:1<=n-1:=by omega
 obtain⟨ib,icap,hri⟩:=hT.ins (fun e=>by have:=hI.n1.1;rw[e]at this;simp at this)
 obtain⟨sb,scap,hrs⟩:=hT.sns (fun e=>by have:=hI.m1.1;rw[e]at this;simp at this)
 have ei:iv=.slice (some ⟨ib,0,none⟩) t.ins.length icap:=hri.v
 have es:sv=.slice (some ⟨sb,0,none⟩) t.sns.length scap:=hrs.v
 subst ei es
 have hsn:∀(i:Nat) s,t.sns[i]?=some s->∃rb rc,SnR w sb i s rb rc:=fun i s hs=>snR_of hT hI hrs hs
 have hta:∀(i:Nat) o,t.ins[i]?=some o->TiAt w ib (i*8) o:=fun i o ho=>tiAt_of hri ho
 have hibl:ib<w.heap.size:=hri.lt
 obtain⟨N,hN⟩:∃N,t.ins.length=N:=⟨_,rfl⟩
 obtain⟨M,hM⟩:∃M,t.sns.length=M:=⟨_,rfl⟩
 have hN1:=hI.n1
 have hM1:=hI.m1
 rw[hN]at hN1
 rw[hM]at hM1
 obtain⟨mc,hmk,hmc⟩:=made_bools N (by omega)
 obtain⟨s1,hs1⟩:∃s,t.sns[M-1]?=some s:=⟨t.sns[M-1]'(by omega),List.getElem?_eq_getElem _⟩
 obtain⟨rb,rc,hsr⟩:=hsn _ _ hs1
 have hsg:=hI.rg s1 (List.mem_of_getElem? hs1)
 rw[hN,hM]
 have hk1:(1:Int)<=(M:Int):=by omega
 obtain⟨K,hK⟩:∃K,M-1=K:=⟨_,rfl⟩
 have hw1:IntKind.i64.wrap ((M:Int)-1)=(K:Int):=(IntWalk.i64_in _ ⟨by omega,by omega⟩).trans (by omega)
 have hKM:(K:Int)<(M:Int):=by omega
 rw[hK]at hsr
 have hsf:=hsf
 have h0:∃W4,(((w.alloc (trb t (.slice (some ⟨ib,0,none⟩) N icap) (.slice (some ⟨sb,0,none⟩) M scap))).alloc (.cells mc 4)).alloc (.cells #[.slice (some ⟨w.heap.size+1,0,none⟩) N N] 165)).alloc (.cells #[.func (.func 136) #[] #[.pointer (some ⟨w.heap.size+1+1,0,none⟩)]] 207)=W4/\NdI t w (.slice (some ⟨ib,0,none⟩) N icap) (.slice (some ⟨sb,0,none⟩) M scap) N (List.replicate N false) W4/\W4.heap.size=w.heap.size+4:=by
  subst hmc
  have e2:=new2' w (trb t (.slice (some ⟨ib,0,none⟩) N icap) (.slice (some ⟨sb,0,none⟩) M scap)) (nbo (List.replicate N false))
  have e3:=heap_new ((w.alloc (trb t (.slice (some ⟨ib,0,none⟩) N icap) (.slice (some ⟨sb,0,none⟩) M scap))).alloc (nbo (List.replicate N false))) (.cells #[.slice (some ⟨w.heap.size+1,0,none⟩) N N] 165)
  have e4:=heap_new (((w.alloc (trb t (.slice (some ⟨ib,0,none⟩) N icap) (.slice (some ⟨sb,0,none⟩) M scap))).alloc (nbo (List.replicate N false))).alloc (.cells #[.slice (some ⟨w.heap.size+1,0,none⟩) N N] 165)) (.cells #[.func (.func 136) #[] #[.pointer (some ⟨w.heap.size+1+1,0,none⟩)]] 207)
  simp only[World.size_alloc]at e3 e4
  exact⟨_,rfl,⟨by simp,block_alloc _ (block_alloc _ e2),block_alloc _ (block_alloc _ (block_alloc _ (heap_new _ _))),block_alloc _ e3,e4,ext_alloc (ext_alloc (ext_alloc (ext_alloc (Below.refl _ _) _) _) _) _⟩,by simp⟩
 obtain⟨W4,hW4,hI4,hs4⟩:=h0
 have a0:=cell_block (i:=0) hI4.ac rfl
 have a3:=cell_block (i:=3) hI4.tb rfl
 have b2:=(hI4.bl.cell (p:=⟨sb,K*3+2,none⟩) hsr.l.1).trans hsr.c
 have hmk4:∀u,Below W4.heap.size W4 u->Calls Tryz.prog 136 #[.slice (some ⟨rb,0,none⟩) s1.rg.length rc,.pointer (some ⟨w.heap.size+1+1,0,none⟩)] u fun e W'=>e=.returned (.tuple #[])/\∃L,MkD t [] L/\NdI t w (.slice (some ⟨ib,0,none⟩) N icap) (.slice (some ⟨sb,0,none⟩) M scap) N L W'/\w.heap.size+4<=W'.heap.size:=fun u hu=>by
  have hIu:=hI4.on hu
  refine(mark_any (w.heap.size+1+1) (w.heap.size+1) rb s1.rg.length rc N s1.rg (List.replicate N false) u rfl (by omega) (cell_block hIu.nc rfl) hIu.ln hIu.nb (fun j x hj=>(hIu.bl.cell (p:=⟨rb,j,none⟩) hsr.l.2).trans (hsr.r j x hj)) (fun x hx=>by rw[<- hN];exact hsg.2.2 x hx) hN1.2 (by have:=hsr.l.2;omega) (by omega)).mono fun e W' k=>?_
  obtain⟨L',k1,k2,_,_⟩:=k.ex
  exact⟨k.e,L',fun _ x hx=>by simp at hx,hIu.kept k.k k1 k2,by have:=hu.size;have:=k.k.size;omega⟩
 replace hmc:Hid _:=hmc
 have hI':Hid (IdT t):=hI
 replace hD:Hid _:=hD
 replace hK:Hid _:=hK
 replace hI4:Hid _:=hI4
 replace hmk4:Hid _:=hmk4
 have hsn':Hid (∀(i:Nat) s,t.sns[i]?=some s->∃rb rc,SnR w sb i s rb rc):=hsn
 replace hsn:Hid _:=hsn
 replace hta:Hid _:=hta
 replace hs4:Hid _:=hs4
 replace hsr:Hid _:=hsr
 refine callsIn_of_wp_marks Tryz.func104 rfl trivial ?_ rfl
 simp only[Tryz.ntmps104,List.size_toArray,List.length_cons,List.length_nil,Nat.reduceAdd,Nat.reduceSub,Array.replicate_succ,Array.replicate_zero,List.push_toArray,List.append_toArray,List.nil_append,List.cons_append]
 gi_wp2
 gi_cut [] from 8 (fun wr=>Hid (∃L,MkD t [] L/\NdI t w (.slice (some ⟨ib,0,none⟩) N icap) (.slice (some ⟨sb,0,none⟩) M scap) N L wr/\w.heap.size+4<=wr.heap.size))
 case first =>
  refine wpIn_wide.2 ?_
  refine wp_region_still_tail 10 (by kernel_rfl) (by kernel_rfl) ?_
  change wpStill _ _ (World.drew _) _ _ _
  simp only[List.take_succ_cons,List.take_zero,List.drop_succ_cons,List.drop_zero]
  repeat still_step
  refine wpStill_nil ?_
  go_wp2_with (go_at_call 136;refine(hmk4.out _ (ext_drew (Below.refl _ _))).mono ?_;rintro e W5 ⟨rfl,hL⟩)
  gi_meet
  case rel=>exact hL
 case rest =>
  obtain⟨L0,hL0,hI0,hsz0⟩:=hcut.out
  have a2:=cell_block (i:=2) hI0.tb rfl
  replace hI0:Hid _:=hI0
  replace hL0:Hid _:=hL0
  clear hcut a0 a3 b2 hmk4 hI4 hs4 hW4 hw1 hKM hmc hmk
  gi_wp2_with (refine⟨trivial,?_⟩;gi_at_call 137;refine(backward_D _ _ _ _ _ rfl _).mono ?_;rintro e w' ⟨rfl,rfl⟩)
  obtain⟨W0,hW0⟩:∃W0,wc.alloc (.cells #[(.slice (some ⟨ib,0,none⟩) N icap)] 99)=W0:=⟨_,rfl⟩
  obtain⟨Bt,hBt⟩:∃Bt,wc.heap.size=Bt:=⟨_,rfl⟩
  have hB0:Below wc.heap.size wc W0:=by rw[<- hW0];exact ext_alloc (Below.refl _ _) _
  have hbt:W0.heap[Bt]?=some (.cells #[(.slice (some ⟨ib,0,none⟩) N icap)] 99):=by rw[<- hW0,<- hBt];exact heap_new _ _
  have hs0:W0.heap.size=Bt+1:=by rw[<- hW0,<- hBt];simp
  have hI0':=hI0.out.on hB0
  rw[hW0,hBt]
  have hBt4:w.heap.size+4<=Bt:=by omega
  clear hW0 hB0 hI0 a2 hBt hsz0
  have hTi:∀(i:Nat) o,t.ins[i]?=some o->TiAt W0 ib (i*8) o:=fun i o ho=>by
   have h:=hta.out i o ho
   have hc:=fun q=>hI0'.bl.cell (p:=⟨ib,q,none⟩) hibl
   exact⟨(hc _).trans h.c0,(hc _).trans h.c1,(hc _).trans h.c2,(hc _).trans h.c3,(hc _).trans h.c4,(hc _).trans h.c5,(hc _).trans h.c6,(hc _).trans h.c7⟩
  refine wpIn_rangeFunc_ownH rfl h1 (gf:=152) (lb:=#[.pointer (some ⟨Bt,0,none⟩)]) rfl trivial (enters_of Tryz.func152 (by kernel_rfl) rfl)
   (backD_stops (t:=t) (n-1) Bt w.heap.size ib icap (by omega) (by omega) hibl W0 (by omega) (by omega) (by rw[hN];exact hbt) hTi) (fun h k=>h.trans k) (Kept.putObj (by omega) (by omega)) (Below.refl _ _) (fun _=>rfl)
   (fun(pre:List (ItD t)) W=>(∃L,MkD t pre L/\NdI t w (.slice (some ⟨ib,0,none⟩) N icap) (.slice (some ⟨sb,0,none⟩) M scap) N L W)/\W0.heap.size<=W.heap.size) (fun _ _ _=>False) (OwnFrom.and (ndI_own (by omega)) size_ownFrom) (fun _=>fun _ _ _ _ h _ _=>h)
   ⟨⟨L0,hL0.out,hI0'⟩,Nat.le_refl _⟩
   (fun x q W=>∃G,W0.heap.size<=G/\W.heap[G]?=some x.o.box/\q={ tmps:=#[trv t (.slice (some ⟨ib,0,none⟩) N icap) (.slice (some ⟨sb,0,none⟩) M scap),.pointer (some ⟨w.heap.size,0,none⟩),.slice none 0 0,.pointer (some ⟨w.heap.size+1+1,0,none⟩),.pointer (some ⟨w.heap.size+1+1+1,0,none⟩),.int .i64 (x.i:Nat),.pointer (some ⟨G,0,none⟩),undef,u8,u9,u10,u11,u12,u13,u14,u15,u16,u17,u18,u19,u20,u21,u22,u23,.pointer (some ⟨w.heap.size,2,none⟩),(.slice (some ⟨ib,0,none⟩) N icap),.func (.func 152) #[] #[.pointer (some ⟨Bt,0,none⟩)],.int .i64 (x.i:Nat),x.o.val,u29,u30,u31,u32,u33,u34,u35,u36,u37,u38,u39,u40,u41,u42,u43,u44,u45,u46,u47,u48,u49,u50,u51,u52,u53,u54,u55,u56,u57,u58,u59,u60,u61,u62,u63,u64,u65,u66,u67,u68,u69,u70],defers:=[] })
   (fun x q=>fun _ A B row hs hg hr=>by obtain⟨G,h1,h2,h3⟩:=hs;exact⟨G,h1,cells_own' h2 hg hr,h3⟩)
   ?assign ?body ?done ?stop
  case assign =>
   rintro l pre x W K ⟨⟨L,hML,hI⟩,hz⟩ hK
   gi_wp2
   have hb':Below W.heap.size W (W.alloc x.o.box):=ext_alloc (Below.refl _ _) _
   exact hK _ _ (keepsFrom_of_below hb') (kept_of_below hb' (by omega) (by omega)) ⟨⟨L,hML,hI.on hb'⟩,Nat.le_trans hz hb'.size⟩ ⟨W.heap.size,hz,heap_new _ _,rfl⟩
  case body =>
   rintro l pre x q W hl ⟨r,hr⟩ ⟨⟨L,hML,hI⟩,hz⟩ ⟨G,hG,hGb,rfl⟩ hlt
   clear hr hlt hTi hbt hI0' hL0
   rename_i Kd ad
   clear ad Kd
   have hop:opH x.o.op:=hI'.out.op x.o (List.mem_of_getElem? x.h)
   have hxi:x.i<N:=by rw[<- hN];exact(List.getElem?_eq_some_iff.1 x.h).1
   obtain⟨b,hbc,hbl,hbf⟩:=nb_cell hI.nb hI.ln hxi
   obtain⟨v,hv⟩:∃v,(b||actB x.o.op)=v:=⟨_,rfl⟩
   have hGn:G≠w.heap.size+1:=by omega
   have hset:∀u,Below W.heap.size W u->NdI t w (.slice (some ⟨ib,0,none⟩) N icap) (.slice (some ⟨sb,0,none⟩) M scap) N (L.set x.i v) (u.setCell ⟨w.heap.size+1,x.i,none⟩ (.bool v))/\(u.setCell ⟨w.heap.size+1,x.i,none⟩ (.bool v)).heap[G]?=some x.o.box/\W.heap.size<=(u.setCell ⟨w.heap.size+1,x.i,none⟩ (.bool v)).heap.size/\Rk w Bt W0 W (u.setCell ⟨w.heap.size+1,x.i,none⟩ (.bool v)):=fun u hu=>by
    have h1:=hI.on hu
    have hk:=keeps_one u (w.heap.size+1) x.i (.bool v)
    refine⟨h1.kept hk (by simpa using hI.ln) ?_,(set1_other _ _ hGn).trans (block_below hu hGb),by rw[World.size_setCell];exact hu.size,(Rk.below hu (by omega) (by omega)).trans (Rk.kept hk (by have:=hu.size;omega) (by have:=hu.size;omega) (by omega) (by omega))⟩
    have:=set_block (i:=x.i) (.bool v) h1.nb
    rw[this];simp[nbo,List.map_set]
   have n0:=cell_block (i:=0) hI.nc rfl
   have g0:=cell_block (i:=0) hGb rfl
   have hac:∀u,Calls Tryz.prog 138 #[.int .i64 x.o.op] u _:=fun u=>acts_any x.o.op hop u
   have hGl:G<W.heap.size:=block_lt hGb
   have n1:1<=n-1-1:=by omega
   have hS7:(W.drew.setCell ⟨w.heap.size+1,x.i,none⟩ (.bool v)).cell? ⟨w.heap.size+1+1,0,none⟩=some (.slice (some ⟨w.heap.size+1,0,none⟩) N N)/\(W.drew.setCell ⟨w.heap.size+1,x.i,none⟩ (.bool v)).cell? ⟨G,0,none⟩=some (.int .i64 x.o.op):=⟨cell_block (hset _ (ext_drew (Below.refl _ _))).1.nc rfl,cell_block (hset _ (ext_drew (Below.refl _ _))).2.1 rfl⟩
   replace hS7:Hid _:=hS7
   replace hset:Hid _:=hset
   replace hac:Hid _:=hac
   replace hI:Hid _:=hI
   replace hML:Hid _:=hML
   replace hbl:Hid _:=hbl
   replace hop:Hid _:=hop
   replace hv:Hid _:=hv
   have hs1:Bt<W0.heap.size:=by omega
   replace hN:Hid _:=hN
   replace hM:Hid _:=hM
   have hNb:Hid (N<=1000):=hN1.2
   clear hN1 hM1 hsg hGn hs0
   gi_wp2
   gi_cut [] from 29 (fun wr=>Hid (NdI t w (.slice (some ⟨ib,0,none⟩) N icap) (.slice (some ⟨sb,0,none⟩) M scap) N (L.set x.i v) wr/\wr.heap[G]?=some x.o.box/\W.heap.size<=wr.heap.size/\Rk w Bt W0 W wr))
   case first =>
    cases b with
    | true =>
     have hv':v=true:=by rw[<- hv.out];rfl
     subst hv'
     clear hv
     refine region_round_held (S:=fun V=>V.cell? ⟨w.heap.size+1+1,0,none⟩=some (.slice (some ⟨w.heap.size+1,0,none⟩) N N)/\V.cell? ⟨G,0,none⟩=some (.int .i64 x.o.op)) (by kernel_rfl) (by kernel_rfl) ⟨n0,g0⟩ (fun hHeld=>?_)
     change wpAnyH _ _ _ _ _ 13 _ _ _
     have hS7:=hS7.out
     refine' wpAnyH_take (i := 0) (oi := { dst := some 29, op := Op.load 165 (Operand.tmp 3), type := 165, pos := "dead.go:51", after := #[], guard := none }) (v := _) (fuel := 12) rfl (by kernel_rfl) (by kernel_rfl) (by kernel_rfl) (fun _ _ _ h => h) (Or.inl ⟨by rfl, ?hy1⟩) hHeld ?rest1
     case hy1=>(intro w ⟨_,_⟩;go_simp;try with_reducible rfl)
     try simp only[Act.put,List.setIfInBounds_toArray,List.set_cons_zero,List.set_cons_succ]
     refine' wpAnyH_take (i := 1) (oi := { dst := some 30, op := Op.move (Operand.tmp 5), type := 3, pos := "dead.go:51", after := #[], guard := none }) (v := _) (fuel := 11) rfl (by kernel_rfl) (by kernel_rfl) (by kernel_rfl) (fun _ _ _ h => h) (Or.inl ⟨by rfl, ?hy2⟩) hHeld ?rest2
     case hy2=>(intro w ⟨_,_⟩;go_simp;try with_reducible rfl)
     try simp only[Act.put,List.setIfInBounds_toArray,List.set_cons_zero,List.set_cons_succ]
     refine' wpAnyH_take (i := 2) (oi := { dst := some 31, op := Op.load 165 (Operand.tmp 3), type := 165, pos := "dead.go:51", after := #[], guard := none }) (v := _) (fuel := 10) rfl (by kernel_rfl) (by kernel_rfl) (by kernel_rfl) (fun _ _ _ h => h) (Or.inl ⟨by rfl, ?hy3⟩) hHeld ?rest3
     case hy3=>(intro w ⟨_,_⟩;go_simp;try with_reducible rfl)
     try simp only[Act.put,List.setIfInBounds_toArray,List.set_cons_zero,List.set_cons_succ]
     refine' wpAnyH_take (i := 3) (oi := { dst := some 32, op := Op.move (Operand.tmp 5), type := 3, pos := "dead.go:51", after := #[], guard := none }) (v := _) (fuel := 9) rfl (by kernel_rfl) (by kernel_rfl) (by kernel_rfl) (fun _ _ _ h => h) (Or.inl ⟨by rfl, ?hy4⟩) hHeld ?rest4
     case hy4=>(intro w ⟨_,_⟩;go_simp;try with_reducible rfl)
     try simp only[Act.put,List.setIfInBounds_toArray,List.set_cons_zero,List.set_cons_succ]
     refine' wpAnyH_take (i := 4) (oi := { dst := some 33, op := Op.indexAddr 165 (Operand.tmp 31) (Operand.tmp 32), type := 0, pos := "dead.go:51", after := #[{ on := 2, ground := Ground.data }, { on := 3, ground := Ground.data }], guard := none }) (v := _) (fuel := 8) rfl (by kernel_rfl) (by kernel_rfl) (by kernel_rfl) (fun _ _ _ h => h) (Or.inl ⟨by rfl, ?hy5⟩) hHeld ?rest5
     case hy5=>(intro w ⟨_,_⟩;go_simp;try with_reducible rfl)
     try simp only[Act.put,List.setIfInBounds_toArray,List.set_cons_zero,List.set_cons_succ]
     refine wpAnyH_ready (rs:=[5]) (by kernel_rfl) (by simp) ?_
     refine AllReadyH.cons (o := { dst := some 34, op := Op.load 4 (Operand.tmp 33), type := 4, pos := "dead.go:51", after := #[{ on := 4, ground := Ground.data }], guard := none }) rfl (fun K hK => ?_) AllReadyH.nil
     go_simp
     refine hK.out _ _ hHeld (fun _=>?_)
     clear hK K
     try simp only[Act.put,List.setIfInBounds_toArray,List.set_cons_zero,List.set_cons_succ]
     refine' wpAnyH_take (i := 6) (oi := { dst := some 35, op := Op.move (Operand.tmp 34), type := 4, pos := "dead.go:51", after := #[{ on := 5, ground := Ground.data }], guard := none }) (v := _) (fuel := 6) rfl (by kernel_rfl) (by kernel_rfl) (by kernel_rfl) (fun _ _ _ h => h) (Or.inl ⟨by rfl, ?hy6⟩) hHeld ?rest6
     case hy6=>(intro w ⟨_,_⟩;go_simp;try with_reducible rfl)
     try simp only[Act.put,List.setIfInBounds_toArray,List.set_cons_zero,List.set_cons_succ]
     refine wpAnyH_take (i := 7) (oi := { dst := some 36, op := Op.fieldAddr 121 (Operand.tmp 6) 0, type := 0, pos := "dead.go:51", after := #[{ on := 6, ground := Ground.guard }], guard := some (6, false) }) (v := undef) (fuel := 5) rfl (by kernel_rfl) (by kernel_rfl) (by kernel_rfl) (fun _ _ _ h => h) (Or.inr ⟨by kernel_rfl, rfl⟩) hHeld ?_
     try simp only[Act.put,List.setIfInBounds_toArray,List.set_cons_zero,List.set_cons_succ]
     refine wpAnyH_take (i := 8) (oi := { dst := some 37, op := Op.load 3 (Operand.tmp 36), type := 3, pos := "dead.go:51", after := #[{ on := 7, ground := Ground.data }, { on := 6, ground := Ground.guard }], guard := some (6, false) }) (v := undef) (fuel := 4) rfl (by kernel_rfl) (by kernel_rfl) (by kernel_rfl) (fun _ _ _ h => h) (Or.inr ⟨by kernel_rfl, rfl⟩) hHeld ?_
     try simp only[Act.put,List.setIfInBounds_toArray,List.set_cons_zero,List.set_cons_succ]
     refine wpAnyH_take (i := 9) (oi := { dst := some 38, op := Op.call { callee := Callee.value (Operand.func 138), args := #[Operand.tmp 37], argTypes := #[3] }, type := 4, pos := "dead.go:51", after := #[{ on := 8, ground := Ground.data }, { on := 6, ground := Ground.chain }, { on := 6, ground := Ground.guard }], guard := some (6, false) }) (v := undef) (fuel := 3) rfl (by kernel_rfl) (by kernel_rfl) (by kernel_rfl) (fun _ _ _ h => h) (Or.inr ⟨by kernel_rfl, rfl⟩) hHeld ?_
     try simp only[Act.put,List.setIfInBounds_toArray,List.set_cons_zero,List.set_cons_succ]
     refine' wpAnyH_take (i := 10) (oi := { dst := some 39, op := Op.pick (Operand.tmp 35) (Operand.const (Value.bool true)) (Operand.tmp 38), type := 4, pos := "dead.go:51", after := #[{ on := 6, ground := Ground.data }, { on := 9, ground := Ground.data }], guard := none }) (v := _) (fuel := 2) rfl (by kernel_rfl) (by kernel_rfl) (by kernel_rfl) (fun _ _ _ h => h) (Or.inl ⟨by rfl, ?hy10⟩) hHeld ?rest10
     case hy10=>(intro w ⟨_,_⟩;go_simp;try with_reducible rfl)
     try simp only[Act.put,List.setIfInBounds_toArray,List.set_cons_zero,List.set_cons_succ]
     refine' wpAnyH_take (i := 11) (oi := { dst := some 40, op := Op.indexAddr 165 (Operand.tmp 29) (Operand.tmp 30), type := 0, pos := "dead.go:51", after := #[{ on := 0, ground := Ground.data }, { on := 1, ground := Ground.data }, { on := 0, ground := Ground.phase }, { on := 1, ground := Ground.phase }, { on := 2, ground := Ground.phase }, { on := 3, ground := Ground.phase }, { on := 4, ground := Ground.phase }, { on := 5, ground := Ground.phase }, { on := 6, ground := Ground.phase }, { on := 7, ground := Ground.phase }, { on := 8, ground := Ground.phase }, { on := 9, ground := Ground.phase }, { on := 10, ground := Ground.phase }], guard := none }) (v := _) (fuel := 1) rfl (by kernel_rfl) (by kernel_rfl) (by kernel_rfl) (fun _ _ _ h => h) (Or.inl ⟨by rfl, ?hy11⟩) hHeld ?rest11
     case hy11=>(intro w ⟨_,_⟩;go_simp;try with_reducible rfl)
     try simp only[Act.put,List.setIfInBounds_toArray,List.set_cons_zero,List.set_cons_succ]
     refine wpAnyH_ready (rs:=[12]) (by kernel_rfl) (by simp) ?_
     refine AllReadyH.cons (o := { dst := none, op := Op.store 4 (Operand.tmp 40) (Operand.tmp 39), type := 0, pos := "dead.go:51", after := #[{ on := 11, ground := Ground.data }, { on := 10, ground := Ground.data }, { on := 9, ground := Ground.chain }, { on := 0, ground := Ground.phase }, { on := 1, ground := Ground.phase }, { on := 2, ground := Ground.phase }, { on := 3, ground := Ground.phase }, { on := 4, ground := Ground.phase }, { on := 5, ground := Ground.phase }, { on := 6, ground := Ground.phase }, { on := 7, ground := Ground.phase }, { on := 8, ground := Ground.phase }, { on := 9, ground := Ground.phase }, { on := 10, ground := Ground.phase }], guard := none }) rfl (fun K hK => ?_) AllReadyH.nil
     go_simp
     refine hK.out _ _ hS7 (fun _=>?_)
     clear hK K
     try simp only[Act.put,List.setIfInBounds_toArray,List.set_cons_zero,List.set_cons_succ]
     refine wpAnyH_done (by kernel_rfl) ?_ _
     simp only[QN,Exit.then]
     go_wp2
     gi_meet
     case rel=>exact hset.out _ (ext_drew (Below.refl _ _))
    | false =>
     have hv':actB x.o.op=v:=by rw[<- hv.out];rfl
     rw[hv']at hac
     clear hv
     refine region_round_held (S:=fun V=>V.cell? ⟨w.heap.size+1+1,0,none⟩=some (.slice (some ⟨w.heap.size+1,0,none⟩) N N)/\V.cell? ⟨G,0,none⟩=some (.int .i64 x.o.op)) (by kernel_rfl) (by kernel_rfl) ⟨n0,g0⟩ (fun hHeld=>?_)
     change wpAnyH _ _ _ _ _ 13 _ _ _
     have hS7:=hS7.out
     refine' wpAnyH_take (i := 0) (oi := { dst := some 29, op := Op.load 165 (Operand.tmp 3), type := 165, pos := "dead.go:51", after := #[], guard := none }) (v := _) (fuel := 12) rfl (by kernel_rfl) (by kernel_rfl) (by kernel_rfl) (fun _ _ _ h => h) (Or.inl ⟨by rfl, ?hy101⟩) hHeld ?rest101
     case hy101=>(intro w ⟨_,_⟩;go_simp;try with_reducible rfl)
     try simp only[Act.put,List.setIfInBounds_toArray,List.set_cons_zero,List.set_cons_succ]
     refine' wpAnyH_take (i := 1) (oi := { dst := some 30, op := Op.move (Operand.tmp 5), type := 3, pos := "dead.go:51", after := #[], guard := none }) (v := _) (fuel := 11) rfl (by kernel_rfl) (by kernel_rfl) (by kernel_rfl) (fun _ _ _ h => h) (Or.inl ⟨by rfl, ?hy102⟩) hHeld ?rest102
     case hy102=>(intro w ⟨_,_⟩;go_simp;try with_reducible rfl)
     try simp only[Act.put,List.setIfInBounds_toArray,List.set_cons_zero,List.set_cons_succ]
     refine' wpAnyH_take (i := 2) (oi := { dst := some 31, op := Op.load 165 (Operand.tmp 3), type := 165, pos := "dead.go:51", after := #[], guard := none }) (v := _) (fuel := 10) rfl (by kernel_rfl) (by kernel_rfl) (by kernel_rfl) (fun _ _ _ h => h) (Or.inl ⟨by rfl, ?hy103⟩) hHeld ?rest103
     case hy103=>(intro w ⟨_,_⟩;go_simp;try with_reducible rfl)
     try simp only[Act.put,List.setIfInBounds_toArray,List.set_cons_zero,List.set_cons_succ]
     refine' wpAnyH_take (i := 3) (oi := { dst := some 32, op := Op.move (Operand.tmp 5), type := 3, pos := "dead.go:51", after := #[], guard := none }) (v := _) (fuel := 9) rfl (by kernel_rfl) (by kernel_rfl) (by kernel_rfl) (fun _ _ _ h => h) (Or.inl ⟨by rfl, ?hy104⟩) hHeld ?rest104
     case hy104=>(intro w ⟨_,_⟩;go_simp;try with_reducible rfl)
     try simp only[Act.put,List.setIfInBounds_toArray,List.set_cons_zero,List.set_cons_succ]
     refine' wpAnyH_take (i := 4) (oi := { dst := some 33, op := Op.indexAddr 165 (Operand.tmp 31) (Operand.tmp 32), type := 0, pos := "dead.go:51", after := #[{ on := 2, ground := Ground.data }, { on := 3, ground := Ground.data }], guard := none }) (v := _) (fuel := 8) rfl (by kernel_rfl) (by kernel_rfl) (by kernel_rfl) (fun _ _ _ h => h) (Or.inl ⟨by rfl, ?hy105⟩) hHeld ?rest105
     case hy105=>(intro w ⟨_,_⟩;go_simp;try with_reducible rfl)
     try simp only[Act.put,List.setIfInBounds_toArray,List.set_cons_zero,List.set_cons_succ]
     refine wpAnyH_ready (rs:=[5]) (by kernel_rfl) (by simp) ?_
     refine AllReadyH.cons (o := { dst := some 34, op := Op.load 4 (Operand.tmp 33), type := 4, pos := "dead.go:51", after := #[{ on := 4, ground := Ground.data }], guard := none }) rfl (fun K hK => ?_) AllReadyH.nil
     go_simp
     refine hK.out _ _ hHeld (fun _=>?_)
     clear hK K
     try simp only[Act.put,List.setIfInBounds_toArray,List.set_cons_zero,List.set_cons_succ]
     refine' wpAnyH_take (i := 6) (oi := { dst := some 35, op := Op.move (Operand.tmp 34), type := 4, pos := "dead.go:51", after := #[{ on := 5, ground := Ground.data }], guard := none }) (v := _) (fuel := 6) rfl (by kernel_rfl) (by kernel_rfl) (by kernel_rfl) (fun _ _ _ h => h) (Or.inl ⟨by rfl, ?hy106⟩) hHeld ?rest106
     case hy106=>(intro w ⟨_,_⟩;go_simp;try with_reducible rfl)
     try simp only[Act.put,List.setIfInBounds_toArray,List.set_cons_zero,List.set_cons_succ]
     refine' wpAnyH_take (i := 7) (oi := { dst := some 36, op := Op.fieldAddr 121 (Operand.tmp 6) 0, type := 0, pos := "dead.go:51", after := #[{ on := 6, ground := Ground.guard }], guard := some (6, false) }) (v := _) (fuel := 5) rfl (by kernel_rfl) (by kernel_rfl) (by kernel_rfl) (fun _ _ _ h => h) (Or.inl ⟨by rfl, ?hy107⟩) hHeld ?rest107
     case hy107=>(intro w ⟨_,_⟩;go_simp;try with_reducible rfl)
     try simp only[Act.put,List.setIfInBounds_toArray,List.set_cons_zero,List.set_cons_succ]
     refine' wpAnyH_take (i := 8) (oi := { dst := some 37, op := Op.load 3 (Operand.tmp 36), type := 3, pos := "dead.go:51", after := #[{ on := 7, ground := Ground.data }, { on := 6, ground := Ground.guard }], guard := some (6, false) }) (v := _) (fuel := 4) rfl (by kernel_rfl) (by kernel_rfl) (by kernel_rfl) (fun _ _ _ h => h) (Or.inl ⟨by rfl, ?hy108⟩) hHeld ?rest108
     case hy108=>(intro w ⟨_,_⟩;go_simp;try with_reducible rfl)
     try simp only[Act.put,List.setIfInBounds_toArray,List.set_cons_zero,List.set_cons_succ]
     refine wpAnyH_ready (rs:=[9]) (by kernel_rfl) (by simp) ?_
     refine AllReadyH.cons (o := { dst := some 38, op := Op.call { callee := Callee.value (Operand.func 138), args := #[Operand.tmp 37], argTypes := #[3] }, type := 4, pos := "dead.go:51", after := #[{ on := 8, ground := Ground.data }, { on := 6, ground := Ground.chain }, { on := 6, ground := Ground.guard }], guard := some (6, false) }) rfl (fun K hK => ?_) AllReadyH.nil
     go_simp
     go_at_call 138
     refine(hac.out _).mono ?_
     rintro e _ ⟨rfl,rfl⟩
     refine hK.out _ _ hHeld (fun _=>?_)
     clear hK K
     try simp only[Act.put,List.setIfInBounds_toArray,List.set_cons_zero,List.set_cons_succ]
     refine' wpAnyH_take (i := 10) (oi := { dst := some 39, op := Op.pick (Operand.tmp 35) (Operand.const (Value.bool true)) (Operand.tmp 38), type := 4, pos := "dead.go:51", after := #[{ on := 6, ground := Ground.data }, { on := 9, ground := Ground.data }], guard := none }) (v := _) (fuel := 2) rfl (by kernel_rfl) (by kernel_rfl) (by kernel_rfl) (fun _ _ _ h => h) (Or.inl ⟨by rfl, ?hy109⟩) hHeld ?rest109
     case hy109=>(intro w ⟨_,_⟩;go_simp;try with_reducible rfl)
     try simp only[Act.put,List.setIfInBounds_toArray,List.set_cons_zero,List.set_cons_succ]
     refine' wpAnyH_take (i := 11) (oi := { dst := some 40, op := Op.indexAddr 165 (Operand.tmp 29) (Operand.tmp 30), type := 0, pos := "dead.go:51", after := #[{ on := 0, ground := Ground.data }, { on := 1, ground := Ground.data }, { on := 0, ground := Ground.phase }, { on := 1, ground := Ground.phase }, { on := 2, ground := Ground.phase }, { on := 3, ground := Ground.phase }, { on := 4, ground := Ground.phase }, { on := 5, ground := Ground.phase }, { on := 6, ground := Ground.phase }, { on := 7, ground := Ground.phase }, { on := 8, ground := Ground.phase }, { on := 9, ground := Ground.phase }, { on := 10, ground := Ground.phase }], guard := none }) (v := _) (fuel := 1) rfl (by kernel_rfl) (by kernel_rfl) (by kernel_rfl) (fun _ _ _ h => h) (Or.inl ⟨by rfl, ?hy110⟩) hHeld ?rest110
     case hy110=>(intro w ⟨_,_⟩;go_simp;try with_reducible rfl)
     try simp only[Act.put,List.setIfInBounds_toArray,List.set_cons_zero,List.set_cons_succ]
     refine wpAnyH_ready (rs:=[12]) (by kernel_rfl) (by simp) ?_
     refine AllReadyH.cons (o := { dst := none, op := Op.store 4 (Operand.tmp 40) (Operand.tmp 39), type := 0, pos := "dead.go:51", after := #[{ on := 11, ground := Ground.data }, { on := 10, ground := Ground.data }, { on := 9, ground := Ground.chain }, { on := 0, ground := Ground.phase }, { on := 1, ground := Ground.phase }, { on := 2, ground := Ground.phase }, { on := 3, ground := Ground.phase }, { on := 4, ground := Ground.phase }, { on := 5, ground := Ground.phase }, { on := 6, ground := Ground.phase }, { on := 7, ground := Ground.phase }, { on := 8, ground := Ground.phase }, { on := 9, ground := Ground.phase }, { on := 10, ground := Ground.phase }], guard := none }) rfl (fun K hK => ?_) AllReadyH.nil
     go_simp
     refine hK.out _ _ hS7 (fun _=>?_)
     clear hK K
     try simp only[Act.put,List.setIfInBounds_toArray,List.set_cons_zero,List.set_cons_succ]
     refine wpAnyH_done (by kernel_rfl) ?_ _
     simp only[QN,Exit.then]
     go_wp2
     gi_meet
     case rel=>exact hset.out _ (ext_drew (Below.refl _ _))
   case rest =>
    obtain⟨hIc,hGc,hzc,hRk⟩:=hcut.out
    obtain⟨Lc,hLc⟩:∃Lc,L.set x.i v=Lc:=⟨_,rfl⟩
    rw[hLc]at hIc
    have hlc:Lc[x.i]?=some v:=by rw[<- hLc,List.getElem?_set_self (by rw[hI.out.ln];exact hxi)]
    have n0:=cell_block (i:=0) hIc.nc rfl
    have b0:wc.cell? ⟨w.heap.size+1,x.i,none⟩=some (.bool v):=cell_block hIc.nb (by simp[hlc])
    have hmon:v=true->∀j:Nat,L[j]?=some true->Lc[j]?=some true:=fun e j hj=>by
     rw[<- hLc,e];exact set_true hj
    replace hIc:Hid _:=hIc
    replace hlc:Hid _:=hlc
    replace hLc:Hid _:=hLc
    replace hmon:Hid _:=hmon
    replace hRk:Hid _:=hRk
    clear hcut hset hS7 hbc hbf g0 hac
    cases v with
    | false =>
     have hb1:b=false/\actB x.o.op=false:=by have:=hv.out;simpa using this
     have hend:MkD t (pre++[x]) Lc:=fun hp=>by
      have h1:=must_D hD.out hML.out hp (by have:=hb1.2;simpa using this)
      rw[hbl.out,hb1.1]at h1
      cases h1
     replace hend:Hid _:=hend
     clear hb1 hv hmon
     gi_wp2
     exact⟨hRk.out.a,hRk.out.b,⟨Lc,hend.out,hIc.out⟩,Nat.le_trans hz hzc⟩
    | true =>
     have e1:=cell_block (i:=1) hGc rfl
     have e2:=cell_block (i:=2) hGc rfl
     have e3:=cell_block (i:=3) hGc rfl
     have hk2:askN x.o.op<=2:=by unfold askN;split <;> (try split) <;> omega
     have hax:=hI'.out.ax x.i x.o x.h
     have hask:∀u,Calls Tryz.prog 139 #[.int .i64 x.o.op] u _:=fun u=>asks_any x.o.op hop.out u
     have hasD:∀m,asksD x.o m->(1<=askN x.o.op/\x.o.x=m)\/(2<=askN x.o.op/\x.o.y=m):=fun m h=>h
     obtain⟨k,hk⟩:∃k,askN x.o.op=k:=⟨_,rfl⟩
     rw[hk]at hk2 hax hask hasD
     obtain⟨W9,hW9⟩:∃W9,wc.alloc (.cells #[.int .i64 x.o.x,.int .i64 x.o.y,.int .i64 x.o.z] 112)=W9:=⟨_,rfl⟩
     have hB9:Below wc.heap.size wc W9:=by rw[<- hW9];exact ext_alloc (Below.refl _ _) _
     have gF:W9.heap[wc.heap.size]?=some (.cells #[.int .i64 x.o.x,.int .i64 x.o.y,.int .i64 x.o.z] 112):=by rw[<- hW9];exact heap_new _ _
     have hI9:=hIc.out.on hB9
     have hG9:=block_below hB9 hGc
     have hFl:wc.heap.size<W9.heap.size:=block_lt gF
     have hS9:∀u,Below W9.heap.size W9 u->u.cell? ⟨w.heap.size+1+1+1,0,none⟩=some (.func (.func 136) #[] #[.pointer (some ⟨w.heap.size+1+1,0,none⟩)])/\u.cell? ⟨G,0,none⟩=some (.int .i64 x.o.op):=fun u hu=>⟨cell_block (hI9.on hu).ac rfl,cell_block (block_below hu hG9) rfl⟩
     have hmk9:∀u,Below W9.heap.size W9 u->Calls Tryz.prog 136 #[.slice (some ⟨wc.heap.size,0,none⟩) k 3,.pointer (some ⟨w.heap.size+1+1,0,none⟩)] u fun e W'=>e=.returned (.tuple #[])/\(W'.cell? ⟨w.heap.size+1+1+1,0,none⟩=some (.func (.func 136) #[] #[.pointer (some ⟨w.heap.size+1+1,0,none⟩)])/\W'.cell? ⟨G,0,none⟩=some (.int .i64 x.o.op))/\Hid (∃L2:List Bool,(∀j:Nat,Lc[j]?=some true->L2[j]?=some true)/\(∀m,asksD x.o m->L2[m]?=some true)/\NdI t w (.slice (some ⟨ib,0,none⟩) N icap) (.slice (some ⟨sb,0,none⟩) M scap) N L2 W'/\W'.heap[G]?=some x.o.box/\W.heap.size<=W'.heap.size/\Rk w Bt W0 W W'):=fun u hu=>by
      have hIu:=hI9.on hu
      have gu:=block_below hu gF
      have hGu:=block_below hu hG9
      refine(mark_any (w.heap.size+1+1) (w.heap.size+1) wc.heap.size k 3 N (([x.o.x,x.o.y]:List Int).take k) Lc u (by simp;omega) (by omega) (cell_block hIu.nc rfl) hIu.ln hIu.nb (fun j y hj=>?_) (fun y hy=>?_) hNb.out (by omega) (by omega)).mono fun e W' q=>?_
      ·have hjk:=(List.getElem?_eq_some_iff.1 hj).1
       simp at hjk
       rw[List.getElem?_take_of_lt (by omega)]at hj
       have:j=0\/j=1:=by omega
       rcases this with rfl|rfl
       ·simp at hj;subst hj;exact cell_block gu rfl
       ·simp at hj;subst hj;exact cell_block gu rfl
      ·obtain⟨j,hj⟩:=List.getElem?_of_mem hy
       have hjk:=(List.getElem?_eq_some_iff.1 hj).1
       simp at hjk
       rw[List.getElem?_take_of_lt (by omega)]at hj
       have:j=0\/j=1:=by omega
       rcases this with rfl|rfl
       ·simp at hj;subst hj
        obtain⟨m,h1,h2⟩:=hax.1 (by omega)
        exact .inr ⟨m,h1,by omega⟩
       ·simp at hj;subst hj
        obtain⟨m,h1,h2⟩:=hax.2 (by omega)
        exact .inr ⟨m,h1,by omega⟩
      ·obtain⟨L2,q1,q2,q3,q4⟩:=q.ex
       have hI2:=hIu.kept q.k q1 q2
       have hG2:W'.heap[G]?=some x.o.box:=(q.k.block G (block_lt hGu) (by omega)).trans hGu
       have huz:=hu.size
       have hqz:=q.k.size
       refine⟨q.e,⟨cell_block hI2.ac rfl,cell_block hG2 rfl⟩,L2,q3,fun m hm=>?_,hI2,hG2,by omega,hRk.out.trans ((Rk.below (ext_trans hB9 hu) (by omega) (by omega)).trans (Rk.kept q.k (by omega) (by omega) (by omega) (by omega)))⟩
       rcases hasD m hm with⟨h1,h2⟩|⟨h1,h2⟩
       ·exact q4 x.o.x (by rw[show([x.o.x,x.o.y]:List Int).take k=x.o.x::([x.o.y]:List Int).take (k-1) by obtain⟨k',rfl⟩:∃k',k=k'+1:=⟨k-1,by omega⟩;simp];exact List.mem_cons_self) m h2
       ·exact q4 x.o.y (by rw[show k=2 by omega];simp) m h2
     have hk3:(k:Int)<=3:=by omega
     have hk0:(0:Int)<=(k:Int):=by omega
     have hkt:(k:Int).toNat=k:=by omega
     replace hmk9:Hid _:=hmk9
     replace hS9:Hid _:=hS9
     replace hask:Hid _:=hask
     replace hk:Hid _:=hk
     clear hax hasD hB9 gF hI9 hG9 hGc
     gi_wp2
     gi_cut [] from 29 (fun wr=>Hid (∃L2:List Bool,(∀j:Nat,Lc[j]?=some true->L2[j]?=some true)/\(∀m,asksD x.o m->L2[m]?=some true)/\NdI t w (.slice (some ⟨ib,0,none⟩) N icap) (.slice (some ⟨sb,0,none⟩) M scap) N L2 wr/\wr.heap[G]?=some x.o.box/\W.heap.size<=wr.heap.size/\Rk w Bt W0 W wr))
     case first =>
      refine region_round_held (S:=fun V=>V.cell? ⟨w.heap.size+1+1+1,0,none⟩=some (.func (.func 136) #[] #[.pointer (some ⟨w.heap.size+1+1,0,none⟩)])/\V.cell? ⟨G,0,none⟩=some (.int .i64 x.o.op)) (by kernel_rfl) (by kernel_rfl) (hS9.out _ (ext_drew (Below.refl _ _))) (fun hHeld=>?_)
      change wpAnyH _ _ _ _ _ 6 _ _ _
      refine' wpAnyH_take (i := 0) (oi := { dst := some 53, op := Op.load 207 (Operand.tmp 4), type := 207, pos := "dead.go:56", after := #[], guard := none }) (v := _) (fuel := 5) rfl (by kernel_rfl) (by kernel_rfl) (by kernel_rfl) (fun _ _ _ h => h) (Or.inl ⟨by rfl, ?hy201⟩) hHeld ?rest201
      case hy201=>(intro w ⟨_,_⟩;go_simp;try with_reducible rfl)
      try simp only[Act.put,List.setIfInBounds_toArray,List.set_cons_zero,List.set_cons_succ]
      refine' wpAnyH_take (i := 1) (oi := { dst := some 54, op := Op.fieldAddr 121 (Operand.tmp 6) 0, type := 0, pos := "dead.go:56", after := #[], guard := none }) (v := _) (fuel := 4) rfl (by kernel_rfl) (by kernel_rfl) (by kernel_rfl) (fun _ _ _ h => h) (Or.inl ⟨by rfl, ?hy202⟩) hHeld ?rest202
      case hy202=>(intro w ⟨_,_⟩;go_simp;try with_reducible rfl)
      try simp only[Act.put,List.setIfInBounds_toArray,List.set_cons_zero,List.set_cons_succ]
      refine' wpAnyH_take (i := 2) (oi := { dst := some 55, op := Op.load 3 (Operand.tmp 54), type := 3, pos := "dead.go:56", after := #[{ on := 1, ground := Ground.data }], guard := none }) (v := _) (fuel := 3) rfl (by kernel_rfl) (by kernel_rfl) (by kernel_rfl) (fun _ _ _ h => h) (Or.inl ⟨by rfl, ?hy203⟩) hHeld ?rest203
      case hy203=>(intro w ⟨_,_⟩;go_simp;try with_reducible rfl)
      try simp only[Act.put,List.setIfInBounds_toArray,List.set_cons_zero,List.set_cons_succ]
      refine wpAnyH_ready (rs:=[3]) (by kernel_rfl) (by simp) ?_
      refine AllReadyH.cons (o := { dst := some 56, op := Op.call { callee := Callee.value (Operand.func 139), args := #[Operand.tmp 55], argTypes := #[3] }, type := 3, pos := "dead.go:56", after := #[{ on := 2, ground := Ground.data }], guard := none }) rfl (fun K hK => ?_) AllReadyH.nil
      go_simp
      go_at_call 139
      refine(hask.out _).mono ?_
      rintro e w2 ⟨rfl,hb2⟩
      have E2:=ext_trans (ext_drew (Below.refl W9.heap.size W9)) hb2
      refine hK.out _ _ (hS9.out _ E2) (fun _=>?_)
      clear hK K
      try simp only[Act.put,List.setIfInBounds_toArray,List.set_cons_zero,List.set_cons_succ]
      have hHeld2:=hS9.out _ E2
      refine' wpAnyH_take (i := 4) (oi := { dst := some 57, op := Op.slice 112 (Operand.tmp 7) none (some (Operand.tmp 56)) none, type := 96, pos := "dead.go:56", after := #[{ on := 3, ground := Ground.data }], guard := none }) (v := _) (fuel := 1) rfl (by kernel_rfl) (by kernel_rfl) (by kernel_rfl) (fun _ _ _ h => h) (Or.inl ⟨by rfl, ?hy204⟩) hHeld2 ?rest204
      case hy204=>(intro w ⟨_,_⟩;go_simp;try with_reducible rfl)
      try simp only[Act.put,List.setIfInBounds_toArray,List.set_cons_zero,List.set_cons_succ]
      refine wpAnyH_ready (rs:=[5]) (by kernel_rfl) (by simp) ?_
      refine AllReadyH.cons (o := { dst := some 58, op := Op.call { callee := Callee.value (Operand.tmp 53), args := #[Operand.tmp 57], argTypes := #[96] }, type := 0, pos := "dead.go:56", after := #[{ on := 0, ground := Ground.data }, { on := 4, ground := Ground.data }, { on := 3, ground := Ground.chain }], guard := none }) rfl (fun K hK => ?_) AllReadyH.nil
      go_simp
      go_at_call 136
      refine(hmk9.out _ E2).mono ?_
      rintro e w3 ⟨rfl,hHeld3,h3⟩
      refine hK.out _ _ hHeld3 (fun _=>?_)
      clear hK K
      try simp only[Act.put,List.setIfInBounds_toArray,List.set_cons_zero,List.set_cons_succ]
      refine wpAnyH_done (by kernel_rfl) ?_ _
      simp only[QN,Exit.then]
      go_wp2
      gi_meet
      case rel=>exact h3
     case rest =>
      obtain⟨L2,hm2,ha2,hI2,hG2,hz2,hRk2⟩:=hcut.out
      have c0:=cell_block (i:=0) hG2 rfl
      have c1:=cell_block (i:=1) hG2 rfl
      have c2:=cell_block (i:=2) hG2 rfl
      have c3:=cell_block (i:=3) hG2 rfl
      have c4:=cell_block (i:=4) hG2 rfl
      have c5:=cell_block (i:=5) hG2 rfl
      have c6:=cell_block (i:=6) hG2 rfl
      have c7:=cell_block (i:=7) hG2 rfl
      have hsq:=hD.out.sn x.o (List.mem_of_getElem? x.h)
      have hlv:∀u,Calls Tryz.prog 140 #[x.o.val] u _:=fun u=>leave_any x.o hop.out (hsq.imp (fun h=>h) (fun⟨m,h,_⟩=>by rw[h];simp)) u
      have hac1:actB x.o.op=true->∃q:Nat,x.o.sn=q/\q<t.sns.length:=fun h=>by
       rcases hsq with h1|h1
       ·simp[h1]at h
       ·exact h1
      obtain⟨ac,hacq⟩:∃ac,actB x.o.op=ac:=⟨_,rfl⟩
      rw[hacq]at hlv hac1
      have hfin:∀(L':List Bool) (W':World),(∀j:Nat,L2[j]?=some true->L'[j]?=some true)->MkD t (pre++[x]) L':=fun L' W' hm'=>MkD.snoc hML.out (fun j hj=>hm' j (hm2 j (hmon.out trivial j hj))) (hm' _ (hm2 _ hlc.out)) (fun m hm=>hm' _ (ha2 m hm))
      replace hlv:Hid _:=hlv
      replace hac1:Hid _:=hac1
      replace hfin:Hid _:=hfin
      replace hm2:Hid _:=hm2
      replace ha2:Hid _:=ha2
      replace hI2:Hid _:=hI2
      replace hRk2:Hid _:=hRk2
      replace hacq:Hid _:=hacq
      clear hcut hmk9 hS9 hask hsq hW9
      cases ac with
      | false =>
       gi_wp2_with (refine⟨trivial,?_⟩;gi_at_call 140;refine(CallsIn.inRound l (callsIn_wide.2 (hlv.out _))).mono ?_;rintro e w5 ⟨rfl,hb5⟩)
       have hR5:=hRk2.out.trans (Rk.below (Bt:=Bt) (W0:=W0) (w:=w) hb5 (by omega) (by omega))
       exact⟨hR5.a,hR5.b,⟨L2,hfin.out L2 w5 (fun _ h=>h),hI2.out.on hb5⟩,by have:=hb5.size;omega⟩
      | true =>
       obtain⟨q,hsn,hq⟩:=hac1.out rfl
       obtain⟨s2,hs2⟩:∃s2,t.sns[q]?=some s2:=⟨t.sns[q]'hq,List.getElem?_eq_getElem _⟩
       obtain⟨rb2,rc2,hsr2⟩:=hsn'.out _ _ hs2
       have hsg2:=hI'.out.rg s2 (List.mem_of_getElem? hs2)
       rw[hM.out]at hq
       have hqM:(q:Int)<(M:Int):=by omega
       have hq0:(0:Int)<=(q:Int):=by omega
       obtain⟨r2,hr2⟩:∃r2,s2.rg.length=r2:=⟨_,rfl⟩
       have hrc:=hsr2.c
       rw[hr2]at hrc
       have hE5:∀u,Below wc.heap.size wc u->(u.cell? ⟨w.heap.size+1+1+1,0,none⟩=some (.func (.func 136) #[] #[.pointer (some ⟨w.heap.size+1+1,0,none⟩)])/\u.cell? ⟨w.heap.size,3,none⟩=some (.slice (some ⟨sb,0,none⟩) M scap)/\u.cell? ⟨G,7,none⟩=some (.int .i64 (q:Nat))/\u.cell? ⟨sb,q*3+2,none⟩=some (.slice (some ⟨rb2,0,none⟩) r2 rc2)):=fun u hu=>by
        have hIu:=hI2.out.on hu
        exact⟨cell_block hIu.ac rfl,cell_block hIu.tb rfl,by rw[<- hsn];exact cell_block (block_below hu hG2) rfl,(hIu.bl.cell (p:=⟨sb,q*3+2,none⟩) hsr2.l.1).trans hrc⟩
       have hmk12:∀u,Below wc.heap.size wc u->Calls Tryz.prog 136 #[.slice (some ⟨rb2,0,none⟩) r2 rc2,.pointer (some ⟨w.heap.size+1+1,0,none⟩)] u fun e W'=>e=.returned (.tuple #[])/\(W'.cell? ⟨w.heap.size+1+1+1,0,none⟩=some (.func (.func 136) #[] #[.pointer (some ⟨w.heap.size+1+1,0,none⟩)])/\W'.cell? ⟨w.heap.size,3,none⟩=some (.slice (some ⟨sb,0,none⟩) M scap)/\W'.cell? ⟨G,7,none⟩=some (.int .i64 (q:Nat))/\W'.cell? ⟨sb,q*3+2,none⟩=some (.slice (some ⟨rb2,0,none⟩) r2 rc2))/\Hid (KeepsFrom W0.heap.size W W'/\Kept w.heap.size Bt W W'/\(∃L,MkD t (pre++[x]) L/\NdI t w (.slice (some ⟨ib,0,none⟩) N icap) (.slice (some ⟨sb,0,none⟩) M scap) N L W')/\W0.heap.size<=W'.heap.size):=fun u hu=>by
        have hIu:=hI2.out.on hu
        have hGu:=block_below hu hG2
        refine(mark_any (w.heap.size+1+1) (w.heap.size+1) rb2 r2 rc2 N s2.rg L2 u hr2 (by omega) (cell_block hIu.nc rfl) hIu.ln hIu.nb (fun j y hj=>(hIu.bl.cell (p:=⟨rb2,j,none⟩) hsr2.l.2).trans (hsr2.r j y hj)) (fun y hy=>by rw[<- hN.out];exact hsg2.2.2 y hy) hNb.out (by have:=hsr2.l.2;omega) (by omega)).mono fun e W' p=>?_
        obtain⟨L3,q1,q2,q3,q4⟩:=p.ex
        have hI3:=hIu.kept p.k q1 q2
        have hG3:W'.heap[G]?=some x.o.box:=(p.k.block G (block_lt hGu) (by omega)).trans hGu
        have huz:=hu.size
        have hqz:=p.k.size
        have hR:=hRk2.out.trans ((Rk.below (Bt:=Bt) (W0:=W0) (w:=w) hu (by omega) (by omega)).trans (Rk.kept p.k (by omega) (by omega) (by omega) (by omega)))
        exact⟨p.e,⟨cell_block hI3.ac rfl,cell_block hI3.tb rfl,by rw[<- hsn];exact cell_block hG3 rfl,(hI3.bl.cell (p:=⟨sb,q*3+2,none⟩) hsr2.l.1).trans hrc⟩,hR.a,hR.b,⟨L3,hfin.out L3 W' q3,hI3⟩,by omega⟩
       replace hmk12:Hid _:=hmk12
       replace hE5:Hid _:=hE5
       replace hsn:Hid _:=hsn
       replace hr2:Hid _:=hr2
       replace hrc:Hid _:=hrc
       replace hsg2:Hid _:=hsg2
       gi_wp2_with (refine⟨trivial,?_⟩;gi_at_call 140;refine(CallsIn.inRound l (callsIn_wide.2 (hlv.out _))).mono ?_;rintro e w5 ⟨rfl,hb5⟩)
       have hS12:=hE5.out _ (ext_trans hb5 (ext_drew (Below.refl _ _)))
       replace hmk12:=hmk12.out
       refine region_round_any (S:=fun V=>V.cell? ⟨w.heap.size+1+1+1,0,none⟩=some (.func (.func 136) #[] #[.pointer (some ⟨w.heap.size+1+1,0,none⟩)])/\V.cell? ⟨w.heap.size,3,none⟩=some (.slice (some ⟨sb,0,none⟩) M scap)/\V.cell? ⟨G,7,none⟩=some (.int .i64 (q:Nat))/\V.cell? ⟨sb,q*3+2,none⟩=some (.slice (some ⟨rb2,0,none⟩) r2 rc2)) (by kernel_rfl) (by kernel_rfl) hS12 (fun hHeld=>?_)
       change wpAnyH _ _ _ _ _ 9 _ _ _
       refine' wpAnyH_take (i := 0) (oi := { dst := some 61, op := Op.load 207 (Operand.tmp 4), type := 207, pos := "dead.go:58", after := #[], guard := none }) (v := _) (fuel := 8) rfl (by kernel_rfl) (by kernel_rfl) (by kernel_rfl) (fun _ _ _ h => h) (Or.inl ⟨by rfl, ?hy301⟩) hHeld ?rest301
       case hy301=>(intro w ⟨_,_,_,_⟩;go_simp;try with_reducible rfl)
       try simp only[Act.put,List.setIfInBounds_toArray,List.set_cons_zero,List.set_cons_succ]
       refine' wpAnyH_take (i := 1) (oi := { dst := some 62, op := Op.fieldAddr 102 (Operand.tmp 1) 3, type := 0, pos := "dead.go:58", after := #[], guard := none }) (v := _) (fuel := 7) rfl (by kernel_rfl) (by kernel_rfl) (by kernel_rfl) (fun _ _ _ h => h) (Or.inl ⟨by rfl, ?hy302⟩) hHeld ?rest302
       case hy302=>(intro w ⟨_,_,_,_⟩;go_simp;try with_reducible rfl)
       try simp only[Act.put,List.setIfInBounds_toArray,List.set_cons_zero,List.set_cons_succ]
       refine' wpAnyH_take (i := 2) (oi := { dst := some 63, op := Op.load 100 (Operand.tmp 62), type := 100, pos := "dead.go:58", after := #[{ on := 1, ground := Ground.data }], guard := none }) (v := _) (fuel := 6) rfl (by kernel_rfl) (by kernel_rfl) (by kernel_rfl) (fun _ _ _ h => h) (Or.inl ⟨by rfl, ?hy303⟩) hHeld ?rest303
       case hy303=>(intro w ⟨_,_,_,_⟩;go_simp;try with_reducible rfl)
       try simp only[Act.put,List.setIfInBounds_toArray,List.set_cons_zero,List.set_cons_succ]
       refine' wpAnyH_take (i := 3) (oi := { dst := some 64, op := Op.fieldAddr 121 (Operand.tmp 6) 5, type := 0, pos := "dead.go:58", after := #[], guard := none }) (v := _) (fuel := 5) rfl (by kernel_rfl) (by kernel_rfl) (by kernel_rfl) (fun _ _ _ h => h) (Or.inl ⟨by rfl, ?hy304⟩) hHeld ?rest304
       case hy304=>(intro w ⟨_,_,_,_⟩;go_simp;try with_reducible rfl)
       try simp only[Act.put,List.setIfInBounds_toArray,List.set_cons_zero,List.set_cons_succ]
       refine' wpAnyH_take (i := 4) (oi := { dst := some 65, op := Op.load 3 (Operand.tmp 64), type := 3, pos := "dead.go:58", after := #[{ on := 3, ground := Ground.data }], guard := none }) (v := _) (fuel := 4) rfl (by kernel_rfl) (by kernel_rfl) (by kernel_rfl) (fun _ _ _ h => h) (Or.inl ⟨by rfl, ?hy305⟩) hHeld ?rest305
       case hy305=>(intro w ⟨_,_,_,_⟩;go_simp;try with_reducible rfl)
       try simp only[Act.put,List.setIfInBounds_toArray,List.set_cons_zero,List.set_cons_succ]
       refine' wpAnyH_take (i := 5) (oi := { dst := some 66, op := Op.indexAddr 100 (Operand.tmp 63) (Operand.tmp 65), type := 0, pos := "dead.go:58", after := #[{ on := 2, ground := Ground.data }, { on := 4, ground := Ground.data }], guard := none }) (v := _) (fuel := 3) rfl (by kernel_rfl) (by kernel_rfl) (by kernel_rfl) (fun _ _ _ h => h) (Or.inl ⟨by rfl, ?hy306⟩) hHeld ?rest306
       case hy306=>(intro w ⟨_,_,_,_⟩;go_simp;try with_reducible rfl)
       try simp only[Act.put,List.setIfInBounds_toArray,List.set_cons_zero,List.set_cons_succ]
       refine' wpAnyH_take (i := 6) (oi := { dst := some 67, op := Op.fieldAddr 98 (Operand.tmp 66) 2, type := 0, pos := "dead.go:58", after := #[{ on := 5, ground := Ground.data }], guard := none }) (v := _) (fuel := 2) rfl (by kernel_rfl) (by kernel_rfl) (by kernel_rfl) (fun _ _ _ h => h) (Or.inl ⟨by rfl, ?hy307⟩) hHeld ?rest307
       case hy307=>(intro w ⟨_,_,_,_⟩;go_simp;try with_reducible rfl)
       try simp only[Act.put,List.setIfInBounds_toArray,List.set_cons_zero,List.set_cons_succ]
       refine' wpAnyH_take (i := 7) (oi := { dst := some 68, op := Op.load 96 (Operand.tmp 67), type := 96, pos := "dead.go:58", after := #[{ on := 6, ground := Ground.data }], guard := none }) (v := _) (fuel := 1) rfl (by kernel_rfl) (by kernel_rfl) (by kernel_rfl) (fun _ _ _ h => h) (Or.inl ⟨by rfl, ?hy308⟩) hHeld ?rest308
       case hy308=>(intro w ⟨_,_,_,_⟩;go_simp;try with_reducible rfl)
       try simp only[Act.put,List.setIfInBounds_toArray,List.set_cons_zero,List.set_cons_succ]
       refine wpAnyH_ready (rs:=[8]) (by kernel_rfl) (by simp) ?_
       refine AllReadyH.cons (o := { dst := some 69, op := Op.call { callee := Callee.value (Operand.tmp 61), args := #[Operand.tmp 68], argTypes := #[96] }, type := 0, pos := "dead.go:58", after := #[{ on := 0, ground := Ground.data }, { on := 7, ground := Ground.data }], guard := none }) rfl (fun K hK => ?_) AllReadyH.nil
       go_simp
       go_at_call 136
       refine(hmk12 _ (ext_trans hb5 (ext_drew (Below.refl _ _)))).mono ?_
       rintro e w3 ⟨rfl,hHeld3,h3⟩
       refine hK.out _ _ hHeld3 (fun _=>?_)
       clear hK K
       try simp only[Act.put,List.setIfInBounds_toArray,List.set_cons_zero,List.set_cons_succ]
       refine wpAnyH_done (by kernel_rfl) ?_ _
       simp only[QN]
       gi_wp2
       exact h3.out
  case done =>
   rintro D ys W hD rfl ⟨⟨L,hML,hI⟩,hz⟩ hK
   have hall:L=List.replicate N true:=by
    apply List.ext_getElem?
    intro i
    by_cases hi:i<N
    ·obtain⟨y,hy⟩:∃y,(itsD t)[N-1-i]?=some y:=⟨(itsD t)[N-1-i]'(by rw[itsD_len];omega),List.getElem?_eq_getElem _⟩
     have h2:=itsD_get hy
     have hyi:y.i=i:=by omega
     have:=(hML (List.prefix_refl _) y (List.mem_of_getElem? hy)).1
     rw[hyi]at this
     rw[this];simp[hi]
    ·have:=hI.ln
     rw[List.getElem?_eq_none (by omega),List.getElem?_eq_none (by simp;omega)]
   subst hall
   have c0:=cell_block (i:=0) hI.nc rfl
   have hnb:=hI.nb
   have hbl:=hI.bl
   clear hI hML
   gi_wp2
   refine⟨by simp,.inl ⟨_,_,rfl,run_takeDeferred hK,?_⟩⟩
   exact⟨.slice (some ⟨w.heap.size+1,0,none⟩) N N,by simp[results,Tryz.results104,go_sem],rfl,block_put hnb (by omega),hbl.trans (belowK_b (w:=w) (Nat.le_refl _) _ D _ _ (by omega) hK rfl rfl)⟩
  case stop =>
   rintro D c pre W hD hpre hf hK
   exact hf.elim
theorem needed_any{lo:Nat}{t:Tr}{iv sv:Value}{vs:List Value}{w:World}(hT:TrV lo t iv sv vs w)(hI:IdT t)(hD:IdD t) :
  Calls Tryz.prog 104 #[trv t iv sv] w fun e w'=>e=.returned (.slice (some ⟨w.heap.size+1,0,none⟩) t.ins.length t.ins.length)/\w'.heap[w.heap.size+1]?=some (nbo (List.replicate t.ins.length true))/\Below w.heap.size w w':=callsIn_wide.1 (needed_in 3 (by omega) hT hI hD)
end
end Go.Proofs.YthljpnmhddfblaaGreatDoor
