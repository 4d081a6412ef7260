/- dead: who may do more than have a value; what is asked for. -/
import Derived.Test.YthljpnmhddfblaaGreatDoorS38
namespace Go.Proofs.YthljpnmhddfblaaGreatDoor
open Go.RowKit Go Go.Shelf
set_option maxRecDepth 100000
set_option maxHeartbeats 8000000
set_option linter.all false
section
variable [DecidableEq Vl]
abbrev actB (op:Int):Bool:=!decide (op=1)
theorem acts_any(op:Int)(ho:opH op)(w:World):Calls Tryz.prog 138 #[.int .i64 op] w fun r w'=>r=.returned (.bool (actB op))/\w'=w:=by
 rcases ho with rfl|rfl|rfl|rfl
 all_goals
  go_enter Tryz.func138,Tryz.ntmps138
  go_wp2
  go_ret
  exact⟨rfl,rfl⟩
theorem leave_any(o:Ti)(ho:opH o.op)(hs:o.op=1\/(o.sn != -1)=true)(w:World):Calls Tryz.prog 140 #[o.val] w fun r w'=>r=.returned (.bool (actB o.op))/\Below w.heap.size w w':=by
 have ha:∀u,Calls Tryz.prog 138 #[.int .i64 o.op] u _:=fun u=>acts_any o.op ho u
 have hb:=ext_alloc (Below.refl w.heap.size w) o.box
 obtain⟨op,x,y,z,v,sn⟩:=o
 simp only at ho hs ha hb⊢
 replace hb:Hid _:=hb
 replace ha:Hid _:=ha
 rcases ho with rfl|rfl|rfl|rfl
 ·clear hs
  go_enter Tryz.func140,Tryz.ntmps140
  go_wp2_with (go_at_call 138;refine(ha.out _).mono ?_;rintro e w' ⟨rfl,rfl⟩)
  go_ret
  exact⟨rfl,hb.out⟩
 all_goals
  have hs2:(sn != -1)=true:=by simpa using hs
  clear hs
  go_enter Tryz.func140,Tryz.ntmps140
  go_wp2_with (go_at_call 138;refine(ha.out _).mono ?_;rintro e w' ⟨rfl,rfl⟩)
  go_ret
  exact⟨rfl,hb.out⟩
abbrev nbo (L:List Bool):Obj:=.cells (L.map Value.bool).toArray 4
structure MarkQ (nb n:Nat) (xs:List Int) (L:List Bool) (W:World) (e:Ending) (W':World):Prop where
 e:e=.returned (.tuple #[])
 ex:∃L':List Bool,L'.length=n/\W'.heap[nb]?=some (nbo L')/\(∀j:Nat,L[j]?=some true->L'[j]?=some true)/\∀x∈xs,∀m:Nat,x=m->L'[m]?=some true
 k:Keeps (fun q=>q=nb) W W'
theorem nb_cell{nb n:Nat}{L:List Bool}{W:World}(h:W.heap[nb]?=some (nbo L))(hL:L.length=n){m:Nat}(hm:m<n):∃b,W.cell? ⟨nb,m,none⟩=some (.bool b)/\L[m]?=some b/\W.frozen? ⟨nb,m,none⟩=false:=by
 obtain⟨b,hb⟩:∃b,L[m]?=some b:=⟨L[m]'(by omega),List.getElem?_eq_getElem _⟩
 exact⟨b,cell_block h (by simp[hb]),hb,frozen_block h⟩
theorem nb_set{nb:Nat}{L:List Bool}{W:World}(h:W.heap[nb]?=some (nbo L))(m:Nat):(W.setCell ⟨nb,m,none⟩ (.bool true)).heap[nb]?=some (nbo (L.set m true)):=by
 have:=set_block (i:=m) (.bool true) h
 rw[this]
 simp[nbo,List.map_set]
theorem set_true{L:List Bool}{m j:Nat}(h:L[j]?=some true):(L.set m true)[j]?=some true:=by
 have hl:=(List.getElem?_eq_some_iff.1 h).1
 rw[List.getElem?_set]
 split
 ·rename_i e;subst e;simp[hl]
 ·exact h
theorem mark_any(nc nb rb k rc n:Nat)(xs:List Int)(L:List Bool)(W:World)(hk:xs.length=k)(hk2:k<=1000)(hc:W.cell? ⟨nc,0,none⟩=some (.slice (some ⟨nb,0,none⟩) n n))(hL:L.length=n)(hN:W.heap[nb]?=some (nbo L))(hx:∀(j:Nat) x,xs[j]?=some x->W.cell? ⟨rb,j,none⟩=some (.int .i64 x))(hin:∀x∈xs,x=-1\/∃m:Nat,x=m/\m<n)(hn:n<=1000)(h1:rb≠nb)(h2:nc≠nb) :
  Calls Tryz.prog 136 #[.slice (some ⟨rb,0,none⟩) k rc,.pointer (some ⟨nc,0,none⟩)] W (MarkQ nb n xs L W):=by
 have h0:MarkQ nb n (xs.take 0) L W (.returned (.tuple #[])) W:=⟨rfl,⟨L,hL,hN,fun _ h=>h,by simp⟩,Keeps.refl _ _⟩
 replace h0:Hid _:=h0
 replace hx:Hid _:=hx
 replace hin:Hid _:=hin
 replace hk:Hid _:=hk
 clear hN hL
 go_enter Tryz.func136,Tryz.ntmps136
 go_wp2
 go_loopw [7] (fun i wr=>∃j:Nat,j<=k/\i=.int .i64 (j:Nat)/\Hid (MarkQ nb n (xs.take j) L W (.returned (.tuple #[])) wr)) (fun i _=>k-(intOf i).toNat)
 case atStart=>exact⟨0,Nat.zero_le _,rfl,h0⟩
 case round =>
  obtain⟨j,hj,rfl,hQ⟩:=hrel
  rename World=>v
  by_cases hlt:j<k
  ·obtain⟨x,hxj⟩:∃x,xs[j]?=some x:=⟨xs[j]'(by rw[hk.out];exact hlt),List.getElem?_eq_getElem _⟩
   have r0:=hQ.out.k.cell (hx.out j x hxj) h1
   have q0:=hQ.out.k.cell hc h2
   have ht:xs.take (j+1)=xs.take j++[x]:=by rw[List.take_succ,hxj];rfl
   rcases hin.out x (List.mem_of_getElem? hxj)with rfl|⟨m,rfl,hm⟩
   ·have hQ1:MarkQ nb n (xs.take (j+1)) L W (.returned (.tuple #[])) v:=by
     obtain⟨L',e1,e2,e3,e4⟩:=hQ.out.ex
     refine⟨rfl,⟨L',e1,e2,e3,fun y hy m hm=>?_⟩,hQ.out.k⟩
     rw[ht]at hy
     rcases List.mem_append.1 hy with hy|hy
     ·exact e4 y hy m hm
     ·simp at hy;omega
    replace hQ1:Hid _:=hQ1
    clear ht hQ
    go_wp2
    go_roundw
    case measure=>simp[intOf];omega
    case rel=>exact⟨j+1,by omega,by go_num,hQ1⟩
   ·obtain⟨L',e1,e2,e3,e4⟩:=hQ.out.ex
    obtain⟨b,d0,_,f0⟩:=nb_cell e2 e1 hm
    have hmne:((m:Int) != -1)=true:=by simp
    have hQ1:MarkQ nb n (xs.take (j+1)) L W (.returned (.tuple #[])) (v.setCell ⟨nb,m,none⟩ (.bool true)):=by
     refine⟨rfl,⟨L'.set m true,by simpa using e1,nb_set e2 m,fun i hi=>set_true (e3 i hi),fun y hy i hi=>?_⟩,hQ.out.k.trans (keeps_one _ _ _ _)⟩
     rw[ht]at hy
     rcases List.mem_append.1 hy with hy|hy
     ·exact set_true (e4 y hy i hi)
     ·simp at hy
      have:i=m:=by omega
      subst this
      simp[e1,hm]
    replace hQ1:Hid _:=hQ1
    clear ht hQ e1 e2 e3 e4
    go_wp2
    go_roundw
    case measure=>simp[intOf];omega
    case rel=>exact⟨j+1,by omega,by go_num,hQ1⟩
  ·obtain rfl:j=k:=by omega
   have hfull:xs.take j=xs:=List.take_of_length_le (by rw[hk.out];exact Nat.le_refl _)
   rw[hfull]at hQ
   go_wp2
   simp only[bodyPost]
   exact⟨trivial,.tuple #[],by simp[results,Tryz.results136,go_sem],hQ.out⟩
end
section
attribute [local go_sem] Oper.semAt_some
variable [DecidableEq Vl]
theorem cells_ownFrom{β:Type}{B k:Nat}(c:Array Value)(e:TypeId):OwnFrom B (fun(_:β) W=>W.heap[k]?=some (.cells c e)):=fun _ _ _ _ hs hg hr =>
 (hg.block k (Array.getElem?_eq_some_iff.1 hs).1 (fun e'=>by obtain⟨_,o,ho,hc⟩:=hr _ e'.symm;rw[hs]at ho;cases ho;cases hc)).trans hs
theorem two_ends{e:Ending}{A B:Prop}(h:(e=.returned (.bool true)/\A)\/(e=.returned (.bool false)/\B)):∃bb:Bool,e=.returned (.bool bb)/\((bb=true/\A)\/(bb=false/\B)):=by
 rcases h with⟨rfl,h⟩|⟨rfl,h⟩
 ·exact⟨true,rfl,.inl ⟨rfl,h⟩⟩
 ·exact⟨false,rfl,.inr ⟨rfl,h⟩⟩
structure ItD (t:Tr) where
 i:Nat
 o:Ti
 h:t.ins[i]?=some o
def itsD (t:Tr):List (ItD t):=(List.finRange t.ins.length).map fun k=>⟨t.ins.length-1-k.1,t.ins[t.ins.length-1-k.1]'(by omega),List.getElem?_eq_getElem _⟩
theorem itsD_len(t:Tr):(itsD t).length=t.ins.length:=by simp[itsD]
theorem itsD_get{t:Tr}{k:Nat}{x:ItD t}(h:(itsD t)[k]?=some x):x.i+k+1=t.ins.length:=by
 have hl:=(List.getElem?_eq_some_iff.1 h).1
 rw[itsD_len]at hl
 simp only[itsD,List.getElem?_map]at h
 obtain⟨q,hq,rfl⟩:=Option.map_eq_some_iff.1 h
 have:q.1=k:=by
  have h2:=List.getElem?_eq_some_iff.1 hq
  obtain⟨h3,h4⟩:=h2
  rw[<- h4];simp
 simp only[this]
 omega
abbrev itvD {t:Tr} (x:ItD t):Array Value:=#[.int .i64 (x.i:Nat),x.o.val]
theorem backD_in{t:Tr}(n:Nat)(l Bt m gb c1:Nat)(hlen:t.ins.length<=1000)(hn1:1<=t.ins.length)
  (hb:gb<m) (J Jx:List (ItD t)->World->Prop)
  (hY:∀pre x W,J pre W->pre.length<(itsD t).length->YieldAt Fence.wide (n-1) Tryz.prog l (itvD x) W fun e W' =>
   (e=.returned (.bool true)/\J (pre++[x]) W'/\Kept m Bt W W')\/(e=.returned (.bool false)/\Jx (pre++[x]) W'))
  (W:World) (hbt:W.heap[Bt]?=some (.cells #[.slice (some ⟨gb,0,none⟩) t.ins.length c1] 99))
  (hc:∀(i:Nat) o,t.ins[i]?=some o->TiAt W gb (i*8) o) (h0:J [] W) :
  CallsIn Fence.wide n Tryz.prog 152 #[.func (.yield l) #[] #[],.pointer (some ⟨Bt,0,none⟩)] W fun e W'=>(∃v,e=.returned v) /\
   ((∃ys,ys=itsD t/\J ys W')\/(∃pre,pre <+: itsD t/\Jx pre W')):=by
 have hk0:W.cell? ⟨Bt,0,none⟩=some (.slice (some ⟨gb,0,none⟩) t.ins.length c1):=cell_block hbt rfl
 have hx1:∀(k:Nat) (x:ItD t),(itsD t)[k]?=some x->x.i+k+1=t.ins.length:=fun k x h=>itsD_get h
 obtain⟨zs,hzs⟩:∃zs,itsD t=zs:=⟨_,rfl⟩
 have hzl:zs.length=t.ins.length:=by rw[<- hzs,itsD_len]
 rw[hzs]at hY hx1⊢
 obtain⟨L,hL⟩:∃L,t.ins.length=L:=⟨_,rfl⟩
 rw[hL]at hk0 hbt hlen hx1 hzl hn1
 replace hzl:Hid _:=hzl
 replace hc:Hid _:=hc
 replace hx1:Hid _:=hx1
 clear hL hzs
 refine callsIn_of_wp Tryz.func152 rfl trivial ?_ rfl
 simp only[Tryz.ntmps152,List.size_toArray,List.length_cons,List.length_nil,Nat.reduceAdd,Nat.reduceSub,Array.replicate_succ,Array.replicate_zero,List.push_toArray,List.append_toArray,List.nil_append,List.cons_append]
 gi_wp2
 gi_loopw [3] (fun i wr=>∃k:Nat,k<=L/\i=.int .i64 ((L:Int)-1-k)/\Hid (J (zs.take k) wr)/\Hid (Kept m Bt W wr))
  (fun i _=>(intOf i+1).toNat)
 case atStart=>exact⟨0,Nat.zero_le _,by go_num,h0,Kept.refl _ _ _⟩
 case round =>
  obtain⟨k,hk,rfl,hJs,hnx⟩:=hrel
  by_cases hlt:k<L
  ·obtain⟨x,hx⟩:∃x,zs[k]?=some x:=⟨zs[k]'(by have:=hzl.out;omega),by simp⟩
   have hxe:=hx1.out k x hx
   have hta:=hc.out x.i x.o x.h
   have hi:(L:Int)-1-k=(x.i:Int):=by omega
   have hi0:(0:Int)<=(x.i:Int):=by omega
   have hi1:(x.i:Int)<(L:Int):=by omega
   have hq0:wr.cell? ⟨Bt,0,none⟩=some (.slice (some ⟨gb,0,none⟩) L c1):=cell_block (hnx.out.2.trans hbt) rfl
   have e0:=(hnx.out.1.cell (p:=⟨gb,x.i*8,none⟩) hb).trans hta.c0
   have e1:=(hnx.out.1.cell (p:=⟨gb,x.i*8+1,none⟩) hb).trans hta.c1
   have e2:=(hnx.out.1.cell (p:=⟨gb,x.i*8+2,none⟩) hb).trans hta.c2
   have e3:=(hnx.out.1.cell (p:=⟨gb,x.i*8+3,none⟩) hb).trans hta.c3
   have e4:=(hnx.out.1.cell (p:=⟨gb,x.i*8+4,none⟩) hb).trans hta.c4
   have e5:=(hnx.out.1.cell (p:=⟨gb,x.i*8+5,none⟩) hb).trans hta.c5
   have e6:=(hnx.out.1.cell (p:=⟨gb,x.i*8+6,none⟩) hb).trans hta.c6
   have e7:=(hnx.out.1.cell (p:=⟨gb,x.i*8+7,none⟩) hb).trans hta.c7
   obtain⟨fn,tmps,assign,body,hy,hR⟩:=hY _ x wr hJs.out (by have:=hzl.out;simp;omega)
   rw[hi]
   have hse:=hxe
   replace hse:Hid _:=hse
   clear hY hk0 hta hxe
   gi_wp2_with (refine⟨fun h=>by simp[Fence.wide]at h,?_⟩;refine hR.mono ?_;intro e W3 hW3;obtain⟨bb,rfl,hbb⟩:=two_ends hW3;clear hW3)
   ·rcases hbb with⟨rfl,hJ3,hk3⟩|⟨rfl,hJx3⟩
    ·simp_all
    ·refine bodyPost_ret (results_none rfl _ _ _) rfl ?_
     exact⟨⟨_,rfl⟩,.inr ⟨_,by rw[<- take_snoc hx];exact List.take_prefix _ _,hJx3⟩⟩
   case roundEnd =>
    rcases hbb with⟨rfl,hJ3,hk3⟩|⟨rfl,hJx3⟩
    ·have hse':=hse.out
     refine⟨⟨k+1,by omega,by rw[<- hi];congr 1;omega,by rw[take_snoc hx];exact hJ3,hnx.out.trans hk3⟩,by simp[intOf]⟩
    ·simp_all
  ·obtain rfl:k=L:=by omega
   have hi:(k:Int)-1-k=-1:=by omega
   rw[hi]
   gi_wp2
   go_end0
   exact⟨⟨_,rfl⟩,.inl ⟨_,by rw[<- hzl.out];simp,hJs.out⟩⟩
theorem backD_stops{t:Tr}(n:Nat)(Bt m gb c1:Nat)(hlen:t.ins.length<=1000)(hn1:1<=t.ins.length)(hgm:gb<m)(w:World)(hB:Bt<w.heap.size)(hm:m<=Bt)
  (hbt:w.heap[Bt]?=some (.cells #[.slice (some ⟨gb,0,none⟩) t.ins.length c1] 99)) (hc:∀(i:Nat) o,t.ins[i]?=some o->TiAt w gb (i*8) o) :
  SeqStopsK Fence.wide n Tryz.prog 152 #[.pointer (some ⟨Bt,0,none⟩)] (itvD (t:=t)) (Kept m Bt) (fun ys=>ys=itsD t) (fun pre=>pre <+: itsD t) (itsD t).length w:=fun l J Jx W hW hJ _ hY h0=>by
 refine backD_in n l Bt m gb c1 hlen hn1 hgm J Jx hY W ((hW.block Bt hB).trans hbt) (fun i o hi=>?_) h0
 have hgw:gb<w.heap.size:=by omega
 have h:=hc i o hi
 exact⟨(hW.cell (p:=⟨gb,_,none⟩) hgw).trans h.c0,(hW.cell (p:=⟨gb,_,none⟩) hgw).trans h.c1,(hW.cell (p:=⟨gb,_,none⟩) hgw).trans h.c2,(hW.cell (p:=⟨gb,_,none⟩) hgw).trans h.c3,(hW.cell (p:=⟨gb,_,none⟩) hgw).trans h.c4,(hW.cell (p:=⟨gb,_,none⟩) hgw).trans h.c5,(hW.cell (p:=⟨gb,_,none⟩) hgw).trans h.c6,(hW.cell (p:=⟨gb,_,none⟩) hgw).trans h.c7⟩
theorem backward_D(n:Nat)(v:Value)(a:Option Addr)(k c:Nat)(hv:v=.slice a k c)(w:World) :
  CallsIn Fence.wide n Tryz.prog 137 #[v] w fun e w'=>e=.returned (.func (.func 152) #[] #[.pointer (some ⟨w.heap.size,0,none⟩)])/\w'=w.alloc (.cells #[v] 99):=by
 subst hv
 refine callsIn_of_wp Tryz.func137 rfl trivial ?_ rfl
 simp only[Tryz.ntmps137,List.size_toArray,List.length_cons,List.length_nil,Nat.reduceAdd,Nat.reduceSub,Array.replicate_succ,Array.replicate_zero,List.push_toArray,List.append_toArray,List.nil_append,List.cons_append]
 gi_wp2
 go_ret
 exact⟨rfl,rfl⟩
end
section
attribute [local go_sem] Oper.semAt_some
variable [DecidableEq Vl]
theorem made_bools(r:Nat)(hr:r<=1000):∃mc:Array Value,(∀u:World,(Instr.makeSlice 165 (.int .i64 (r:Nat)) (.int .i64 (r:Nat))).run Tryz.prog u=.ok (.slice (some ⟨u.heap.size,0,none⟩) r r) (u.alloc (.cells mc 4)))/\mc=((List.replicate r false).map Value.bool).toArray:=by
 obtain⟨i0,hi0,hz0,hz1,hz2⟩:=info_parts (T:=4) (z:=.bool false) (sz:=1) (by':=1) (by kernel_rfl)
 refine⟨madeCells #[.bool false] (r*1),fun u=>?_,?_⟩
 ·have:=run_makeSlice (P:=Tryz.prog) (w:=u) 165 4 i0 _ Tryz.underlying165 hi0 hz0 .i64 .i64 (r:Nat) (r:Nat) (by omega) (by omega) (by rw[hz1];omega) (by rw[hz2];omega) (by omega)
  rw[hz1]at this
  simp only[Int.toNat_natCast]at this
  exact this
 ·apply Array.toList_inj.1
  apply List.ext_getElem?
  intro j
  by_cases hj:j<r
  ·simp[madeCells,hj,Nat.mod_one]
  ·simp[madeCells,hj]
structure IdD (t:Tr):Prop where
 sn:∀o∈t.ins,o.op=1\/∃m:Nat,o.sn=m/\m<t.sns.length
 ak:∀(i:Nat) o,t.ins[i]?=some o->o.op=1->∃(j:Nat) (p:Ti),i<j/\t.ins[j]?=some p/\((1<=askN p.op/\p.x=i)\/(2<=askN p.op/\p.y=i))
def asksD (o:Ti) (m:Nat):Prop:=(1<=askN o.op/\o.x=m)\/(2<=askN o.op/\o.y=m)
def MkD (t:Tr) (pre:List (ItD t)) (L:List Bool):Prop:=pre <+: itsD t->∀x∈pre,L[x.i]?=some true/\∀m,asksD x.o m->L[m]?=some true
theorem must_D{t:Tr}(hD:IdD t){pre:List (ItD t)}{x:ItD t}{L:List Bool}(h:MkD t pre L)(hp:pre++[x] <+: itsD t)(ho:x.o.op=1):L[x.i]?=some true:=by
 obtain⟨j,p,hj,hpj,ha⟩:=hD.ak x.i x.o x.h ho
 have hpre:pre <+: itsD t:=(List.prefix_append pre [x]).trans hp
 have hx:(itsD t)[pre.length]?=some x:=by
  obtain⟨r,hr⟩:=hp
  rw[<- hr];simp
 have h1:=itsD_get hx
 have hjl:=(List.getElem?_eq_some_iff.1 hpj).1
 obtain⟨y,hy⟩:∃y,(itsD t)[t.ins.length-1-j]?=some y:=⟨(itsD t)[t.ins.length-1-j]'(by rw[itsD_len];omega),List.getElem?_eq_getElem _⟩
 have h2:=itsD_get hy
 have hyj:y.i=j:=by omega
 have hyp:y.o=p:=by have:=y.h;rw[hyj,hpj]at this;exact(Option.some.inj this).symm
 have hym:y∈pre:=by
  obtain⟨r,hr⟩:=hpre
  rw[<- hr,List.getElem?_append_left (by omega)]at hy
  exact List.mem_of_getElem? hy
 exact(h hpre y hym).2 x.i (by rw[hyp];exact ha)
theorem MkD.snoc{t:Tr}{pre:List (ItD t)}{x:ItD t}{L L':List Bool}(h:MkD t pre L)(hm:∀j:Nat,L[j]?=some true->L'[j]?=some true)(h1:L'[x.i]?=some true)(h2:∀m,asksD x.o m->L'[m]?=some true):MkD t (pre++[x]) L':=fun hp y hy=>by
 rcases List.mem_append.1 hy with hy|hy
 ·obtain⟨a,b⟩:=h ((List.prefix_append pre [x]).trans hp) y hy
  exact⟨hm _ a,fun m hm'=>hm _ (b m hm')⟩
 ·simp at hy
  subst hy
  exact⟨h1,h2⟩
structure NdI (t:Tr) (w:World) (iv sv:Value) (n:Nat) (L:List Bool) (W:World):Prop where
 ln:L.length=n
 nb:W.heap[w.heap.size+1]?=some (nbo L)
 tb:W.heap[w.heap.size]?=some (trb t iv sv)
 nc:W.heap[w.heap.size+1+1]?=some (.cells #[.slice (some ⟨w.heap.size+1,0,none⟩) n n] 165)
 ac:W.heap[w.heap.size+1+1+1]?=some (.cells #[.func (.func 136) #[] #[.pointer (some ⟨w.heap.size+1+1,0,none⟩)]] 207)
 bl:Below w.heap.size w W
theorem cells_own'{B k:Nat}{A C:World}{row:Option Nat}{c:Array Value}{e:TypeId}(h:A.heap[k]?=some (.cells c e))(hg:A.grownBy C row)(hr:∀r,row=some r->B<=r/\∃o:Obj,A.heap[r]?=some o/\o.isCells=false):C.heap[k]?=some (.cells c e):=(cells_ownFrom (β:=Unit) c e) () A C row h hg hr
section
variable {t:Tr} {w:World} {iv sv:Value} {n:Nat} {L:List Bool} {W W':World}
theorem ndI_own{B:Nat}(hB:w.heap.size<=B):OwnFrom B (fun(pre:List (ItD t)) W=>∃L,MkD t pre L/\NdI t w iv sv n L W):=fun pre A C row hs hg hr=>by
 obtain⟨L,h0,h1,h2,h4,h5,h6,h7⟩:=hs
 exact⟨L,h0,h1,cells_own' h2 hg hr,cells_own' h4 hg hr,cells_own' h5 hg hr,cells_own' h6 hg hr,(ownFrom_below (β:=Unit) (Nat.le_refl _) hB) () A C row h7 hg hr⟩
theorem NdI.on(h:NdI t w iv sv n L W)(hb:Below W.heap.size W W'):NdI t w iv sv n L W':=⟨h.ln,block_below hb h.nb,block_below hb h.tb,block_below hb h.nc,block_below hb h.ac,ext_trans h.bl hb⟩
theorem NdI.kept{L':List Bool}(h:NdI t w iv sv n L W)(hk:Keeps (fun q=>q=w.heap.size+1) W W')(hl:L'.length=n)(hn:W'.heap[w.heap.size+1]?=some (nbo L')):NdI t w iv sv n L' W' :=
 ⟨hl,hn,(hk.block _ (block_lt h.tb) (by omega)).trans h.tb,(hk.block _ (block_lt h.nc) (by omega)).trans h.nc,(hk.block _ (block_lt h.ac) (by omega)).trans h.ac,(Keeps.of_below h.bl |>.trans hk).below (Nat.le_refl _) (fun k hk e=>by omega)⟩
end
structure Rk (w:World) (Bt:Nat) (W0 W W':World):Prop where
 a:KeepsFrom W0.heap.size W W'
 b:Kept w.heap.size Bt W W'
theorem Rk.trans{w W0 A B C:World}{Bt:Nat}(h:Rk w Bt W0 A B)(k:Rk w Bt W0 B C):Rk w Bt W0 A C:=⟨h.a.trans k.a,h.b.trans k.b⟩
theorem Rk.below{w W0 W W':World}{Bt:Nat}(h:Below W.heap.size W W')(hw:w.heap.size<=W.heap.size)(hB:Bt<W.heap.size):Rk w Bt W0 W W' :=
 ⟨⟨h.size,fun k o _ hk _=>(h.block k (Array.getElem?_eq_some_iff.1 hk).1).trans hk⟩,h.mono hw,h.block _ hB⟩
theorem Rk.kept{w W0 W W':World}{Bt:Nat}(hk:Keeps (fun q=>q=w.heap.size+1) W W')(hw:w.heap.size<=W.heap.size)(hB:Bt<W.heap.size)(h0:w.heap.size+1<W0.heap.size)(h1:w.heap.size+1<Bt):Rk w Bt W0 W W' :=
 ⟨⟨hk.size,fun k o hB hk' _=>(hk.block k (Array.getElem?_eq_some_iff.1 hk').1 (by omega)).trans hk'⟩,⟨hk.os,hk.tape,hk.output,hk.size,fun k hk'=>hk.block k (by omega) (by omega)⟩,hk.block _ hB (by omega)⟩
end
section
variable [DecidableEq Vl]
theorem OwnR.max{W:World}{g:Nat}{e:TypeId}{sz n cap:Nat}{xs:List Value}(h:OwnR W g e sz n cap xs):n<=maxLen:=by
 obtain⟨_,_,_,h1,h2,_⟩:=h
 omega
theorem OwnR.row{W:World}{g cap:Nat}{xs:List Vl}(hO:OwnR W g 25 3 xs.length cap (flat xs)):Row W.heap.size W (.slice (some ⟨g,0,none⟩) xs.length cap) xs:=by
 refine⟨some ⟨g,0,none⟩,cap,rfl,hO.max,fun _=>⟨g,0,rfl,hO.lt,fun j x hx=>?_⟩⟩
 obtain⟨e0,e1,e2⟩:=flat_at' hx
 rw[Nat.zero_add]
 exact⟨(hO.cell e0).1,(hO.cell e1).1,(hO.cell e2).1⟩
end
end Go.Proofs.YthljpnmhddfblaaGreatDoor
