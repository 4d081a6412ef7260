import Derived.Test.YtomniogfpfbolaaGreatDoorS28
import Derived.RangeFuncNested
import Derived.RangeFuncBound
import Derived.OwnWalkIn
import Derived.LoopNIn
import Derived.LoopIn
namespace Go.Proofs.YtomniogfpfbolaaGreatDoor
open Go.RowKit Go.Shelf Go
set_option maxRecDepth 100000
set_option maxHeartbeats 8000000
set_option linter.all false
variable {m Bt B k uc fm:Nat} {w W W' w0:World} {e:Ending} {β α:Type} {tm:Array Value} {u:Nd} {ub:Option Addr} {O:Nat->Prop} {bl:List (List Lc)}
section
attribute [local go_sem] Oper.semAt_some
def Kept (m Bt:Nat) (W W':World):Prop:=Below m W W'/\W'.heap[Bt]?=W.heap[Bt]?
theorem Kept.refl(m Bt:Nat)(W:World):Kept m Bt W W:=⟨bz0,rfl⟩
theorem Kept.trans{A B C:World}(h:Kept m Bt A B)(k:Kept m Bt B C):Kept m Bt A C:=⟨h.1.trans k.1,k.2.trans h.2⟩
theorem Kept.putObj(hn:m<=w.heap.size)(hB:Bt<w.heap.size)(W:World)(l:Nat)(o o':Obj)(hl:w.heap.size<=l)(h:W.heap[l]?=some o)(h1:o.isCells=false)(h2:o.isWalk=false):Kept m Bt W (W.putObj l o') :=
 ⟨belowK_b hn W l o o' hl h h1 h2,World.putObj_heap_other (by omega)⟩
theorem b2t(h:Bw W W')(hm:m<=W.heap.size)(hB:Bt<W.heap.size):Kept m Bt W W':=⟨h.mono hm,h.block Bt hB⟩
theorem a8f(h:Bw W W'):KeepsFrom B W W':=⟨h.size,fun k _ _ z _=>(h.block k (Array.getElem?_eq_some_iff.1 z).1).trans z⟩
theorem c8j{A B:Prop}(h:(e=.returned (.bool true)/\A)\/(e=.returned (.bool false)/\B)):∃bb:Bool,e=.returned (.bool bb)/\((bb=true/\A)\/(bb=false/\B)):=by
 rcases h with⟨rfl,h⟩|⟨rfl,h⟩
 ·exact⟨true,rfl,.inl ⟨rfl,h⟩⟩
 ·exact⟨false,rfl,.inr ⟨rfl,h⟩⟩
theorem b4l{α:Type}{zs:List α}{x:α}(h:zs[k]?=some x):zs.take (k+1)=zs.take k++[x]:=by
 rw[List.take_add_one,h];rfl
theorem b6m{α:Type}{zs:List α}{x:α}(h:zs[k]?=some x):zs.take k++[x] <+: zs:=by
 rw[<- b4l h];exact List.take_prefix _ _
theorem a3o{B':Nat}(o:Obj)(h:B<B'):OwnFrom B' (fun(_:β) W=>W.heap[B]?=some o):=fun _ _ _ _ z x y =>
 (x.block B (Array.getElem?_eq_some_iff.1 z).1 (fun e=>by have:=(y _ e.symm).1;omega)).trans z
theorem b4m:OwnFrom B (fun(_:β) W=>k<=W.heap.size):=fun _ _ _ _ z y _=>Nat.le_trans z y.size
theorem a8g{D:Nat}{o o':Obj}(h:W.heap[B]?=some o)(hne:B≠D):(W.putObj D o').heap[B]?=some o:=(World.putObj_heap_other hne).trans h
abbrev itv {α:Type} (fi fq:α->Nat) (x:α):Array Value:=#[vi (fi x:Nat),mp (fq x)]
theorem b8b(fi fq:α->Nat)(n:Nat)(l Bt m gb c1:Nat)(zs:List α)(hlen:zs.length<=100000)(hb:gb<m)(a:Option Addr)(ha:zs≠[]->a=some (Ad gb 0))(J Jx:List α->World->Prop)(hY:∀pre x W,J pre W->pre.length<zs.length->YieldAt Fence.wide (n-1) Tryz.prog l (itv fi fq x) W fun e W' =>
   (e=.returned (.bool true)/\J (pre++[x]) W'/\Kept m Bt W W')\/(e=.returned (.bool false)/\Jx (pre++[x]) W')) (W:World) (hbt:W.heap[Bt]?=some (.cells #[.slice a zs.length c1] 109)) (hc:∀(k:Nat) (x:α),zs[k]?=some x->W.cell? (Ad gb (fi x))=some (mp (fq x))) (hx1:∀(k:Nat) (x:α),zs[k]?=some x->fi x+k+1=zs.length) (h0:J [] W) :
  CallsIn Fence.wide n Tryz.prog 179 #[.func (.yield l) #[] #[],Po Bt 0] W fun e W'=>(∃v,e=.returned v) /\
   ((∃ys,ys=zs/\J ys W')\/(∃pre,pre <+: zs/\Jx pre W')):=by
 have hk0:W.cell? (Ad Bt 0)=some (.slice a zs.length c1):=by simp[World.cell?,hbt]
 obtain⟨L,hL⟩:=exq (zs.length)
 rw[hL]at hk0 hbt hlen
 replace hL:Hid _:=hL
 refine callsIn_of_wp Tryz.func179 rfl trivial ?_ rfl
 simp only[Tryz.ntmps179,List.size_toArray,List.length_cons,List.length_nil,Nat.reduceAdd,Nat.reduceSub,Array.replicate_succ,Array.replicate_zero,List.push_toArray,List.append_toArray,List.nil_append,List.cons_append]
 gi_wp2
 gi_loopw [3] (fun i wr=>∃k:Nat,k<=L/\i=vi ((L:Int)-1-k)/\J (zs.take k) wr/\Kept m Bt W wr/\W.heap.size<=wr.heap.size)
  (fun i _=>(intOf i+1).toNat)
 case atStart=>exact⟨0,Nat.zero_le _,by go_num,h0,Kept.refl _ _ _,Nat.le_refl _⟩
 case round =>
  obtain⟨k,hk,rfl,hJs,hnx,hsz⟩:=hrel
  by_cases hlt:k<L
  ·obtain⟨x,hx⟩:∃x,zs[k]?=some x:=⟨zs[k]'(by have:=hL.out;omega),by simp⟩
   obtain rfl:=ha (fun e=>by rw[e]at hx;simp at hx)
   have hxe:=hx1 k x hx
   have hxc:=(hnx.1.cell (p:=(Ad gb (fi x))) hb).trans (hc k x hx)
   have hi:(L:Int)-1-k=(fi x:Int):=by have:=hL.out;omega
   have hi0:(0:Int)<=(fi x:Int):=by omega
   have hi1:(fi x:Int)<(L:Int):=by omega
   have hq0:wr.cell? (Ad Bt 0)=some (.slice (some (Ad gb 0)) L c1):=by simp[World.cell?,hnx.2,hbt]
   obtain⟨fn,tmps,assign,body,hy,hR⟩:=hY _ x wr hJs (by have:=hL.out;simp;omega)
   rw[hi]
   clear hY hk0
   gi_wp2_with (refine⟨fun h=>by simp[Fence.wide]at h,?_⟩;refine hR.mono ?_;intro e W3 hW3;obtain⟨bb,rfl,hbb⟩:=c8j hW3;clear hW3)
   ·rcases hbb with⟨rfl,hJ3,hk3⟩|⟨rfl,hJx3⟩
    ·simp_all
    ·refine bodyPost_ret (results_none rfl _ _ _) rfl ?_
     exact⟨⟨_,rfl⟩,.inr ⟨_,b6m hx,hJx3⟩⟩
   case roundEnd =>
    rcases hbb with⟨rfl,hJ3,hk3⟩|⟨rfl,hJx3⟩
    ·refine⟨⟨k+1,by omega,by rw[<- hi];congr 1;omega,by rw[b4l hx];exact hJ3,hnx.trans hk3,Nat.le_trans hsz hk3.1.size⟩,by simp[intOf]⟩
    ·simp_all
  ·obtain rfl:k=L:=by omega
   have hi:(k:Int)-1-k=-1:=by omega
   rw[hi]
   gi_wp2
   go_end0
   exact⟨⟨_,rfl⟩,.inl ⟨_,by rw[<- hL.out];simp,hJs⟩⟩
def b0w:List Nat->List (Nat×Nat)
 | []=>[]
 | q::ms=>(ms.length,q)::b0w ms
theorem b4n:∀z,(b0w z).length=z.length
 | []=>rfl
 | q::z=>by rw[b0w,List.length_cons,List.length_cons,b4n z]
theorem b4o:∀{z:List Nat} {k:Nat} {x:Nat×Nat},(b0w z)[k]?=some x->x.1+k+1=z.length/\z[k]?=some x.2
 | [],k,x,h=>by simp[b0w]at h
 | q::z,0,x,h=>by
  simp[b0w]at h
  subst h
  simp
 | q::z,k+1,x,h=>by
  rw[b0w,List.getElem?_cons_succ]at h
  obtain⟨h1,h2⟩:=b4o h
  exact⟨by simp;omega,by simpa using h2⟩
theorem b9z(fi fq:α->Nat)(n:Nat)(Bt m gb c1:Nat)(ms:List Nat)(zs:List α)(hzs:zs.map (fun x=>(fi x,fq x))=b0w ms)(hlen:ms.length<=100000)(a:Option Addr)(ha:ms≠[]->a=some (Ad gb 0)/\gb<m)(w:World)(hB:Bt<w.heap.size)(hm:m<=Bt)(hbt:w.heap[Bt]?=some (.cells #[.slice a ms.length c1] 109))(hc:∀j q,(ms.reverse.map mp)[j]?=some q->w.cell? (Ad gb j)=some q) :
  SeqStopsK Fence.wide n Tryz.prog 179 #[Po Bt 0] (itv fi fq) (Kept m Bt) (fun o=>o=zs) (fun pre=>pre <+: zs) zs.length w:=fun l J r W t g _ i s=>by
 have z:W.heap[Bt]?=some (.cells #[.slice a ms.length c1] 109):=(t.block Bt hB).trans hbt
 have y:zs.length=ms.length:=by rw[<- b4n,<- hzs,List.length_map]
 by_cases hz:ms=[]
 ·subst hz
  have:zs=[]:=List.length_eq_zero_iff.1 y
  subst this
  refine b8b fi fq n l Bt (gb+1) gb c1 [] (by simp) (by omega) a (fun h=>absurd rfl h) J r ?_ W z (by simp) (by simp) s
  intro pre x W _ h
  simp at h
 ·obtain⟨rfl,u⟩:=ha hz
  have key:∀(k:Nat) (x:α),zs[k]?=some x->fi x+k+1=ms.length/\ms[k]?=some (fq x):=fun k x v=>by
   have:(b0w ms)[k]?=some (fi x,fq x):=by rw[<- hzs,List.getElem?_map,v];rfl
   exact b4o this
  refine b8b fi fq n l Bt m gb c1 zs (by omega) u _ (fun _=>rfl) J r i W (by rw[y];exact z) (fun k x v=>?_) (fun k x v=>by rw[y];exact(key k x v).1) s
  obtain⟨h1,h2⟩:=key k x v
  refine(t.cell (p:=(Ad gb (fi x))) (show gb<w.heap.size by omega)).trans (hc _ _ ?_)
  rw[List.getElem?_map,List.getElem?_reverse (by omega)]
  rw[show ms.length-1-fi x=k by omega,h2]
  rfl
theorem b6n(n:Nat)(v:Value)(a:Option Addr)(k c:Nat)(hv:v=.slice a k c)(w:World) :
  CallsIn Fence.wide n Tryz.prog 176 #[v] w fun e z=>e=.returned (.func (.func 179) #[] #[Po w.heap.size 0])/\z=w.alloc (.cells #[v] 109):=by
 subst hv
 refine callsIn_of_wp Tryz.func176 rfl trivial ?_ rfl
 simp only[Tryz.ntmps176,List.size_toArray,List.length_cons,List.length_nil,Nat.reduceAdd,Nat.reduceSub,Array.replicate_succ,Array.replicate_zero,List.push_toArray,List.append_toArray,List.nil_append,List.cons_append]
 gi_wp2
 go_ret
 exact⟨rfl,rfl⟩
end
section
attribute [local go_sem] Oper.semAt_some
abbrev lbx (i:Nat) (fx:Bool):Obj:=.cells #[vi (i:Nat),.bool fx] 216
theorem d0g{C:Nat}{i:Nat}{fx ok:Bool}(h:tm[4]?.getD undef=Po B 0)(h':tm[5]?.getD undef=Po C 0)(hx:W.heap[B]?=some (lbx i fx))(hy:W.heap[C]?=some (.cells #[.bool ok] 4)):(results Tryz.f168 tm).run Tryz.prog W=.ok (.tuple #[lcv i fx,.bool ok]) W:=by
 have c0:Ce W B 0 (vi (i:Nat)):=q2z hx rfl
 have c1:Ce W B 1 (.bool fx):=q2z hx rfl
 have z:Ce W C 0 (.bool ok):=q2z hy rfl
 simp[results,Tryz.results168,go_sem,h,h',c0,c1,z]
structure It (w:World) where
 i:Nat
 q:Nat
 b:List Lc
 n:Nat
 hq:w.heap[q]?=some (a0f sk (kvB n b))
 nd:(b.map Lc.nm).Nodup
theorem b8c{w:World} : ∀{v:List Nat} {bl:List (List Lc)},a7b w v bl->NB bl->∃y:List (It w),y.map (fun x=>(x.i,x.q))=b0w v/\y.map It.b=bl/\∀(k:Nat) (x:It w),y[k]?=some x->x.n=sumL (bl.drop (k+1))
 | [],[],_,_=>⟨[],rfl,rfl,by simp⟩
 | q::v,b::r,h,hN=>by
  obtain⟨y,h1,h2,h3⟩:=b8c h.2 (fun c u=>hN c (by simp[u]))
  refine⟨⟨v.length,q,b,sumL r,h.1,hN b (by simp)⟩::y,by rw[List.map_cons,h1];rfl,by rw[List.map_cons,h2],fun k x z=>?_⟩
  match k,z with
  | 0,z=>simp at z;subst z;simp
  | k+1,z=>simpa using h3 k x (by simpa using z)
 | [],_::_,h,_=>h.elim
 | _::_,[],h,_=>h.elim
theorem b4p{s:List UInt8} : ∀{bl:List (List Lc)},(∀b∈bl,b.findIdx? (fun x=>x.nm == s)=none)->findL s bl=none
 | [],_=>rfl
 | b::r,h=>by rw[findL,h b (by simp)];exact b4p (fun c z=>h c (by simp[z]))
theorem b8d{s:List UInt8} : ∀{pre:List (List Lc)} {b:List Lc} {r:List (List Lc)} {i:Nat},(∀c∈pre,c.findIdx? (fun x=>x.nm == s)=none)->b.findIdx? (fun x=>x.nm == s)=some i->findL s (pre++b::r)=some (sumL r+i,(b[i]?.map Lc.fx).getD false)
 | [],b,r,i,_,h=>by rw[List.nil_append,findL,h]
 | c::pre,b,r,i,hp,h=>by rw[List.cons_append,findL,hp c (by simp)];exact b8d (fun d hd=>hp d (by simp[hd])) h
theorem d2y(n:Nat)(h3:3<=n)(w0:World)(B:Nat)(u:Nd)(ub:Option Addr)(uc fm:Nat)(O:Nat->Prop)(sl:List Int)(bl:List (List Lc))(lv:Nat)(s:List UInt8)(w:World)(h:Ck w0 B u ub uc fm O sl bl lv w)(hNB:NB bl)(hlen:bl.length<=100000) :
  CallsIn Fence.wide n Tryz.prog 168 #[Po B 0,sk s] w fun e w'=>e=.returned (b0v s bl)/\Bw w w':=by
 have h1:1<=n:=by omega
 have x1:1<=n-1:=by omega
 obtain⟨⟨sb,sc,bb,bc,ms,g1,g2,g3,g4,g5,g6,g7,g8⟩,hB,hO,_,_,_⟩:=h
 have y2:=g4.len
 have x7:=(hO B hB).2
 have c6:w.cell? (Ad B 6)=some (.slice bb bl.length bc):=q2z g1 rfl
 have z8:Bw w (((w.alloc (.cells #[sk s] 9)).alloc (lbx 0 false)).alloc (.cells #[.bool false] 4)):=q1z (q1z (q1z bz0 _) _) _
 obtain⟨W1,f⟩:=exq (((w.alloc (.cells #[sk s] 9)).alloc (lbx 0 false)).alloc (.cells #[.bool false] 4))
 have z2:W1.heap.size=w.heap.size+3:=by rw[<- f];simp
 have k1:W1.heap[w.heap.size]?=some (.cells #[sk s] 9):=by rw[<- f];exact q4z _ (q4z _ (a0a w _))
 have k2:W1.heap[w.heap.size+1]?=some (lbx 0 false):=by
  have:=q4z (.cells #[.bool false] 4) (a0a (w.alloc (.cells #[sk s] 9)) (lbx 0 false))
  rw[World.size_alloc]at this
  rw[<- f];exact this
 have k3:W1.heap[w.heap.size+1+1]?=some (.cells #[.bool false] 4):=by
  have:=a0a ((w.alloc (.cells #[sk s] 9)).alloc (lbx 0 false)) (.cells #[.bool false] 4)
  simp only[World.size_alloc]at this
  rw[<- f];exact this
 have x4:W1.cell? (Ad B 6)=some (.slice bb bl.length bc):=by rw[<- f];exact(z8.cell (p:=(Ad B 6)) x7).trans c6
 rw[f]at z8
 refine callsIn_of_wp_marks Tryz.func168 rfl trivial ?_ rfl
 simp only[Tryz.ntmps168,List.size_toArray,List.length_cons,List.length_nil,Nat.reduceAdd,Nat.reduceSub,Array.replicate_succ,Array.replicate_zero,List.push_toArray,List.append_toArray,List.nil_append,List.cons_append]
 replace f:((w.alloc (.cells #[sk s] 9)).alloc (.cells #[vi 0,.bool false] 216)).alloc (.cells #[.bool false] 4)=W1:=f
 gi_wp2_with (refine⟨trivial,?_⟩;gi_at_call 176;refine(b6n _ _ _ _ _ rfl _).mono ?_;rintro e w' ⟨rfl,rfl⟩)
 have z4:Bw w (W1.alloc (.cells #[.slice bb bl.length bc] 109)):=q3z z8 (q1z bz0 _)
 obtain⟨W0,d⟩:=exq (W1.alloc (.cells #[.slice bb bl.length bc] 109))
 have x2:W0.heap.size=w.heap.size+4:=by rw[<- d,World.size_alloc,z2]
 have x9:W0.heap[w.heap.size+3]?=some (.cells #[.slice bb bl.length bc] 109):=by
  have:=a0a W1 (.cells #[.slice bb bl.length bc] 109)
  rw[z2]at this
  rw[<- d];exact this
 replace k1:W0.heap[w.heap.size]?=some (.cells #[sk s] 9):=by rw[<- d];exact q4z _ k1
 replace k2:W0.heap[w.heap.size+1]?=some (lbx 0 false):=by rw[<- d];exact q4z _ k2
 replace k3:W0.heap[w.heap.size+1+1]?=some (.cells #[.bool false] 4):=by rw[<- d];exact q4z _ k3
 rw[d]at z4⊢
 clear d c6 x4 f z8
 obtain⟨gb,y1,z7⟩:∃gb,(ms≠[]->bb=some (Ad gb 0)/\gb<w.heap.size)/\∀j q,(ms.reverse.map mp)[j]?=some q->w.cell? (Ad gb j)=some q:=by
  rcases g3.2 with⟨e,h0⟩|⟨g,cap,x5,e,_,hg,x3,_,_,ht⟩
  ·have:ms=[]:=List.length_eq_zero_iff.1 (by omega)
   subst this
   exact⟨0,fun h=>absurd rfl h,by simp⟩
  ·cases e
   refine⟨g,fun _=>⟨rfl,q5z hg⟩,fun j q hq=>?_⟩
   have w9:j<ms.length:=by simpa using(List.getElem?_eq_some_iff.1 hq).1
   rw[<- ht,List.getElem?_take_of_lt (by omega)]at hq
   have y0:x5[j]?=some q:=by simpa using hq
   simp[World.cell?,hg,y0]
 obtain⟨zs,y7,z3,y8⟩:=b8c g4 hNB
 refine wpIn_rangeFunc_ownH rfl h1 (gf:=179) (lb:=#[Po (w.heap.size+3) 0]) rfl trivial (enters_of Tryz.func179 (by kernel_rfl) rfl)
  (b9z It.i It.q (n-1) (w.heap.size+3) w.heap.size gb bc ms zs y7 (by omega) bb y1 W0 (by omega) (by omega) (by rw[y2];exact x9) (fun j q hq=>(z4.cell (p:=(Ad gb j)) (World.block_lt_of_cell? _ _ (z7 j q hq))).trans (z7 j q hq))) (fun h k=>h.trans k) (Kept.putObj (by omega) (by omega)) bz0 (fun _=>rfl)
  (fun(pre:List (It w)) W=>((∀p∈pre,p.b.findIdx? (fun x=>x.nm == s)=none)/\W0.heap.size<=W.heap.size/\W.heap[w.heap.size]?=some (.cells #[sk s] 9)/\W.heap[w.heap.size+1]?=some (lbx 0 false)/\W.heap[w.heap.size+1+1]?=some (.cells #[.bool false] 4))/\Bw w W)
  (fun c (pre:List (It w)) W=>(c=.ret/\(∃y:Nat×Bool,(∃t x i,pre=t++[x]/\(∀p∈t,p.b.findIdx? (fun x=>x.nm == s)=none)/\x.b.findIdx? (fun x=>x.nm == s)=some i/\y=(x.n+i,(x.b[i]?.map Lc.fx).getD false))/\W.heap[w.heap.size+1]?=some (lbx y.1 y.2)/\W.heap[w.heap.size+1+1]?=some (.cells #[.bool true] 4)))/\Bw w W)
  (OwnFrom.and (OwnFrom.and (ownFrom_pure _ _) (OwnFrom.and b4m (OwnFrom.and (a3o _ (by omega)) (OwnFrom.and (a3o _ (by omega)) (a3o _ (by omega)))))) (ownFrom_below (Nat.le_refl _) (by omega)))
  (fun c=>OwnFrom.and (fun s A B row hs hg hr=>by obtain⟨e1,y,e2,e3,e4⟩:=hs;exact⟨e1,y,e2,(a3o (β:=Unit) _ (by omega)) () A B row e3 hg hr,(a3o (β:=Unit) _ (by omega)) () A B row e4 hg hr⟩) (ownFrom_below (Nat.le_refl _) (by omega)))
  ⟨⟨by simp,Nat.le_refl _,k1,k2,k3⟩,z4⟩
  (fun x q W=>q={ tmps:=#[Po B 0,sk s,undef,Po w.heap.size 0,Po (w.heap.size+1) 0,Po (w.heap.size+1+1) 0,undef,mp x.q,undef,undef,Po B 0,Po B 0,Po B 6,.slice bb bl.length bc,.func (.func 179) #[] #[Po (w.heap.size+3) 0],   vi (x.i:Nat),mp x.q,undef,undef,undef,undef,undef,undef,undef,undef,undef],defers:=[] })
  (fun x q=>fun _ A B row hs hg hr=>hs)
  ?assign ?body ?done ?stop
 case assign =>
  rintro l pre x W K hJ hK
  gi_wp2
  exact hK _ _ (KeepsFrom.refl _ _) (Kept.refl _ _ _) hJ rfl
 case body =>
  rintro l pre x q W hl ⟨r,hr⟩ ⟨⟨hp,hz,k1,k2,k3⟩,hB⟩ rfl x0
  clear hr
  obtain⟨xi,xq,b,xn,hq,y3⟩:=x
  simp only
  have y6:W.heap[xq]?=some (a0f sk (kvB xn b)):=(hB.block _ (q5z hq)).trans hq
  have y4:((kvB xn b).map (·.1)).Nodup:=by rw[b7w];exact y3
  have v:=a5m (P:=Tryz.prog) (T:=175) (K:=9) (E:=216) (by kernel_rfl) (by kernel_rfl) a1j y6 y4 (z:=.agg #[vi 0,.bool false]) (by kernel_rfl) s true
  rw[b2r]at v
  have p0:W.cell? (Ad w.heap.size 0)=some (sk s):=q2z k1 rfl
  have a0:∀o,(W.alloc o).cell? (Ad (w.heap.size+1) 0)=some (vi 0):=fun o=>q2z (q4z o k2) rfl
  have a1:∀o,(W.alloc o).cell? (Ad (w.heap.size+1) 1)=some (.bool false):=fun o=>q2z (q4z o k2) rfl
  have a2:∀o,(W.alloc o).cell? (Ad (w.heap.size+1+1) 0)=some (.bool false):=fun o=>q2z (q4z o k3) rfl
  have e0:∀o,(W.alloc o).frozen? (Ad (w.heap.size+1) 0)=false:=fun o=>q6z (q4z o k2)
  have e1:∀o,(W.alloc o).frozen? (Ad (w.heap.size+1) 1)=false:=fun o=>q6z (q4z o k2)
  have e2:∀o,(W.alloc o).frozen? (Ad (w.heap.size+1+1) 0)=false:=fun o=>q6z (q4z o k3)
  rename_i Kd ad
  clear ad Kd
  have y9:∀o,Bw w (W.alloc o):=fun o=>hB.alloc (by omega) o
  cases hf:b.findIdx? (fun x=>x.nm == s) with
  | none =>
   rw[hf]at v
   simp only[Option.map_none,Option.getD_none,Option.isSome_none,if_true]at v
   clear a0 a1 a2 e0 e1 e2
   gi_wp2
   have z5:=q1z (Below.refl W.heap.size W) (.cells #[vi 0,.bool false] 216)
   exact⟨a8f z5,b2t z5 (by omega) (by omega),⟨fun p hm=>(List.mem_append.1 hm).elim (hp p) (fun e'=>by simp at e';subst e';exact hf),Nat.le_trans hz z5.size,q4z _ k1,q4z _ k2,q4z _ k3⟩,y9 _⟩
  | some i =>
   rw[hf]at v
   simp only[Option.map_some,Option.getD_some,Option.isSome_some,if_true]at v
   obtain⟨fx,z1⟩:=exq ((b[i]?.map Lc.fx).getD false)
   rw[z1]at v
   gi_wp2
   refine⟨⟨by simp,fun k o hk ho _=>?_⟩,⟨rfl,(xn+i,fx),⟨pre,_,i,rfl,hp,hf,by rw[z1]⟩,?_,?_⟩,?_⟩
   ·exact(q8z _ _ (by omega)).trans ((q8z _ _ (by omega)).trans ((q8z _ _ (by omega)).trans (q4z _ ho)))
   ·exact(q8z _ _ (by omega)).trans (q7z (i:=1) _ (q7z (i:=0) _ (q4z _ k2)))
   ·exact q7z (i:=0) _ ((q8z _ _ (by omega)).trans ((q8z _ _ (by omega)).trans (q4z _ k3)))
   ·exact(((y9 _).setCell (p:=(Ad (w.heap.size+1) 0)) (by simp) _).setCell (p:=(Ad (w.heap.size+1) 1)) (by simp) _).setCell (p:=(Ad (w.heap.size+1+1) 0)) (by simp;omega) _
 case done =>
  rintro D ys W hD rfl ⟨⟨hp,hz,k1,k2,k3⟩,hB⟩ hK
  have a0:W.cell? (Ad (w.heap.size+1) 0)=some (vi 0):=q2z k2 rfl
  have a1:W.cell? (Ad (w.heap.size+1) 1)=some (.bool false):=q2z k2 rfl
  have a2:W.cell? (Ad (w.heap.size+1+1) 0)=some (.bool false):=q2z k3 rfl
  have e0:W.frozen? (Ad (w.heap.size+1) 0)=false:=q6z k2
  have e1:W.frozen? (Ad (w.heap.size+1) 1)=false:=q6z k2
  have e2:W.frozen? (Ad (w.heap.size+1+1) 0)=false:=q6z k3
  gi_wp2
  have z0:∀(a b c:Value),(((W.setCell (Ad (w.heap.size+1) 0) a).setCell (Ad (w.heap.size+1) 1) b).setCell (Ad (w.heap.size+1+1) 0) c).heap[D]?=some (.deferred (some [])):=fun a b c=>(q8z _ _ (by omega)).trans ((q8z _ _ (by omega)).trans ((q8z _ _ (by omega)).trans hK))
  have x6:∀(a b c:Value),Bw w (((W.setCell (Ad (w.heap.size+1) 0) a).setCell (Ad (w.heap.size+1) 1) b).setCell (Ad (w.heap.size+1+1) 0) c):=fun a b c=>((hB.setCell (p:=(Ad (w.heap.size+1) 0)) (by simp) _).setCell (p:=(Ad (w.heap.size+1) 1)) (by simp) _).setCell (p:=(Ad (w.heap.size+1+1) 0)) (by simp;omega) _
  refine⟨by simp,.inl ⟨_,_,rfl,run_takeDeferred (z0 _ _ _),?_⟩⟩
  refine⟨_,d0g (i:=0) (fx:=false) (ok:=false) rfl rfl (a8g ((q8z _ _ (by omega)).trans (q7z (i:=1) _ (q7z (i:=0) _ k2))) (by omega)) (a8g (q7z (i:=0) _ ((q8z _ _ (by omega)).trans ((q8z _ _ (by omega)).trans k3))) (by omega)),?_,(x6 _ _ _).trans (belowK_b (w:=w) (Nat.le_refl _) _ D _ _ (by omega) (z0 _ _ _) rfl rfl)⟩
  have z9:=b4p (s:=s) (bl:=bl) (fun b hb=>by rw[<- z3]at hb;obtain⟨p,y5,rfl⟩:=List.mem_map.1 hb;exact hp p y5)
  rw[b0v,z9]
 case stop =>
  rintro D c pre W hD z6 ⟨⟨rfl,y,⟨t,x,i,rfl,hi,hx,rfl⟩,k2,k3⟩,hB⟩ hK
  gi_wp2
  refine⟨by simp,.inl ⟨_,_,rfl,run_takeDeferred hK,?_⟩⟩
  refine⟨_,d0g rfl rfl (a8g k2 (by omega)) (a8g k3 (by omega)),?_,hB.trans (belowK_b (w:=w) (Nat.le_refl _) _ D _ _ (by omega) hK rfl rfl)⟩
  have x8:bl=t.map It.b++x.b::bl.drop (t.length+1):=by
   obtain⟨rr,hr⟩:=z6
   have e:bl=t.map It.b++x.b::rr.map It.b:=by rw[<- z3,<- hr];simp
   have e2:bl.drop (t.length+1)=rr.map It.b:=by
    rw[e,List.drop_append]
    simp
   rw[e2]
   exact e
  have hn:x.n=sumL (bl.drop (t.length+1)):=y8 t.length x (by
   obtain⟨rr,hr⟩:=z6
   rw[<- hr]
   simp)
  have z9:=b8d (s:=s) (r:=bl.drop (t.length+1)) (pre:=t.map It.b) (fun c hc=>by obtain⟨p,hp,rfl⟩:=List.mem_map.1 hc;exact hi p hp) hx
  rw[<- x8,<- hn]at z9
  rw[b0v,z9]
theorem b8e(w0:World)(B:Nat)(u:Nd)(ub:Option Addr)(uc fm:Nat)(O:Nat->Prop)(sl:List Int)(bl:List (List Lc))(lv:Nat)(s:List UInt8)(w:World)(h:Ck w0 B u ub uc fm O sl bl lv w)(hNB:NB bl)(hlen:bl.length<=100000) :
  Cl 168 #[Po B 0,sk s] w fun e z=>e=.returned (b0v s bl)/\Bw w z:=callsIn_wide.1 (d2y 3 (by omega) w0 B u ub uc fm O sl bl lv s w h hNB hlen)
end
def CQ (w0:World) (B:Nat) (u:Nd) (ub:Option Addr) (uc fm:Nat) (O:Nat->Prop) (W:World) (R:CR) (e:Ending) (W':World):Prop :=
 (∃c',R=.ok c'/\e=.returned (.tuple #[])/\∃O',Ck w0 B u ub uc fm O' c'.sl c'.bl (sumL c'.bl) W'/\CK O W O' W')\/(∃cd a,R=.error (cd,a)/\e=.panicked (pan (flt cd a))/\Bw w0 W')
theorem a7k(b:List Lc)(s:List UInt8):b.any (fun x=>x.nm == s)=(b.findIdx? (fun x=>x.nm == s)).isSome:=by
 induction b with
 | nil=>rfl
 | cons x l ih =>
  rw[List.any_cons,List.findIdx?_cons]
  cases hx:(x.nm == s) with
  | true=>simp
  | false =>
   rw[Bool.false_or,ih]
   simp only[Bool.false_eq_true,if_false]
   cases l.findIdx? (fun x=>x.nm == s) <;> rfl
theorem b8f{n:Nat}{b:List Lc}{s:List UInt8}(h:b.any (fun x=>x.nm == s)=false):(kvB n b).lookup s=none:=by
 rw[b2r]
 rw[a7k]at h
 cases hf:b.findIdx? (fun x=>x.nm == s) with
 | none=>rfl
 | some i=>rw[hf]at h;cases h
theorem declare_any(w0:World)(B:Nat)(u:Nd)(ub:Option Addr)(uc fm:Nat)(O:Nat->Prop)(sl:List Int)(b:List Lc)(r:List (List Lc))(lv:Nat)(s:List UInt8)(fx:Bool)(a:Nat)(W:World)(h:Ck w0 B u ub uc fm O sl (b::r) lv W)(hlv:lv=sumL (b::r))(hl30:lv<=30)(hr:r.length<=100000)(ha:a<sl.length)(hnd:(b.map Lc.nm).Nodup) :
  Cl 146 #[Po B 0,sk s,.bool fx,vi (a:Nat)] W (CQ w0 B u ub uc fm O W (declareC s fx a ⟨sl,b::r⟩)):=by
 have y5:Bw W W.drew:=bz0.drew
 have x3:=CK.below (O:=O) y5
 replace h:=h.on y5
 obtain⟨gb,bc,q,c6,f6,z4,w6,hc,w9,x0,w3,hq,_,_⟩:=h.top
 have x8:W.cell? (Ad B 6)=some (.slice (some (Ad gb 0)) (r.length+1) bc):=c6
 have x5:W.cell? (Ad gb r.length)=some (mp q):=hc
 obtain⟨n,hn⟩:=exq (r.length)
 obtain⟨N1,x4⟩:=exq (n+1)
 rw[hn]at c6 x8 hc x5 hr z4
 rw[x4]at c6 x8 z4
 have hw:IntKind.i64.wrap ((N1:Int)-1)=(n:Int):=by rw[IntKind.wrap_i64];omega
 have w7:(0:Int)<=(n:Int):=by omega
 have w8:(n:Int)<(N1:Int):=by omega
 have y8:((kvB (sumL r) b).map (·.1)).Nodup:=by rw[b7w];exact hnd
 have y:=a5m (P:=Tryz.prog) (T:=175) (K:=9) (E:=216) (by kernel_rfl) (by kernel_rfl) a1j hq y8 (z:=.agg #[vi 0,.bool false]) (by kernel_rfl) s true
 cases hany:b.any (fun x=>x.nm == s) with
 | true =>
  rw[b2r]at y
  rw[a7k]at hany
  obtain⟨i,hi⟩:=Option.isSome_iff_exists.1 hany
  rw[hi]at y
  simp only[Option.map_some,Option.getD_some,Option.isSome_some,if_true]at y
  obtain⟨lc,y9⟩:∃lc:Nat×Bool,(sumL r+i,(b[i]?.map Lc.fx).getD false)=lc:=⟨_,rfl⟩
  have z9:(Instr.lookup 175 (.map (some q)) (sk s) true).run Tryz.prog W.drew=.ok (.tuple #[.agg #[vi (lc.1:Nat),.bool lc.2],.bool true]) W.drew:=by rw[<- y9];exact y
  have hR:declareC s fx a ⟨sl,b::r⟩=.error (5,a):=by rw[<- a7k]at hany;simp[declareC,hany]
  rw[hR]
  have d:Hid (∀o,Bw w0 (W.drew.alloc o)):=fun o=>q3z h.bl (q1z bz0 o)
  clear y y9 hR hany hi
  go_enter Tryz.func146,Tryz.ntmps146
  go_wp2
  go_region_held3 (fun t=>t.cell? (Ad B 6)=some (.slice (some (Ad gb 0)) N1 bc)/\t.cell? (Ad gb n)=some (mp q)) (go_keep) (fail)
  go_wp2_with (go_at_call 83;refine(a5k _ _ _ _).mono ?_;rintro e w1 ⟨rfl,rfl⟩)
  exact⟨rfl,.inr ⟨5,a,rfl,rfl,d.out _⟩⟩
 | false =>
  rw[b8f hany]at y
  simp only[Option.getD_none,Option.isSome_none,if_true]at y
  have z9:(Instr.lookup 175 (.map (some q)) (sk s) true).run Tryz.prog W.drew=.ok (.tuple #[.agg #[vi 0,.bool false],.bool false]) W.drew:=y
  by_cases h30:30<=lv
  ·have hR:declareC s fx a ⟨sl,b::r⟩=.error (1,a):=by
    have e:(⟨sl,b::r⟩:Cs).live=lv:=hlv.symm
    simp only[declareC,hany,e]
    simp[h30]
   rw[hR]
   have d:Hid (∀o,Bw w0 (W.drew.alloc o)):=fun o=>q3z h.bl (q1z bz0 o)
   have c7:∀o,(W.alloc o).cell? (Ad B 7)=some (vi (lv:Nat)):=fun o=>(World.cell?_alloc_past _ _ _ h.lt).trans h.cells.2.2.1
   have y0:(30:Int)<=(lv:Int):=by omega
   clear y hR hany
   go_enter Tryz.func146,Tryz.ntmps146
   go_wp2
   go_region_held3 (fun t=>t.cell? (Ad B 6)=some (.slice (some (Ad gb 0)) N1 bc)/\t.cell? (Ad gb n)=some (mp q)) (go_keep) (fail)
   go_wp2_with (go_at_call 83;refine(a2x _ _ _ a _).mono ?_;rintro e w1 ⟨rfl,(⟨hw,rfl⟩|⟨hw,rfl⟩)⟩;(first|(exact absurd hw (by decide))|(exact⟨rfl,.inr ⟨1,a,rfl,rfl,d.out _⟩⟩)))
   simp at hw
   omega
  ·have y0:¬(30:Int)<=(lv:Int):=by omega
   have hR:declareC s fx a ⟨sl,b::r⟩=.ok ⟨sl.set a lv,(b++[⟨s,fx⟩])::r⟩:=by
    have e:(⟨sl,b::r⟩:Cs).live=lv:=hlv.symm
    simp only[declareC,hany,e]
    simp[h30]
   rw[hR]
   have z8:=q1z (Below.refl W.drew.heap.size W.drew) (.cells #[vi 0,.bool false] 216)
   have y2:=x3.trans (CK.below z8)
   have hV:=h.on z8
   have c7:∀o,(W.alloc o).cell? (Ad B 7)=some (vi (lv:Nat)):=fun o=>(World.cell?_alloc_past _ _ _ h.lt).trans h.cells.2.2.1
   obtain⟨v9,v3,q2,x9,_,_,_,y6,_,_,_,z0,_,l⟩:=hV.top
   have x6:q2=q:=by
    have e1:=(z8.cell (p:=(Ad B 6)) h.lt).symm.trans x9
    rw[c6]at e1
    simp only[Option.some.injEq,Value.slice.injEq,Addr.mk.injEq]at e1
    obtain⟨⟨rfl,_,_⟩,_,_⟩:=e1
    have e2:=(z8.cell (p:=(Ad gb n)) (World.block_lt_of_cell? _ _ hc)).symm.trans (hn▸y6)
    rw[hc]at e2
    simpa using e2.symm
   subst x6
   obtain⟨hP,z7⟩:=l ⟨s,fx⟩
   have w:=a9p (P:=Tryz.prog) (T:=175) (K:=9) (E:=216) (by kernel_rfl) (by kernel_rfl) a1j z0 y8 s (b8f hany) (lcv (sumL (b::r)) fx)
   obtain⟨c,z2⟩:∃c:World,{ W.drew.alloc (.cells #[vi 0,.bool false] 216)with heap:=(W.drew.alloc (.cells #[vi 0,.bool false] 216)).heap.setIfInBounds q2 (a0f sk (kvB (sumL r) b++[(s,lcv (sumL (b::r)) fx)])) }=c:=⟨_,rfl⟩
   rw[z2]at w
   simp only at hP z7
   rw[z2]at hP z7
   rw[<- hlv]at w
   have z6:sumL ((b++[⟨s,fx⟩])::r)=lv+1:=by rw[hlv,a0l,a0l];simp;omega
   have y1:=y2.trans z7
   have z3:Bw c c.drew:=bz0.drew
   have z1:=hP.on z3
   obtain⟨g,sc,c5,y7,w2,⟨xx,cx⟩,x2,z5⟩:=z1.slot ha
   obtain⟨hS,y4⟩:=z5 ((lv:Nat):Int)
   obtain⟨hF,y3⟩:=hS.live (lv+1)
   have v:=z1.cells
   have v5:c.cell? (Ad B 7)=some (vi (lv:Nat)):=v.2.2.1
   have v7:c.frozen? (Ad B 7)=false:=v.2.2.2
   have v4:c.cell? (Ad B 5)=some (.slice (some (Ad g 0)) sl.length sc):=c5
   have v6:c.cell? (Ad g a)=some (vi xx):=cx
   have v8:c.frozen? (Ad g a)=false:=x2
   have w4:(0:Int)<=(a:Int):=by omega
   have w5:(a:Int)<(sl.length:Int):=by omega
   have x1:¬B=g:=Ne.symm y7
   have f:∀(hh:True),(Instr.mapUpdate 175 (.map (some q2)) (sk s) (.agg #[vi (lv:Nat),.bool fx])).run Tryz.prog (W.alloc (.cells #[vi 0,.bool false] 216)).drew=.ok () c:=fun _=>w
   have x7:=f trivial
   have d:Hid (CQ w0 B u ub uc fm O W (.ok ⟨sl.set a lv,(b++[⟨s,fx⟩])::r⟩) (.returned (.tuple #[])) ((c.drew.setCell (Ad g a) (iv ((lv:Nat):Int))).setCell (Ad B 7) (vi ((lv+1:Nat):Int)))):=.inl ⟨_,rfl,rfl,O,by rw[z6];exact hF,y1.trans ((CK.below z3).trans (y4.trans y3))⟩
   clear hlv z6 y hR hany w f z2 hP z7 hF y3 hS y4 z5 z1 hV l x9 y6 z0 hq
   go_enter Tryz.func146,Tryz.ntmps146
   go_wp2
   go_region_held3 (fun t=>t.cell? (Ad B 6)=some (.slice (some (Ad gb 0)) N1 bc)/\t.cell? (Ad gb n)=some (mp q2)) (go_keep) (fail)
   go_wp2_with (go_at_call 83;refine(a2x _ _ _ a _).mono ?_;rintro e w1 ⟨rfl,(⟨hw,rfl⟩|⟨hw,rfl⟩)⟩;(first|(exact absurd hw (by decide))|(exfalso;simp at hw;omega)))
   go_region_held3 (fun t=>t.cell? (Ad B 5)=some (.slice (some (Ad g 0)) sl.length sc)/\t.cell? (Ad B 7)=some (vi (lv:Nat))) (go_keep) (fail)
   go_wp2
   go_end0
   exact d.out
theorem a7l(fs:List (List UInt8))(s:List UInt8):∀(l:List (List UInt8)) (i:Nat) (kv:List (List UInt8×Value)),(a2p fs i l kv).lookup s=match kv.lookup s with
  | some v=>some v
  | none=>(funI l s).map fun j=>vi ((i+j:Nat):Int)
 | [],i,kv=>by
  rw[a2p]
  cases kv.lookup s <;> rfl
 | x::l,i,kv=>by
  rw[a2p,a7l fs s l (i+1)]
  by_cases hx:x=s
  ·subst hx
   cases hk:kv.lookup x with
   | some v=>simp[hk]
   | none =>
    simp only[Option.isSome_none,Bool.false_eq_true,if_false]
    rw[List.lookup_append,hk]
    simp[funI,List.findIdx?_cons]
  ·have e:(if (kv.lookup x).isSome then kv else kv++[(x,vi (i:Nat))]).lookup s=kv.lookup s:=by
    split
    ·rfl
    ·rw[List.lookup_append]
     have:(s == x)=false:=by simpa using fun h=>hx h.symm
     simp[List.lookup,this]
   rw[e]
   cases kv.lookup s with
   | some v=>rfl
   | none =>
    have z:(x == s)=false:=by simpa using hx
    simp only[funI,List.findIdx?_cons,z]
    cases l.findIdx? (fun x=>x == s) with
    | none=>rfl
    | some j=>simp;omega
theorem a6k(fs:List (List UInt8)):∀(l:List (List UInt8)) (i:Nat) (kv:List (List UInt8×Value)),(kv.map (·.1)).Nodup->((a2p fs i l kv).map (·.1)).Nodup
 | [],i,kv,h=>by rw[a2p];exact h
 | x::l,i,kv,h=>by
  rw[a2p]
  refine a6k fs l (i+1) _ ?_
  split
  ·exact h
  ·rename_i hn
   rw[List.map_append,List.nodup_append]
   refine⟨h,by simp,fun a w b z=>?_⟩
   simp at z
   subst z
   intro e
   obtain⟨p,y,rfl⟩:=List.mem_map.1 w
   apply hn
   rw[<- e,b1w h y]
   rfl
theorem Ck.funs{sl:List Int}{lv:Nat}(h:Ck w0 B u ub uc fm O sl bl lv W)(s:List UInt8)(ok:Bool) :
  (Instr.lookup 108 (.map (some fm)) (sk s) ok).run Tryz.prog W=.ok (if ok then .tuple #[((funI (u.kids.map Nd.t) s).map fun j=>vi ((j:Nat):Int)).getD (vi 0),.bool (funI (u.kids.map Nd.t) s).isSome] else ((funI (u.kids.map Nd.t) s).map fun j=>vi ((j:Nat):Int)).getD (vi 0)) W:=by
 obtain⟨kv,y,hf⟩:=h.hf
 have x:(kv.map (·.1)).Nodup:=by rw[y];exact a6k _ _ _ _ (by simp)
 have:=a5m (P:=Tryz.prog) (T:=108) (K:=9) (E:=3) (by kernel_rfl) (by kernel_rfl) a1j hf x (z:=vi 0) (by kernel_rfl) s ok
 have w:kv.lookup s=(funI (u.kids.map Nd.t) s).map fun j=>vi ((j:Nat):Int):=by
  rw[y,a7l]
  simp
 rw[w]at this
 simpa using this
theorem name_any(w0:World)(B:Nat)(u:Nd)(ub:Option Addr)(uc fm:Nat)(O:Nat->Prop)(sl:List Int)(bl:List (List Lc))(s:List UInt8)(a:Nat)(W:World)(h:Ck w0 B u ub uc fm O sl bl (sumL bl) W)(hNB:NB bl)(hlen:bl.length<=100000)(ha:a<sl.length)(hkl:u.kids.length<=100000) :
  Cl 147 #[Po B 0,sk s,vi (a:Nat)] W (CQ w0 B u ub uc fm O W (a4a (u.kids.map Nd.t) s a ⟨sl,bl⟩)):=by
 have z:=b8e w0 B u ub uc fm O sl bl (sumL bl) s W h hNB hlen
 have z3:(0:Int)<=(a:Int):=by omega
 have z4:(a:Int)<(sl.length:Int):=by omega
 cases hf:findL s bl with
 | some p =>
  obtain⟨i,fx⟩:=p
  have f:a4a (u.kids.map Nd.t) s a ⟨sl,bl⟩=.ok ⟨sl.set a (i:Nat),bl⟩:=by simp[a4a,hf,Cs.put]
  rw[f]
  have r:b0v s bl=.tuple #[.agg #[vi (i:Nat),.bool fx],.bool true]:=by rw[b0v,hf]
  rw[r]at z
  clear f r
  go_enter Tryz.func147,Tryz.ntmps147
  go_wp2_with (go_at_call 168;refine z.mono ?_;rintro e w1 ⟨rfl,q⟩;refine Hid.out ?_)
  have b:=q1z q (.cells #[vi (i:Nat),.bool fx] 216)
  have g2:=a0a w1 (.cells #[vi (i:Nat),.bool fx] 216)
  obtain⟨Q,hQ⟩:=exq (w1.heap.size)
  rw[hQ]at g2
  obtain⟨V,hV⟩:=exq (w1.alloc (.cells #[vi (i:Nat),.bool fx] 216))
  rw[hV]at b g2
  have w:=b.drew
  have x:=h.on w
  obtain⟨g,sc,c5,o,z9,⟨xx,cx⟩,z8,v⟩:=x.slot ha
  obtain⟨hS,n⟩:=v ((i:Nat):Int)
  have z7:g≠Q:=fun e=>by
   have:=(h.hO g z9).2
   have:=q.size
   omega
  have z0:V.cell? (Ad B 5)=some (.slice (some (Ad g 0)) sl.length sc):=c5
  have z1:V.cell? (Ad g a)=some (vi xx):=cx
  have z2:V.frozen? (Ad g a)=false:=z8
  have q0:V.cell? (Ad Q 0)=some (vi (i:Nat)):=q2z g2 rfl
  have c:¬B=g:=Ne.symm o
  have z5:¬Q=g:=Ne.symm z7
  have l:Hid (CQ w0 B u ub uc fm O W (.ok ⟨sl.set a (i:Nat),bl⟩) (.returned (.tuple #[])) (V.drew.setCell (Ad g a) (iv ((i:Nat):Int)))):=.inl ⟨_,rfl,rfl,O,hS,(CK.below w).trans n⟩
  clear z hS n v x
  refine Lib.hid ?_
  go_wp2
  try rw[hV,hQ]
  go_region_held3 (fun w'=>w'.cell? (Ad B 5)=some (.slice (some (Ad g 0)) sl.length sc)/\w'.cell? (Ad Q 0)=some (vi (i:Nat))) (go_keep) (fail)
  go_wp2
  go_end0
  exact l.out
 | none =>
  have r:b0v s bl=.tuple #[.agg #[vi 0,.bool false],.bool false]:=by rw[b0v,hf];rfl
  rw[r]at z
  have y:=fun(V:World) (hb:Bw W V)=>(h.on hb).funs s true
  simp only[if_true]at y
  cases hg:funI (u.kids.map Nd.t) s with
  | some j =>
   rw[hg]at y
   simp only[Option.map_some,Option.getD_some,Option.isSome_some]at y
   have hj:j<u.kids.length:=by
    unfold funI at hg
    rw[List.findIdx?_eq_some_iff_getElem]at hg
    obtain⟨hj,_⟩:=hg
    simpa using hj
   have f:a4a (u.kids.map Nd.t) s a ⟨sl,bl⟩=.ok ⟨sl.set a (30+(j:Nat)),bl⟩:=by simp[a4a,hf,hg,Cs.put]
   rw[f]
   clear f r
   have z6:IntKind.i64.wrap ((30:Int)+(j:Int))=30+(j:Int):=by rw[IntKind.wrap_i64];omega
   go_enter Tryz.func147,Tryz.ntmps147
   go_wp2_with (go_at_call 168;refine z.mono ?_;rintro e w1 ⟨rfl,q⟩;refine Hid.out ?_)
   have w:=q1z q (.cells #[vi 0,.bool false] 216)
   have x:=h.on w
   have d:=y _ w
   obtain⟨_,c4,_,_⟩:=x.cells
   obtain⟨g,sc,c5,o,z9,⟨xx,cx⟩,z8,v⟩:=x.slot ha
   obtain⟨hS,n⟩:=v (30+((j:Nat):Int))
   have c:¬B=g:=Ne.symm o
   have l:Hid (CQ w0 B u ub uc fm O W (.ok ⟨sl.set a (30+(j:Nat)),bl⟩) (.returned (.tuple #[])) ((w1.alloc (.cells #[vi 0,.bool false] 216)).setCell (Ad g a) (iv (30+((j:Nat):Int))))):=.inl ⟨_,rfl,rfl,O,hS,(CK.below w).trans n⟩
   clear z y hS n v x
   refine Lib.hid ?_
   go_wp2_with (go_at_call 83;refine(a2x _ _ _ a _).mono ?_;rintro e w2 ⟨rfl,(⟨hw,rfl⟩|⟨hw,rfl⟩)⟩;(exact absurd hw (by decide)))
   go_end0
   exact l.out
  | none =>
   rw[hg]at y
   simp only[Option.map_none,Option.getD_none,Option.isSome_none]at y
   have f:a4a (u.kids.map Nd.t) s a ⟨sl,bl⟩=.error (4,a):=by simp[a4a,hf,hg]
   rw[f]
   clear f r
   go_enter Tryz.func147,Tryz.ntmps147
   go_wp2_with (go_at_call 168;refine z.mono ?_;rintro e w1 ⟨rfl,q⟩;refine Hid.out ?_)
   have w:=q1z q (.cells #[vi 0,.bool false] 216)
   have x:=h.on w
   have d:=y _ w
   obtain⟨_,c4,_,_⟩:=x.cells
   have l:Hid (Bw w0 (w1.alloc (.cells #[vi 0,.bool false] 216))):=x.bl
   clear z y x
   refine Lib.hid ?_
   go_wp2_with (go_at_call 83;refine(a5k _ _ a _).mono ?_;rintro e w2 ⟨rfl,rfl⟩)
   exact⟨rfl,.inr ⟨4,a,rfl,rfl,l.out⟩⟩
def setV (p:Nd) (bl:List (List Lc)):Bool:=if p.k=18 then (match findL p.t bl with|some q=>!q.2|none=>false) else true
theorem c0a(w0:World)(B:Nat)(u:Nd)(ub:Option Addr)(uc fm:Nat)(O:Nat->Prop)(sl:List Int)(bl:List (List Lc))(p:Nd)(b:Option Addr)(cap:Nat)(W:World)(h:Ck w0 B u ub uc fm O sl bl (sumL bl) W)(hNB:NB bl)(hlen:bl.length<=100000) :
  Cl 148 #[Po B 0,ndv p b cap] W fun e W'=>e=.returned (.bool (setV p bl))/\Bw W W':=by
 have w:=q1z (Below.refl W.heap.size W) (nbx p b cap)
 have g0:=a0a W (nbx p b cap)
 have z:=b8e w0 B u ub uc fm O sl bl (sumL bl) p.t _ (h.on w) hNB hlen
 obtain⟨t,ht⟩:=exq (W.heap.size)
 rw[ht]at g0
 obtain⟨s,ok,r,v⟩:∃(s:Nat×Bool) (ok:Bool),b0v p.t bl=.tuple #[.agg #[vi (s.1:Nat),.bool s.2],.bool ok]/\setV p bl=(decide (¬p.k=18)||(ok && !s.2)):=by
  unfold b0v setV
  cases findL p.t bl with
  | none=>exact⟨(0,false),false,rfl,by by_cases h18:p.k=18 <;> simp[h18]⟩
  | some q=>exact⟨q,true,rfl,by by_cases h18:p.k=18 <;> simp[h18]⟩
 rw[r]at z
 rw[v]
 obtain⟨k0,o,i,ks⟩:=p
 simp only at z g0⊢
 obtain⟨n,l⟩:=s
 simp only at z⊢
 clear v r
 replace z:Cl 168 #[Po B 0,sk o] (W.alloc (.cells #[vi k0,sk o,vi i,.slice b ks.length cap] 34)) fun e a=>e=.returned (.tuple #[.agg #[vi (n:Nat),.bool l],.bool ok])/\Below (W.alloc (.cells #[vi k0,sk o,vi i,.slice b ks.length cap] 34)).heap.size (W.alloc (.cells #[vi k0,sk o,vi i,.slice b ks.length cap] 34)) a:=z
 by_cases h18:k0=18
 ·subst h18
  cases ok with
  | false =>
   go_enter Tryz.func148,Tryz.ntmps148
   go_wp2_with (go_at_call 168;refine z.mono ?_;rintro e w1 ⟨rfl,y⟩;have g1:=q0z y g0;have x:=q1z (q3z w y) (.cells #[vi (n:Nat),.bool l] 216);obtain⟨c,d,f,g,_,_,_,_⟩:=in4a g1)
   go_ret
   exact⟨by simp,x⟩
  | true =>
   go_enter Tryz.func148,Tryz.ntmps148
   go_wp2_with (go_at_call 168;refine z.mono ?_;rintro e w1 ⟨rfl,y⟩;have g1:=q0z y g0;have x:=q1z (q3z w y) (.cells #[vi (n:Nat),.bool l] 216);obtain⟨c,d,f,g,_,_,_,_⟩:=in4a g1)
   go_ret
   exact⟨by simp,x⟩
 ·have z9:(k0 == 18)=false:=by simpa using h18
  go_enter Tryz.func148,Tryz.ntmps148
  go_wp2_with (go_at_call 168;refine z.mono ?_;rintro e w1 ⟨rfl,y⟩;have g1:=q0z y g0;have x:=q1z (q3z w y) (.cells #[vi (n:Nat),.bool l] 216);obtain⟨c,d,f,g,_,_,_,_⟩:=in4a g1)
  go_ret
  exact⟨by simp[h18],x⟩
def low (w0:World):Nat->Prop:=fun g=>g<w0.heap.size
def VisC (n:Nd):Prop:=∀(w0:World) (B:Nat) (u:Nd) (ub:Option Addr) (uc fm:Nat) (O:Nat->Prop) (sl:List Int) (bl:List (List Lc)) (b:Option Addr) (cap:Nat) (W:World),Ck w0 B u ub uc fm O sl bl (sumL bl) W->NdV (low w0) w0 n (ndv n b cap)->sl.length+manyN n<=100000->bl.length+manyN n<=100000->sumL bl<=30->NB bl->bl≠[]->u.kids.length<=100000 ->
 Cl 132 #[Po B 0,ndv n b cap] W (CQ w0 B u ub uc fm O W (visC (u.kids.map Nd.t) false n ⟨sl,bl⟩))
def InC (n:Nd):Prop:=∀(w0:World) (B:Nat) (u:Nd) (ub:Option Addr) (uc fm:Nat) (O:Nat->Prop) (sl:List Int) (bl:List (List Lc)) (b:Option Addr) (cap:Nat) (W:World),Ck w0 B u ub uc fm O sl bl (sumL bl) W->NdV (low w0) w0 n (ndv n b cap)->sl.length+manyN n<=100000->bl.length+manyN n<=100001->sumL bl<=30->NB bl->bl≠[]->u.kids.length<=100000 ->
 Cl 111 #[Po B 0,ndv n b cap] W (CQ w0 B u ub uc fm O W (visC (u.kids.map Nd.t) true n ⟨sl,bl⟩))
def a9c (ks:List Nd):Prop:=∀(w0:World) (B:Nat) (u:Nd) (ub:Option Addr) (uc fm:Nat) (O:Nat->Prop) (sl:List Int) (bl:List (List Lc)) (b:Option Addr) (cap:Nat) (W:World),Ck w0 B u ub uc fm O sl bl (sumL bl) W->KA (low w0) w0 b cap ks->sl.length+manyN.go ks<=100000->bl.length+manyN.go ks<=100000->sumL bl<=30->NB bl->bl≠[]->u.kids.length<=100000 ->
 Cl 110 #[Po B 0,.slice b ks.length cap] W (CQ w0 B u ub uc fm O W (allC (u.kids.map Nd.t) ks ⟨sl,bl⟩))
theorem CQ.par{R:CR}(h:CQ w0 B u ub uc fm O W R e W'):(∃y a,R=.error (y,a)/\e=.panicked (pan (flt y a))/\Bw w0 W')\/(∃z,R=.ok z/\e=.returned (.tuple #[])/\∃x,Ck w0 B u ub uc fm x z.sl z.bl (sumL z.bl) W'/\CK O W x W'):=Or.symm h
def AI2 (w0:World) (B:Nat) (u:Nd) (ub:Option Addr) (uc fm:Nat) (O:Nat->Prop) (W:World) (M D:Nat) (R:CR) (ks:List Nd) (j:Nat) (wr:World):Prop :=
 ∃O' c',Ck w0 B u ub uc fm O' c'.sl c'.bl (sumL c'.bl) wr/\CK O W O' wr/\allC (u.kids.map Nd.t) (ks.drop j) c'=R/\c'.sl.length+manyN.go (ks.drop j)<=M/\c'.bl.length=D/\sumL c'.bl<=30/\NB c'.bl
theorem b6o(ks:List Nd)(ih:∀y∈ks,VisC y):a9c ks:=by
 intro w0 B u ub uc fm O sl bl b cap W hC hK hM hD hlv hNB hne hul
 obtain⟨R,hR⟩:=exq (allC (u.kids.map Nd.t) ks ⟨sl,bl⟩)
 rw[hR]
 have hD0:0<bl.length:=List.length_pos_iff.2 hne
 have hkl:=a1g ks
 obtain⟨D,hDd⟩:=exq (bl.length)
 rw[hDd]at hD hD0
 have hI:AI2 w0 B u ub uc fm O W 100000 D R ks 0 W:=⟨O,⟨sl,bl⟩,hC,CK.refl _ _,by rw[List.drop_zero];exact hR,by rw[List.drop_zero];exact hM,hDd,hlv,hNB⟩
 obtain⟨L,hL⟩:=exq (ks.length)
 rw[hL]at hkl⊢
 clear hC hR hlv hNB hne hDd hM
 replace ih:Hid (∀y∈ks,VisC y):=ih
 replace hL:Hid _:=hL
 replace hK:Hid (KA (low w0) w0 b cap ks):=hK
 go_enter Tryz.func110,Tryz.ntmps110
 go_wp2
 go_loopw [8] (fun ix wr=>∃j:Nat,j<=L/\ix=vi (j:Nat)/\AI2 w0 B u ub uc fm O W 100000 D R ks j wr) (fun ix _=>L-(intOf ix).toNat)
 case atStart=>exact⟨0,Nat.zero_le _,rfl,hI⟩
 case round =>
  obtain⟨j,hj,rfl,O1,c1,hC,hCK,hgo,hs2,hDl,hlv,hNB⟩:=hrel
  clear hI
  by_cases hlt:j<L
  ·have hlt':(j:Int)<(L:Int):=by omega
   have hge:(0:Int)<=(j:Int):=by omega
   have hjk:j<ks.length:=by have:=hL.out;omega
   obtain⟨y,hy⟩:∃y,ks[j]?=some y:=⟨_,List.getElem?_eq_getElem hjk⟩
   have hK0:=hK.out
   obtain⟨g',off,b',cap',rfl,v0,v1,v2,v3,hyV⟩:=KA.at hK0 hy
   have hgw:=World.block_lt_of_cell? _ _ v0
   simp only at hgw
   have hcell:∀i v,Ce w0 g' i v->Ce wr g' i v:=fun i v h=>(hC.bl.cell (p:=(Ad g' i)) hgw).trans h
   replace v0:=hcell _ _ v0
   replace v1:=hcell _ _ v1
   replace v2:=hcell _ _ v2
   replace v3:=hcell _ _ v3
   have hdr:ks.drop j=y::ks.drop (j+1):=by rw[List.drop_eq_getElem_cons hjk];congr 1;exact(List.getElem?_eq_some_iff.1 hy).2
   rw[hdr]at hgo hs2
   simp only[manyN.go]at hs2
   rw[allC]at hgo
   have hmk:manyN y<=manyN.go ks:=by
    have:=congrArg manyN.go (List.take_append_drop j ks)
    rw[a2m,hdr]at this
    simp only[manyN.go]at this
    omega
   have hb0:=q1z (Below.refl wr.heap.size wr) (nbx y b' cap')
   have hcall:=ih.out y (List.mem_of_getElem? hy) w0 B u ub uc fm O1 c1.sl c1.bl b' cap' _ (hC.on hb0) hyV (by omega) (by omega) hlv hNB (fun e=>by rw[e]at hDl;simp at hDl;omega) hul
   have hCK0:=hCK.trans (CK.below (O:=O1) hb0)
   obtain⟨yk,yt,yn,ys⟩:=y
   simp only at v0 v1 v2 v3
   replace hcall:Cl 132 #[Po B 0,.agg #[vi yk,sk yt,vi yn,.slice b' ys.length cap']] (wr.alloc (.cells #[vi yk,sk yt,vi yn,.slice b' ys.length cap'] 34)) (CQ w0 B u ub uc fm O1 (wr.alloc (.cells #[vi yk,sk yt,vi yn,.slice b' ys.length cap'] 34)) (visC (u.kids.map Nd.t) false ⟨yk,yt,yn,ys⟩ ⟨c1.sl,c1.bl⟩)):=hcall
   have hpan:∀cd a,visC (u.kids.map Nd.t) false ⟨yk,yt,yn,ys⟩ ⟨c1.sl,c1.bl⟩=.error (cd,a)->R=.error (cd,a):=fun cd a e=>by rw[<- hgo];rw[show(⟨c1.sl,c1.bl⟩:Cs)=c1 from rfl]at e;rw[e];rfl
   replace hpan:Hid _:=hpan
   replace hgo:Hid _:=hgo
   clear hy hdr hcell
   go_wp2_with (go_at_call 132;refine hcall.mono ?_;intro e w2 hq;rcases hq.par with⟨cd,a,he,rfl,hbp⟩|⟨c2,he,rfl,O2,hC2,hK2⟩;(exact⟨rfl,.inr ⟨cd,a,hpan.out _ _ he,rfl,hbp⟩⟩))
   go_roundw
   case rel =>
    have hkp:=a2g _ _ _ _ _ he
    have hln:=b5u _ _ _ _ _ he
    have hlv2:=a8w _ _ _ _ _ he hlv
    have hg2:=hgo.out
    rw[show(⟨c1.sl,c1.bl⟩:Cs)=c1 from rfl]at he
    rw[he]at hg2
    exact⟨j+1,by omega,by go_num,O2,c2,hC2,hCK0.trans hK2,hg2,by simp only at hln;omega,hkp.len.trans hDl,hlv2,hkp.nb hNB⟩
   case measure=>simp[intOf];omega
  ·have hlt':¬(j:Int)<(L:Int):=by omega
   have hRo:R=.ok c1:=by rw[<- hgo,List.drop_eq_nil_of_le (by have:=hL.out;omega),allC]
   subst hRo
   go_wp2
   go_end0
   exact .inl ⟨c1,rfl,rfl,O1,hC,hCK⟩
theorem c4q(t0:List UInt8)(n0:Int)(ks:List Nd)(ih:a9c ks):InC ⟨4,t0,n0,ks⟩:=by
 intro q B u o p fm O sl bl b cap W hC hN hM hD g z9 l n
 have i:manyN ⟨4,t0,n0,ks⟩=manyN.go ks+1:=rfl
 rw[i]at hM hD
 rw[c1y]
 have hK:=KA.of hN
 have x:=q1z (Below.refl W.heap.size W) (nbx ⟨4,t0,n0,ks⟩ b cap)
 have g0:=a0a W (nbx ⟨4,t0,n0,ks⟩ b cap)
 have s:=CK.below (O:=O) x
 have f:=a2z q B u o p fm O sl bl (sumL bl) _ (hC.on x) (by omega)
 have y:¬O W.heap.size:=fun h=>by have:=(hC.hO _ h).2;omega
 have w:=fun r w1 (z:Ck q B u o p fm r (sl++[-1]) bl (sumL bl) w1)=>ih q B u o p fm r (sl++[-1]) bl b cap w1 z hK (by simp;omega) (by omega) g z9 l n
 rw[show(⟨sl,bl⟩:Cs).enter=⟨sl++[-1],bl⟩ from rfl]
 obtain⟨t,ht⟩:=exq (W.heap.size)
 rw[ht]at g0 y
 clear hC hN hK
 go_enter Tryz.func111,Tryz.ntmps111
 go_wp2_with (first
  | (go_at_call 81;refine f.mono ?_;rintro e w1 ⟨rfl,r,z,v⟩;obtain⟨g1,z6⟩:=v.box g0 y;obtain⟨z0,z1,z2,z3,_,_,_,_⟩:=in4 g1)
  | (go_at_call 110;refine(w r w1 z).mono ?_;intro e w2 hq;rcases hq.par with⟨cd,a,d,rfl,c⟩|⟨c2,d,rfl,O2,z7,z8⟩;(exact⟨rfl,.inr ⟨cd,a,d,rfl,c⟩⟩)))
 go_end0
 exact .inl ⟨c2,d,rfl,O2,z7,s.trans (v.trans z8)⟩
theorem d6c{a b c d:Value}(h:tm[2]?.getD undef=Po B 0)(hx:W.heap[B]?=some (.cells #[a,b,c,d] 34)):(results Tryz.f112 tm).run Tryz.prog W=.ok (.agg #[a,b,c,d]) W:=by
 obtain⟨c0,c1,c2,c3,_,_,_,_⟩:=in4 hx
 simp[results,Tryz.results112,go_sem,h,c0,c1,c2,c3]
theorem body_any(w0:World)(k0:Int)(t0:List UInt8)(n0:Int)(ks:List Nd)(b:Option Addr)(cap:Nat)(hK:KA (low w0) w0 b cap ks)(j:Nat)(z:Nd)(hz:ks[j]?=some z)(hj:j+1=ks.length)(hl:ks.length<=100000) :
  ∃bz cz,NdV (low w0) w0 z (ndv z bz cz)/\∀W,Bw w0 W->Cl 112 #[ndv ⟨k0,t0,n0,ks⟩ b cap] W fun e W'=>e=.returned (ndv z bz cz)/\Bw W W':=by
 obtain⟨u,x,b',cap',rfl,s,n,q,r,t⟩:=KA.at hK hz
 refine⟨b',cap',t,fun W hb=>?_⟩
 have w:=World.block_lt_of_cell? _ _ s
 simp only at w
 have l:u<W.heap.size:=Nat.lt_of_lt_of_le w hb.size
 obtain⟨L,g⟩:=exq (ks.length)
 rw[g]at hj hl
 have y:∀i v,Ce w0 u i v->∀o o',Ce ((W.alloc o).alloc o') u i v:=fun i v h o o'=>(World.cell?_alloc_past _ _ _ (by simp;omega)).trans ((World.cell?_alloc_past _ _ _ l).trans ((hb.cell (p:=(Ad u i)) w).trans h))
 replace s:=y _ _ s
 replace n:=y _ _ n
 replace q:=y _ _ q
 replace r:=y _ _ r
 have hw:IntKind.i64.wrap ((L:Int)-1)=(j:Int):=by rw[IntKind.wrap_i64];omega
 have z8:(0:Int)<=(j:Int):=by omega
 have z9:(j:Int)<(L:Int):=by omega
 obtain⟨a,f,c,d⟩:=z
 simp only at s n q r
 show Cl 112 #[.agg #[vi k0,sk t0,vi n0,.slice (some (Ad u x)) ks.length cap]] W _
 rw[g]
 clear y t hz hK g
 go_enter Tryz.func112,Tryz.ntmps112
 go_wp2
 refine bodyPost_ret (d6c rfl (W:=(W.alloc (.cells #[vi k0,sk t0,vi n0,.slice (some (Ad u x)) L cap] 34)).alloc (nbx ⟨a,f,c,d⟩ b' cap')) ?_) rfl ⟨rfl,q1z (q1z bz0 _) _⟩
 have:=a0a (W.alloc (.cells #[vi k0,sk t0,vi n0,.slice (some (Ad u x)) L cap] 34)) (nbx ⟨a,f,c,d⟩ b' cap')
 rw[World.size_alloc]at this
 exact this
theorem params_any(k0:Int)(t0:List UInt8)(n0:Int)(ks:List Nd)(g off cap:Nat)(j:Nat)(hj:j+1=ks.length)(hl:ks.length<=100000)(hc:ks.length<=cap)(W:World) :
  Cl 84 #[ndv ⟨k0,t0,n0,ks⟩ (some (Ad g off)) cap] W fun e W'=>e=.returned (.slice (some (Ad g off)) j cap)/\Bw W W':=by
 obtain⟨L,y⟩:=exq (ks.length)
 rw[y]at hj hl hc
 have u:IntKind.i64.wrap ((L:Int)-1)=(j:Int):=by rw[IntKind.wrap_i64];omega
 have x:(L:Int)-1=(j:Int):=by omega
 have v:(0:Int)<=(j:Int):=by omega
 have w:(j:Int)<=(cap:Int):=by omega
 have z:Bw W (W.alloc (.cells #[vi k0,sk t0,vi n0,.slice (some (Ad g off)) L cap] 34)):=q1z bz0 _
 show Cl 84 #[.agg #[vi k0,sk t0,vi n0,.slice (some (Ad g off)) ks.length cap]] W _
 rw[y]
 clear y
 go_enter Tryz.func84,Tryz.ntmps84
 go_wp2
 go_ret
 exact⟨rfl,z⟩
theorem KA.take{S:Nat->Prop}{b:Option Addr}{cap:Nat}{ks:List Nd}(h:KA S w b cap ks)(j:Nat):KA S w b cap (ks.take j):=by
 refine⟨Nat.le_trans (by simp;omega) h.1,?_⟩
 rcases h.2 with s|⟨g,z,rfl,u,v⟩
 ·exact .inl (by rw[s];simp)
 ·refine .inr ⟨g,z,rfl,u,fun i y x=>v i y ?_⟩
  have t:=(List.getElem?_eq_some_iff.1 x).1
  rw[List.getElem?_take_of_lt (by simp at t;omega)]at x
  exact x
def CntC (n:Nd):Prop:=∀(w0:World) (B:Nat) (u:Nd) (ub:Option Addr) (uc fm:Nat) (O:Nat->Prop) (sl:List Int) (bl:List (List Lc)) (b:Option Addr) (cap:Nat) (W:World),Ck w0 B u ub uc fm O sl bl (sumL bl) W->NdV (low w0) w0 n (ndv n b cap)->sl.length+manyN n<=100000->bl.length+manyN n<=100000->sumL bl<=30->NB bl->bl≠[]->u.kids.length<=100000 ->
 Cl 145 #[Po B 0,ndv n b cap] W (CQ w0 B u ub uc fm O W (visC (u.kids.map Nd.t) false n ⟨sl,bl⟩))
theorem b6p{r:List (List Lc)}(h:bl.tail=r)(hl:bl.length=r.length+1):∃b,bl=b::r:=by
 cases bl with
 | nil=>simp at hl
 | cons b l=>exact⟨b,by rw[<- h];rfl⟩
theorem d6d(t0:List UInt8)(n0:Int)(x y z:Nd)(hxy:a9c [x,y])(hz:InC z):CntC ⟨10,t0,n0,[x,y,z]⟩:=by
 intro v B u o p g O sl bl b cap W hC hN hM hD v5 t1 s3 v8
 have r9:manyN ⟨10,t0,n0,[x,y,z]⟩=manyN.go [x,y]+manyN z+1:=by show manyN.go [x,y,z]+1=_;simp only[manyN.go];omega
 rw[r9]at hM hD
 have r0:=a2n z
 have hK:=KA.of hN
 have r2:3<=cap:=hK.1
 obtain⟨bz,cz,x7,s⟩:=body_any v 10 t0 n0 [x,y,z] b cap hK 2 z rfl rfl (by simp)
 have q:KA (low v) v b cap [x,y]:=hK.take 2
 obtain⟨g',x8,_,_,rfl,_⟩:=KA.at hK (j:=0) (y:=x) rfl
 obtain⟨R,hR⟩:=exq (visC (u.kids.map Nd.t) false ⟨10,t0,n0,[x,y,z]⟩ ⟨sl,bl⟩)
 rw[hR]
 rw[b5t,show(⟨sl,bl⟩:Cs).enter=⟨sl++[-1],bl⟩ from rfl]at hR
 simp only at hR
 have f1:Hid (∀w a,allC (u.kids.map Nd.t) [x,y] ⟨sl++[-1],bl⟩=.error (w,a)->R=.error (w,a)):=fun w a e=>by rw[<- hR,e];rfl
 have f2:Hid (∀d w a,allC (u.kids.map Nd.t) [x,y] ⟨sl++[-1],bl⟩=.ok d->declareC t0 true sl.length ⟨d.sl,[]::d.bl⟩=.error (w,a)->R=.error (w,a)):=fun d w a e e2=>by rw[<- hR,e];show Except.bind (declareC t0 true sl.length ⟨d.sl,[]::d.bl⟩) _=_;rw[e2];rfl
 have f3:Hid (∀d f w a,allC (u.kids.map Nd.t) [x,y] ⟨sl++[-1],bl⟩=.ok d->declareC t0 true sl.length ⟨d.sl,[]::d.bl⟩=.ok f->visC (u.kids.map Nd.t) true z ⟨f.sl,f.bl⟩=.error (w,a)->R=.error (w,a)):=fun d f w a e e2 e3=>by
  rw[<- hR,e];show Except.bind (declareC t0 true sl.length ⟨d.sl,[]::d.bl⟩) _=_;rw[e2];show Except.map _ (visC (u.kids.map Nd.t) true z ⟨f.sl,f.bl⟩)=_;rw[e3];rfl
 have f4:Hid (∀d f h,allC (u.kids.map Nd.t) [x,y] ⟨sl++[-1],bl⟩=.ok d->declareC t0 true sl.length ⟨d.sl,[]::d.bl⟩=.ok f->visC (u.kids.map Nd.t) true z ⟨f.sl,f.bl⟩=.ok h->R=.ok h.close):=fun d f h e e2 e3=>by
  rw[<- hR,e];show Except.bind (declareC t0 true sl.length ⟨d.sl,[]::d.bl⟩) _=_;rw[e2];show Except.map _ (visC (u.kids.map Nd.t) true z ⟨f.sl,f.bl⟩)=_;rw[e3];rfl
 clear hR
 have t4:=q1z (Below.refl W.heap.size W) (nbx ⟨10,t0,n0,[x,y,z]⟩ (some (Ad g' x8)) cap)
 have g0:=a0a W (nbx ⟨10,t0,n0,[x,y,z]⟩ (some (Ad g' x8)) cap)
 have x9:=CK.below (O:=O) t4
 have t7:=a2z v B u o p g O sl bl (sumL bl) _ (hC.on t4) (by omega)
 have v6:¬O W.heap.size:=fun h=>by have:=(hC.hO _ h).2;omega
 have y6:=fun O1 w1 (z7:Ck v B u o p g O1 (sl++[-1]) bl (sumL bl) w1)=>hxy v B u o p g O1 (sl++[-1]) bl (some (Ad g' x8)) cap w1 z7 q (by simp;omega) (by omega) v5 t1 s3 v8
 obtain⟨t,ht⟩:=exq (W.heap.size)
 rw[ht]at g0 v6
 clear hC hN hK q
 replace s:Hid _:=s
 replace hz:Hid (InC z):=hz
 replace x7:Hid (NdV (low v) v z (ndv z bz cz)):=x7
 have r7:(2:Int)<=(cap:Int):=by omega
 go_enter Tryz.func145,Tryz.ntmps145
 go_wp2_with (first
  | (go_at_call 81;refine t7.mono ?_;rintro e w1 ⟨rfl,O1,z7,w8⟩;obtain⟨g1,s0⟩:=w8.box g0 v6;obtain⟨z0,z1,z2,z3,_,_,_,_⟩:=in4 g1)
  | (go_at_call 110;refine(y6 O1 w1 z7).mono ?_;intro e w2 hq;rcases hq.par with⟨w,a,he,rfl,i⟩|⟨c2,r,rfl,O2,s5,q⟩;(exact⟨rfl,.inr ⟨w,a,f1.out _ _ he,rfl,i⟩⟩);refine Hid.out ?_))
 have y9:=a2h _ _ _ _ r
 have v4:=a4z _ _ _ _ r
 have z5:sumL c2.bl<=30:=a4q _ _ _ _ r v5
 have t2:=y9.nb t1
 have r8:=y9.len
 simp only[List.length_append,List.length_singleton]at v4
 simp only at r8
 obtain⟨g2,s1⟩:=q.box g1 s0
 have y7:=b0i v B u o p g O2 c2.sl c2.bl (sumL c2.bl) w2 s5 (by omega)
 have y8:=fun O3 w3 (z8:Ck v B u o p g O3 c2.sl ([]::c2.bl) (sumL c2.bl) w3)=>declare_any v B u o p g O3 c2.sl [] c2.bl (sumL c2.bl) t0 true sl.length w3 z8 (by rw[a0l];simp) z5 (by omega) (by omega) (by simp)
 obtain⟨y0,y1,y2,y3,_,_,_,_⟩:=in4 g2
 simp only at y0 y1 y2 y3
 have y4:=x9.trans (w8.trans q)
 clear t7 y6 z0 z1 z2 z3 z7 s5 w8 q x9
 refine Lib.hid ?_
 go_wp2_with (first
  | (go_at_call 109;refine y7.mono ?_;rintro e w3 ⟨rfl,O3,z8,w9⟩;obtain⟨g3,s2⟩:=w9.box g2 s1;obtain⟨x0,x1,x2,x3,_,_,_,_⟩:=in4 g3)
  | (go_at_call 146;refine(y8 O3 w3 z8).mono ?_;intro e w4 hq;rcases hq.par with⟨w,a,he,rfl,i⟩|⟨c4,l,rfl,O4,s6,x4⟩;(exact⟨rfl,.inr ⟨w,a,f2.out _ _ _ r he,rfl,i⟩⟩);refine Hid.out ?_))
 have n:=Kp.declare l
 have z9:=n.len
 have s4:=(a5n l).1
 have z6:sumL c4.bl<=30:=Lv.declare l (by show sumL ([]::c2.bl)<=30;rw[a0l];simpa using z5)
 have t3:=n.nb (NB.begin (c:=c2) t2)
 have v7:=n.tail
 simp only[List.length_cons,List.tail_cons]at z9 s4 v7
 obtain⟨g4,r1⟩:=x4.box g3 s2
 have y5:=y4.trans (w9.trans x4)
 obtain⟨v0,v1,v2,v3,_,_,_,_⟩:=in4 g4
 simp only at v0 v1 v2 v3
 have t6:=s.out w4 s6.bl
 have t9:=fun w5 (v9:Ck v B u o p g O4 c4.sl c4.bl (sumL c4.bl) w5)=>hz.out v B u o p g O4 c4.sl c4.bl bz cz w5 v9 x7.out (by omega) (by omega) z6 t3 (fun e=>by rw[e]at z9;simp at z9) v8
 clear y7 y8 x0 x1 x2 x3 z8 w9 x4 y4 y0 y1 y2 y3
 refine Lib.hid ?_
 go_wp2_with (first
  | (go_at_call 112;refine t6.mono ?_;rintro e w5 ⟨rfl,t5⟩;have v9:=s6.on t5)
  | (go_at_call 111;refine(t9 w5 v9).mono ?_;intro e w6 hq;rcases hq.par with⟨w,a,he,rfl,i⟩|⟨c6,x5,rfl,O6,s7,s9⟩;(exact⟨rfl,.inr ⟨w,a,f3.out _ _ _ _ r l he,rfl,i⟩⟩);refine Hid.out ?_))
 have z4:=a2g _ _ _ _ _ x5
 have r3:sumL c6.bl<=30:=a8w _ _ _ _ _ x5 z6
 obtain⟨fb,x6⟩:=b6p (z4.tail.trans v7) (by rw[z4.len];exact z9)
 have s8:=y5.trans ((CK.below (O:=O4) t5).trans s9)
 have t8:=b6i v B u o p g O6 c6.sl fb c2.bl (sumL c6.bl) w6 (by rw[<- x6];exact s7) (by omega) (by omega) (by rw[x6])
 have r4:Hid (∀W',Ck v B u o p g O6 c6.sl c2.bl (sumL c2.bl) W'->CK O6 w6 O6 W'->CQ v B u o p g O W R (.returned (.tuple #[])) W'):=fun W' h1 h2=>.inl ⟨c6.close,f4.out _ _ _ r l x5,rfl,O6,by rw[show c6.close.bl=c2.bl by show c6.bl.tail=_;rw[x6];rfl];exact h1,s8.trans h2⟩
 clear t6 t9 s7 s9 y5 v0 v1 v2 v3
 refine Lib.hid ?_
 go_wp2_with (go_at_call 113;refine t8.mono ?_;rintro e w7 ⟨rfl,r5,r6⟩)
 go_end0
 exact r4.out _ r5 r6
theorem c4r(t0:List UInt8)(n0:Int)(ks:List Nd)(ih:CntC ⟨10,t0,n0,ks⟩):VisC ⟨10,t0,n0,ks⟩:=by
 intro l B u h i c O sl bl b cap W d f hM hD s p v w
 have y:=q1z (Below.refl W.heap.size W) (nbx ⟨10,t0,n0,ks⟩ b cap)
 have x:=CK.below (O:=O) y
 have z:=ih l B u h i c O sl bl b cap _ (d.on y) f hM hD s p v w
 replace z:Cl 145 #[Po B 0,.agg #[vi 10,sk t0,vi n0,.slice b ks.length cap]] (W.alloc (.cells #[vi 10,sk t0,vi n0,.slice b ks.length cap] 34)) (CQ l B u h i c O (W.alloc (.cells #[vi 10,sk t0,vi n0,.slice b ks.length cap] 34)) (visC (u.kids.map Nd.t) false ⟨10,t0,n0,ks⟩ ⟨sl,bl⟩)):=z
 obtain⟨R,g⟩:=exq (visC (u.kids.map Nd.t) false ⟨10,t0,n0,ks⟩ ⟨sl,bl⟩)
 rw[g]at z⊢
 clear g d f
 go_enter Tryz.func132,Tryz.ntmps132
 go_wp2_with (go_at_call 145;refine z.mono ?_;intro e w2 hq;rcases hq.par with⟨cd,a,r,rfl,q⟩|⟨c2,r,rfl,O2,n,o⟩;(exact⟨rfl,.inr ⟨cd,a,r,rfl,q⟩⟩))
 go_end0
 exact .inl ⟨c2,r,rfl,O2,n,x.trans o⟩
theorem b6q(t0:List UInt8)(n0:Int)(ks:List Nd)(ih:InC ⟨4,t0,n0,ks⟩):VisC ⟨4,t0,n0,ks⟩:=by
 intro q B u o p n O sl bl b cap W hC hN hM hD i y8 y3 z4
 have y1:=a2n ⟨4,t0,n0,ks⟩
 have d:=q1z (Below.refl W.heap.size W) (nbx ⟨4,t0,n0,ks⟩ b cap)
 have g0:=a0a W (nbx ⟨4,t0,n0,ks⟩ b cap)
 have z6:=CK.below (O:=O) d
 have l:¬O W.heap.size:=fun h=>by have:=(hC.hO _ h).2;omega
 have x:=b0i q B u o p n O sl bl (sumL bl) _ (hC.on d) (by omega)
 have z:sumL ([]::bl)=sumL bl:=by rw[a0l];simp
 have g:=fun O1 w1 (s:Ck q B u o p n O1 sl ([]::bl) (sumL bl) w1)=>ih q B u o p n O1 sl ([]::bl) b cap w1 (by rw[z];exact s) hN hM (by simp;omega) (by rw[z];exact i) (NB.begin (c:=⟨sl,bl⟩) y8) (by simp) z4
 obtain⟨R,hR⟩:=exq (visC (u.kids.map Nd.t) false ⟨4,t0,n0,ks⟩ ⟨sl,bl⟩)
 rw[hR]
 rw[a7p,show(⟨sl,bl⟩:Cs).begin=⟨sl,[]::bl⟩ from rfl]at hR
 have f1:Hid (∀cd a,visC (u.kids.map Nd.t) true ⟨4,t0,n0,ks⟩ ⟨sl,[]::bl⟩=.error (cd,a)->R=.error (cd,a)):=fun cd a e=>by rw[<- hR,e];rfl
 have f2:Hid (∀h,visC (u.kids.map Nd.t) true ⟨4,t0,n0,ks⟩ ⟨sl,[]::bl⟩=.ok h->R=.ok h.close):=fun h e=>by rw[<- hR,e];rfl
 obtain⟨t,ht⟩:=exq (W.heap.size)
 rw[ht]at g0 l
 clear hR hC hN
 go_enter Tryz.func132,Tryz.ntmps132
 go_wp2_with (first
  | (go_at_call 109;refine x.mono ?_;rintro e w1 ⟨rfl,O1,s,z8⟩;obtain⟨g1,y2⟩:=z8.box g0 l;obtain⟨z0,z1,z2,z3,_,_,_,_⟩:=in4 g1)
  | (go_at_call 111;refine(g O1 w1 s).mono ?_;intro e w6 hq;rcases hq.par with⟨cd,a,he,rfl,y9⟩|⟨c6,v,rfl,O6,z5,z9⟩;(exact⟨rfl,.inr ⟨cd,a,f1.out _ _ he,rfl,y9⟩⟩);refine Hid.out ?_))
 have y:=a2g _ _ _ _ _ v
 have y4:sumL c6.bl<=30:=a8w _ _ _ _ _ v (by show sumL ([]::bl)<=30;rw[z];exact i)
 obtain⟨fb,w⟩:=b6p (r:=bl) y.tail (by rw[y.len];simp)
 have f:=b6i q B u o p n O6 c6.sl fb bl (sumL c6.bl) w6 (by rw[<- w];exact z5) (by omega) (by omega) (by rw[w])
 have z7:=z6.trans (z8.trans z9)
 have y5:Hid (∀W',Ck q B u o p n O6 c6.sl bl (sumL bl) W'->CK O6 w6 O6 W'->CQ q B u o p n O W R (.returned (.tuple #[])) W'):=fun W' h1 h2=>.inl ⟨c6.close,f2.out _ v,rfl,O6,by rw[show c6.close.bl=bl by show c6.bl.tail=_;rw[w];rfl];exact h1,z7.trans h2⟩
 clear x g z5 z9 z0 z1 z2 z3
 refine Lib.hid ?_
 go_wp2_with (go_at_call 113;refine f.mono ?_;rintro e w7 ⟨rfl,y6,y7⟩)
 go_end0
 exact y5.out _ y6 y7
theorem c0b(k0:Int)(hk:k0≠10/\k0≠4/\k0≠3/\k0≠5/\k0≠18/\k0≠6/\k0≠21)(t0:List UInt8)(n0:Int)(ks:List Nd)(ih:a9c ks):VisC ⟨k0,t0,n0,ks⟩:=by
 intro o B u ub uc fm O sl bl b cap W hC hN hM hD l c z6 z7
 have z4:manyN ⟨k0,t0,n0,ks⟩=manyN.go ks+1:=rfl
 rw[z4]at hM hD
 have x9:=a1g ks
 have hK:=KA.of hN
 have f:=q1z (Below.refl W.heap.size W) (nbx ⟨k0,t0,n0,ks⟩ b cap)
 have g0:=a0a W (nbx ⟨k0,t0,n0,ks⟩ b cap)
 have v:=CK.below (O:=O) f
 have n:¬O W.heap.size:=fun h=>by have:=(hC.hO _ h).2;omega
 have g:=a2z o B u ub uc fm O sl bl (sumL bl) _ (hC.on f) (by omega)
 have w:=fun O1 w1 (y:Ck o B u ub uc fm O1 (sl++[-1]) bl (sumL bl) w1)=>ih o B u ub uc fm O1 (sl++[-1]) bl b cap w1 y hK (by simp;omega) (by omega) l c z6 z7
 obtain⟨R,p⟩:=exq (visC (u.kids.map Nd.t) false ⟨k0,t0,n0,ks⟩ ⟨sl,bl⟩)
 rw[p]
 rw[a3u _ _ _ _ _ _ (by omega) (by omega),show(⟨sl,bl⟩:Cs).enter=⟨sl++[-1],bl⟩ from rfl]at p
 simp only at p
 have f1:Hid (∀cd a,allC (u.kids.map Nd.t) ks ⟨sl++[-1],bl⟩=.error (cd,a)->R=.error (cd,a)):=fun cd a e=>by rw[<- p,e];rfl
 have f2:Hid (∀d,allC (u.kids.map Nd.t) ks ⟨sl++[-1],bl⟩=.ok d->R=.ok d):=fun d e=>by
  rw[<- p,e]
  show actC _ _ _ _ _ _=_
  rw[actC,if_neg (by omega),if_neg (by omega),if_neg (by omega),if_neg (by omega)]
 obtain⟨t,ht⟩:=exq (W.heap.size)
 rw[ht]at g0 n
 obtain⟨L,hL⟩:=exq (ks.length)
 have z9:=hL
 replace hL:Hid _:=hL
 replace z9:Hid _:=z9
 replace hK:Hid (KA (low o) o b cap ks):=hK
 clear p hC hN
 have x6:(k0 == 10)=false:=by simp;omega
 have e4:(k0 == 4)=false:=by simp;omega
 have e3:(k0 == 3)=false:=by simp;omega
 have e5:(k0 == 5)=false:=by simp;omega
 have x7:(k0 == 18)=false:=by simp;omega
 have e6:(k0 == 6)=false:=by simp;omega
 have x8:(k0 == 21)=false:=by simp;omega
 clear hk
 go_enter Tryz.func132,Tryz.ntmps132
 go_wp2_with (first
  | (go_at_call 81;refine g.mono ?_;rintro e w1 ⟨rfl,O1,y,q⟩;obtain⟨g1,z5⟩:=q.box g0 n;obtain⟨z0,z1,z2,z3,_,_,_,_⟩:=in4 g1)
  | (go_at_call 110;refine(w O1 w1 y).mono ?_;intro e w2 hq;rcases hq.par with⟨cd,a,he,rfl,y8⟩|⟨c2,z,rfl,O2,y7,r⟩;(exact⟨rfl,.inr ⟨cd,a,f1.out _ _ he,rfl,y8⟩⟩);refine Hid.out ?_))
 have x:=a2h _ _ _ _ z
 have i:=a4z _ _ _ _ z
 have y6:sumL c2.bl<=30:=a4q _ _ _ _ z l
 have y5:=x.nb c
 have y9:=x.len
 simp only[List.length_append,List.length_singleton]at i
 simp only at y9
 have s:=f2.out _ z
 replace s:Hid _:=s
 obtain⟨g2,y4⟩:=r.box g1 z5
 obtain⟨y0,y1,y2,y3,_,_,_,_⟩:=in4 g2
 simp only at y0 y1 y2 y3
 have z8:=v.trans (q.trans r)
 clear g w z0 z1 z2 z3 y q r v
 refine Lib.hid ?_
 go_wp2
 go_end0
 exact .inl ⟨c2,s.out,rfl,O2,y7,z8⟩
theorem b6r(t0:List UInt8)(n0:Int)(ks:List Nd)(ih:a9c ks):VisC ⟨3,t0,n0,ks⟩:=by
 intro g B u ub uc fm O sl bl b cap W hC hN hM hD z6 y7 z9 x9
 have x7:manyN ⟨3,t0,n0,ks⟩=manyN.go ks+1:=rfl
 rw[x7]at hM hD
 have x2:=a1g ks
 have hK:=KA.of hN
 have y9:=q1z (Below.refl W.heap.size W) (nbx ⟨3,t0,n0,ks⟩ b cap)
 have g0:=a0a W (nbx ⟨3,t0,n0,ks⟩ b cap)
 have p:=CK.below (O:=O) y9
 have z8:¬O W.heap.size:=fun h=>by have:=(hC.hO _ h).2;omega
 have z4:=a2z g B u ub uc fm O sl bl (sumL bl) _ (hC.on y9) (by omega)
 have q:=fun O1 w1 (v:Ck g B u ub uc fm O1 (sl++[-1]) bl (sumL bl) w1)=>ih g B u ub uc fm O1 (sl++[-1]) bl b cap w1 v hK (by simp;omega) (by omega) z6 y7 z9 x9
 obtain⟨R,f⟩:=exq (visC (u.kids.map Nd.t) false ⟨3,t0,n0,ks⟩ ⟨sl,bl⟩)
 rw[f]
 rw[a3u _ _ _ _ _ _ (by omega) (by omega),show(⟨sl,bl⟩:Cs).enter=⟨sl++[-1],bl⟩ from rfl]at f
 simp only at f
 have f1:Hid (∀i a,allC (u.kids.map Nd.t) ks ⟨sl++[-1],bl⟩=.error (i,a)->R=.error (i,a)):=fun i a e=>by rw[<- f,e];rfl
 have f2:Hid (∀d,allC (u.kids.map Nd.t) ks ⟨sl++[-1],bl⟩=.ok d->R=declareC t0 false sl.length d):=fun d e=>by
  rw[<- f,e]
  show actC _ _ _ _ _ _=_
  rw[actC,if_pos (by omega)]
 obtain⟨t,ht⟩:=exq (W.heap.size)
 rw[ht]at g0 z8
 obtain⟨L,hL⟩:=exq (ks.length)
 have y6:=hL
 replace hL:Hid _:=hL
 replace y6:Hid _:=y6
 replace hK:Hid (KA (low g) g b cap ks):=hK
 clear f hC hN
 go_enter Tryz.func132,Tryz.ntmps132
 go_wp2_with (first
  | (go_at_call 81;refine z4.mono ?_;rintro e w1 ⟨rfl,O1,v,l⟩;obtain⟨g1,x8⟩:=l.box g0 z8;obtain⟨z0,z1,z2,z3,_,_,_,_⟩:=in4 g1)
  | (go_at_call 110;refine(q O1 w1 v).mono ?_;intro e w2 hq;rcases hq.par with⟨i,a,he,rfl,o⟩|⟨c2,x,rfl,O2,y4,n⟩;(exact⟨rfl,.inr ⟨i,a,f1.out _ _ he,rfl,o⟩⟩);refine Hid.out ?_))
 have s:=a2h _ _ _ _ x
 have z5:=a4z _ _ _ _ x
 have z7:sumL c2.bl<=30:=a4q _ _ _ _ x z6
 have y8:=s.nb y7
 have z:=s.len
 simp only[List.length_append,List.length_singleton]at z5
 simp only at z
 have w:=f2.out _ x
 replace w:Hid _:=w
 obtain⟨g2,x3⟩:=n.box g1 x8
 obtain⟨y0,y1,y2,y3,_,_,_,_⟩:=in4 g2
 simp only at y0 y1 y2 y3
 have y5:=p.trans (l.trans n)
 clear z4 q z0 z1 z2 z3 v l n p
 obtain⟨c,fr,y⟩:∃c fr,c2.bl=c::fr:=by
  cases hc:c2.bl with
  | nil=>rw[hc]at z;exact absurd (List.length_eq_zero_iff.1 z.symm) z9
  | cons c fr=>exact⟨c,fr,rfl⟩
 have r:=declare_any g B u ub uc fm O2 c2.sl c fr (sumL c2.bl) t0 false sl.length w2 (by rw[<- y];exact y4) (by rw[y]) z7 (by rw[y]at z;simp at z;omega) (by omega) (y8 c (by rw[y];simp))
 rw[<- y,show(⟨c2.sl,c2.bl⟩:Cs)=c2 from rfl]at r
 clear y4
 refine Lib.hid ?_
 go_wp2_with (go_at_call 146;refine r.mono ?_;intro e w4 hq;rcases hq.par with⟨i,a,he,rfl,o⟩|⟨c4,x6,rfl,O4,x4,x5⟩;(exact⟨rfl,.inr ⟨i,a,by rw[w.out];exact he,rfl,o⟩⟩))
 go_end0
 exact .inl ⟨c4,by rw[w.out];exact x6,rfl,O4,x4,y5.trans x5⟩
theorem b6s(t0:List UInt8)(n0:Int)(ks:List Nd)(ih:a9c ks):VisC ⟨5,t0,n0,ks⟩:=by
 intro g B u ub uc fm O sl bl b cap W hC hN hM hD z6 y7 z9 x9
 have x7:manyN ⟨5,t0,n0,ks⟩=manyN.go ks+1:=rfl
 rw[x7]at hM hD
 have x2:=a1g ks
 have hK:=KA.of hN
 have y9:=q1z (Below.refl W.heap.size W) (nbx ⟨5,t0,n0,ks⟩ b cap)
 have g0:=a0a W (nbx ⟨5,t0,n0,ks⟩ b cap)
 have p:=CK.below (O:=O) y9
 have z8:¬O W.heap.size:=fun h=>by have:=(hC.hO _ h).2;omega
 have z4:=a2z g B u ub uc fm O sl bl (sumL bl) _ (hC.on y9) (by omega)
 have q:=fun O1 w1 (v:Ck g B u ub uc fm O1 (sl++[-1]) bl (sumL bl) w1)=>ih g B u ub uc fm O1 (sl++[-1]) bl b cap w1 v hK (by simp;omega) (by omega) z6 y7 z9 x9
 obtain⟨R,f⟩:=exq (visC (u.kids.map Nd.t) false ⟨5,t0,n0,ks⟩ ⟨sl,bl⟩)
 rw[f]
 rw[a3u _ _ _ _ _ _ (by omega) (by omega),show(⟨sl,bl⟩:Cs).enter=⟨sl++[-1],bl⟩ from rfl]at f
 simp only at f
 have f1:Hid (∀i a,allC (u.kids.map Nd.t) ks ⟨sl++[-1],bl⟩=.error (i,a)->R=.error (i,a)):=fun i a e=>by rw[<- f,e];rfl
 have f2:Hid (∀d,allC (u.kids.map Nd.t) ks ⟨sl++[-1],bl⟩=.ok d->R=declareC t0 false sl.length d):=fun d e=>by
  rw[<- f,e]
  show actC _ _ _ _ _ _=_
  rw[actC,if_pos (by omega)]
 obtain⟨t,ht⟩:=exq (W.heap.size)
 rw[ht]at g0 z8
 obtain⟨L,hL⟩:=exq (ks.length)
 have y6:=hL
 replace hL:Hid _:=hL
 replace y6:Hid _:=y6
 replace hK:Hid (KA (low g) g b cap ks):=hK
 clear f hC hN
 go_enter Tryz.func132,Tryz.ntmps132
 go_wp2_with (first
  | (go_at_call 81;refine z4.mono ?_;rintro e w1 ⟨rfl,O1,v,l⟩;obtain⟨g1,x8⟩:=l.box g0 z8;obtain⟨z0,z1,z2,z3,_,_,_,_⟩:=in4 g1)
  | (go_at_call 110;refine(q O1 w1 v).mono ?_;intro e w2 hq;rcases hq.par with⟨i,a,he,rfl,o⟩|⟨c2,x,rfl,O2,y4,n⟩;(exact⟨rfl,.inr ⟨i,a,f1.out _ _ he,rfl,o⟩⟩);refine Hid.out ?_))
 have s:=a2h _ _ _ _ x
 have z5:=a4z _ _ _ _ x
 have z7:sumL c2.bl<=30:=a4q _ _ _ _ x z6
 have y8:=s.nb y7
 have z:=s.len
 simp only[List.length_append,List.length_singleton]at z5
 simp only at z
 have w:=f2.out _ x
 replace w:Hid _:=w
 obtain⟨g2,x3⟩:=n.box g1 x8
 obtain⟨y0,y1,y2,y3,_,_,_,_⟩:=in4 g2
 simp only at y0 y1 y2 y3
 have y5:=p.trans (l.trans n)
 clear z4 q z0 z1 z2 z3 v l n p
 obtain⟨c,fr,y⟩:∃c fr,c2.bl=c::fr:=by
  cases hc:c2.bl with
  | nil=>rw[hc]at z;exact absurd (List.length_eq_zero_iff.1 z.symm) z9
  | cons c fr=>exact⟨c,fr,rfl⟩
 have r:=declare_any g B u ub uc fm O2 c2.sl c fr (sumL c2.bl) t0 false sl.length w2 (by rw[<- y];exact y4) (by rw[y]) z7 (by rw[y]at z;simp at z;omega) (by omega) (y8 c (by rw[y];simp))
 rw[<- y,show(⟨c2.sl,c2.bl⟩:Cs)=c2 from rfl]at r
 clear y4
 refine Lib.hid ?_
 go_wp2_with (go_at_call 146;refine r.mono ?_;intro e w4 hq;rcases hq.par with⟨i,a,he,rfl,o⟩|⟨c4,x6,rfl,O4,x4,x5⟩;(exact⟨rfl,.inr ⟨i,a,by rw[w.out];exact he,rfl,o⟩⟩))
 go_end0
 exact .inl ⟨c4,by rw[w.out];exact x6,rfl,O4,x4,y5.trans x5⟩
theorem c0c(t0:List UInt8)(n0:Int)(ks:List Nd)(ih:a9c ks):VisC ⟨18,t0,n0,ks⟩:=by
 intro n B u ub uc fm O sl bl b cap W hC hN hM hD c z5 y7 i
 have y5:manyN ⟨18,t0,n0,ks⟩=manyN.go ks+1:=rfl
 rw[y5]at hM hD
 have x4:=a1g ks
 have hK:=KA.of hN
 have z7:=q1z (Below.refl W.heap.size W) (nbx ⟨18,t0,n0,ks⟩ b cap)
 have g0:=a0a W (nbx ⟨18,t0,n0,ks⟩ b cap)
 have s:=CK.below (O:=O) z7
 have f:¬O W.heap.size:=fun h=>by have:=(hC.hO _ h).2;omega
 have z8:=a2z n B u ub uc fm O sl bl (sumL bl) _ (hC.on z7) (by omega)
 have v:=fun O1 w1 (x:Ck n B u ub uc fm O1 (sl++[-1]) bl (sumL bl) w1)=>ih n B u ub uc fm O1 (sl++[-1]) bl b cap w1 x hK (by simp;omega) (by omega) c z5 y7 i
 obtain⟨R,l⟩:=exq (visC (u.kids.map Nd.t) false ⟨18,t0,n0,ks⟩ ⟨sl,bl⟩)
 rw[l]
 rw[a3u _ _ _ _ _ _ (by omega) (by omega),show(⟨sl,bl⟩:Cs).enter=⟨sl++[-1],bl⟩ from rfl]at l
 simp only at l
 have f1:Hid (∀o a,allC (u.kids.map Nd.t) ks ⟨sl++[-1],bl⟩=.error (o,a)->R=.error (o,a)):=fun o a e=>by rw[<- l,e];rfl
 have f2:Hid (∀d,allC (u.kids.map Nd.t) ks ⟨sl++[-1],bl⟩=.ok d->R=a4a (u.kids.map Nd.t) t0 sl.length d):=fun d e=>by
  rw[<- l,e]
  show actC _ _ _ _ _ _=_
  rw[actC,if_neg (by omega),if_pos rfl]
 obtain⟨t,ht⟩:=exq (W.heap.size)
 rw[ht]at g0 f
 obtain⟨L,hL⟩:=exq (ks.length)
 have z4:=hL
 replace hL:Hid _:=hL
 replace z4:Hid _:=z4
 replace hK:Hid (KA (low n) n b cap ks):=hK
 clear l hC hN
 go_enter Tryz.func132,Tryz.ntmps132
 go_wp2_with (first
  | (go_at_call 81;refine z8.mono ?_;rintro e w1 ⟨rfl,O1,x,p⟩;obtain⟨g1,y6⟩:=p.box g0 f;obtain⟨z0,z1,z2,z3,_,_,_,_⟩:=in4 g1)
  | (go_at_call 110;refine(v O1 w1 x).mono ?_;intro e w2 hq;rcases hq.par with⟨o,a,he,rfl,r⟩|⟨c2,z,rfl,O2,y8,q⟩;(exact⟨rfl,.inr ⟨o,a,f1.out _ _ he,rfl,r⟩⟩);refine Hid.out ?_))
 have w:=a2h _ _ _ _ z
 have z9:=a4z _ _ _ _ z
 have x6:sumL c2.bl<=30:=a4q _ _ _ _ z c
 have z6:=w.nb z5
 have y4:=w.len
 simp only[List.length_append,List.length_singleton]at z9
 simp only at y4
 have y:=f2.out _ z
 replace y:Hid _:=y
 obtain⟨g2,x5⟩:=q.box g1 y6
 obtain⟨y0,y1,y2,y3,_,_,_,_⟩:=in4 g2
 simp only at y0 y1 y2 y3
 have y9:=s.trans (p.trans q)
 clear z8 v z0 z1 z2 z3 x p q s
 have g:=name_any n B u ub uc fm O2 c2.sl c2.bl t0 sl.length w2 y8 z6 (by omega) (by omega) i
 rw[show(⟨c2.sl,c2.bl⟩:Cs)=c2 from rfl]at g
 clear y8
 refine Lib.hid ?_
 go_wp2_with (go_at_call 147;refine g.mono ?_;intro e w4 hq;rcases hq.par with⟨o,a,he,rfl,r⟩|⟨c4,x9,rfl,O4,x7,x8⟩;(exact⟨rfl,.inr ⟨o,a,by rw[y.out];exact he,rfl,r⟩⟩))
 go_end0
 exact .inl ⟨c4,by rw[y.out];exact x9,rfl,O4,x7,y9.trans x8⟩
theorem c0d(t0:List UInt8)(n0:Int)(ks:List Nd)(ih:a9c ks):VisC ⟨21,t0,n0,ks⟩:=by
 intro n B u ub uc fm O sl bl b cap W hC hN hM hD i z8 y9 z4
 have y7:manyN ⟨21,t0,n0,ks⟩=manyN.go ks+1:=rfl
 rw[y7]at hM hD
 have x5:=a1g ks
 have hK:=KA.of hN
 have z9:=q1z (Below.refl W.heap.size W) (nbx ⟨21,t0,n0,ks⟩ b cap)
 have g0:=a0a W (nbx ⟨21,t0,n0,ks⟩ b cap)
 have s:=CK.below (O:=O) z9
 have l:¬O W.heap.size:=fun h=>by have:=(hC.hO _ h).2;omega
 have f:=a2z n B u ub uc fm O sl bl (sumL bl) _ (hC.on z9) (by omega)
 have v:=fun O1 w1 (x:Ck n B u ub uc fm O1 (sl++[-1]) bl (sumL bl) w1)=>ih n B u ub uc fm O1 (sl++[-1]) bl b cap w1 x hK (by simp;omega) (by omega) i z8 y9 z4
 obtain⟨R,o⟩:=exq (visC (u.kids.map Nd.t) false ⟨21,t0,n0,ks⟩ ⟨sl,bl⟩)
 rw[o]
 rw[a3u _ _ _ _ _ _ (by omega) (by omega),show(⟨sl,bl⟩:Cs).enter=⟨sl++[-1],bl⟩ from rfl]at o
 simp only at o
 have f1:Hid (∀cd a,allC (u.kids.map Nd.t) ks ⟨sl++[-1],bl⟩=.error (cd,a)->R=.error (cd,a)):=fun cd a e=>by rw[<- o,e];rfl
 have f2:Hid (∀d,allC (u.kids.map Nd.t) ks ⟨sl++[-1],bl⟩=.ok d->R=(if 6<ks.length then .error (1,sl.length) else .ok d)):=fun d e=>by
  rw[<- o,e]
  show actC _ _ _ _ _ _=_
  rw[actC,if_neg (by omega),if_neg (by omega),if_neg (by omega),if_pos rfl]
 obtain⟨t,ht⟩:=exq (W.heap.size)
 rw[ht]at g0 l
 obtain⟨L,r⟩:=exq (ks.length)
 have z7:=r
 replace r:Hid _:=r
 replace z7:Hid _:=z7
 replace hK:Hid (KA (low n) n b cap ks):=hK
 clear o hC hN
 go_enter Tryz.func132,Tryz.ntmps132
 go_wp2_with (first
  | (go_at_call 81;refine f.mono ?_;rintro e w1 ⟨rfl,O1,x,p⟩;obtain⟨g1,y8⟩:=p.box g0 l;obtain⟨z0,z1,z2,z3,_,_,_,_⟩:=in4 g1)
  | (go_at_call 110;refine(v O1 w1 x).mono ?_;intro e w2 hq;rcases hq.par with⟨cd,a,he,rfl,y5⟩|⟨c2,z,rfl,O2,z5,q⟩;(exact⟨rfl,.inr ⟨cd,a,f1.out _ _ he,rfl,y5⟩⟩);refine Hid.out ?_))
 have w:=a2h _ _ _ _ z
 have g:=a4z _ _ _ _ z
 have x9:sumL c2.bl<=30:=a4q _ _ _ _ z i
 have x8:=w.nb z8
 have y6:=w.len
 simp only[List.length_append,List.length_singleton]at g
 simp only at y6
 have y:=f2.out _ z
 replace y:Hid _:=y
 obtain⟨g2,x6⟩:=q.box g1 y8
 obtain⟨y0,y1,y2,y3,_,_,_,_⟩:=in4 g2
 simp only at y0 y1 y2 y3
 have z6:=s.trans (p.trans q)
 clear f v z0 z1 z2 z3 x p q s
 have x7:IntKind.i64.wrap ((L:Int)-1)=(L:Int)-1:=by rw[IntKind.wrap_i64];have:=r.out;omega
 rw[r.out]at y3
 have c:=z5.bl
 refine Lib.hid ?_
 by_cases h6:6<L
 ·have y4:(5:Int)<(L:Int)-1:=by omega
  go_wp2_with (go_at_call 83;refine(a5k _ _ sl.length _).mono ?_;rintro e w4 ⟨rfl,rfl⟩)
  exact⟨rfl,.inr ⟨1,sl.length,by rw[y.out,if_pos (by rw[r.out];exact h6)],rfl,c⟩⟩
 ·have y4:¬(5:Int)<(L:Int)-1:=by omega
  go_wp2_with (go_at_call 83;refine(a8c _ _ _ _).mono ?_;rintro e w4 ⟨rfl,rfl⟩)
  go_end0
  exact .inl ⟨c2,by rw[y.out,if_neg (by rw[r.out];exact h6)],rfl,O2,z5,z6⟩
theorem c4s(t0:List UInt8)(n0:Int)(ks:List Nd)(p:Nd)(hp:ks[0]?=some p)(ih:a9c ks):VisC ⟨6,t0,n0,ks⟩:=by
 intro n B u ub uc fm O sl bl b cap W hC hN hM hD z7 y5 x5 x6
 have x3:manyN ⟨6,t0,n0,ks⟩=manyN.go ks+1:=rfl
 rw[x3]at hM hD
 have w7:=a1g ks
 have hK:=KA.of hN
 have y7:=q1z (Below.refl W.heap.size W) (nbx ⟨6,t0,n0,ks⟩ b cap)
 have g0:=a0a W (nbx ⟨6,t0,n0,ks⟩ b cap)
 have o:=CK.below (O:=O) y7
 have z8:¬O W.heap.size:=fun h=>by have:=(hC.hO _ h).2;omega
 have z4:=a2z n B u ub uc fm O sl bl (sumL bl) _ (hC.on y7) (by omega)
 have q:=fun O1 w1 (s:Ck n B u ub uc fm O1 (sl++[-1]) bl (sumL bl) w1)=>ih n B u ub uc fm O1 (sl++[-1]) bl b cap w1 s hK (by simp;omega) (by omega) z7 y5 x5 x6
 obtain⟨R,hR⟩:=exq (visC (u.kids.map Nd.t) false ⟨6,t0,n0,ks⟩ ⟨sl,bl⟩)
 rw[hR]
 rw[a3u _ _ _ _ _ _ (by omega) (by omega),show(⟨sl,bl⟩:Cs).enter=⟨sl++[-1],bl⟩ from rfl]at hR
 simp only at hR
 have f1:Hid (∀cd a,allC (u.kids.map Nd.t) ks ⟨sl++[-1],bl⟩=.error (cd,a)->R=.error (cd,a)):=fun cd a e=>by rw[<- hR,e];rfl
 have f2:Hid (∀d,allC (u.kids.map Nd.t) ks ⟨sl++[-1],bl⟩=.ok d->R=(if setB ks.head? d then .ok d else .error (3,sl.length))):=fun d e=>by
  rw[<- hR,e]
  show actC _ _ _ _ _ _=_
  rw[actC,if_neg (by omega),if_neg (by omega),if_pos rfl]
 obtain⟨t,ht⟩:=exq (W.heap.size)
 rw[ht]at g0 z8
 obtain⟨L,hL⟩:=exq (ks.length)
 have y4:=hL
 replace hL:Hid _:=hL
 replace y4:Hid _:=y4
 replace hK:Hid (KA (low n) n b cap ks):=hK
 clear hR hC hN
 go_enter Tryz.func132,Tryz.ntmps132
 go_wp2_with (first
  | (go_at_call 81;refine z4.mono ?_;rintro e w1 ⟨rfl,O1,s,f⟩;obtain⟨g1,x4⟩:=f.box g0 z8;obtain⟨z0,z1,z2,z3,_,_,_,_⟩:=in4 g1)
  | (go_at_call 110;refine(q O1 w1 s).mono ?_;intro e w2 hq;rcases hq.par with⟨cd,a,he,rfl,x1⟩|⟨c2,w,rfl,O2,c,g⟩;(exact⟨rfl,.inr ⟨cd,a,f1.out _ _ he,rfl,x1⟩⟩);refine Hid.out ?_))
 have r:=a2h _ _ _ _ w
 have z6:=a4z _ _ _ _ w
 have x0:sumL c2.bl<=30:=a4q _ _ _ _ w z7
 have y6:=r.nb y5
 have x2:=r.len
 simp only[List.length_append,List.length_singleton]at z6
 simp only at x2
 have x:=f2.out _ w
 replace x:Hid _:=x
 obtain⟨g2,w8⟩:=g.box g1 x4
 obtain⟨y0,y1,y2,y3,_,_,_,_⟩:=in4 g2
 simp only at y0 y1 y2 y3
 have x9:=o.trans (f.trans g)
 clear z4 q z0 z1 z2 z3 s f g o
 obtain⟨g',w9,b',cap',rfl,v0,v1,v2,v3,x7⟩:=KA.at hK.out hp
 simp only[Nat.zero_mul,Nat.add_zero]at v0 v1 v2 v3
 have z5:=World.block_lt_of_cell? _ _ v0
 simp only at z5
 have z:∀i v,Ce n g' i v->Ce w2 g' i v:=fun i v h=>(c.bl.cell (p:=(Ad g' i)) z5).trans h
 replace v0:=z _ _ v0
 replace v1:=z _ _ v1
 replace v2:=z _ _ v2
 replace v3:=z _ _ v3
 have w6:(0:Int)<(L:Int):=by have:=(List.getElem?_eq_some_iff.1 hp).1;have:=hL.out;omega
 rw[hL.out]at y3
 have y:=c0a n B u ub uc fm O2 c2.sl c2.bl p b' cap' w2 c y6 (by omega)
 have l:setB ks.head? c2=setV p c2.bl:=by rw[List.head?_eq_getElem?,hp];rfl
 obtain⟨sv,z9⟩:=exq (setV p c2.bl)
 rw[z9]at y l
 rw[l]at x
 obtain⟨pk,pt,pn,ps⟩:=p
 simp only at v0 v1 v2 v3
 replace y:Cl 148 #[Po B 0,.agg #[vi pk,sk pt,vi pn,.slice b' ps.length cap']] w2 fun e W'=>e=.returned (.bool sv)/\Bw w2 W':=y
 clear z9 l z x7 hp
 refine Lib.hid ?_
 go_wp2_with (first
  | (go_at_call 148;refine y.mono ?_;rintro e w3 ⟨rfl,y8⟩;have x8:=c.on y8;have y9:=x8.bl)
  | (go_at_call 83;refine(a2x _ _ _ sl.length _).mono ?_;rintro e w4 ⟨rfl,(⟨hw,rfl⟩|⟨hw,rfl⟩)⟩;(exact⟨rfl,.inr ⟨3,sl.length,by rw[x.out];simp at hw;simp[hw],rfl,y9⟩⟩)))
 go_end0
 exact .inl ⟨c2,by rw[x.out];simp at hw;simp[hw],rfl,O2,x8,x9.trans (CK.below (O:=O2) y8)⟩
theorem c4t(n:Nd):isN n->VisC n/\(n.k=4->InC n):=by
 refine a3x (m:=fun n=>isN n->VisC n/\(n.k=4->InC n)) (fun k t o ks q h=>?_) n
 rw[isN]at h
 obtain⟨h1,_,_,_,_,_,_,_,r⟩:=h
 rw[a5f]at r
 have v:a9c ks:=b6o ks (fun y g=>by
  obtain⟨j,c⟩:=List.getElem?_of_mem g
  exact(q y g (r j y c).2).1)
 by_cases h4:k=4
 ·subst h4
  have s:=c4q t o ks v
  exact⟨b6q t o ks s,fun _=>s⟩
 refine⟨?_,fun e=>absurd e h4⟩
 by_cases h10:k=10
 ·subst h10
  have f:ks.length=3:=by unfold a0r at h1;omega
  match ks,f with
  | [x,y,z],_ =>
   have i:=r 2 z rfl
   have l:z.k=4:=by
    have:=i.1
    unfold a0w at this
    rw[if_neg (by omega),if_neg (by omega),if_neg (by omega),if_neg (by omega),if_pos rfl,if_pos (by omega)]at this
    exact this
   exact c4r t o _ (d6d t o x y z (b6o _ (fun w u=>by
    rcases List.mem_cons.1 u with rfl|u
    ·exact(q _ (by simp) (r 0 _ rfl).2).1
    ·rcases List.mem_cons.1 u with rfl|u
     ·exact(q _ (by simp) (r 1 _ rfl).2).1
     ·simp at u)) ((q z (by simp) i.2).2 l))
 by_cases h3:k=3
 ·subst h3;exact b6r t o ks v
 by_cases h5:k=5
 ·subst h5;exact b6s t o ks v
 by_cases h18:k=18
 ·subst h18;exact c0c t o ks v
 by_cases h21:k=21
 ·subst h21;exact c0d t o ks v
 by_cases h6:k=6
 ·subst h6
  have f:ks.length=2:=by unfold a0r at h1;omega
  obtain⟨p,d⟩:∃p,ks[0]?=some p:=⟨_,List.getElem?_eq_getElem (by omega)⟩
  exact c4s t o ks p d v
 exact c0b k ⟨h10,h4,h3,h5,h18,h6,h21⟩ t o ks v
theorem d6e(t0:List UInt8)(n0:Int)(ks:List Nd)(P:Nat)(z:Nd)(hP1:P+1=ks.length)(f:ks[P]?=some z)(hz:InC z)(x6:a9c (ks.take P))(i:Nat)(w0:World)(B:Nat)(u:Nd)(ub:Option Addr)(uc fm:Nat)(O:Nat->Prop)(sl:List Int)(b:Option Addr)(cap:Nat)(W:World)(hC:Ck w0 B u ub uc fm O sl [] 0 W)(hN:NdV (low w0) w0 ⟨2,t0,n0,ks⟩ (ndv ⟨2,t0,n0,ks⟩ b cap))(hM:sl.length+manyN ⟨2,t0,n0,ks⟩<=100000)(z4:u.kids[i]?=some ⟨2,t0,n0,ks⟩)(hul:u.kids.length<=100000) :
  Cl 82 #[Po B 0,ndv ⟨2,t0,n0,ks⟩ b cap,vi (i:Nat)] W (CQ w0 B u ub uc fm O W (funC (u.kids.map Nd.t) i ⟨2,t0,n0,ks⟩ ⟨sl,[]⟩)):=by
 have q4:i<u.kids.length:=(List.getElem?_eq_some_iff.1 z4).1
 have r4:manyN ⟨2,t0,n0,ks⟩=manyN.go ks+1:=rfl
 rw[r4]at hM
 have q5:=a1g ks
 have hK:=KA.of hN
 obtain⟨bz,cz,x7,s⟩:=body_any w0 2 t0 n0 ks b cap hK P z f hP1 (by omega)
 have t6:=hK.1
 have v9:KA (low w0) w0 b cap (ks.take P):=hK.take P
 have r9:(ks.take P).length=P:=by simp;omega
 obtain⟨g',n,_,_,rfl,_⟩:=KA.at hK f
 have p:=fun V=>params_any 2 t0 n0 ks g' n cap P hP1 (by omega) t6 V
 have y:ks=ks.take P++[z]:=by
  have e:ks.drop P=[z]:=by
   rw[List.drop_eq_getElem_cons (by omega),List.drop_eq_nil_of_le (by omega)]
   congr 1
   exact(List.getElem?_eq_some_iff.1 f).2
  rw[<- e,List.take_append_drop]
 have q9:manyN.go ks=manyN.go (ks.take P)+manyN z:=by
  have:=congrArg manyN.go y
  rw[a2m]at this
  simpa[manyN.go]using this
 have q6:=a2n z
 obtain⟨j,hj⟩:∃j,funI (u.kids.map Nd.t) t0=some j:=by
  have v1:t0∈(u.kids.map Nd.t):=List.mem_map.2 ⟨_,List.mem_of_getElem? z4,rfl⟩
  cases hf:funI (u.kids.map Nd.t) t0 with
  | none =>
   unfold funI at hf
   rw[List.findIdx?_eq_none_iff]at hf
   have:=hf t0 v1
   simp at this
  | some j=>exact⟨j,rfl⟩
 obtain⟨R,hR⟩:=exq (funC (u.kids.map Nd.t) i ⟨2,t0,n0,ks⟩ ⟨sl,[]⟩)
 rw[hR]
 have y8:(if j<i then .error (5,sl.length) else if 12<=i\/5<P then .error (1,sl.length) else ((allC (u.kids.map Nd.t) (ks.take P) ⟨sl++[-1],[[]]⟩).bind (visC (u.kids.map Nd.t) true z)).map Cs.close)=R:=by
  rw[<- hR,funC]
  have e1:b3c (u.kids.map Nd.t) i t0=decide (j<i):=by unfold b3c;rw[hj]
  have e2:(12<=i\/6<ks.length)↔(12<=i\/5<P):=by omega
  simp only[e1,decide_eq_true_eq,e2]
  split
  ·rfl
  ·split
   ·rfl
   ·rw[<- a7v,<- y];rfl
 clear hR
 have t3:=q1z (Below.refl W.heap.size W) (nbx ⟨2,t0,n0,ks⟩ (some (Ad g' n)) cap)
 have g0:=a0a W (nbx ⟨2,t0,n0,ks⟩ (some (Ad g' n)) cap)
 have x8:=CK.below (O:=O) t3
 have x3:=a2z w0 B u ub uc fm O sl [] 0 _ (hC.on t3) (by omega)
 have v2:¬O W.heap.size:=fun h=>by have:=(hC.hO _ h).2;omega
 obtain⟨t,ht⟩:=exq (W.heap.size)
 rw[ht]at g0 v2
 obtain⟨s0,c⟩:=exq (sl.length)
 rw[c]at x3 y8 hM
 replace c:Hid _:=c
 replace y8:Hid _:=y8
 replace s:Hid _:=s
 replace p:Hid _:=p
 replace hz:Hid (InC z):=hz
 replace x6:Hid (a9c (ks.take P)):=x6
 replace x7:Hid (NdV (low w0) w0 z (ndv z bz cz)):=x7
 replace v9:Hid (KA (low w0) w0 (some (Ad g' n)) cap (ks.take P)):=v9
 replace y:Hid _:=y
 replace f:Hid (ks[P]?=some z):=f
 replace z4:Hid _:=z4
 replace hj:Hid (funI (u.kids.map Nd.t) t0=some j):=hj
 clear hC hN hK
 go_enter Tryz.func82,Tryz.ntmps82
 go_wp2_with (go_at_call 81;refine x3.mono ?_;rintro e w1 ⟨rfl,O1,y7,v6⟩;refine Hid.out ?_)
 obtain⟨g1,r5⟩:=v6.box g0 v2
 have o:Bw w1 w1.drew:=bz0.drew
 obtain⟨z0,z1,z2,z3,_,_,_,_⟩:=in4 g1
 simp only at z0 z1 z2 z3
 obtain⟨_,c4,_,_⟩:=y7.cells
 have w:=(y7.on o).funs t0 false
 rw[hj.out]at w
 simp only[Bool.false_eq_true,if_false,Option.map_some,Option.getD_some]at w
 have z5:=x8.trans (v6.trans (CK.below (O:=O1) o))
 have x:=y7.on o
 clear x3 x8 v6 y7
 have l:=y8.out
 by_cases hji:j<i
 ·rw[if_pos hji]at l
  subst l
  have t9:(j:Int)<(i:Int):=by omega
  have q:Hid (Bw w0 w1.drew):=x.bl
  refine Lib.hid ?_
  go_wp2
  go_region_with ((go_at_call 83;refine(a2x _ _ _ s0 _).mono ?_;rintro e w2 ⟨rfl,(⟨g,rfl⟩|⟨g,rfl⟩)⟩;(exact⟨rfl,.inr ⟨5,s0,rfl,rfl,q.out⟩⟩)))
  all_goals exact absurd g (by simp;try omega)
 rw[if_neg hji]at l
 replace l:Hid _:=l
 have t9:¬(j:Int)<(i:Int):=by omega
 have s1:w1.drew.cell? (Ad B 4)=some (.map (some fm)):=c4
 have v5:w1.drew.cell? (Ad t 1)=some (sk t0):=z1
 refine Lib.hid ?_
 go_wp2
 go_region_held3 (fun w'=>w'.cell? (Ad B 4)=some (.map (some fm))/\w'.cell? (Ad t 1)=some (sk t0)) (go_keep) ((go_at_call 83;refine(a8c _ _ _ _).mono ?_;rintro e w2 ⟨rfl,rfl⟩))
 obtain⟨V,hV⟩:=exq (w1.drew)
 rw[hV]at x z5 w s1 v5
 have gV:V.heap[t]?=some (nbx ⟨2,t0,n0,ks⟩ (some (Ad g' n)) cap):=by rw[<- hV];exact g1
 rw[hV]
 clear hV c4 z0 z1 z2 z3 s1 v5 w g1 o
 obtain⟨z0,z1,z2,z3,_,_,_,_⟩:=in4 gV
 simp only at z0 z1 z2 z3
 have v:=l.out
 by_cases h12:12<=i
 ·rw[if_pos (.inl h12)]at v
  subst v
  have s2:(12:Int)<=(i:Int):=by omega
  have q:Hid (Bw w0 V):=x.bl
  go_wp2_with (go_at_call 83;refine(a2x _ _ _ s0 _).mono ?_;rintro e w3 ⟨rfl,(⟨g,rfl⟩|⟨g,rfl⟩)⟩;(exact⟨rfl,.inr ⟨1,s0,rfl,rfl,q.out⟩⟩))
  exact absurd g (by simp;try omega)
 have s2:¬(12:Int)<=(i:Int):=by omega
 have x5:=p.out V
 by_cases h5:5<P
 ·rw[if_pos (.inr h5)]at v
  subst v
  have r0:(5:Int)<(P:Int):=by omega
  have q:Hid (∀w3,Bw V w3->Bw w0 w3):=fun w3 h=>q3z x.bl h
  go_wp2_with (first
   | (go_at_call 84;refine x5.mono ?_;rintro e w2 ⟨rfl,z7⟩)
   | (go_at_call 83;refine(a2x _ _ _ s0 _).mono ?_;rintro e w3 ⟨rfl,(⟨g,rfl⟩|⟨g,rfl⟩)⟩;(exact⟨rfl,.inr ⟨1,s0,rfl,rfl,q.out _ z7⟩⟩)))
  exact absurd g (by simp;try omega)
 have r0:¬(5:Int)<(P:Int):=by omega
 rw[if_neg (by omega)]at v
 have f1:Hid (∀cd a,allC (u.kids.map Nd.t) (ks.take P) ⟨sl++[-1],[[]]⟩=.error (cd,a)->R=.error (cd,a)):=fun cd a e=>by rw[<- v,e];rfl
 have f2:Hid (∀d cd a,allC (u.kids.map Nd.t) (ks.take P) ⟨sl++[-1],[[]]⟩=.ok d->visC (u.kids.map Nd.t) true z ⟨d.sl,d.bl⟩=.error (cd,a)->R=.error (cd,a)):=fun d cd a e e2=>by rw[<- v,e];show Except.map _ (visC (u.kids.map Nd.t) true z ⟨d.sl,d.bl⟩)=_;rw[e2];rfl
 have f3:Hid (∀d h,allC (u.kids.map Nd.t) (ks.take P) ⟨sl++[-1],[[]]⟩=.ok d->visC (u.kids.map Nd.t) true z ⟨d.sl,d.bl⟩=.ok h->R=.ok h.close):=fun d h e e2=>by rw[<- v,e];show Except.map _ (visC (u.kids.map Nd.t) true z ⟨d.sl,d.bl⟩)=_;rw[e2];rfl
 clear v
 go_wp2_with (first
  | (go_at_call 84;refine x5.mono ?_;rintro e w2 ⟨rfl,z7⟩)
  | (go_at_call 83;refine(a2x _ _ _ s0 _).mono ?_;rintro e w3 ⟨rfl,(⟨g,rfl⟩|⟨g,rfl⟩)⟩;(exact absurd g (by simp;try omega));refine Hid.out ?_))
 have s3:=x.on z7
 have x9:=z5.trans (CK.below (O:=O1) z7)
 obtain⟨g2,r6⟩:=(CK.below (O:=O1) z7).box gV r5
 have y4:=b0i w0 B u ub uc fm O1 (sl++[-1]) [] 0 w3 s3 (by simp)
 clear x5 x z5 z0 z1 z2 z3 g
 refine Lib.hid ?_
 go_wp2_with (go_at_call 109;refine y4.mono ?_;rintro e w4 ⟨rfl,O4,s4,v7⟩;refine Hid.out ?_)
 obtain⟨g4,r7⟩:=v7.box g2 r6
 obtain⟨z0,z1,z2,z3,_,_,_,_⟩:=in4 g4
 simp only at z0 z1 z2 z3
 have v3:=p.out w4
 have z6:=fun w5 (h5:Ck w0 B u ub uc fm O4 (sl++[-1]) [[]] 0 w5)=>x6.out w0 B u ub uc fm O4 (sl++[-1]) [[]] (some (Ad g' n)) cap w5 h5 v9.out (by have:=c.out;simp;omega) (by simp;omega) (by decide) (fun b hb=>by simp at hb;subst hb;simp) (by simp) hul
 rw[r9]at z6
 clear y4 s3
 refine Lib.hid ?_
 go_wp2_with (first
  | (go_at_call 84;refine v3.mono ?_;rintro e w5 ⟨rfl,x0⟩;have s5:=s4.on x0)
  | (go_at_call 110;refine(z6 _ s5).mono ?_;intro e w6 hq;rcases hq.par with⟨cd,a,he,rfl,x1⟩|⟨c6,z8,rfl,O6,s6,v8⟩;(exact⟨rfl,.inr ⟨cd,a,f1.out _ _ he,rfl,x1⟩⟩);refine Hid.out ?_))
 have s8:=x9.trans (v7.trans ((CK.below (O:=O4) x0).trans v8))
 obtain⟨g5,r8⟩:=(CK.below (O:=O4) x0).box g4 r7
 obtain⟨g6,q7⟩:=v8.box g5 r8
 obtain⟨y0,y1,y2,y3,_,_,_,_⟩:=in4 g6
 simp only at y0 y1 y2 y3
 have z9:=a2h _ _ _ _ z8
 have v0:=a4z _ _ _ _ z8
 have y6:sumL c6.bl<=30:=a4q _ _ _ _ z8 (by show sumL [[]]<=30;decide)
 have t2:=z9.nb (fun b hb=>by simp at hb;subst hb;simp)
 have y9:=z9.len
 have v4:=z9.tail
 simp only[List.length_append,List.length_singleton,List.tail_cons]at v0 y9 v4
 have t5:=s.out w6 s6.bl
 have t8:=fun w7 (h7:Ck w0 B u ub uc fm O6 c6.sl c6.bl (sumL c6.bl) w7)=>hz.out w0 B u ub uc fm O6 c6.sl c6.bl bz cz w7 h7 x7.out (by have:=c.out;omega) (by omega) y6 t2 (fun e=>by rw[e]at y9;simp at y9) hul
 clear v3 z6 s4 s5 v7 v8 x9 z0 z1 z2 z3
 refine Lib.hid ?_
 go_wp2_with (first
  | (go_at_call 112;refine t5.mono ?_;rintro e w7 ⟨rfl,t4⟩;have r1:=s6.on t4)
  | (go_at_call 111;refine(t8 w7 r1).mono ?_;intro e w8 hq;rcases hq.par with⟨cd,a,he,rfl,x1⟩|⟨c8,x2,rfl,O8,s7,t1⟩;(exact⟨rfl,.inr ⟨cd,a,f2.out _ _ _ z8 he,rfl,x1⟩⟩);refine Hid.out ?_))
 have y5:=a2g _ _ _ _ _ x2
 have q8:sumL c8.bl<=30:=a8w _ _ _ _ _ x2 y6
 obtain⟨fb,x4⟩:=b6p (r:=[]) (y5.tail.trans v4) (by rw[y5.len];simpa using y9)
 have t7:=b6i w0 B u ub uc fm O8 c8.sl fb [] (sumL c8.bl) w8 (by rw[<- x4];exact s7) (by simp) (by omega) (by rw[x4])
 have s9:=s8.trans ((CK.below (O:=O6) t4).trans t1)
 have q:Hid (∀W',Ck w0 B u ub uc fm O8 c8.sl [] (sumL []) W'->CK O8 w8 O8 W'->CQ w0 B u ub uc fm O W R (.returned (.tuple #[])) W'):=fun W' h1 h2=>.inl ⟨c8.close,f3.out _ _ z8 x2,rfl,O8,by rw[show c8.close.bl=[] by show c8.bl.tail=_;rw[x4];rfl];exact h1,s9.trans h2⟩
 clear t5 t8 s7 t1 y0 y1 y2 y3
 refine Lib.hid ?_
 go_wp2_with (go_at_call 113;refine t7.mono ?_;rintro e w9 ⟨rfl,r2,r3⟩)
 go_end0
 exact q.out _ r2 r3
theorem c8k(n:Nd)(hn:isN n)(hk:n.k=2)(i:Nat)(w0:World)(B:Nat)(u:Nd)(ub:Option Addr)(uc fm:Nat)(O:Nat->Prop)(sl:List Int)(b:Option Addr)(cap:Nat)(W:World)(hC:Ck w0 B u ub uc fm O sl [] 0 W)(hN:NdV (low w0) w0 n (ndv n b cap))(hM:sl.length+manyN n<=100000)(hui:u.kids[i]?=some n)(hul:u.kids.length<=100000) :
  Cl 82 #[Po B 0,ndv n b cap,vi (i:Nat)] W (CQ w0 B u ub uc fm O W (funC (u.kids.map Nd.t) i n ⟨sl,[]⟩)):=by
 obtain⟨k,t,o,ks⟩:=n
 simp only at hk
 subst hk
 rw[isN]at hn
 obtain⟨h1,_,_,_,_,_,_,_,v⟩:=hn
 rw[a5f]at v
 have l:1<=ks.length:=by unfold a0r at h1;omega
 obtain⟨P,p⟩:∃P,P+1=ks.length:=⟨ks.length-1,by omega⟩
 obtain⟨z,s⟩:∃z,ks[P]?=some z:=⟨_,List.getElem?_eq_getElem (by omega)⟩
 have x:=v P z s
 have w:z.k=4:=by
  have:=x.1
  unfold a0w at this
  rw[if_neg (by omega),if_pos rfl,if_pos (by omega)]at this
  exact this
 refine d6e t o ks P z p s ((c4t z x.2).2 w) (b6o _ (fun y r=>?_)) i w0 B u ub uc fm O sl b cap W hC hN hM hui hul
 obtain⟨j,q⟩:=List.getElem?_of_mem (List.mem_of_mem_take r)
 exact(c4t y (v j y q).2).1
theorem d2z(fs:List (List UInt8))(i:Nat)(n:Nd)(c c':Cs)(h:funC fs i n c=.ok c')(hk:n.kids≠[]):c'.sl.length<=c.sl.length+manyN n/\(c.bl=[]->c'.bl=[]):=by
 have z:=b7e fs i n c c' h
 refine⟨?_,fun e=>?_⟩
 ·unfold funC at h
  split at h
  ·cases h
  split at h
  ·cases h
  ·obtain⟨d,h1,rfl⟩:=a4e h
   rw[a2n]
   have e:=List.dropLast_concat_getLast hk
   rw[<- e,a7v]at h1
   obtain⟨g,h2,h3⟩:=a0y h1
   have h4:=a4z fs _ _ _ h2
   have h5:=b5u fs _ _ _ _ h3
   have y:=congrArg manyN.go e
   rw[a2m]at y
   simp only[manyN.go]at y
   simp only[Cs.enter,Cs.begin,Cs.close,List.length_append,List.length_singleton]at *
   omega
 ·have:=z.len
  rw[e]at this
  exact List.length_eq_zero_iff.1 this
def UI (w0:World) (B:Nat) (u:Nd) (ub:Option Addr) (uc fm:Nat) (O:Nat->Prop) (W:World) (M:Nat) (R:CR) (j:Nat) (wr:World):Prop :=
 ∃O' sl',Ck w0 B u ub uc fm O' sl' [] 0 wr/\CK O W O' wr/\a4p (u.kids.map Nd.t) j (u.kids.drop j) ⟨sl',[]⟩=R/\sl'.length+manyN.go (u.kids.drop j)<=M
def UQ (w0:World) (B:Nat) (u:Nd) (ub:Option Addr) (uc fm:Nat) (O:Nat->Prop) (W:World) (R:Except (Int×Nat) (List Int)) (e:Ending) (W':World):Prop :=
 (∃cd a,R=.error (cd,a)/\e=.panicked (pan (flt cd a))/\Bw w0 W')\/(∃sl',R=.ok sl'/\e=.returned (.tuple #[])/\∃O',Ck w0 B u ub uc fm O' sl' [] 0 W'/\CK O W O' W')
theorem c8l(u:Nd)(hu:isN u)(hk:u.k=1)(w0:World)(B:Nat)(ub:Option Addr)(uc fm:Nat)(O:Nat->Prop)(W:World)(hC:Ck w0 B u ub uc fm O [] [] 0 W)(hK:KA (low w0) w0 ub uc u.kids)(hM:manyN u<=90000) :
  Cl 58 #[Po B 0] W (UQ w0 B u ub uc fm O W (a5y u)):=by
 have hms:=a2n u
 have hkl:=a1g u.kids
 have hul:u.kids.length<=100000:=by omega
 have hkids:∀(j:Nat) (y:Nd),u.kids[j]?=some y->isN y/\y.k=2/\y.kids≠[]:=fun j y hy=>by
  obtain⟨k,t,o,ks⟩:=u
  simp only at hk hy
  subst hk
  rw[isN]at hu
  obtain⟨_,_,_,_,_,_,_,_,h9⟩:=hu
  rw[a5f]at h9
  have h:=h9 j y hy
  have h1:=h.1
  unfold a0w at h1
  rw[if_pos rfl]at h1
  refine⟨h.2,h1,fun e=>?_⟩
  have h2:=h.2
  obtain⟨yk,yt,yo,ys⟩:=y
  rw[isN]at h2
  have h3:=h2.1
  simp only at h1 e
  subst h1 e
  unfold a0r at h3
  simp at h3
 obtain⟨R,hR⟩:=exq (a4p (u.kids.map Nd.t) 0 u.kids ⟨[-1],[]⟩)
 obtain⟨RU,hRU⟩:=exq (a5y u)
 rw[hRU]
 have hRU2:endC u R=RU:=by rw[<- hRU,<- hR,b7p]
 clear hRU
 have hen:=a2z w0 B u ub uc fm O [] [] 0 _ hC (by simp)
 obtain⟨L,hL⟩:=exq (u.kids.length)
 replace hL:Hid _:=hL
 replace hR:Hid _:=hR
 replace hRU2:Hid _:=hRU2
 replace hkids:Hid _:=hkids
 replace hK:Hid (KA (low w0) w0 ub uc u.kids):=hK
 go_enter Tryz.func58,Tryz.ntmps58
 go_wp2_with (go_at_call 81;refine hen.mono ?_;rintro e w1 ⟨rfl,O1,hC1,hK1⟩;obtain⟨c3,c4,c7,f7⟩:=hC1.cells;rw[hL.out]at c3)
 have hI:UI w0 B u ub uc fm O W 90001 R 0 w1:=⟨O1,[-1],hC1,hK1,by rw[List.drop_zero];exact hR.out,by rw[List.drop_zero];simp;omega⟩
 clear hen hC hC1 c7 f7 c4 hK1
 go_loopw [15] (fun ix wr=>∃j:Nat,j<=L/\ix=vi (j:Nat)/\UI w0 B u ub uc fm O W 90001 R j wr) (fun ix _=>L-(intOf ix).toNat)
 case atStart=>exact⟨0,Nat.zero_le _,rfl,hI⟩
 case round =>
  obtain⟨j,hj,rfl,O2,sl2,hC,hCK,hgo,hs2⟩:=hrel
  clear hI
  by_cases hlt:j<L
  ·have hlt':(j:Int)<(L:Int):=by omega
   have hge:(0:Int)<=(j:Int):=by omega
   have hjk:j<u.kids.length:=by have:=hL.out;omega
   obtain⟨y,hy⟩:∃y,u.kids[j]?=some y:=⟨_,List.getElem?_eq_getElem hjk⟩
   obtain⟨hyN,hy2,hyk⟩:=hkids.out j y hy
   obtain⟨g',off,b',cap',eb,v0,v1,v2,v3,hyV⟩:=KA.at hK.out hy
   subst eb
   have hgw:=World.block_lt_of_cell? _ _ v0
   simp only at hgw
   have hcell:∀i v,Ce w0 g' i v->Ce wr g' i v:=fun i v h=>(hC.bl.cell (p:=(Ad g' i)) hgw).trans h
   replace v0:=hcell _ _ v0
   replace v1:=hcell _ _ v1
   replace v2:=hcell _ _ v2
   replace v3:=hcell _ _ v3
   have hdr:u.kids.drop j=y::u.kids.drop (j+1):=by rw[List.drop_eq_getElem_cons hjk];congr 1;exact(List.getElem?_eq_some_iff.1 hy).2
   rw[hdr]at hgo hs2
   simp only[manyN.go]at hs2
   rw[a4p]at hgo
   have hb0:=q1z (Below.refl wr.heap.size wr) (nbx y b' cap')
   have hcall:=c8k y hyN hy2 j w0 B u (some (Ad g' off)) uc fm O2 sl2 b' cap' _ (hC.on hb0) hyV (by omega) hy hul
   have hCK0:=hCK.trans (CK.below (O:=O2) hb0)
   have hpan:∀cd a,funC (u.kids.map Nd.t) j y ⟨sl2,[]⟩=.error (cd,a)->RU=.error (cd,a):=fun cd a e=>by rw[<- hRU2.out,<- hgo,e];rfl
   have hok:∀c',funC (u.kids.map Nd.t) j y ⟨sl2,[]⟩=.ok c'->c'.bl=[]/\a4p (u.kids.map Nd.t) (j+1) (u.kids.drop (j+1)) ⟨c'.sl,[]⟩=R/\c'.sl.length<=sl2.length+manyN y:=fun c' e=>by
    obtain⟨h1,h2⟩:=d2z _ _ _ _ _ e hyk
    have hb:=h2 rfl
    refine⟨hb,?_,h1⟩
    rw[<- hgo,e]
    show _=a4p _ _ _ c'
    rw[show(⟨c'.sl,[]⟩:Cs)=c' by rw[<- hb]]
   replace hpan:Hid _:=hpan
   replace hok:Hid _:=hok
   obtain⟨yk,yt,yn,ys⟩:=y
   simp only at v0 v1 v2 v3
   replace hcall:Cl 82 #[Po B 0,.agg #[vi yk,sk yt,vi yn,.slice b' ys.length cap'],vi (j:Nat)] (wr.alloc (.cells #[vi yk,sk yt,vi yn,.slice b' ys.length cap'] 34)) (CQ w0 B u (some (Ad g' off)) uc fm O2 (wr.alloc (.cells #[vi yk,sk yt,vi yn,.slice b' ys.length cap'] 34)) (funC (u.kids.map Nd.t) j ⟨yk,yt,yn,ys⟩ ⟨sl2,[]⟩)):=hcall
   clear hy hdr hcell hgo hyN hy2 hyk hyV
   go_wp2_with (go_at_call 82;refine hcall.mono ?_;intro e w2 hq;rcases hq.par with⟨cd,a,he,rfl,hbp⟩|⟨c2,he,rfl,O3,hC3,hK3⟩;(exact⟨rfl,.inl ⟨cd,a,hpan.out _ _ he,rfl,hbp⟩⟩))
   go_roundw
   case rel =>
    obtain⟨h1,h2,h3⟩:=hok.out _ he
    rw[h1]at hC3
    exact⟨j+1,by omega,by go_num,O3,c2.sl,hC3,hCK0.trans hK3,h2,by omega⟩
   case measure=>simp[intOf];omega
  ·have hlt':¬(j:Int)<(L:Int):=by omega
   have hRo:R=.ok ⟨sl2,[]⟩:=by rw[<- hgo,List.drop_eq_nil_of_le (by have:=hL.out;omega),a4p]
   have hRU3:=hRU2.out
   rw[hRo]at hRU3
   obtain⟨c3',c4,_,_⟩:=hC.cells
   rw[hL.out]at c3'
   have hlook:=hC.funs Go.Proofs.YtomniogfpfbolaaGreatDoor.W.main_ true
   have hlook':(Instr.lookup 108 (.map (some fm)) (.string ⟨#[109,97,105,110]⟩) true).run Tryz.prog wr=_:=hlook
   cases hf:funI (u.kids.map Nd.t) Go.Proofs.YtomniogfpfbolaaGreatDoor.W.main_ with
   | none =>
    rw[hf]at hlook'
    rw[b3r _ _ hf]at hRU3
    simp only[if_true,Option.map_none,Option.getD_none,Option.isSome_none]at hlook'
    subst hRU3
    have fin:Hid (Bw w0 wr):=hC.bl
    clear hlook hRo hgo
    go_wp2_with (go_at_call 83;refine(a5k _ _ 0 _).mono ?_;rintro e w3 ⟨rfl,rfl⟩)
    exact⟨rfl,.inl ⟨4,0,rfl,rfl,fin.out⟩⟩
   | some q =>
    rw[hf]at hlook'
    rw[b3s _ _ _ hf]at hRU3
    simp only[if_true,Option.map_some,Option.getD_some,Option.isSome_some]at hlook'
    have hqk:q<u.kids.length:=by
     unfold funI at hf
     rw[List.findIdx?_eq_some_iff_getElem]at hf
     obtain⟨hq,_⟩:=hf
     simpa using hq
    obtain⟨y,hy⟩:∃y,u.kids[q]?=some y:=⟨_,List.getElem?_eq_getElem hqk⟩
    obtain⟨hyN,hy2,hyk⟩:=hkids.out q y hy
    rw[hy]at hRU3
    obtain⟨g',off,b',cap',eb,v0,v1,v2,v3,hyV⟩:=KA.at hK.out hy
    subst eb
    have hgw:=World.block_lt_of_cell? _ _ v0
    simp only at hgw
    have hcell:∀i v,Ce w0 g' i v->Ce wr g' i v:=fun i v h=>(hC.bl.cell (p:=(Ad g' i)) hgw).trans h
    replace v0:=hcell _ _ v0
    replace v1:=hcell _ _ v1
    replace v2:=hcell _ _ v2
    replace v3:=hcell _ _ v3
    have hq0:(0:Int)<=(q:Int):=by omega
    have hq1:(q:Int)<(L:Int):=by have:=hL.out;omega
    obtain⟨yk,yt,yn,ys⟩:=y
    simp only at v0 v1 v2 v3 hyk
    obtain⟨P,hP⟩:∃P,P+1=ys.length:=⟨ys.length-1,by have:=List.length_pos_iff.2 hyk;omega⟩
    have hKy:=KA.of hyV
    have hys:ys.length<=100000:=by
     have h1:manyN ⟨yk,yt,yn,ys⟩<=manyN.go u.kids:=by
      have:=congrArg manyN.go (List.take_append_drop q u.kids)
      rw[a2m,List.drop_eq_getElem_cons hqk,(List.getElem?_eq_some_iff.1 hy).2]at this
      simp only[manyN.go]at this
      omega
     have h2:=a2n ⟨yk,yt,yn,ys⟩
     have h3:=a1g ys
     simp only at h2
     omega
    obtain⟨zz,hzz⟩:∃zz,ys[0]?=some zz:=⟨_,List.getElem?_eq_getElem (by omega)⟩
    obtain⟨gy,offy,_,_,eb2,_⟩:=KA.at hKy hzz
    subst eb2
    have hpar:=params_any yk yt yn ys gy offy cap' P hP hys hKy.1 wr
    replace hpar:Cl 84 #[.agg #[vi yk,sk yt,vi yn,.slice (some (Ad gy offy)) ys.length cap']] wr fun e W'=>e=.returned (.slice (some (Ad gy offy)) P cap')/\Bw wr W':=hpar
    have hpb:a8u (some ⟨yk,yt,yn,ys⟩)=decide (0<P):=by unfold a8u;simp only;rw[decide_eq_decide];omega
    rw[hpb]at hRU3
    have hCw:=hC
    clear hlook hRo hgo hcell hyV hKy hy hyN hy2 hyk hzz hf
    by_cases hP0:0<P
    ·rw[decide_eq_true hP0,if_pos rfl]at hRU3
     subst hRU3
     have hP0':(0:Int)<(P:Int):=by omega
     have fin:Hid (∀w3,Bw wr w3->Bw w0 w3):=fun w3 h=>q3z hCw.bl h
     go_wp2_with (first
      | (go_at_call 84;refine hpar.mono ?_;rintro e w4 ⟨rfl,hb4⟩)
      | (go_at_call 83;refine(a2x _ _ _ 0 _).mono ?_;rintro e w3 ⟨rfl,(⟨hw,rfl⟩|⟨hw,rfl⟩)⟩;(first|(exact absurd hw (by decide))|(exact⟨rfl,.inl ⟨6,0,rfl,rfl,fin.out _ hb4⟩⟩))))
     exact absurd hw (by simp;try omega)
    ·rw[decide_eq_false hP0,if_neg (by simp)]at hRU3
     subst hRU3
     have hP0':¬(0:Int)<(P:Int):=by omega
     have fin:Hid (∀w3,Bw wr w3->UQ w0 B u (some (Ad g' off)) uc fm O W (.ok sl2) (.returned (.tuple #[])) w3):=fun w3 h=>.inr ⟨sl2,rfl,rfl,O2,hCw.on h,hCK.trans (CK.below (O:=O2) h)⟩
     go_wp2_with (first
      | (go_at_call 84;refine hpar.mono ?_;rintro e w4 ⟨rfl,hb4⟩)
      | (go_at_call 83;refine(a8c _ _ _ _).mono ?_;rintro e w3 ⟨rfl,rfl⟩))
     go_end0
     exact fin.out _ hb4
end Go.Proofs.YtomniogfpfbolaaGreatDoor
