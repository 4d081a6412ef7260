/- The program's checker: the blocks, the innermost first, one by one. -/
import Derived.Test.YtfbpdbndejefdaaGreatDoorS20
import Derived.RangeFuncNested
import Derived.RangeFuncBound
import Derived.OwnWalkIn
import Derived.LoopNIn
import Derived.LoopIn
namespace Go.Proofs.YtfbpdbndejefdaaGreatDoor
open Go.RowKit Go.Shelf Go
set_option maxRecDepth 100000
set_option maxHeartbeats 8000000
set_option linter.all false
variable {m Bt B k uc fm:Nat} {w W W' w0:World} {e:Ending} {β α:Type} {tm:Array Value} {u:Nd} {ub:Option Addr} {O:Nat->Prop} {bl:List (List Lc)}
section
attribute [local go_sem] Oper.semAt_some
def Kept (m Bt:Nat) (W W':World):Prop:=Below m W W'/\W'.heap[Bt]?=W.heap[Bt]?
theorem Kept.refl(m Bt:Nat)(W:World):Kept m Bt W W:=⟨Below.refl _ _,rfl⟩
theorem Kept.trans{A B C:World}(h:Kept m Bt A B)(k:Kept m Bt B C):Kept m Bt A C:=⟨h.1.trans k.1,k.2.trans h.2⟩
theorem Kept.putObj(hn:m<=w.heap.size)(hB:Bt<w.heap.size)(W:World)(l:Nat)(o o':Obj)(hl:w.heap.size<=l)(h:W.heap[l]?=some o)(h1:o.isCells=false)(h2:o.isWalk=false):Kept m Bt W (W.putObj l o') :=
 ⟨belowK_b hn W l o o' hl h h1 h2,World.putObj_heap_other (by omega)⟩
theorem kept_of_below(h:Bw W W')(hm:m<=W.heap.size)(hB:Bt<W.heap.size):Kept m Bt W W':=⟨h.mono hm,h.block Bt hB⟩
theorem keepsFrom_of_below(h:Bw W W'):KeepsFrom B W W':=⟨h.size,fun k _ _ hk _=>(h.block k (Array.getElem?_eq_some_iff.1 hk).1).trans hk⟩
theorem two_ways{A B:Prop}(h:(e=.returned (.bool true)/\A)\/(e=.returned (.bool false)/\B)):∃z:Bool,e=.returned (.bool z)/\((z=true/\A)\/(z=false/\B)):=by
 rcases h with⟨rfl,h⟩|⟨rfl,h⟩
 ·exact⟨true,rfl,.inl ⟨rfl,h⟩⟩
 ·exact⟨false,rfl,.inr ⟨rfl,h⟩⟩
theorem take_snoc{α:Type}{zs:List α}{x:α}(h:zs[k]?=some x):zs.take (k+1)=zs.take k++[x]:=by
 rw[List.take_add_one,h];rfl
theorem prefix_snoc{α:Type}{zs:List α}{x:α}(h:zs[k]?=some x):zs.take k++[x] <+: zs:=by
 rw[<- take_snoc h];exact List.take_prefix _ _
theorem block_ownFrom{B':Nat}(o:Obj)(h:B<B'):OwnFrom B' (fun(_:β) W=>W.heap[B]?=some o):=fun _ _ _ _ z y hr =>
 (y.block B (Array.getElem?_eq_some_iff.1 z).1 (fun e=>by have:=(hr _ e.symm).1;omega)).trans z
theorem size_ownFrom:OwnFrom B (fun(_:β) W=>k<=W.heap.size):=fun _ _ _ _ z y _=>Nat.le_trans z y.size
theorem block_put{D:Nat}{o o':Obj}(h:W.heap[B]?=some o)(hne:B≠D):(W.putObj D o').heap[B]?=some o:=(World.putObj_heap_other hne).trans h
abbrev itv {α:Type} (fi fq:α->Nat) (x:α):Array Value:=#[vi (fi x:Nat),mp (fq x)]
theorem b7o(fi fq:α->Nat)(n:Nat)(l Bt m gb c1:Nat)(zs:List α)(hlen:zs.length<=100000)(hb:gb<m)(a:Option Addr)(ha:zs≠[]->a=some (Ad gb 0))(J Jx:List α->World->Prop)(hY:∀pre x W,J pre W->pre.length<zs.length->YieldAt Fence.wide (n-1) Tryz.prog l (itv fi fq x) W fun e W' =>
   (e=.returned (.bool true)/\J (pre++[x]) W'/\Kept m Bt W W')\/(e=.returned (.bool false)/\Jx (pre++[x]) W')) (W:World) (hbt:W.heap[Bt]?=some (.cells #[.slice a zs.length c1] 83)) (hc:∀(k:Nat) (x:α),zs[k]?=some x->W.cell? (Ad gb (fi x))=some (mp (fq x))) (hx1:∀(k:Nat) (x:α),zs[k]?=some x->fi x+k+1=zs.length) (h0:J [] W) :
  CallsIn Fence.wide n Tryz.prog 172 #[.func (.yield l) #[] #[],Po Bt 0] W fun e W'=>(∃v,e=.returned v) /\
   ((∃ys,ys=zs/\J ys W')\/(∃pre,pre <+: zs/\Jx pre W')):=by
 have hk0:W.cell? (Ad Bt 0)=some (.slice a zs.length c1):=by simp[World.cell?,hbt]
 obtain⟨L,hL⟩:∃L,zs.length=L:=⟨_,rfl⟩
 rw[hL]at hk0 hbt hlen
 replace hL:Hid _:=hL
 refine callsIn_of_wp Tryz.func172 rfl trivial ?_ rfl
 simp only[Tryz.ntmps172,List.size_toArray,List.length_cons,List.length_nil,Nat.reduceAdd,Nat.reduceSub,Array.replicate_succ,Array.replicate_zero,List.push_toArray,List.append_toArray,List.nil_append,List.cons_append]
 gi_wp2
 gi_loopw [3] (fun i wr=>∃k:Nat,k<=L/\i=vi ((L:Int)-1-k)/\J (zs.take k) wr/\Kept m Bt W wr/\W.heap.size<=wr.heap.size)
  (fun i _=>(intOf i+1).toNat)
 case atStart=>exact⟨0,Nat.zero_le _,by go_num,h0,Kept.refl _ _ _,Nat.le_refl _⟩
 case round =>
  obtain⟨k,hk,rfl,hJs,hnx,hsz⟩:=hrel
  by_cases hlt:k<L
  ·obtain⟨x,hx⟩:∃x,zs[k]?=some x:=⟨zs[k]'(by have:=hL.out;omega),by simp⟩
   obtain rfl:=ha (fun e=>by rw[e]at hx;simp at hx)
   have hxe:=hx1 k x hx
   have hxc:=(hnx.1.cell (p:=(Ad gb (fi x))) hb).trans (hc k x hx)
   have hi:(L:Int)-1-k=(fi x:Int):=by have:=hL.out;omega
   have hi0:(0:Int)<=(fi x:Int):=by omega
   have hi1:(fi x:Int)<(L:Int):=by omega
   have hq0:wr.cell? (Ad Bt 0)=some (.slice (some (Ad gb 0)) L c1):=by simp[World.cell?,hnx.2,hbt]
   obtain⟨fn,tmps,assign,body,hy,hR⟩:=hY _ x wr hJs (by have:=hL.out;simp;omega)
   rw[hi]
   clear hY hk0
   gi_wp2_with (refine⟨fun h=>by simp[Fence.wide]at h,?_⟩;refine hR.mono ?_;intro e W3 hW3;obtain⟨bb,rfl,hbb⟩:=two_ways hW3;clear hW3)
   ·rcases hbb with⟨rfl,hJ3,hk3⟩|⟨rfl,hJx3⟩
    ·simp_all
    ·refine bodyPost_ret (results_none rfl _ _ _) rfl ?_
     exact⟨⟨_,rfl⟩,.inr ⟨_,prefix_snoc hx,hJx3⟩⟩
   case roundEnd =>
    rcases hbb with⟨rfl,hJ3,hk3⟩|⟨rfl,hJx3⟩
    ·refine⟨⟨k+1,by omega,by rw[<- hi];congr 1;omega,by rw[take_snoc hx];exact hJ3,hnx.trans hk3,Nat.le_trans hsz hk3.1.size⟩,by simp[intOf]⟩
    ·simp_all
  ·obtain rfl:k=L:=by omega
   have hi:(k:Int)-1-k=-1:=by omega
   rw[hi]
   gi_wp2
   go_end0
   exact⟨⟨_,rfl⟩,.inl ⟨_,by rw[<- hL.out];simp,hJs⟩⟩
def b0u:List Nat->List (Nat×Nat)
 | []=>[]
 | q::ms=>(ms.length,q)::b0u ms
theorem b4e:∀z,(b0u z).length=z.length
 | []=>rfl
 | q::z=>by rw[b0u,List.length_cons,List.length_cons,b4e z]
theorem b4f:∀{z:List Nat} {k:Nat} {x:Nat×Nat},(b0u z)[k]?=some x->x.1+k+1=z.length/\z[k]?=some x.2
 | [],k,x,h=>by simp[b0u]at h
 | q::z,0,x,h=>by
  simp[b0u]at h
  subst h
  simp
 | q::z,k+1,x,h=>by
  rw[b0u,List.getElem?_cons_succ]at h
  obtain⟨h1,h2⟩:=b4f h
  exact⟨by simp;omega,by simpa using h2⟩
theorem b9p(fi fq:α->Nat)(n:Nat)(Bt m gb c1:Nat)(ms:List Nat)(zs:List α)(hzs:zs.map (fun x=>(fi x,fq x))=b0u ms)(hlen:ms.length<=100000)(a:Option Addr)(ha:ms≠[]->a=some (Ad gb 0)/\gb<m)(w:World)(hB:Bt<w.heap.size)(hm:m<=Bt)(hbt:w.heap[Bt]?=some (.cells #[.slice a ms.length c1] 83))(hc:∀j q,(ms.reverse.map mp)[j]?=some q->w.cell? (Ad gb j)=some q) :
  SeqStopsK Fence.wide n Tryz.prog 172 #[Po Bt 0] (itv fi fq) (Kept m Bt) (fun i=>i=zs) (fun pre=>pre <+: zs) zs.length w:=fun l J o W s f _ g h0=>by
 have z:W.heap[Bt]?=some (.cells #[.slice a ms.length c1] 83):=(s.block Bt hB).trans hbt
 have y:zs.length=ms.length:=by rw[<- b4e,<- hzs,List.length_map]
 by_cases hz:ms=[]
 ·subst hz
  have:zs=[]:=List.length_eq_zero_iff.1 y
  subst this
  refine b7o fi fq n l Bt (gb+1) gb c1 [] (by simp) (by omega) a (fun h=>absurd rfl h) J o ?_ W z (by simp) (by simp) h0
  intro pre x W _ h
  simp at h
 ·obtain⟨rfl,u⟩:=ha hz
  have key:∀(k:Nat) (x:α),zs[k]?=some x->fi x+k+1=ms.length/\ms[k]?=some (fq x):=fun k x v=>by
   have:(b0u ms)[k]?=some (fi x,fq x):=by rw[<- hzs,List.getElem?_map,v];rfl
   exact b4f this
  refine b7o fi fq n l Bt m gb c1 zs (by omega) u _ (fun _=>rfl) J o g W (by rw[y];exact z) (fun k x v=>?_) (fun k x v=>by rw[y];exact(key k x v).1) h0
  obtain⟨h1,h2⟩:=key k x v
  refine(s.cell (p:=(Ad gb (fi x))) (show gb<w.heap.size by omega)).trans (hc _ _ ?_)
  rw[List.getElem?_map,List.getElem?_reverse (by omega)]
  rw[show ms.length-1-fi x=k by omega,h2]
  rfl
theorem b5t(n:Nat)(v:Value)(a:Option Addr)(k c:Nat)(hv:v=.slice a k c)(w:World) :
  CallsIn Fence.wide n Tryz.prog 166 #[v] w fun e z=>e=.returned (.func (.func 172) #[] #[Po w.heap.size 0])/\z=w.alloc (.cells #[v] 83):=by
 subst hv
 refine callsIn_of_wp Tryz.func166 rfl trivial ?_ rfl
 simp only[Tryz.ntmps166,List.size_toArray,List.length_cons,List.length_nil,Nat.reduceAdd,Nat.reduceSub,Array.replicate_succ,Array.replicate_zero,List.push_toArray,List.append_toArray,List.nil_append,List.cons_append]
 gi_wp2
 go_ret
 exact⟨rfl,rfl⟩
end
section
attribute [local go_sem] Oper.semAt_some
abbrev lbx (i:Nat) (fx:Bool):Obj:=.cells #[vi (i:Nat),.bool fx] 230
theorem c9v{C:Nat}{i:Nat}{fx ok:Bool}(h:tm[4]?.getD undef=Po B 0)(h':tm[5]?.getD undef=Po C 0)(hx:W.heap[B]?=some (lbx i fx))(hy:W.heap[C]?=some (.cells #[.bool ok] 4)):(results Tryz.f155 tm).run Tryz.prog W=.ok (.tuple #[lcv i fx,.bool ok]) W:=by
 have c0:Ce W B 0 (vi (i:Nat)):=cell_block hx rfl
 have c1:Ce W B 1 (.bool fx):=cell_block hx rfl
 have z:Ce W C 0 (.bool ok):=cell_block hy rfl
 simp[results,Tryz.results155,go_sem,h,h',c0,c1,z]
structure It (w:World) where
 i:Nat
 q:Nat
 b:List Lc
 n:Nat
 hq:w.heap[q]?=some (a0e sk (kvB n b))
 nd:(b.map Lc.nm).Nodup
theorem b7p{w:World} : ∀{v:List Nat} {bl:List (List Lc)},a6k w v bl->NB bl->∃y:List (It w),y.map (fun x=>(x.i,x.q))=b0u v/\y.map It.b=bl/\∀(k:Nat) (x:It w),y[k]?=some x->x.n=sumL (bl.drop (k+1))
 | [],[],_,_=>⟨[],rfl,rfl,by simp⟩
 | q::v,b::r,h,hN=>by
  obtain⟨y,h1,h2,h3⟩:=b7p h.2 (fun c u=>hN c (by simp[u]))
  refine⟨⟨v.length,q,b,sumL r,h.1,hN b (by simp)⟩::y,by rw[List.map_cons,h1];rfl,by rw[List.map_cons,h2],fun k x z=>?_⟩
  match k,z with
  | 0,z=>simp at z;subst z;simp
  | k+1,z=>simpa using h3 k x (by simpa using z)
 | [],_::_,h,_=>h.elim
 | _::_,[],h,_=>h.elim
theorem b4g{s:List UInt8} : ∀{bl:List (List Lc)},(∀b∈bl,b.findIdx? (fun x=>x.nm == s)=none)->findL s bl=none
 | [],_=>rfl
 | b::r,h=>by rw[findL,h b (by simp)];exact b4g (fun c z=>h c (by simp[z]))
theorem b7q{s:List UInt8} : ∀{pre:List (List Lc)} {b:List Lc} {r:List (List Lc)} {i:Nat},(∀c∈pre,c.findIdx? (fun x=>x.nm == s)=none)->b.findIdx? (fun x=>x.nm == s)=some i->findL s (pre++b::r)=some (sumL r+i,(b[i]?.map Lc.fx).getD false)
 | [],b,r,i,_,h=>by rw[List.nil_append,findL,h]
 | c::pre,b,r,i,hp,h=>by rw[List.cons_append,findL,hp c (by simp)];exact b7q (fun d hd=>hp d (by simp[hd])) h
theorem d3c(n:Nat)(h3:3<=n)(w0:World)(B:Nat)(u:Nd)(ub:Option Addr)(uc fm:Nat)(O:Nat->Prop)(sl:List Int)(bl:List (List Lc))(lv:Nat)(s:List UInt8)(w:World)(h:Ck w0 B u ub uc fm O sl bl lv w)(hNB:NB bl)(hlen:bl.length<=100000) :
  CallsIn Fence.wide n Tryz.prog 155 #[Po B 0,sk s] w fun e w'=>e=.returned (b0t s bl)/\Bw w w':=by
 have h1:1<=n:=by omega
 have x1:1<=n-1:=by omega
 obtain⟨⟨sb,sc,bb,bc,ms,g1,g2,g3,g4,g5,g6,g7,g8⟩,hB,hO,_,_,_⟩:=h
 have y2:=g4.len
 have x7:=(hO B hB).2
 have c6:w.cell? (Ad B 6)=some (.slice bb bl.length bc):=cell_block g1 rfl
 have z8:Bw w (((w.alloc (.cells #[sk s] 9)).alloc (lbx 0 false)).alloc (.cells #[.bool false] 4)):=ext_alloc (ext_alloc (ext_alloc (Below.refl _ _) _) _) _
 obtain⟨W1,f⟩:∃W1,((w.alloc (.cells #[sk s] 9)).alloc (lbx 0 false)).alloc (.cells #[.bool false] 4)=W1:=⟨_,rfl⟩
 have z2:W1.heap.size=w.heap.size+3:=by rw[<- f];simp
 have k1:W1.heap[w.heap.size]?=some (.cells #[sk s] 9):=by rw[<- f];exact block_alloc _ (block_alloc _ (a0a w _))
 have k2:W1.heap[w.heap.size+1]?=some (lbx 0 false):=by
  have:=block_alloc (.cells #[.bool false] 4) (a0a (w.alloc (.cells #[sk s] 9)) (lbx 0 false))
  rw[World.size_alloc]at this
  rw[<- f];exact this
 have k3:W1.heap[w.heap.size+1+1]?=some (.cells #[.bool false] 4):=by
  have:=a0a ((w.alloc (.cells #[sk s] 9)).alloc (lbx 0 false)) (.cells #[.bool false] 4)
  simp only[World.size_alloc]at this
  rw[<- f];exact this
 have x4:W1.cell? (Ad B 6)=some (.slice bb bl.length bc):=by rw[<- f];exact(z8.cell (p:=(Ad B 6)) x7).trans c6
 rw[f]at z8
 refine callsIn_of_wp_marks Tryz.func155 rfl trivial ?_ rfl
 simp only[Tryz.ntmps155,List.size_toArray,List.length_cons,List.length_nil,Nat.reduceAdd,Nat.reduceSub,Array.replicate_succ,Array.replicate_zero,List.push_toArray,List.append_toArray,List.nil_append,List.cons_append]
 replace f:((w.alloc (.cells #[sk s] 9)).alloc (.cells #[vi 0,.bool false] 230)).alloc (.cells #[.bool false] 4)=W1:=f
 gi_wp2_with (refine⟨trivial,?_⟩;gi_at_call 166;refine(b5t _ _ _ _ _ rfl _).mono ?_;rintro e w' ⟨rfl,rfl⟩)
 have z4:Bw w (W1.alloc (.cells #[.slice bb bl.length bc] 83)):=ext_trans z8 (ext_alloc (Below.refl _ _) _)
 obtain⟨W0,d⟩:∃W0,W1.alloc (.cells #[.slice bb bl.length bc] 83)=W0:=⟨_,rfl⟩
 have x2:W0.heap.size=w.heap.size+4:=by rw[<- d,World.size_alloc,z2]
 have x9:W0.heap[w.heap.size+3]?=some (.cells #[.slice bb bl.length bc] 83):=by
  have:=a0a W1 (.cells #[.slice bb bl.length bc] 83)
  rw[z2]at this
  rw[<- d];exact this
 replace k1:W0.heap[w.heap.size]?=some (.cells #[sk s] 9):=by rw[<- d];exact block_alloc _ k1
 replace k2:W0.heap[w.heap.size+1]?=some (lbx 0 false):=by rw[<- d];exact block_alloc _ k2
 replace k3:W0.heap[w.heap.size+1+1]?=some (.cells #[.bool false] 4):=by rw[<- d];exact block_alloc _ k3
 rw[d]at z4⊢
 clear d c6 x4 f z8
 obtain⟨gb,y1,z7⟩:∃gb,(ms≠[]->bb=some (Ad gb 0)/\gb<w.heap.size)/\∀j q,(ms.reverse.map mp)[j]?=some q->w.cell? (Ad gb j)=some q:=by
  rcases g3.2 with⟨e,h0⟩|⟨g,cap,x5,e,_,hg,x3,_,_,ht⟩
  ·have:ms=[]:=List.length_eq_zero_iff.1 (by omega)
   subst this
   exact⟨0,fun h=>absurd rfl h,by simp⟩
  ·cases e
   refine⟨g,fun _=>⟨rfl,block_lt hg⟩,fun j q hq=>?_⟩
   have w9:j<ms.length:=by simpa using(List.getElem?_eq_some_iff.1 hq).1
   rw[<- ht,List.getElem?_take_of_lt (by omega)]at hq
   have y0:x5[j]?=some q:=by simpa using hq
   simp[World.cell?,hg,y0]
 obtain⟨zs,y7,z3,y8⟩:=b7p g4 hNB
 refine wpIn_rangeFunc_ownH rfl h1 (gf:=172) (lb:=#[Po (w.heap.size+3) 0]) rfl trivial (enters_of Tryz.func172 (by kernel_rfl) rfl)
  (b9p It.i It.q (n-1) (w.heap.size+3) w.heap.size gb bc ms zs y7 (by omega) bb y1 W0 (by omega) (by omega) (by rw[y2];exact x9) (fun j q hq=>(z4.cell (p:=(Ad gb j)) (World.block_lt_of_cell? _ _ (z7 j q hq))).trans (z7 j q hq))) (fun h k=>h.trans k) (Kept.putObj (by omega) (by omega)) (Below.refl _ _) (fun _=>rfl)
  (fun(pre:List (It w)) W=>((∀p∈pre,p.b.findIdx? (fun x=>x.nm == s)=none)/\W0.heap.size<=W.heap.size/\W.heap[w.heap.size]?=some (.cells #[sk s] 9)/\W.heap[w.heap.size+1]?=some (lbx 0 false)/\W.heap[w.heap.size+1+1]?=some (.cells #[.bool false] 4))/\Bw w W)
  (fun c (pre:List (It w)) W=>(c=.ret/\(∃y:Nat×Bool,(∃m x i,pre=m++[x]/\(∀p∈m,p.b.findIdx? (fun x=>x.nm == s)=none)/\x.b.findIdx? (fun x=>x.nm == s)=some i/\y=(x.n+i,(x.b[i]?.map Lc.fx).getD false))/\W.heap[w.heap.size+1]?=some (lbx y.1 y.2)/\W.heap[w.heap.size+1+1]?=some (.cells #[.bool true] 4)))/\Bw w W)
  (OwnFrom.and (OwnFrom.and (ownFrom_pure _ _) (OwnFrom.and size_ownFrom (OwnFrom.and (block_ownFrom _ (by omega)) (OwnFrom.and (block_ownFrom _ (by omega)) (block_ownFrom _ (by omega)))))) (ownFrom_below (Nat.le_refl _) (by omega)))
  (fun c=>OwnFrom.and (fun s A B row hs hg hr=>by obtain⟨e1,y,e2,e3,e4⟩:=hs;exact⟨e1,y,e2,(block_ownFrom (β:=Unit) _ (by omega)) () A B row e3 hg hr,(block_ownFrom (β:=Unit) _ (by omega)) () A B row e4 hg hr⟩) (ownFrom_below (Nat.le_refl _) (by omega)))
  ⟨⟨by simp,Nat.le_refl _,k1,k2,k3⟩,z4⟩
  (fun x q W=>q={ tmps:=#[Po B 0,sk s,undef,Po w.heap.size 0,Po (w.heap.size+1) 0,Po (w.heap.size+1+1) 0,undef,mp x.q,undef,undef,Po B 0,Po B 0,Po B 6,.slice bb bl.length bc,.func (.func 172) #[] #[Po (w.heap.size+3) 0],   vi (x.i:Nat),mp x.q,undef,undef,undef,undef,undef,undef,undef,undef,undef],defers:=[] })
  (fun x q=>fun _ A B row hs hg hr=>hs)
  ?assign ?body ?done ?stop
 case assign =>
  rintro l pre x W K hJ hK
  gi_wp2
  exact hK _ _ (KeepsFrom.refl _ _) (Kept.refl _ _ _) hJ rfl
 case body =>
  rintro l pre x q W hl ⟨r,hr⟩ ⟨⟨hp,hz,k1,k2,k3⟩,hB⟩ rfl x0
  clear hr
  obtain⟨xi,xq,b,xn,hq,y3⟩:=x
  simp only
  have y6:W.heap[xq]?=some (a0e sk (kvB xn b)):=(hB.block _ (block_lt hq)).trans hq
  have y4:((kvB xn b).map (·.1)).Nodup:=by rw[b6z];exact y3
  have v:=a4u (P:=Tryz.prog) (T:=175) (K:=9) (E:=230) (by kernel_rfl) (by kernel_rfl) a1b y6 y4 (z:=.agg #[vi 0,.bool false]) (by kernel_rfl) s true
  rw[b2d]at v
  have p0:W.cell? (Ad w.heap.size 0)=some (sk s):=cell_block k1 rfl
  have a0:∀o,(W.alloc o).cell? (Ad (w.heap.size+1) 0)=some (vi 0):=fun o=>cell_block (block_alloc o k2) rfl
  have a1:∀o,(W.alloc o).cell? (Ad (w.heap.size+1) 1)=some (.bool false):=fun o=>cell_block (block_alloc o k2) rfl
  have a2:∀o,(W.alloc o).cell? (Ad (w.heap.size+1+1) 0)=some (.bool false):=fun o=>cell_block (block_alloc o k3) rfl
  have e0:∀o,(W.alloc o).frozen? (Ad (w.heap.size+1) 0)=false:=fun o=>frozen_block (block_alloc o k2)
  have e1:∀o,(W.alloc o).frozen? (Ad (w.heap.size+1) 1)=false:=fun o=>frozen_block (block_alloc o k2)
  have e2:∀o,(W.alloc o).frozen? (Ad (w.heap.size+1+1) 0)=false:=fun o=>frozen_block (block_alloc o k3)
  rename_i Kd ad
  clear ad Kd
  have y9:∀o,Bw w (W.alloc o):=fun o=>hB.alloc (by omega) o
  cases hf:b.findIdx? (fun x=>x.nm == s) with
  | none =>
   rw[hf]at v
   simp only[Option.map_none,Option.getD_none,Option.isSome_none,if_true]at v
   clear a0 a1 a2 e0 e1 e2
   gi_wp2
   have z5:=ext_alloc (Below.refl W.heap.size W) (.cells #[vi 0,.bool false] 230)
   exact⟨keepsFrom_of_below z5,kept_of_below z5 (by omega) (by omega),⟨fun p hm=>(List.mem_append.1 hm).elim (hp p) (fun e'=>by simp at e';subst e';exact hf),Nat.le_trans hz z5.size,block_alloc _ k1,block_alloc _ k2,block_alloc _ k3⟩,y9 _⟩
  | some i =>
   rw[hf]at v
   simp only[Option.map_some,Option.getD_some,Option.isSome_some,if_true]at v
   obtain⟨fx,z1⟩:∃fx,(b[i]?.map Lc.fx).getD false=fx:=⟨_,rfl⟩
   rw[z1]at v
   gi_wp2
   refine⟨⟨by simp,fun k o hk ho _=>?_⟩,⟨rfl,(xn+i,fx),⟨pre,_,i,rfl,hp,hf,by rw[z1]⟩,?_,?_⟩,?_⟩
   ·exact(set1_other _ _ (by omega)).trans ((set1_other _ _ (by omega)).trans ((set1_other _ _ (by omega)).trans (block_alloc _ ho)))
   ·exact(set1_other _ _ (by omega)).trans (set_block (i:=1) _ (set_block (i:=0) _ (block_alloc _ k2)))
   ·exact set_block (i:=0) _ ((set1_other _ _ (by omega)).trans ((set1_other _ _ (by omega)).trans (block_alloc _ k3)))
   ·exact(((y9 _).setCell (p:=(Ad (w.heap.size+1) 0)) (by simp) _).setCell (p:=(Ad (w.heap.size+1) 1)) (by simp) _).setCell (p:=(Ad (w.heap.size+1+1) 0)) (by simp;omega) _
 case done =>
  rintro D ys W hD rfl ⟨⟨hp,hz,k1,k2,k3⟩,hB⟩ hK
  have a0:W.cell? (Ad (w.heap.size+1) 0)=some (vi 0):=cell_block k2 rfl
  have a1:W.cell? (Ad (w.heap.size+1) 1)=some (.bool false):=cell_block k2 rfl
  have a2:W.cell? (Ad (w.heap.size+1+1) 0)=some (.bool false):=cell_block k3 rfl
  have e0:W.frozen? (Ad (w.heap.size+1) 0)=false:=frozen_block k2
  have e1:W.frozen? (Ad (w.heap.size+1) 1)=false:=frozen_block k2
  have e2:W.frozen? (Ad (w.heap.size+1+1) 0)=false:=frozen_block k3
  gi_wp2
  have z0:∀(a b c:Value),(((W.setCell (Ad (w.heap.size+1) 0) a).setCell (Ad (w.heap.size+1) 1) b).setCell (Ad (w.heap.size+1+1) 0) c).heap[D]?=some (.deferred (some [])):=fun a b c=>(set1_other _ _ (by omega)).trans ((set1_other _ _ (by omega)).trans ((set1_other _ _ (by omega)).trans hK))
  have x6:∀(a b c:Value),Bw w (((W.setCell (Ad (w.heap.size+1) 0) a).setCell (Ad (w.heap.size+1) 1) b).setCell (Ad (w.heap.size+1+1) 0) c):=fun a b c=>((hB.setCell (p:=(Ad (w.heap.size+1) 0)) (by simp) _).setCell (p:=(Ad (w.heap.size+1) 1)) (by simp) _).setCell (p:=(Ad (w.heap.size+1+1) 0)) (by simp;omega) _
  refine⟨by simp,.inl ⟨_,_,rfl,run_takeDeferred (z0 _ _ _),?_⟩⟩
  refine⟨_,c9v (i:=0) (fx:=false) (ok:=false) rfl rfl (block_put ((set1_other _ _ (by omega)).trans (set_block (i:=1) _ (set_block (i:=0) _ k2))) (by omega)) (block_put (set_block (i:=0) _ ((set1_other _ _ (by omega)).trans ((set1_other _ _ (by omega)).trans k3))) (by omega)),?_,(x6 _ _ _).trans (belowK_b (w:=w) (Nat.le_refl _) _ D _ _ (by omega) (z0 _ _ _) rfl rfl)⟩
  have z9:=b4g (s:=s) (bl:=bl) (fun b hb=>by rw[<- z3]at hb;obtain⟨p,y5,rfl⟩:=List.mem_map.1 hb;exact hp p y5)
  rw[b0t,z9]
 case stop =>
  rintro D c pre W hD z6 ⟨⟨rfl,y,⟨m,x,i,rfl,hi,hx,rfl⟩,k2,k3⟩,hB⟩ hK
  gi_wp2
  refine⟨by simp,.inl ⟨_,_,rfl,run_takeDeferred hK,?_⟩⟩
  refine⟨_,c9v rfl rfl (block_put k2 (by omega)) (block_put k3 (by omega)),?_,hB.trans (belowK_b (w:=w) (Nat.le_refl _) _ D _ _ (by omega) hK rfl rfl)⟩
  have x8:bl=m.map It.b++x.b::bl.drop (m.length+1):=by
   obtain⟨rr,hr⟩:=z6
   have e:bl=m.map It.b++x.b::rr.map It.b:=by rw[<- z3,<- hr];simp
   have e2:bl.drop (m.length+1)=rr.map It.b:=by
    rw[e,List.drop_append]
    simp
   rw[e2]
   exact e
  have hn:x.n=sumL (bl.drop (m.length+1)):=y8 m.length x (by
   obtain⟨rr,hr⟩:=z6
   rw[<- hr]
   simp)
  have z9:=b7q (s:=s) (r:=bl.drop (m.length+1)) (pre:=m.map It.b) (fun c hc=>by obtain⟨p,hp,rfl⟩:=List.mem_map.1 hc;exact hi p hp) hx
  rw[<- x8,<- hn]at z9
  rw[b0t,z9]
theorem b7r(w0:World)(B:Nat)(u:Nd)(ub:Option Addr)(uc fm:Nat)(O:Nat->Prop)(sl:List Int)(bl:List (List Lc))(lv:Nat)(s:List UInt8)(w:World)(h:Ck w0 B u ub uc fm O sl bl lv w)(hNB:NB bl)(hlen:bl.length<=100000) :
  Cl 155 #[Po B 0,sk s] w fun e z=>e=.returned (b0t s bl)/\Bw w z:=callsIn_wide.1 (d3c 3 (by omega) w0 B u ub uc fm O sl bl lv s w h hNB hlen)
end
def CQ (w0:World) (B:Nat) (u:Nd) (ub:Option Addr) (uc fm:Nat) (O:Nat->Prop) (W:World) (R:CR) (e:Ending) (W':World):Prop :=
 (∃c',R=.ok c'/\e=.returned (.tuple #[])/\∃O',Ck w0 B u ub uc fm O' c'.sl c'.bl (sumL c'.bl) W'/\CK O W O' W')\/(∃cd a,R=.error (cd,a)/\e=.panicked (pan (flt cd a))/\Bw w0 W')
theorem a6o(b:List Lc)(s:List UInt8):b.any (fun x=>x.nm == s)=(b.findIdx? (fun x=>x.nm == s)).isSome:=by
 induction b with
 | nil=>rfl
 | cons x l ih =>
  rw[List.any_cons,List.findIdx?_cons]
  cases hx:(x.nm == s) with
  | true=>simp
  | false =>
   rw[Bool.false_or,ih]
   simp only[Bool.false_eq_true,if_false]
   cases l.findIdx? (fun x=>x.nm == s) <;> rfl
theorem b7s{n:Nat}{b:List Lc}{s:List UInt8}(h:b.any (fun x=>x.nm == s)=false):(kvB n b).lookup s=none:=by
 rw[b2d]
 rw[a6o]at h
 cases hf:b.findIdx? (fun x=>x.nm == s) with
 | none=>rfl
 | some i=>rw[hf]at h;cases h
theorem a6p(w0:World)(B:Nat)(u:Nd)(ub:Option Addr)(uc fm:Nat)(O:Nat->Prop)(sl:List Int)(b:List Lc)(r:List (List Lc))(lv:Nat)(s:List UInt8)(fx:Bool)(a:Nat)(W:World)(h:Ck w0 B u ub uc fm O sl (b::r) lv W)(hlv:lv=sumL (b::r))(hl30:lv<=30)(hr:r.length<=100000)(ha:a<sl.length)(hnd:(b.map Lc.nm).Nodup) :
  Cl 131 #[Po B 0,sk s,.bool fx,vi (a:Nat)] W (CQ w0 B u ub uc fm O W (declareC s fx a ⟨sl,b::r⟩)):=by
 have y5:Bw W W.drew:=(Below.refl _ _).drew
 have x3:=CK.below (O:=O) y5
 replace h:=h.on y5
 obtain⟨gb,bc,q,c6,f6,z4,w6,hc,w9,x0,w3,hq,_,_⟩:=h.top
 have x8:W.cell? (Ad B 6)=some (.slice (some (Ad gb 0)) (r.length+1) bc):=c6
 have x5:W.cell? (Ad gb r.length)=some (mp q):=hc
 obtain⟨n,hn⟩:∃n,r.length=n:=⟨_,rfl⟩
 obtain⟨N1,x4⟩:∃N1,n+1=N1:=⟨_,rfl⟩
 rw[hn]at c6 x8 hc x5 hr z4
 rw[x4]at c6 x8 z4
 have hw:IntKind.i64.wrap ((N1:Int)-1)=(n:Int):=by rw[IntKind.wrap_i64];omega
 have w7:(0:Int)<=(n:Int):=by omega
 have w8:(n:Int)<(N1:Int):=by omega
 have y8:((kvB (sumL r) b).map (·.1)).Nodup:=by rw[b6z];exact hnd
 have y:=a4u (P:=Tryz.prog) (T:=175) (K:=9) (E:=230) (by kernel_rfl) (by kernel_rfl) a1b hq y8 (z:=.agg #[vi 0,.bool false]) (by kernel_rfl) s true
 cases hany:b.any (fun x=>x.nm == s) with
 | true =>
  rw[b2d]at y
  rw[a6o]at hany
  obtain⟨i,hi⟩:=Option.isSome_iff_exists.1 hany
  rw[hi]at y
  simp only[Option.map_some,Option.getD_some,Option.isSome_some,if_true]at y
  obtain⟨lc,y9⟩:∃lc:Nat×Bool,(sumL r+i,(b[i]?.map Lc.fx).getD false)=lc:=⟨_,rfl⟩
  have z9:(Instr.lookup 175 (.map (some q)) (sk s) true).run Tryz.prog W.drew=.ok (.tuple #[.agg #[vi (lc.1:Nat),.bool lc.2],.bool true]) W.drew:=by rw[<- y9];exact y
  have hR:declareC s fx a ⟨sl,b::r⟩=.error (5,a):=by rw[<- a6o]at hany;simp[declareC,hany]
  rw[hR]
  have fin:Hid (∀o,Bw w0 (W.drew.alloc o)):=fun o=>ext_trans h.bl (ext_alloc (Below.refl _ _) o)
  clear y y9 hR hany hi
  go_enter Tryz.func131,Tryz.ntmps131
  go_wp2
  go_region_held3 (fun j=>j.cell? (Ad B 6)=some (.slice (some (Ad gb 0)) N1 bc)/\j.cell? (Ad gb n)=some (mp q)) (go_keep) (fail)
  go_wp2_with (go_at_call 46;refine(a4q _ _ _ _).mono ?_;rintro e w1 ⟨rfl,rfl⟩)
  exact⟨rfl,.inr ⟨5,a,rfl,rfl,fin.out _⟩⟩
 | false =>
  rw[b7s hany]at y
  simp only[Option.getD_none,Option.isSome_none,if_true]at y
  have z9:(Instr.lookup 175 (.map (some q)) (sk s) true).run Tryz.prog W.drew=.ok (.tuple #[.agg #[vi 0,.bool false],.bool false]) W.drew:=y
  by_cases h30:30<=lv
  ·have hR:declareC s fx a ⟨sl,b::r⟩=.error (1,a):=by
    have e:(⟨sl,b::r⟩:Cs).live=lv:=hlv.symm
    simp only[declareC,hany,e]
    simp[h30]
   rw[hR]
   have fin:Hid (∀o,Bw w0 (W.drew.alloc o)):=fun o=>ext_trans h.bl (ext_alloc (Below.refl _ _) o)
   have c7:∀o,(W.alloc o).cell? (Ad B 7)=some (vi (lv:Nat)):=fun o=>(World.cell?_alloc_past _ _ _ h.lt).trans h.cells.2.2.1
   have y0:(30:Int)<=(lv:Int):=by omega
   clear y hR hany
   go_enter Tryz.func131,Tryz.ntmps131
   go_wp2
   go_region_held3 (fun j=>j.cell? (Ad B 6)=some (.slice (some (Ad gb 0)) N1 bc)/\j.cell? (Ad gb n)=some (mp q)) (go_keep) (fail)
   go_wp2_with (go_at_call 46;refine(a2l _ _ _ a _).mono ?_;rintro e w1 ⟨rfl,(⟨hw,rfl⟩|⟨hw,rfl⟩)⟩;(first|(exact absurd hw (by decide))|(exact⟨rfl,.inr ⟨1,a,rfl,rfl,fin.out _⟩⟩)))
   simp at hw
   omega
  ·have y0:¬(30:Int)<=(lv:Int):=by omega
   have hR:declareC s fx a ⟨sl,b::r⟩=.ok ⟨sl.set a lv,(b++[⟨s,fx⟩])::r⟩:=by
    have e:(⟨sl,b::r⟩:Cs).live=lv:=hlv.symm
    simp only[declareC,hany,e]
    simp[h30]
   rw[hR]
   have z8:=ext_alloc (Below.refl W.drew.heap.size W.drew) (.cells #[vi 0,.bool false] 230)
   have y2:=x3.trans (CK.below z8)
   have hV:=h.on z8
   have c7:∀o,(W.alloc o).cell? (Ad B 7)=some (vi (lv:Nat)):=fun o=>(World.cell?_alloc_past _ _ _ h.lt).trans h.cells.2.2.1
   obtain⟨v9,v3,q2,x9,_,_,_,y6,_,_,_,z0,_,f⟩:=hV.top
   have x6:q2=q:=by
    have e1:=(z8.cell (p:=(Ad B 6)) h.lt).symm.trans x9
    rw[c6]at e1
    simp only[Option.some.injEq,Value.slice.injEq,Addr.mk.injEq]at e1
    obtain⟨⟨rfl,_,_⟩,_,_⟩:=e1
    have e2:=(z8.cell (p:=(Ad gb n)) (World.block_lt_of_cell? _ _ hc)).symm.trans (hn▸y6)
    rw[hc]at e2
    simpa using e2.symm
   subst x6
   obtain⟨hP,z7⟩:=f ⟨s,fx⟩
   have v:=a9o (P:=Tryz.prog) (T:=175) (K:=9) (E:=230) (by kernel_rfl) (by kernel_rfl) a1b z0 y8 s (b7s hany) (lcv (sumL (b::r)) fx)
   obtain⟨V2,z2⟩:∃V2:World,{ W.drew.alloc (.cells #[vi 0,.bool false] 230)with heap:=(W.drew.alloc (.cells #[vi 0,.bool false] 230)).heap.setIfInBounds q2 (a0e sk (kvB (sumL r) b++[(s,lcv (sumL (b::r)) fx)])) }=V2:=⟨_,rfl⟩
   rw[z2]at v
   simp only at hP z7
   rw[z2]at hP z7
   rw[<- hlv]at v
   have z6:sumL ((b++[⟨s,fx⟩])::r)=lv+1:=by rw[hlv,a1o,a1o];simp;omega
   have y1:=y2.trans z7
   have z3:Bw V2 V2.drew:=(Below.refl _ _).drew
   have z1:=hP.on z3
   obtain⟨g,sc,c5,y7,w2,⟨xx,cx⟩,x2,z5⟩:=z1.slot ha
   obtain⟨hS,y4⟩:=z5 ((lv:Nat):Int)
   obtain⟨hF,y3⟩:=hS.live (lv+1)
   have m:=z1.cells
   have v5:V2.cell? (Ad B 7)=some (vi (lv:Nat)):=m.2.2.1
   have v7:V2.frozen? (Ad B 7)=false:=m.2.2.2
   have v4:V2.cell? (Ad B 5)=some (.slice (some (Ad g 0)) sl.length sc):=c5
   have v6:V2.cell? (Ad g a)=some (vi xx):=cx
   have v8:V2.frozen? (Ad g a)=false:=x2
   have w4:(0:Int)<=(a:Int):=by omega
   have w5:(a:Int)<(sl.length:Int):=by omega
   have x1:¬B=g:=Ne.symm y7
   have d:∀(hh:True),(Instr.mapUpdate 175 (.map (some q2)) (sk s) (.agg #[vi (lv:Nat),.bool fx])).run Tryz.prog (W.alloc (.cells #[vi 0,.bool false] 230)).drew=.ok () V2:=fun _=>v
   have x7:=d trivial
   have fin:Hid (CQ w0 B u ub uc fm O W (.ok ⟨sl.set a lv,(b++[⟨s,fx⟩])::r⟩) (.returned (.tuple #[])) ((V2.drew.setCell (Ad g a) (iv ((lv:Nat):Int))).setCell (Ad B 7) (vi ((lv+1:Nat):Int)))):=.inl ⟨_,rfl,rfl,O,by rw[z6];exact hF,y1.trans ((CK.below z3).trans (y4.trans y3))⟩
   clear hlv z6 y hR hany v d z2 hP z7 hF y3 hS y4 z5 z1 hV f x9 y6 z0 hq
   go_enter Tryz.func131,Tryz.ntmps131
   go_wp2
   go_region_held3 (fun j=>j.cell? (Ad B 6)=some (.slice (some (Ad gb 0)) N1 bc)/\j.cell? (Ad gb n)=some (mp q2)) (go_keep) (fail)
   go_wp2_with (go_at_call 46;refine(a2l _ _ _ a _).mono ?_;rintro e w1 ⟨rfl,(⟨hw,rfl⟩|⟨hw,rfl⟩)⟩;(first|(exact absurd hw (by decide))|(exfalso;simp at hw;omega)))
   go_region_held3 (fun j=>j.cell? (Ad B 5)=some (.slice (some (Ad g 0)) sl.length sc)/\j.cell? (Ad B 7)=some (vi (lv:Nat))) (go_keep) (fail)
   go_wp2
   go_end0
   exact fin.out
theorem a6q(fs:List (List UInt8))(s:List UInt8):∀(l:List (List UInt8)) (i:Nat) (kv:List (List UInt8×Value)),(a2d fs i l kv).lookup s=match kv.lookup s with
  | some v=>some v
  | none=>(funI l s).map fun j=>vi ((i+j:Nat):Int)
 | [],i,kv=>by
  rw[a2d]
  cases kv.lookup s <;> rfl
 | x::l,i,kv=>by
  rw[a2d,a6q fs s l (i+1)]
  by_cases hx:x=s
  ·subst hx
   cases hk:kv.lookup x with
   | some v=>simp[hk]
   | none =>
    simp only[Option.isSome_none,Bool.false_eq_true,if_false]
    rw[List.lookup_append,hk]
    simp[funI,List.findIdx?_cons]
  ·have e:(if (kv.lookup x).isSome then kv else kv++[(x,vi (i:Nat))]).lookup s=kv.lookup s:=by
    split
    ·rfl
    ·rw[List.lookup_append]
     have:(s == x)=false:=by simpa using fun h=>hx h.symm
     simp[List.lookup,this]
   rw[e]
   cases kv.lookup s with
   | some v=>rfl
   | none =>
    have z:(x == s)=false:=by simpa using hx
    simp only[funI,List.findIdx?_cons,z]
    cases l.findIdx? (fun x=>x == s) with
    | none=>rfl
    | some j=>simp;omega
theorem a5q(fs:List (List UInt8)):∀(l:List (List UInt8)) (i:Nat) (kv:List (List UInt8×Value)),(kv.map (·.1)).Nodup->((a2d fs i l kv).map (·.1)).Nodup
 | [],i,kv,h=>by rw[a2d];exact h
 | x::l,i,kv,h=>by
  rw[a2d]
  refine a5q fs l (i+1) _ ?_
  split
  ·exact h
  ·rename_i hn
   rw[List.map_append,List.nodup_append]
   refine⟨h,by simp,fun a y b z=>?_⟩
   simp at z
   subst z
   intro e
   obtain⟨p,hp,rfl⟩:=List.mem_map.1 y
   apply hn
   rw[<- e,b1r h hp]
   rfl
theorem Ck.funs{sl:List Int}{lv:Nat}(h:Ck w0 B u ub uc fm O sl bl lv W)(s:List UInt8)(ok:Bool) :
  (Instr.lookup 82 (.map (some fm)) (sk s) ok).run Tryz.prog W=.ok (if ok then .tuple #[((funI (u.kids.map Nd.t) s).map fun j=>vi ((j:Nat):Int)).getD (vi 0),.bool (funI (u.kids.map Nd.t) s).isSome] else ((funI (u.kids.map Nd.t) s).map fun j=>vi ((j:Nat):Int)).getD (vi 0)) W:=by
 obtain⟨kv,y,hf⟩:=h.hf
 have v:(kv.map (·.1)).Nodup:=by rw[y];exact a5q _ _ _ _ (by simp)
 have:=a4u (P:=Tryz.prog) (T:=82) (K:=9) (E:=3) (by kernel_rfl) (by kernel_rfl) a1b hf v (z:=vi 0) (by kernel_rfl) s ok
 have q:kv.lookup s=(funI (u.kids.map Nd.t) s).map fun j=>vi ((j:Nat):Int):=by
  rw[y,a6q]
  simp
 rw[q]at this
 simpa using this
theorem c7e(w0:World)(B:Nat)(u:Nd)(ub:Option Addr)(uc fm:Nat)(O:Nat->Prop)(sl:List Int)(bl:List (List Lc))(s:List UInt8)(a:Nat)(W:World)(h:Ck w0 B u ub uc fm O sl bl (sumL bl) W)(hNB:NB bl)(hlen:bl.length<=100000)(ha:a<sl.length)(hkl:u.kids.length<=100000) :
  Cl 132 #[Po B 0,sk s,vi (a:Nat)] W (CQ w0 B u ub uc fm O W (a6n (u.kids.map Nd.t) s a ⟨sl,bl⟩)):=by
 have z:=b7r w0 B u ub uc fm O sl bl (sumL bl) s W h hNB hlen
 have z0:(0:Int)<=(a:Int):=by omega
 have z1:(a:Int)<(sl.length:Int):=by omega
 cases hf:findL s bl with
 | some p =>
  obtain⟨i,fx⟩:=p
  have hR:a6n (u.kids.map Nd.t) s a ⟨sl,bl⟩=.ok ⟨sl.set a (i:Nat),bl⟩:=by simp[a6n,hf,Cs.put]
  rw[hR]
  have n:b0t s bl=.tuple #[.agg #[vi (i:Nat),.bool fx],.bool true]:=by rw[b0t,hf]
  rw[n]at z
  clear hR n
  go_enter Tryz.func132,Tryz.ntmps132
  go_wp2_with (go_at_call 155;refine z.mono ?_;rintro e w1 ⟨rfl,m⟩;refine Hid.out ?_)
  have z7:=ext_alloc m (.cells #[vi (i:Nat),.bool fx] 230)
  have g2:=a0a w1 (.cells #[vi (i:Nat),.bool fx] 230)
  obtain⟨Q,hQ⟩:∃Q,w1.heap.size=Q:=⟨_,rfl⟩
  rw[hQ]at g2
  obtain⟨V,hV⟩:∃V,w1.alloc (.cells #[vi (i:Nat),.bool fx] 230)=V:=⟨_,rfl⟩
  rw[hV]at z7 g2
  have q:=z7.drew
  have v:=h.on q
  obtain⟨g,sc,c5,f,z6,⟨xx,cx⟩,z5,o⟩:=v.slot ha
  obtain⟨hS,d⟩:=o ((i:Nat):Int)
  have z4:g≠Q:=fun e=>by
   have:=(h.hO g z6).2
   have:=m.size
   omega
  have y7:V.cell? (Ad B 5)=some (.slice (some (Ad g 0)) sl.length sc):=c5
  have y8:V.cell? (Ad g a)=some (vi xx):=cx
  have y9:V.frozen? (Ad g a)=false:=z5
  have q0:V.cell? (Ad Q 0)=some (vi (i:Nat)):=cell_block g2 rfl
  have z8:¬B=g:=Ne.symm f
  have z2:¬Q=g:=Ne.symm z4
  have fin:Hid (CQ w0 B u ub uc fm O W (.ok ⟨sl.set a (i:Nat),bl⟩) (.returned (.tuple #[])) (V.drew.setCell (Ad g a) (iv ((i:Nat):Int)))):=.inl ⟨_,rfl,rfl,O,hS,(CK.below q).trans d⟩
  clear z hS d o v
  refine Lib.hid ?_
  go_wp2
  try rw[hV,hQ]
  go_region_held3 (fun w'=>w'.cell? (Ad B 5)=some (.slice (some (Ad g 0)) sl.length sc)/\w'.cell? (Ad Q 0)=some (vi (i:Nat))) (go_keep) (fail)
  go_wp2
  go_end0
  exact fin.out
 | none =>
  have n:b0t s bl=.tuple #[.agg #[vi 0,.bool false],.bool false]:=by rw[b0t,hf];rfl
  rw[n]at z
  have y:=fun(V:World) (hb:Bw W V)=>(h.on hb).funs s true
  simp only[if_true]at y
  cases hg:funI (u.kids.map Nd.t) s with
  | some j =>
   rw[hg]at y
   simp only[Option.map_some,Option.getD_some,Option.isSome_some]at y
   have hj:j<u.kids.length:=by
    unfold funI at hg
    rw[List.findIdx?_eq_some_iff_getElem]at hg
    obtain⟨hj,_⟩:=hg
    simpa using hj
   have hR:a6n (u.kids.map Nd.t) s a ⟨sl,bl⟩=.ok ⟨sl.set a (30+(j:Nat)),bl⟩:=by simp[a6n,hf,hg,Cs.put]
   rw[hR]
   clear hR n
   have z3:IntKind.i64.wrap ((30:Int)+(j:Int))=30+(j:Int):=by rw[IntKind.wrap_i64];omega
   go_enter Tryz.func132,Tryz.ntmps132
   go_wp2_with (go_at_call 155;refine z.mono ?_;rintro e w1 ⟨rfl,m⟩;refine Hid.out ?_)
   have q:=ext_alloc m (.cells #[vi 0,.bool false] 230)
   have v:=h.on q
   have z9:=y _ q
   obtain⟨_,c4,_,_⟩:=v.cells
   obtain⟨g,sc,c5,f,z6,⟨xx,cx⟩,z5,o⟩:=v.slot ha
   obtain⟨hS,d⟩:=o (30+((j:Nat):Int))
   have z8:¬B=g:=Ne.symm f
   have fin:Hid (CQ w0 B u ub uc fm O W (.ok ⟨sl.set a (30+(j:Nat)),bl⟩) (.returned (.tuple #[])) ((w1.alloc (.cells #[vi 0,.bool false] 230)).setCell (Ad g a) (iv (30+((j:Nat):Int))))):=.inl ⟨_,rfl,rfl,O,hS,(CK.below q).trans d⟩
   clear z y hS d o v
   refine Lib.hid ?_
   go_wp2_with (go_at_call 46;refine(a2l _ _ _ a _).mono ?_;rintro e w2 ⟨rfl,(⟨hw,rfl⟩|⟨hw,rfl⟩)⟩;(exact absurd hw (by decide)))
   go_end0
   exact fin.out
  | none =>
   rw[hg]at y
   simp only[Option.map_none,Option.getD_none,Option.isSome_none]at y
   have hR:a6n (u.kids.map Nd.t) s a ⟨sl,bl⟩=.error (4,a):=by simp[a6n,hf,hg]
   rw[hR]
   clear hR n
   go_enter Tryz.func132,Tryz.ntmps132
   go_wp2_with (go_at_call 155;refine z.mono ?_;rintro e w1 ⟨rfl,m⟩;refine Hid.out ?_)
   have q:=ext_alloc m (.cells #[vi 0,.bool false] 230)
   have v:=h.on q
   have z9:=y _ q
   obtain⟨_,c4,_,_⟩:=v.cells
   have fin:Hid (Bw w0 (w1.alloc (.cells #[vi 0,.bool false] 230))):=v.bl
   clear z y v
   refine Lib.hid ?_
   go_wp2_with (go_at_call 46;refine(a4q _ _ a _).mono ?_;rintro e w2 ⟨rfl,rfl⟩)
   exact⟨rfl,.inr ⟨4,a,rfl,rfl,fin.out⟩⟩
def setV (p:Nd) (bl:List (List Lc)):Bool:=if p.k=18 then (match findL p.t bl with|some q=>!q.2|none=>false) else true
theorem b9q(w0:World)(B:Nat)(u:Nd)(ub:Option Addr)(uc fm:Nat)(O:Nat->Prop)(sl:List Int)(bl:List (List Lc))(p:Nd)(b:Option Addr)(cap:Nat)(W:World)(h:Ck w0 B u ub uc fm O sl bl (sumL bl) W)(hNB:NB bl)(hlen:bl.length<=100000) :
  Cl 133 #[Po B 0,ndv p b cap] W fun e W'=>e=.returned (.bool (setV p bl))/\Bw W W':=by
 have s:=ext_alloc (Below.refl W.heap.size W) (nbx p b cap)
 have g0:=a0a W (nbx p b cap)
 have z:=b7r w0 B u ub uc fm O sl bl (sumL bl) p.t _ (h.on s) hNB hlen
 obtain⟨t,ht⟩:∃t,W.heap.size=t:=⟨_,rfl⟩
 rw[ht]at g0
 obtain⟨lc,ok,n,o⟩:∃(lc:Nat×Bool) (ok:Bool),b0t p.t bl=.tuple #[.agg #[vi (lc.1:Nat),.bool lc.2],.bool ok]/\setV p bl=(decide (¬p.k=18)||(ok && !lc.2)):=by
  unfold b0t setV
  cases findL p.t bl with
  | none=>exact⟨(0,false),false,rfl,by by_cases h18:p.k=18 <;> simp[h18]⟩
  | some q=>exact⟨q,true,rfl,by by_cases h18:p.k=18 <;> simp[h18]⟩
 rw[n]at z
 rw[o]
 obtain⟨k0,t0,n0,ks⟩:=p
 simp only at z g0⊢
 obtain⟨m,j⟩:=lc
 simp only at z⊢
 clear o n
 replace z:Cl 155 #[Po B 0,sk t0] (W.alloc (.cells #[vi k0,sk t0,vi n0,.slice b ks.length cap] 43)) fun e a=>e=.returned (.tuple #[.agg #[vi (m:Nat),.bool j],.bool ok])/\Below (W.alloc (.cells #[vi k0,sk t0,vi n0,.slice b ks.length cap] 43)).heap.size (W.alloc (.cells #[vi k0,sk t0,vi n0,.slice b ks.length cap] 43)) a:=z
 by_cases h18:k0=18
 ·subst h18
  cases ok with
  | false =>
   go_enter Tryz.func133,Tryz.ntmps133
   go_wp2_with (go_at_call 155;refine z.mono ?_;rintro e w1 ⟨rfl,y⟩;have g1:=block_below y g0;have v:=ext_alloc (ext_trans s y) (.cells #[vi (m:Nat),.bool j] 230);obtain⟨d,f,g,i,_,_,_,_⟩:=in4a g1)
   go_ret
   exact⟨by simp,v⟩
  | true =>
   go_enter Tryz.func133,Tryz.ntmps133
   go_wp2_with (go_at_call 155;refine z.mono ?_;rintro e w1 ⟨rfl,y⟩;have g1:=block_below y g0;have v:=ext_alloc (ext_trans s y) (.cells #[vi (m:Nat),.bool j] 230);obtain⟨d,f,g,i,_,_,_,_⟩:=in4a g1)
   go_ret
   exact⟨by simp,v⟩
 ·have z9:(k0 == 18)=false:=by simpa using h18
  go_enter Tryz.func133,Tryz.ntmps133
  go_wp2_with (go_at_call 155;refine z.mono ?_;rintro e w1 ⟨rfl,y⟩;have g1:=block_below y g0;have v:=ext_alloc (ext_trans s y) (.cells #[vi (m:Nat),.bool j] 230);obtain⟨d,f,g,i,_,_,_,_⟩:=in4a g1)
  go_ret
  exact⟨by simp[h18],v⟩
def low (w0:World):Nat->Prop:=fun g=>g<w0.heap.size
def VisC (n:Nd):Prop:=∀(w0:World) (B:Nat) (u:Nd) (ub:Option Addr) (uc fm:Nat) (O:Nat->Prop) (sl:List Int) (bl:List (List Lc)) (b:Option Addr) (cap:Nat) (W:World),Ck w0 B u ub uc fm O sl bl (sumL bl) W->NdV (low w0) w0 n (ndv n b cap)->sl.length+manyN n<=100000->bl.length+manyN n<=100000->sumL bl<=30->NB bl->bl≠[]->u.kids.length<=100000 ->
 Cl 104 #[Po B 0,ndv n b cap] W (CQ w0 B u ub uc fm O W (visC (u.kids.map Nd.t) false n ⟨sl,bl⟩))
def InC (n:Nd):Prop:=∀(w0:World) (B:Nat) (u:Nd) (ub:Option Addr) (uc fm:Nat) (O:Nat->Prop) (sl:List Int) (bl:List (List Lc)) (b:Option Addr) (cap:Nat) (W:World),Ck w0 B u ub uc fm O sl bl (sumL bl) W->NdV (low w0) w0 n (ndv n b cap)->sl.length+manyN n<=100000->bl.length+manyN n<=100001->sumL bl<=30->NB bl->bl≠[]->u.kids.length<=100000 ->
 Cl 69 #[Po B 0,ndv n b cap] W (CQ w0 B u ub uc fm O W (visC (u.kids.map Nd.t) true n ⟨sl,bl⟩))
def a8x (ks:List Nd):Prop:=∀(w0:World) (B:Nat) (u:Nd) (ub:Option Addr) (uc fm:Nat) (O:Nat->Prop) (sl:List Int) (bl:List (List Lc)) (b:Option Addr) (cap:Nat) (W:World),Ck w0 B u ub uc fm O sl bl (sumL bl) W->KA (low w0) w0 b cap ks->sl.length+manyN.go ks<=100000->bl.length+manyN.go ks<=100000->sumL bl<=30->NB bl->bl≠[]->u.kids.length<=100000 ->
 Cl 68 #[Po B 0,.slice b ks.length cap] W (CQ w0 B u ub uc fm O W (allC (u.kids.map Nd.t) ks ⟨sl,bl⟩))
theorem CQ.par{R:CR}(h:CQ w0 B u ub uc fm O W R e W'):(∃y a,R=.error (y,a)/\e=.panicked (pan (flt y a))/\Bw w0 W')\/(∃z,R=.ok z/\e=.returned (.tuple #[])/\∃v,Ck w0 B u ub uc fm v z.sl z.bl (sumL z.bl) W'/\CK O W v W'):=Or.symm h
def AI2 (w0:World) (B:Nat) (u:Nd) (ub:Option Addr) (uc fm:Nat) (O:Nat->Prop) (W:World) (M D:Nat) (R:CR) (ks:List Nd) (j:Nat) (wr:World):Prop :=
 ∃O' c',Ck w0 B u ub uc fm O' c'.sl c'.bl (sumL c'.bl) wr/\CK O W O' wr/\allC (u.kids.map Nd.t) (ks.drop j) c'=R/\c'.sl.length+manyN.go (ks.drop j)<=M/\c'.bl.length=D/\sumL c'.bl<=30/\NB c'.bl
theorem b5u(ks:List Nd)(ih:∀y∈ks,VisC y):a8x ks:=by
 intro w0 B u ub uc fm O sl bl b cap W hC hK hM hD hlv hNB hne hul
 obtain⟨R,hR⟩:∃R,allC (u.kids.map Nd.t) ks ⟨sl,bl⟩=R:=⟨_,rfl⟩
 rw[hR]
 have hD0:0<bl.length:=List.length_pos_iff.2 hne
 have hkl:=a2k ks
 obtain⟨D,hDd⟩:∃D,bl.length=D:=⟨_,rfl⟩
 rw[hDd]at hD hD0
 have hI:AI2 w0 B u ub uc fm O W 100000 D R ks 0 W:=⟨O,⟨sl,bl⟩,hC,CK.refl _ _,by rw[List.drop_zero];exact hR,by rw[List.drop_zero];exact hM,hDd,hlv,hNB⟩
 obtain⟨L,hL⟩:∃L,ks.length=L:=⟨_,rfl⟩
 rw[hL]at hkl⊢
 clear hC hR hlv hNB hne hDd hM
 replace ih:Hid (∀y∈ks,VisC y):=ih
 replace hL:Hid _:=hL
 replace hK:Hid (KA (low w0) w0 b cap ks):=hK
 go_enter Tryz.func68,Tryz.ntmps68
 go_wp2
 go_loopw [8] (fun ix wr=>∃j:Nat,j<=L/\ix=vi (j:Nat)/\AI2 w0 B u ub uc fm O W 100000 D R ks j wr) (fun ix _=>L-(intOf ix).toNat)
 case atStart=>exact⟨0,Nat.zero_le _,rfl,hI⟩
 case round =>
  obtain⟨j,hj,rfl,O1,c1,hC,hCK,hgo,hs2,hDl,hlv,hNB⟩:=hrel
  clear hI
  by_cases hlt:j<L
  ·have hlt':(j:Int)<(L:Int):=by omega
   have hge:(0:Int)<=(j:Int):=by omega
   have hjk:j<ks.length:=by have:=hL.out;omega
   obtain⟨y,hy⟩:∃y,ks[j]?=some y:=⟨_,List.getElem?_eq_getElem hjk⟩
   have hK0:=hK.out
   obtain⟨g',off,b',cap',rfl,v0,v1,v2,v3,hyV⟩:=KA.at hK0 hy
   have hgw:=World.block_lt_of_cell? _ _ v0
   simp only at hgw
   have hcell:∀i v,Ce w0 g' i v->Ce wr g' i v:=fun i v h=>(hC.bl.cell (p:=(Ad g' i)) hgw).trans h
   replace v0:=hcell _ _ v0
   replace v1:=hcell _ _ v1
   replace v2:=hcell _ _ v2
   replace v3:=hcell _ _ v3
   have hdr:ks.drop j=y::ks.drop (j+1):=by rw[List.drop_eq_getElem_cons hjk];congr 1;exact(List.getElem?_eq_some_iff.1 hy).2
   rw[hdr]at hgo hs2
   simp only[manyN.go]at hs2
   rw[allC]at hgo
   have hmk:manyN y<=manyN.go ks:=by
    have:=congrArg manyN.go (List.take_append_drop j ks)
    rw[a5z,hdr]at this
    simp only[manyN.go]at this
    omega
   have hb0:=ext_alloc (Below.refl wr.heap.size wr) (nbx y b' cap')
   have hcall:=ih.out y (List.mem_of_getElem? hy) w0 B u ub uc fm O1 c1.sl c1.bl b' cap' _ (hC.on hb0) hyV (by omega) (by omega) hlv hNB (fun e=>by rw[e]at hDl;simp at hDl;omega) hul
   have hCK0:=hCK.trans (CK.below (O:=O1) hb0)
   obtain⟨yk,yt,yn,ys⟩:=y
   simp only at v0 v1 v2 v3
   replace hcall:Cl 104 #[Po B 0,.agg #[vi yk,sk yt,vi yn,.slice b' ys.length cap']] (wr.alloc (.cells #[vi yk,sk yt,vi yn,.slice b' ys.length cap'] 43)) (CQ w0 B u ub uc fm O1 (wr.alloc (.cells #[vi yk,sk yt,vi yn,.slice b' ys.length cap'] 43)) (visC (u.kids.map Nd.t) false ⟨yk,yt,yn,ys⟩ ⟨c1.sl,c1.bl⟩)):=hcall
   have hpan:∀cd a,visC (u.kids.map Nd.t) false ⟨yk,yt,yn,ys⟩ ⟨c1.sl,c1.bl⟩=.error (cd,a)->R=.error (cd,a):=fun cd a e=>by rw[<- hgo];rw[show(⟨c1.sl,c1.bl⟩:Cs)=c1 from rfl]at e;rw[e];rfl
   replace hpan:Hid _:=hpan
   replace hgo:Hid _:=hgo
   clear hy hdr hcell
   go_wp2_with (go_at_call 104;refine hcall.mono ?_;intro e w2 hq;rcases hq.par with⟨cd,a,he,rfl,hbp⟩|⟨c2,he,rfl,O2,hC2,hK2⟩;(exact⟨rfl,.inr ⟨cd,a,hpan.out _ _ he,rfl,hbp⟩⟩))
   go_roundw
   case rel =>
    have hkp:=a4d _ _ _ _ _ he
    have hln:=b5j _ _ _ _ _ he
    have hlv2:=b1h _ _ _ _ _ he hlv
    have hg2:=hgo.out
    rw[show(⟨c1.sl,c1.bl⟩:Cs)=c1 from rfl]at he
    rw[he]at hg2
    exact⟨j+1,by omega,by go_num,O2,c2,hC2,hCK0.trans hK2,hg2,by simp only at hln;omega,hkp.len.trans hDl,hlv2,hkp.nb hNB⟩
   case measure=>simp[intOf];omega
  ·have hlt':¬(j:Int)<(L:Int):=by omega
   have hRo:R=.ok c1:=by rw[<- hgo,List.drop_eq_nil_of_le (by have:=hL.out;omega),allC]
   subst hRo
   go_wp2
   go_end0
   exact .inl ⟨c1,rfl,rfl,O1,hC,hCK⟩
theorem c3l(t0:List UInt8)(n0:Int)(ks:List Nd)(ih:a8x ks):InC ⟨4,t0,n0,ks⟩:=by
 intro w0 B u m n fm O sl bl b cap W hC hN hM hD f z8 i j
 have g:manyN ⟨4,t0,n0,ks⟩=manyN.go ks+1:=rfl
 rw[g]at hM hD
 rw[c9q]
 have hK:=KA.of hN
 have v:=ext_alloc (Below.refl W.heap.size W) (nbx ⟨4,t0,n0,ks⟩ b cap)
 have g0:=a0a W (nbx ⟨4,t0,n0,ks⟩ b cap)
 have p:=CK.below (O:=O) v
 have d:=a2o w0 B u m n fm O sl bl (sumL bl) _ (hC.on v) (by omega)
 have y:¬O W.heap.size:=fun h=>by have:=(hC.hO _ h).2;omega
 have s:=fun o w1 (z:Ck w0 B u m n fm o (sl++[-1]) bl (sumL bl) w1)=>ih w0 B u m n fm o (sl++[-1]) bl b cap w1 z hK (by simp;omega) (by omega) f z8 i j
 rw[show(⟨sl,bl⟩:Cs).enter=⟨sl++[-1],bl⟩ from rfl]
 obtain⟨t,ht⟩:∃t,W.heap.size=t:=⟨_,rfl⟩
 rw[ht]at g0 y
 clear hC hN hK
 go_enter Tryz.func69,Tryz.ntmps69
 go_wp2_with (first
  | (go_at_call 44;refine d.mono ?_;rintro e w1 ⟨rfl,o,z,q⟩;obtain⟨g1,z5⟩:=q.box g0 y;obtain⟨z0,z1,z2,z3,_,_,_,_⟩:=in4 g1)
  | (go_at_call 68;refine(s o w1 z).mono ?_;intro e w2 hq;rcases hq.par with⟨cd,a,he,rfl,z9⟩|⟨c2,he,rfl,O2,z6,z7⟩;(exact⟨rfl,.inr ⟨cd,a,he,rfl,z9⟩⟩)))
 go_end0
 exact .inl ⟨c2,he,rfl,O2,z6,p.trans (q.trans z7)⟩
theorem d6v{a b c d:Value}(h:tm[2]?.getD undef=Po B 0)(hx:W.heap[B]?=some (.cells #[a,b,c,d] 43)):(results Tryz.f70 tm).run Tryz.prog W=.ok (.agg #[a,b,c,d]) W:=by
 obtain⟨c0,c1,c2,c3,_,_,_,_⟩:=in4 hx
 simp[results,Tryz.results70,go_sem,h,c0,c1,c2,c3]
theorem body_any(w0:World)(k0:Int)(t0:List UInt8)(n0:Int)(ks:List Nd)(b:Option Addr)(cap:Nat)(hK:KA (low w0) w0 b cap ks)(j:Nat)(z:Nd)(hz:ks[j]?=some z)(hj:j+1=ks.length)(hl:ks.length<=100000) :
  ∃bz cz,NdV (low w0) w0 z (ndv z bz cz)/\∀W,Bw w0 W->Cl 70 #[ndv ⟨k0,t0,n0,ks⟩ b cap] W fun e W'=>e=.returned (ndv z bz cz)/\Bw W W':=by
 obtain⟨q,u,b',cap',rfl,v0,v1,v2,m,n⟩:=KA.at hK hz
 refine⟨b',cap',n,fun W hb=>?_⟩
 have s:=World.block_lt_of_cell? _ _ v0
 simp only at s
 have g:q<W.heap.size:=Nat.lt_of_lt_of_le s hb.size
 obtain⟨L,f⟩:∃L,ks.length=L:=⟨_,rfl⟩
 rw[f]at hj hl
 have y:∀i v,Ce w0 q i v->∀o o',Ce ((W.alloc o).alloc o') q i v:=fun i v h o o'=>(World.cell?_alloc_past _ _ _ (by simp;omega)).trans ((World.cell?_alloc_past _ _ _ g).trans ((hb.cell (p:=(Ad q i)) s).trans h))
 replace v0:=y _ _ v0
 replace v1:=y _ _ v1
 replace v2:=y _ _ v2
 replace m:=y _ _ m
 have hw:IntKind.i64.wrap ((L:Int)-1)=(j:Int):=by rw[IntKind.wrap_i64];omega
 have z8:(0:Int)<=(j:Int):=by omega
 have z9:(j:Int)<(L:Int):=by omega
 obtain⟨zk,d,zn,a⟩:=z
 simp only at v0 v1 v2 m
 show Cl 70 #[.agg #[vi k0,sk t0,vi n0,.slice (some (Ad q u)) ks.length cap]] W _
 rw[f]
 clear y n hz hK f
 go_enter Tryz.func70,Tryz.ntmps70
 go_wp2
 refine bodyPost_ret (d6v rfl (W:=(W.alloc (.cells #[vi k0,sk t0,vi n0,.slice (some (Ad q u)) L cap] 43)).alloc (nbx ⟨zk,d,zn,a⟩ b' cap')) ?_) rfl ⟨rfl,ext_alloc (ext_alloc (Below.refl _ _) _) _⟩
 have:=a0a (W.alloc (.cells #[vi k0,sk t0,vi n0,.slice (some (Ad q u)) L cap] 43)) (nbx ⟨zk,d,zn,a⟩ b' cap')
 rw[World.size_alloc]at this
 exact this
theorem params_any(k0:Int)(t0:List UInt8)(n0:Int)(ks:List Nd)(g off cap:Nat)(j:Nat)(hj:j+1=ks.length)(hl:ks.length<=100000)(hc:ks.length<=cap)(W:World) :
  Cl 47 #[ndv ⟨k0,t0,n0,ks⟩ (some (Ad g off)) cap] W fun e W'=>e=.returned (.slice (some (Ad g off)) j cap)/\Bw W W':=by
 obtain⟨L,y⟩:∃L,ks.length=L:=⟨_,rfl⟩
 rw[y]at hj hl hc
 have q:IntKind.i64.wrap ((L:Int)-1)=(j:Int):=by rw[IntKind.wrap_i64];omega
 have v:(L:Int)-1=(j:Int):=by omega
 have s:(0:Int)<=(j:Int):=by omega
 have u:(j:Int)<=(cap:Int):=by omega
 have z:Bw W (W.alloc (.cells #[vi k0,sk t0,vi n0,.slice (some (Ad g off)) L cap] 43)):=ext_alloc (Below.refl _ _) _
 show Cl 47 #[.agg #[vi k0,sk t0,vi n0,.slice (some (Ad g off)) ks.length cap]] W _
 rw[y]
 clear y
 go_enter Tryz.func47,Tryz.ntmps47
 go_wp2
 go_ret
 exact⟨rfl,z⟩
theorem KA.take{S:Nat->Prop}{b:Option Addr}{cap:Nat}{ks:List Nd}(h:KA S w b cap ks)(j:Nat):KA S w b cap (ks.take j):=by
 refine⟨Nat.le_trans (by simp;omega) h.1,?_⟩
 rcases h.2 with h0|⟨g,z,rfl,s,u⟩
 ·exact .inl (by rw[h0];simp)
 ·refine .inr ⟨g,z,rfl,s,fun i y v=>u i y ?_⟩
  have q:=(List.getElem?_eq_some_iff.1 v).1
  rw[List.getElem?_take_of_lt (by simp at q;omega)]at v
  exact v
def CntC (n:Nd):Prop:=∀(w0:World) (B:Nat) (u:Nd) (ub:Option Addr) (uc fm:Nat) (O:Nat->Prop) (sl:List Int) (bl:List (List Lc)) (b:Option Addr) (cap:Nat) (W:World),Ck w0 B u ub uc fm O sl bl (sumL bl) W->NdV (low w0) w0 n (ndv n b cap)->sl.length+manyN n<=100000->bl.length+manyN n<=100000->sumL bl<=30->NB bl->bl≠[]->u.kids.length<=100000 ->
 Cl 130 #[Po B 0,ndv n b cap] W (CQ w0 B u ub uc fm O W (visC (u.kids.map Nd.t) false n ⟨sl,bl⟩))
theorem b5v{r:List (List Lc)}(h:bl.tail=r)(hl:bl.length=r.length+1):∃b,bl=b::r:=by
 cases bl with
 | nil=>simp at hl
 | cons b l=>exact⟨b,by rw[<- h];rfl⟩
theorem d6w(t0:List UInt8)(n0:Int)(x y z:Nd)(hxy:a8x [x,y])(hz:InC z):CntC ⟨10,t0,n0,[x,y,z]⟩:=by
 intro w0 B u n o fm O sl bl b cap W hC hN hM hD v5 u1 t4 v8
 have s9:manyN ⟨10,t0,n0,[x,y,z]⟩=manyN.go [x,y]+manyN z+1:=by show manyN.go [x,y,z]+1=_;simp only[manyN.go];omega
 rw[s9]at hM hD
 have s1:=a3i z
 have hK:=KA.of hN
 have s3:3<=cap:=hK.1
 obtain⟨bz,cz,x7,s⟩:=body_any w0 10 t0 n0 [x,y,z] b cap hK 2 z rfl rfl (by simp)
 have p:KA (low w0) w0 b cap [x,y]:=hK.take 2
 obtain⟨g',x8,_,_,rfl,_⟩:=KA.at hK (j:=0) (y:=x) rfl
 obtain⟨R,hR⟩:∃R,visC (u.kids.map Nd.t) false ⟨10,t0,n0,[x,y,z]⟩ ⟨sl,bl⟩=R:=⟨_,rfl⟩
 rw[hR]
 rw[c2k,show(⟨sl,bl⟩:Cs).enter=⟨sl++[-1],bl⟩ from rfl]at hR
 simp only at hR
 have f1:Hid (∀v a,allC (u.kids.map Nd.t) [x,y] ⟨sl++[-1],bl⟩=.error (v,a)->R=.error (v,a)):=fun v a e=>by rw[<- hR,e];rfl
 have f2:Hid (∀d v a,allC (u.kids.map Nd.t) [x,y] ⟨sl++[-1],bl⟩=.ok d->declareC t0 true sl.length ⟨d.sl,[]::d.bl⟩=.error (v,a)->R=.error (v,a)):=fun d v a e e2=>by rw[<- hR,e];show Except.bind (declareC t0 true sl.length ⟨d.sl,[]::d.bl⟩) _=_;rw[e2];rfl
 have f3:Hid (∀d f v a,allC (u.kids.map Nd.t) [x,y] ⟨sl++[-1],bl⟩=.ok d->declareC t0 true sl.length ⟨d.sl,[]::d.bl⟩=.ok f->visC (u.kids.map Nd.t) true z ⟨f.sl,f.bl⟩=.error (v,a)->R=.error (v,a)):=fun d f v a e e2 e3=>by
  rw[<- hR,e];show Except.bind (declareC t0 true sl.length ⟨d.sl,[]::d.bl⟩) _=_;rw[e2];show Except.map _ (visC (u.kids.map Nd.t) true z ⟨f.sl,f.bl⟩)=_;rw[e3];rfl
 have f4:Hid (∀d f h,allC (u.kids.map Nd.t) [x,y] ⟨sl++[-1],bl⟩=.ok d->declareC t0 true sl.length ⟨d.sl,[]::d.bl⟩=.ok f->visC (u.kids.map Nd.t) true z ⟨f.sl,f.bl⟩=.ok h->R=.ok h.close):=fun d f h e e2 e3=>by
  rw[<- hR,e];show Except.bind (declareC t0 true sl.length ⟨d.sl,[]::d.bl⟩) _=_;rw[e2];show Except.map _ (visC (u.kids.map Nd.t) true z ⟨f.sl,f.bl⟩)=_;rw[e3];rfl
 clear hR
 have u4:=ext_alloc (Below.refl W.heap.size W) (nbx ⟨10,t0,n0,[x,y,z]⟩ (some (Ad g' x8)) cap)
 have g0:=a0a W (nbx ⟨10,t0,n0,[x,y,z]⟩ (some (Ad g' x8)) cap)
 have x9:=CK.below (O:=O) u4
 have u7:=a2o w0 B u n o fm O sl bl (sumL bl) _ (hC.on u4) (by omega)
 have v6:¬O W.heap.size:=fun h=>by have:=(hC.hO _ h).2;omega
 have y6:=fun O1 w1 (z7:Ck w0 B u n o fm O1 (sl++[-1]) bl (sumL bl) w1)=>hxy w0 B u n o fm O1 (sl++[-1]) bl (some (Ad g' x8)) cap w1 z7 p (by simp;omega) (by omega) v5 u1 t4 v8
 obtain⟨t,ht⟩:∃t,W.heap.size=t:=⟨_,rfl⟩
 rw[ht]at g0 v6
 clear hC hN hK p
 replace s:Hid _:=s
 replace hz:Hid (InC z):=hz
 replace x7:Hid (NdV (low w0) w0 z (ndv z bz cz)):=x7
 have s7:(2:Int)<=(cap:Int):=by omega
 go_enter Tryz.func130,Tryz.ntmps130
 go_wp2_with (first
  | (go_at_call 44;refine u7.mono ?_;rintro e w1 ⟨rfl,O1,z7,w8⟩;obtain⟨g1,t1⟩:=w8.box g0 v6;obtain⟨z0,z1,z2,z3,_,_,_,_⟩:=in4 g1)
  | (go_at_call 68;refine(y6 O1 w1 z7).mono ?_;intro e w2 hq;rcases hq.par with⟨v,a,he,rfl,g⟩|⟨c2,q,rfl,O2,t6,p⟩;(exact⟨rfl,.inr ⟨v,a,f1.out _ _ he,rfl,g⟩⟩);refine Hid.out ?_))
 have y9:=a2q _ _ _ _ q
 have v4:=a4i _ _ _ _ q
 have z5:sumL c2.bl<=30:=a5g _ _ _ _ q v5
 have u2:=y9.nb u1
 have s8:=y9.len
 simp only[List.length_append,List.length_singleton]at v4
 simp only at s8
 obtain⟨g2,t2⟩:=p.box g1 t1
 have y7:=begin_any w0 B u n o fm O2 c2.sl c2.bl (sumL c2.bl) w2 t6 (by omega)
 have y8:=fun O3 w3 (z8:Ck w0 B u n o fm O3 c2.sl ([]::c2.bl) (sumL c2.bl) w3)=>a6p w0 B u n o fm O3 c2.sl [] c2.bl (sumL c2.bl) t0 true sl.length w3 z8 (by rw[a1o];simp) z5 (by omega) (by omega) (by simp)
 obtain⟨y0,y1,y2,y3,_,_,_,_⟩:=in4 g2
 simp only at y0 y1 y2 y3
 have y4:=x9.trans (w8.trans p)
 clear u7 y6 z0 z1 z2 z3 z7 t6 w8 p x9
 refine Lib.hid ?_
 go_wp2_with (first
  | (go_at_call 67;refine y7.mono ?_;rintro e w3 ⟨rfl,O3,z8,w9⟩;obtain⟨g3,t3⟩:=w9.box g2 t2;obtain⟨x0,x1,x2,x3,_,_,_,_⟩:=in4 g3)
  | (go_at_call 131;refine(y8 O3 w3 z8).mono ?_;intro e w4 hq;rcases hq.par with⟨v,a,he,rfl,g⟩|⟨c4,i,rfl,O4,t7,x4⟩;(exact⟨rfl,.inr ⟨v,a,f2.out _ _ _ q he,rfl,g⟩⟩);refine Hid.out ?_))
 have m:=Kp.declare i
 have z9:=m.len
 have t5:=(a4w i).1
 have z6:sumL c4.bl<=30:=Lv.declare i (by show sumL ([]::c2.bl)<=30;rw[a1o];simpa using z5)
 have u3:=m.nb (NB.begin (c:=c2) u2)
 have v7:=m.tail
 simp only[List.length_cons,List.tail_cons]at z9 t5 v7
 obtain⟨g4,s2⟩:=x4.box g3 t3
 have y5:=y4.trans (w9.trans x4)
 obtain⟨v0,v1,v2,v3,_,_,_,_⟩:=in4 g4
 simp only at v0 v1 v2 v3
 have u6:=s.out w4 t7.bl
 have u9:=fun w5 (v9:Ck w0 B u n o fm O4 c4.sl c4.bl (sumL c4.bl) w5)=>hz.out w0 B u n o fm O4 c4.sl c4.bl bz cz w5 v9 x7.out (by omega) (by omega) z6 u3 (fun e=>by rw[e]at z9;simp at z9) v8
 clear y7 y8 x0 x1 x2 x3 z8 w9 x4 y4 y0 y1 y2 y3
 refine Lib.hid ?_
 go_wp2_with (first
  | (go_at_call 70;refine u6.mono ?_;rintro e w5 ⟨rfl,u5⟩;have v9:=t7.on u5)
  | (go_at_call 69;refine(u9 w5 v9).mono ?_;intro e w6 hq;rcases hq.par with⟨v,a,he,rfl,g⟩|⟨c6,x5,rfl,O6,t8,u0⟩;(exact⟨rfl,.inr ⟨v,a,f3.out _ _ _ _ q i he,rfl,g⟩⟩);refine Hid.out ?_))
 have z4:=a4d _ _ _ _ _ x5
 have s4:sumL c6.bl<=30:=b1h _ _ _ _ _ x5 z6
 obtain⟨fb,x6⟩:=b5v (z4.tail.trans v7) (by rw[z4.len];exact z9)
 have t9:=y5.trans ((CK.below (O:=O4) u5).trans u0)
 have u8:=b5k w0 B u n o fm O6 c6.sl fb c2.bl (sumL c6.bl) w6 (by rw[<- x6];exact t8) (by omega) (by omega) (by rw[x6])
 have fin:Hid (∀W',Ck w0 B u n o fm O6 c6.sl c2.bl (sumL c2.bl) W'->CK O6 w6 O6 W'->CQ w0 B u n o fm O W R (.returned (.tuple #[])) W'):=fun W' h1 h2=>.inl ⟨c6.close,f4.out _ _ _ q i x5,rfl,O6,by rw[show c6.close.bl=c2.bl by show c6.bl.tail=_;rw[x6];rfl];exact h1,t9.trans h2⟩
 clear u6 u9 t8 u0 y5 v0 v1 v2 v3
 refine Lib.hid ?_
 go_wp2_with (go_at_call 71;refine u8.mono ?_;rintro e w7 ⟨rfl,s5,s6⟩)
 go_end0
 exact fin.out _ s5 s6
theorem c3m(t0:List UInt8)(n0:Int)(ks:List Nd)(ih:CntC ⟨10,t0,n0,ks⟩):VisC ⟨10,t0,n0,ks⟩:=by
 intro w0 B u g h fm O sl bl b cap W hC d hM hD p m q s
 have y:=ext_alloc (Below.refl W.heap.size W) (nbx ⟨10,t0,n0,ks⟩ b cap)
 have v:=CK.below (O:=O) y
 have z:=ih w0 B u g h fm O sl bl b cap _ (hC.on y) d hM hD p m q s
 replace z:Cl 130 #[Po B 0,.agg #[vi 10,sk t0,vi n0,.slice b ks.length cap]] (W.alloc (.cells #[vi 10,sk t0,vi n0,.slice b ks.length cap] 43)) (CQ w0 B u g h fm O (W.alloc (.cells #[vi 10,sk t0,vi n0,.slice b ks.length cap] 43)) (visC (u.kids.map Nd.t) false ⟨10,t0,n0,ks⟩ ⟨sl,bl⟩)):=z
 obtain⟨R,f⟩:∃R,visC (u.kids.map Nd.t) false ⟨10,t0,n0,ks⟩ ⟨sl,bl⟩=R:=⟨_,rfl⟩
 rw[f]at z⊢
 clear f hC d
 go_enter Tryz.func104,Tryz.ntmps104
 go_wp2_with (go_at_call 130;refine z.mono ?_;intro e w2 hq;rcases hq.par with⟨cd,a,o,rfl,n⟩|⟨c2,o,rfl,O2,i,j⟩;(exact⟨rfl,.inr ⟨cd,a,o,rfl,n⟩⟩))
 go_end0
 exact .inl ⟨c2,o,rfl,O2,i,v.trans j⟩
theorem b5w(t0:List UInt8)(n0:Int)(ks:List Nd)(ih:InC ⟨4,t0,n0,ks⟩):VisC ⟨4,t0,n0,ks⟩:=by
 intro w0 B u n o m O sl bl b cap W hC hN hM hD i y8 y4 z4
 have y2:=a3i ⟨4,t0,n0,ks⟩
 have d:=ext_alloc (Below.refl W.heap.size W) (nbx ⟨4,t0,n0,ks⟩ b cap)
 have g0:=a0a W (nbx ⟨4,t0,n0,ks⟩ b cap)
 have z6:=CK.below (O:=O) d
 have j:¬O W.heap.size:=fun h=>by have:=(hC.hO _ h).2;omega
 have v:=begin_any w0 B u n o m O sl bl (sumL bl) _ (hC.on d) (by omega)
 have z:sumL ([]::bl)=sumL bl:=by rw[a1o];simp
 have g:=fun O1 w1 (p:Ck w0 B u n o m O1 sl ([]::bl) (sumL bl) w1)=>ih w0 B u n o m O1 sl ([]::bl) b cap w1 (by rw[z];exact p) hN hM (by simp;omega) (by rw[z];exact i) (NB.begin (c:=⟨sl,bl⟩) y8) (by simp) z4
 obtain⟨R,hR⟩:∃R,visC (u.kids.map Nd.t) false ⟨4,t0,n0,ks⟩ ⟨sl,bl⟩=R:=⟨_,rfl⟩
 rw[hR]
 rw[b3r,show(⟨sl,bl⟩:Cs).begin=⟨sl,[]::bl⟩ from rfl]at hR
 have f1:Hid (∀cd a,visC (u.kids.map Nd.t) true ⟨4,t0,n0,ks⟩ ⟨sl,[]::bl⟩=.error (cd,a)->R=.error (cd,a)):=fun cd a e=>by rw[<- hR,e];rfl
 have f2:Hid (∀h,visC (u.kids.map Nd.t) true ⟨4,t0,n0,ks⟩ ⟨sl,[]::bl⟩=.ok h->R=.ok h.close):=fun h e=>by rw[<- hR,e];rfl
 obtain⟨t,ht⟩:∃t,W.heap.size=t:=⟨_,rfl⟩
 rw[ht]at g0 j
 clear hR hC hN
 go_enter Tryz.func104,Tryz.ntmps104
 go_wp2_with (first
  | (go_at_call 67;refine v.mono ?_;rintro e w1 ⟨rfl,O1,p,z8⟩;obtain⟨g1,y3⟩:=z8.box g0 j;obtain⟨z0,z1,z2,z3,_,_,_,_⟩:=in4 g1)
  | (go_at_call 69;refine(g O1 w1 p).mono ?_;intro e w6 hq;rcases hq.par with⟨cd,a,he,rfl,y9⟩|⟨c6,q,rfl,O6,z5,z9⟩;(exact⟨rfl,.inr ⟨cd,a,f1.out _ _ he,rfl,y9⟩⟩);refine Hid.out ?_))
 have y:=a4d _ _ _ _ _ q
 have y5:sumL c6.bl<=30:=b1h _ _ _ _ _ q (by show sumL ([]::bl)<=30;rw[z];exact i)
 obtain⟨fb,s⟩:=b5v (r:=bl) y.tail (by rw[y.len];simp)
 have f:=b5k w0 B u n o m O6 c6.sl fb bl (sumL c6.bl) w6 (by rw[<- s];exact z5) (by omega) (by omega) (by rw[s])
 have z7:=z6.trans (z8.trans z9)
 have fin:Hid (∀W',Ck w0 B u n o m O6 c6.sl bl (sumL bl) W'->CK O6 w6 O6 W'->CQ w0 B u n o m O W R (.returned (.tuple #[])) W'):=fun W' h1 h2=>.inl ⟨c6.close,f2.out _ q,rfl,O6,by rw[show c6.close.bl=bl by show c6.bl.tail=_;rw[s];rfl];exact h1,z7.trans h2⟩
 clear v g z5 z9 z0 z1 z2 z3
 refine Lib.hid ?_
 go_wp2_with (go_at_call 71;refine f.mono ?_;rintro e w7 ⟨rfl,y6,y7⟩)
 go_end0
 exact fin.out _ y6 y7
theorem b9r(k0:Int)(hk:k0≠10/\k0≠4/\k0≠3/\k0≠5/\k0≠18/\k0≠6/\k0≠21)(t0:List UInt8)(n0:Int)(ks:List Nd)(ih:a8x ks):VisC ⟨k0,t0,n0,ks⟩:=by
 intro w0 B u ub uc fm O sl bl b cap W hC hN hM hD i z8 z4 z5
 have y8:manyN ⟨k0,t0,n0,ks⟩=manyN.go ks+1:=rfl
 rw[y8]at hM hD
 have x7:=a2k ks
 have hK:=KA.of hN
 have z9:=ext_alloc (Below.refl W.heap.size W) (nbx ⟨k0,t0,n0,ks⟩ b cap)
 have g0:=a0a W (nbx ⟨k0,t0,n0,ks⟩ b cap)
 have q:=CK.below (O:=O) z9
 have j:¬O W.heap.size:=fun h=>by have:=(hC.hO _ h).2;omega
 have f:=a2o w0 B u ub uc fm O sl bl (sumL bl) _ (hC.on z9) (by omega)
 have s:=fun O1 w1 (y:Ck w0 B u ub uc fm O1 (sl++[-1]) bl (sumL bl) w1)=>ih w0 B u ub uc fm O1 (sl++[-1]) bl b cap w1 y hK (by simp;omega) (by omega) i z8 z4 z5
 obtain⟨R,m⟩:∃R,visC (u.kids.map Nd.t) false ⟨k0,t0,n0,ks⟩ ⟨sl,bl⟩=R:=⟨_,rfl⟩
 rw[m]
 rw[a4e _ _ _ _ _ _ (by omega) (by omega),show(⟨sl,bl⟩:Cs).enter=⟨sl++[-1],bl⟩ from rfl]at m
 simp only at m
 have f1:Hid (∀cd a,allC (u.kids.map Nd.t) ks ⟨sl++[-1],bl⟩=.error (cd,a)->R=.error (cd,a)):=fun cd a e=>by rw[<- m,e];rfl
 have f2:Hid (∀d,allC (u.kids.map Nd.t) ks ⟨sl++[-1],bl⟩=.ok d->R=.ok d):=fun d e=>by
  rw[<- m,e]
  show actC _ _ _ _ _ _=_
  rw[actC,if_neg (by omega),if_neg (by omega),if_neg (by omega),if_neg (by omega)]
 obtain⟨t,ht⟩:∃t,W.heap.size=t:=⟨_,rfl⟩
 rw[ht]at g0 j
 obtain⟨L,hL⟩:∃L,ks.length=L:=⟨_,rfl⟩
 have z7:=hL
 replace hL:Hid _:=hL
 replace z7:Hid _:=z7
 replace hK:Hid (KA (low w0) w0 b cap ks):=hK
 clear m hC hN
 have x4:(k0 == 10)=false:=by simp;omega
 have e4:(k0 == 4)=false:=by simp;omega
 have e3:(k0 == 3)=false:=by simp;omega
 have e5:(k0 == 5)=false:=by simp;omega
 have x5:(k0 == 18)=false:=by simp;omega
 have e6:(k0 == 6)=false:=by simp;omega
 have x6:(k0 == 21)=false:=by simp;omega
 clear hk
 go_enter Tryz.func104,Tryz.ntmps104
 go_wp2_with (first
  | (go_at_call 44;refine f.mono ?_;rintro e w1 ⟨rfl,O1,y,n⟩;obtain⟨g1,y9⟩:=n.box g0 j;obtain⟨z0,z1,z2,z3,_,_,_,_⟩:=in4 g1)
  | (go_at_call 68;refine(s O1 w1 y).mono ?_;intro e w2 hq;rcases hq.par with⟨cd,a,he,rfl,y6⟩|⟨c2,z,rfl,O2,y5,o⟩;(exact⟨rfl,.inr ⟨cd,a,f1.out _ _ he,rfl,y6⟩⟩);refine Hid.out ?_))
 have v:=a2q _ _ _ _ z
 have g:=a4i _ _ _ _ z
 have y4:sumL c2.bl<=30:=a5g _ _ _ _ z i
 have x9:=v.nb z8
 have y7:=v.len
 simp only[List.length_append,List.length_singleton]at g
 simp only at y7
 have p:=f2.out _ z
 replace p:Hid _:=p
 obtain⟨g2,x8⟩:=o.box g1 y9
 obtain⟨y0,y1,y2,y3,_,_,_,_⟩:=in4 g2
 simp only at y0 y1 y2 y3
 have z6:=q.trans (n.trans o)
 clear f s z0 z1 z2 z3 y n o q
 refine Lib.hid ?_
 go_wp2
 go_end0
 exact .inl ⟨c2,p.out,rfl,O2,y5,z6⟩
theorem b5x(t0:List UInt8)(n0:Int)(ks:List Nd)(ih:a8x ks):VisC ⟨3,t0,n0,ks⟩:=by
 intro w0 B u ub uc fm O sl bl b cap W hC hN hM hD z6 y7 z9 x9
 have x7:manyN ⟨3,t0,n0,ks⟩=manyN.go ks+1:=rfl
 rw[x7]at hM hD
 have x2:=a2k ks
 have hK:=KA.of hN
 have y9:=ext_alloc (Below.refl W.heap.size W) (nbx ⟨3,t0,n0,ks⟩ b cap)
 have g0:=a0a W (nbx ⟨3,t0,n0,ks⟩ b cap)
 have m:=CK.below (O:=O) y9
 have z8:¬O W.heap.size:=fun h=>by have:=(hC.hO _ h).2;omega
 have z4:=a2o w0 B u ub uc fm O sl bl (sumL bl) _ (hC.on y9) (by omega)
 have n:=fun O1 w1 (q:Ck w0 B u ub uc fm O1 (sl++[-1]) bl (sumL bl) w1)=>ih w0 B u ub uc fm O1 (sl++[-1]) bl b cap w1 q hK (by simp;omega) (by omega) z6 y7 z9 x9
 obtain⟨R,hR⟩:∃R,visC (u.kids.map Nd.t) false ⟨3,t0,n0,ks⟩ ⟨sl,bl⟩=R:=⟨_,rfl⟩
 rw[hR]
 rw[a4e _ _ _ _ _ _ (by omega) (by omega),show(⟨sl,bl⟩:Cs).enter=⟨sl++[-1],bl⟩ from rfl]at hR
 simp only at hR
 have f1:Hid (∀f a,allC (u.kids.map Nd.t) ks ⟨sl++[-1],bl⟩=.error (f,a)->R=.error (f,a)):=fun f a e=>by rw[<- hR,e];rfl
 have f2:Hid (∀d,allC (u.kids.map Nd.t) ks ⟨sl++[-1],bl⟩=.ok d->R=declareC t0 false sl.length d):=fun d e=>by
  rw[<- hR,e]
  show actC _ _ _ _ _ _=_
  rw[actC,if_pos (by omega)]
 obtain⟨t,ht⟩:∃t,W.heap.size=t:=⟨_,rfl⟩
 rw[ht]at g0 z8
 obtain⟨L,hL⟩:∃L,ks.length=L:=⟨_,rfl⟩
 have y6:=hL
 replace hL:Hid _:=hL
 replace y6:Hid _:=y6
 replace hK:Hid (KA (low w0) w0 b cap ks):=hK
 clear hR hC hN
 go_enter Tryz.func104,Tryz.ntmps104
 go_wp2_with (first
  | (go_at_call 44;refine z4.mono ?_;rintro e w1 ⟨rfl,O1,q,g⟩;obtain⟨g1,x8⟩:=g.box g0 z8;obtain⟨z0,z1,z2,z3,_,_,_,_⟩:=in4 g1)
  | (go_at_call 68;refine(n O1 w1 q).mono ?_;intro e w2 hq;rcases hq.par with⟨f,a,he,rfl,j⟩|⟨c2,v,rfl,O2,y4,i⟩;(exact⟨rfl,.inr ⟨f,a,f1.out _ _ he,rfl,j⟩⟩);refine Hid.out ?_))
 have p:=a2q _ _ _ _ v
 have z5:=a4i _ _ _ _ v
 have z7:sumL c2.bl<=30:=a5g _ _ _ _ v z6
 have y8:=p.nb y7
 have z:=p.len
 simp only[List.length_append,List.length_singleton]at z5
 simp only at z
 have s:=f2.out _ v
 replace s:Hid _:=s
 obtain⟨g2,x3⟩:=i.box g1 x8
 obtain⟨y0,y1,y2,y3,_,_,_,_⟩:=in4 g2
 simp only at y0 y1 y2 y3
 have y5:=m.trans (g.trans i)
 clear z4 n z0 z1 z2 z3 q g i m
 obtain⟨fb,fr,y⟩:∃fb fr,c2.bl=fb::fr:=by
  cases hc:c2.bl with
  | nil=>rw[hc]at z;exact absurd (List.length_eq_zero_iff.1 z.symm) z9
  | cons fb fr=>exact⟨fb,fr,rfl⟩
 have o:=a6p w0 B u ub uc fm O2 c2.sl fb fr (sumL c2.bl) t0 false sl.length w2 (by rw[<- y];exact y4) (by rw[y]) z7 (by rw[y]at z;simp at z;omega) (by omega) (y8 fb (by rw[y];simp))
 rw[<- y,show(⟨c2.sl,c2.bl⟩:Cs)=c2 from rfl]at o
 clear y4
 refine Lib.hid ?_
 go_wp2_with (go_at_call 131;refine o.mono ?_;intro e w4 hq;rcases hq.par with⟨f,a,he,rfl,j⟩|⟨c4,x6,rfl,O4,x4,x5⟩;(exact⟨rfl,.inr ⟨f,a,by rw[s.out];exact he,rfl,j⟩⟩))
 go_end0
 exact .inl ⟨c4,by rw[s.out];exact x6,rfl,O4,x4,y5.trans x5⟩
theorem b5y(t0:List UInt8)(n0:Int)(ks:List Nd)(ih:a8x ks):VisC ⟨5,t0,n0,ks⟩:=by
 intro w0 B u ub uc fm O sl bl b cap W hC hN hM hD z6 y7 z9 x9
 have x7:manyN ⟨5,t0,n0,ks⟩=manyN.go ks+1:=rfl
 rw[x7]at hM hD
 have x2:=a2k ks
 have hK:=KA.of hN
 have y9:=ext_alloc (Below.refl W.heap.size W) (nbx ⟨5,t0,n0,ks⟩ b cap)
 have g0:=a0a W (nbx ⟨5,t0,n0,ks⟩ b cap)
 have m:=CK.below (O:=O) y9
 have z8:¬O W.heap.size:=fun h=>by have:=(hC.hO _ h).2;omega
 have z4:=a2o w0 B u ub uc fm O sl bl (sumL bl) _ (hC.on y9) (by omega)
 have n:=fun O1 w1 (q:Ck w0 B u ub uc fm O1 (sl++[-1]) bl (sumL bl) w1)=>ih w0 B u ub uc fm O1 (sl++[-1]) bl b cap w1 q hK (by simp;omega) (by omega) z6 y7 z9 x9
 obtain⟨R,hR⟩:∃R,visC (u.kids.map Nd.t) false ⟨5,t0,n0,ks⟩ ⟨sl,bl⟩=R:=⟨_,rfl⟩
 rw[hR]
 rw[a4e _ _ _ _ _ _ (by omega) (by omega),show(⟨sl,bl⟩:Cs).enter=⟨sl++[-1],bl⟩ from rfl]at hR
 simp only at hR
 have f1:Hid (∀f a,allC (u.kids.map Nd.t) ks ⟨sl++[-1],bl⟩=.error (f,a)->R=.error (f,a)):=fun f a e=>by rw[<- hR,e];rfl
 have f2:Hid (∀d,allC (u.kids.map Nd.t) ks ⟨sl++[-1],bl⟩=.ok d->R=declareC t0 false sl.length d):=fun d e=>by
  rw[<- hR,e]
  show actC _ _ _ _ _ _=_
  rw[actC,if_pos (by omega)]
 obtain⟨t,ht⟩:∃t,W.heap.size=t:=⟨_,rfl⟩
 rw[ht]at g0 z8
 obtain⟨L,hL⟩:∃L,ks.length=L:=⟨_,rfl⟩
 have y6:=hL
 replace hL:Hid _:=hL
 replace y6:Hid _:=y6
 replace hK:Hid (KA (low w0) w0 b cap ks):=hK
 clear hR hC hN
 go_enter Tryz.func104,Tryz.ntmps104
 go_wp2_with (first
  | (go_at_call 44;refine z4.mono ?_;rintro e w1 ⟨rfl,O1,q,g⟩;obtain⟨g1,x8⟩:=g.box g0 z8;obtain⟨z0,z1,z2,z3,_,_,_,_⟩:=in4 g1)
  | (go_at_call 68;refine(n O1 w1 q).mono ?_;intro e w2 hq;rcases hq.par with⟨f,a,he,rfl,j⟩|⟨c2,v,rfl,O2,y4,i⟩;(exact⟨rfl,.inr ⟨f,a,f1.out _ _ he,rfl,j⟩⟩);refine Hid.out ?_))
 have p:=a2q _ _ _ _ v
 have z5:=a4i _ _ _ _ v
 have z7:sumL c2.bl<=30:=a5g _ _ _ _ v z6
 have y8:=p.nb y7
 have z:=p.len
 simp only[List.length_append,List.length_singleton]at z5
 simp only at z
 have s:=f2.out _ v
 replace s:Hid _:=s
 obtain⟨g2,x3⟩:=i.box g1 x8
 obtain⟨y0,y1,y2,y3,_,_,_,_⟩:=in4 g2
 simp only at y0 y1 y2 y3
 have y5:=m.trans (g.trans i)
 clear z4 n z0 z1 z2 z3 q g i m
 obtain⟨fb,fr,y⟩:∃fb fr,c2.bl=fb::fr:=by
  cases hc:c2.bl with
  | nil=>rw[hc]at z;exact absurd (List.length_eq_zero_iff.1 z.symm) z9
  | cons fb fr=>exact⟨fb,fr,rfl⟩
 have o:=a6p w0 B u ub uc fm O2 c2.sl fb fr (sumL c2.bl) t0 false sl.length w2 (by rw[<- y];exact y4) (by rw[y]) z7 (by rw[y]at z;simp at z;omega) (by omega) (y8 fb (by rw[y];simp))
 rw[<- y,show(⟨c2.sl,c2.bl⟩:Cs)=c2 from rfl]at o
 clear y4
 refine Lib.hid ?_
 go_wp2_with (go_at_call 131;refine o.mono ?_;intro e w4 hq;rcases hq.par with⟨f,a,he,rfl,j⟩|⟨c4,x6,rfl,O4,x4,x5⟩;(exact⟨rfl,.inr ⟨f,a,by rw[s.out];exact he,rfl,j⟩⟩))
 go_end0
 exact .inl ⟨c4,by rw[s.out];exact x6,rfl,O4,x4,y5.trans x5⟩
theorem b9s(t0:List UInt8)(n0:Int)(ks:List Nd)(ih:a8x ks):VisC ⟨18,t0,n0,ks⟩:=by
 intro w0 B u ub uc fm O sl bl b cap W hC hN hM hD z8 y9 y5 g
 have x9:manyN ⟨18,t0,n0,ks⟩=manyN.go ks+1:=rfl
 rw[x9]at hM hD
 have x2:=a2k ks
 have hK:=KA.of hN
 have z5:=ext_alloc (Below.refl W.heap.size W) (nbx ⟨18,t0,n0,ks⟩ b cap)
 have g0:=a0a W (nbx ⟨18,t0,n0,ks⟩ b cap)
 have p:=CK.below (O:=O) z5
 have z9:¬O W.heap.size:=fun h=>by have:=(hC.hO _ h).2;omega
 have z6:=a2o w0 B u ub uc fm O sl bl (sumL bl) _ (hC.on z5) (by omega)
 have q:=fun O1 w1 (v:Ck w0 B u ub uc fm O1 (sl++[-1]) bl (sumL bl) w1)=>ih w0 B u ub uc fm O1 (sl++[-1]) bl b cap w1 v hK (by simp;omega) (by omega) z8 y9 y5 g
 obtain⟨R,i⟩:∃R,visC (u.kids.map Nd.t) false ⟨18,t0,n0,ks⟩ ⟨sl,bl⟩=R:=⟨_,rfl⟩
 rw[i]
 rw[a4e _ _ _ _ _ _ (by omega) (by omega),show(⟨sl,bl⟩:Cs).enter=⟨sl++[-1],bl⟩ from rfl]at i
 simp only at i
 have f1:Hid (∀j a,allC (u.kids.map Nd.t) ks ⟨sl++[-1],bl⟩=.error (j,a)->R=.error (j,a)):=fun j a e=>by rw[<- i,e];rfl
 have f2:Hid (∀d,allC (u.kids.map Nd.t) ks ⟨sl++[-1],bl⟩=.ok d->R=a6n (u.kids.map Nd.t) t0 sl.length d):=fun d e=>by
  rw[<- i,e]
  show actC _ _ _ _ _ _=_
  rw[actC,if_neg (by omega),if_pos rfl]
 obtain⟨t,ht⟩:∃t,W.heap.size=t:=⟨_,rfl⟩
 rw[ht]at g0 z9
 obtain⟨L,hL⟩:∃L,ks.length=L:=⟨_,rfl⟩
 have y8:=hL
 replace hL:Hid _:=hL
 replace y8:Hid _:=y8
 replace hK:Hid (KA (low w0) w0 b cap ks):=hK
 clear i hC hN
 go_enter Tryz.func104,Tryz.ntmps104
 go_wp2_with (first
  | (go_at_call 44;refine z6.mono ?_;rintro e w1 ⟨rfl,O1,v,m⟩;obtain⟨g1,y4⟩:=m.box g0 z9;obtain⟨z0,z1,z2,z3,_,_,_,_⟩:=in4 g1)
  | (go_at_call 68;refine(q O1 w1 v).mono ?_;intro e w2 hq;rcases hq.par with⟨j,a,he,rfl,o⟩|⟨c2,z,rfl,O2,y6,n⟩;(exact⟨rfl,.inr ⟨j,a,f1.out _ _ he,rfl,o⟩⟩);refine Hid.out ?_))
 have s:=a2q _ _ _ _ z
 have z7:=a4i _ _ _ _ z
 have x4:sumL c2.bl<=30:=a5g _ _ _ _ z z8
 have z4:=s.nb y9
 have x8:=s.len
 simp only[List.length_append,List.length_singleton]at z7
 simp only at x8
 have y:=f2.out _ z
 replace y:Hid _:=y
 obtain⟨g2,x3⟩:=n.box g1 y4
 obtain⟨y0,y1,y2,y3,_,_,_,_⟩:=in4 g2
 simp only at y0 y1 y2 y3
 have y7:=p.trans (m.trans n)
 clear z6 q z0 z1 z2 z3 v m n p
 have f:=c7e w0 B u ub uc fm O2 c2.sl c2.bl t0 sl.length w2 y6 z4 (by omega) (by omega) g
 rw[show(⟨c2.sl,c2.bl⟩:Cs)=c2 from rfl]at f
 clear y6
 refine Lib.hid ?_
 go_wp2_with (go_at_call 132;refine f.mono ?_;intro e w4 hq;rcases hq.par with⟨j,a,he,rfl,o⟩|⟨c4,x7,rfl,O4,x5,x6⟩;(exact⟨rfl,.inr ⟨j,a,by rw[y.out];exact he,rfl,o⟩⟩))
 go_end0
 exact .inl ⟨c4,by rw[y.out];exact x7,rfl,O4,x5,y7.trans x6⟩
theorem b9t(t0:List UInt8)(n0:Int)(ks:List Nd)(ih:a8x ks):VisC ⟨21,t0,n0,ks⟩:=by
 intro w0 B u ub uc fm O sl bl b cap W hC hN hM hD g z6 y7 y8
 have y5:manyN ⟨21,t0,n0,ks⟩=manyN.go ks+1:=rfl
 rw[y5]at hM hD
 have x3:=a2k ks
 have hK:=KA.of hN
 have z7:=ext_alloc (Below.refl W.heap.size W) (nbx ⟨21,t0,n0,ks⟩ b cap)
 have g0:=a0a W (nbx ⟨21,t0,n0,ks⟩ b cap)
 have p:=CK.below (O:=O) z7
 have i:¬O W.heap.size:=fun h=>by have:=(hC.hO _ h).2;omega
 have z9:=a2o w0 B u ub uc fm O sl bl (sumL bl) _ (hC.on z7) (by omega)
 have q:=fun O1 w1 (v:Ck w0 B u ub uc fm O1 (sl++[-1]) bl (sumL bl) w1)=>ih w0 B u ub uc fm O1 (sl++[-1]) bl b cap w1 v hK (by simp;omega) (by omega) g z6 y7 y8
 obtain⟨R,j⟩:∃R,visC (u.kids.map Nd.t) false ⟨21,t0,n0,ks⟩ ⟨sl,bl⟩=R:=⟨_,rfl⟩
 rw[j]
 rw[a4e _ _ _ _ _ _ (by omega) (by omega),show(⟨sl,bl⟩:Cs).enter=⟨sl++[-1],bl⟩ from rfl]at j
 simp only at j
 have f1:Hid (∀cd a,allC (u.kids.map Nd.t) ks ⟨sl++[-1],bl⟩=.error (cd,a)->R=.error (cd,a)):=fun cd a e=>by rw[<- j,e];rfl
 have f2:Hid (∀d,allC (u.kids.map Nd.t) ks ⟨sl++[-1],bl⟩=.ok d->R=(if 6<ks.length then .error (1,sl.length) else .ok d)):=fun d e=>by
  rw[<- j,e]
  show actC _ _ _ _ _ _=_
  rw[actC,if_neg (by omega),if_neg (by omega),if_neg (by omega),if_pos rfl]
 obtain⟨t,ht⟩:∃t,W.heap.size=t:=⟨_,rfl⟩
 rw[ht]at g0 i
 obtain⟨L,o⟩:∃L,ks.length=L:=⟨_,rfl⟩
 have z5:=o
 replace o:Hid _:=o
 replace z5:Hid _:=z5
 replace hK:Hid (KA (low w0) w0 b cap ks):=hK
 clear j hC hN
 go_enter Tryz.func104,Tryz.ntmps104
 go_wp2_with (first
  | (go_at_call 44;refine z9.mono ?_;rintro e w1 ⟨rfl,O1,v,m⟩;obtain⟨g1,y6⟩:=m.box g0 i;obtain⟨z0,z1,z2,z3,_,_,_,_⟩:=in4 g1)
  | (go_at_call 68;refine(q O1 w1 v).mono ?_;intro e w2 hq;rcases hq.par with⟨cd,a,he,rfl,x9⟩|⟨c2,z,rfl,O2,y9,n⟩;(exact⟨rfl,.inr ⟨cd,a,f1.out _ _ he,rfl,x9⟩⟩);refine Hid.out ?_))
 have s:=a2q _ _ _ _ z
 have f:=a4i _ _ _ _ z
 have x7:sumL c2.bl<=30:=a5g _ _ _ _ z g
 have x6:=s.nb z6
 have y4:=s.len
 simp only[List.length_append,List.length_singleton]at f
 simp only at y4
 have y:=f2.out _ z
 replace y:Hid _:=y
 obtain⟨g2,x4⟩:=n.box g1 y6
 obtain⟨y0,y1,y2,y3,_,_,_,_⟩:=in4 g2
 simp only at y0 y1 y2 y3
 have z4:=p.trans (m.trans n)
 clear z9 q z0 z1 z2 z3 v m n p
 have x5:IntKind.i64.wrap ((L:Int)-1)=(L:Int)-1:=by rw[IntKind.wrap_i64];have:=o.out;omega
 rw[o.out]at y3
 have z8:=y9.bl
 refine Lib.hid ?_
 by_cases h6:6<L
 ·have x8:(5:Int)<(L:Int)-1:=by omega
  go_wp2_with (go_at_call 46;refine(a4q _ _ sl.length _).mono ?_;rintro e w4 ⟨rfl,rfl⟩)
  exact⟨rfl,.inr ⟨1,sl.length,by rw[y.out,if_pos (by rw[o.out];exact h6)],rfl,z8⟩⟩
 ·have x8:¬(5:Int)<(L:Int)-1:=by omega
  go_wp2_with (go_at_call 46;refine(refuse_no _ _ _ _).mono ?_;rintro e w4 ⟨rfl,rfl⟩)
  go_end0
  exact .inl ⟨c2,by rw[y.out,if_neg (by rw[o.out];exact h6)],rfl,O2,y9,z4⟩
theorem c3n(t0:List UInt8)(n0:Int)(ks:List Nd)(p:Nd)(hp:ks[0]?=some p)(ih:a8x ks):VisC ⟨6,t0,n0,ks⟩:=by
 intro w0 B u ub uc fm O sl bl b cap W hC hN hM hD z5 x9 x3 x4
 have x1:manyN ⟨6,t0,n0,ks⟩=manyN.go ks+1:=rfl
 rw[x1]at hM hD
 have w5:=a2k ks
 have hK:=KA.of hN
 have y5:=ext_alloc (Below.refl W.heap.size W) (nbx ⟨6,t0,n0,ks⟩ b cap)
 have g0:=a0a W (nbx ⟨6,t0,n0,ks⟩ b cap)
 have j:=CK.below (O:=O) y5
 have z6:¬O W.heap.size:=fun h=>by have:=(hC.hO _ h).2;omega
 have y8:=a2o w0 B u ub uc fm O sl bl (sumL bl) _ (hC.on y5) (by omega)
 have m:=fun O1 w1 (o:Ck w0 B u ub uc fm O1 (sl++[-1]) bl (sumL bl) w1)=>ih w0 B u ub uc fm O1 (sl++[-1]) bl b cap w1 o hK (by simp;omega) (by omega) z5 x9 x3 x4
 obtain⟨R,hR⟩:∃R,visC (u.kids.map Nd.t) false ⟨6,t0,n0,ks⟩ ⟨sl,bl⟩=R:=⟨_,rfl⟩
 rw[hR]
 rw[a4e _ _ _ _ _ _ (by omega) (by omega),show(⟨sl,bl⟩:Cs).enter=⟨sl++[-1],bl⟩ from rfl]at hR
 simp only at hR
 have f1:Hid (∀cd a,allC (u.kids.map Nd.t) ks ⟨sl++[-1],bl⟩=.error (cd,a)->R=.error (cd,a)):=fun cd a e=>by rw[<- hR,e];rfl
 have f2:Hid (∀d,allC (u.kids.map Nd.t) ks ⟨sl++[-1],bl⟩=.ok d->R=(if setB ks.head? d then .ok d else .error (3,sl.length))):=fun d e=>by
  rw[<- hR,e]
  show actC _ _ _ _ _ _=_
  rw[actC,if_neg (by omega),if_neg (by omega),if_pos rfl]
 obtain⟨t,ht⟩:∃t,W.heap.size=t:=⟨_,rfl⟩
 rw[ht]at g0 z6
 obtain⟨L,hL⟩:∃L,ks.length=L:=⟨_,rfl⟩
 have x8:=hL
 replace hL:Hid _:=hL
 replace x8:Hid _:=x8
 replace hK:Hid (KA (low w0) w0 b cap ks):=hK
 clear hR hC hN
 go_enter Tryz.func104,Tryz.ntmps104
 go_wp2_with (first
  | (go_at_call 44;refine y8.mono ?_;rintro e w1 ⟨rfl,O1,o,z9⟩;obtain⟨g1,x2⟩:=z9.box g0 z6;obtain⟨z0,z1,z2,z3,_,_,_,_⟩:=in4 g1)
  | (go_at_call 68;refine(m O1 w1 o).mono ?_;intro e w2 hq;rcases hq.par with⟨cd,a,he,rfl,w9⟩|⟨c2,q,rfl,O2,z8,f⟩;(exact⟨rfl,.inr ⟨cd,a,f1.out _ _ he,rfl,w9⟩⟩);refine Hid.out ?_))
 have n:=a2q _ _ _ _ q
 have z4:=a4i _ _ _ _ q
 have w8:sumL c2.bl<=30:=a5g _ _ _ _ q z5
 have y4:=n.nb x9
 have x0:=n.len
 simp only[List.length_append,List.length_singleton]at z4
 simp only at x0
 have s:=f2.out _ q
 replace s:Hid _:=s
 obtain⟨g2,w6⟩:=f.box g1 x2
 obtain⟨y0,y1,y2,y3,_,_,_,_⟩:=in4 g2
 simp only at y0 y1 y2 y3
 have x7:=j.trans (z9.trans f)
 clear y8 m z0 z1 z2 z3 o z9 f j
 obtain⟨g',w7,b',cap',rfl,v0,v1,v2,v3,x5⟩:=KA.at hK.out hp
 simp only[Nat.zero_mul,Nat.add_zero]at v0 v1 v2 v3
 have y9:=World.block_lt_of_cell? _ _ v0
 simp only at y9
 have z:∀i v,Ce w0 g' i v->Ce w2 g' i v:=fun i v h=>(z8.bl.cell (p:=(Ad g' i)) y9).trans h
 replace v0:=z _ _ v0
 replace v1:=z _ _ v1
 replace v2:=z _ _ v2
 replace v3:=z _ _ v3
 have v9:(0:Int)<(L:Int):=by have:=(List.getElem?_eq_some_iff.1 hp).1;have:=hL.out;omega
 rw[hL.out]at y3
 have y:=b9q w0 B u ub uc fm O2 c2.sl c2.bl p b' cap' w2 z8 y4 (by omega)
 have g:setB ks.head? c2=setV p c2.bl:=by rw[List.head?_eq_getElem?,hp];rfl
 obtain⟨sv,z7⟩:∃sv,setV p c2.bl=sv:=⟨_,rfl⟩
 rw[z7]at y g
 rw[g]at s
 obtain⟨pk,pt,pn,ps⟩:=p
 simp only at v0 v1 v2 v3
 replace y:Cl 133 #[Po B 0,.agg #[vi pk,sk pt,vi pn,.slice b' ps.length cap']] w2 fun e W'=>e=.returned (.bool sv)/\Bw w2 W':=y
 clear z7 g z x5 hp
 refine Lib.hid ?_
 go_wp2_with (first
  | (go_at_call 133;refine y.mono ?_;rintro e w3 ⟨rfl,y6⟩;have x6:=z8.on y6;have y7:=x6.bl)
  | (go_at_call 46;refine(a2l _ _ _ sl.length _).mono ?_;rintro e w4 ⟨rfl,(⟨hw,rfl⟩|⟨hw,rfl⟩)⟩;(exact⟨rfl,.inr ⟨3,sl.length,by rw[s.out];simp at hw;simp[hw],rfl,y7⟩⟩)))
 go_end0
 exact .inl ⟨c2,by rw[s.out];simp at hw;simp[hw],rfl,O2,x6,x7.trans (CK.below (O:=O2) y6)⟩
theorem c3o(n:Nd):isN n->VisC n/\(n.k=4->InC n):=by
 refine a6j (m:=fun n=>isN n->VisC n/\(n.k=4->InC n)) (fun k t o ks i h=>?_) n
 rw[isN]at h
 obtain⟨h1,_,_,_,_,_,_,_,q⟩:=h
 rw[a7h]at q
 have v:a8x ks:=b5u ks (fun y d=>by
  obtain⟨j,hj⟩:=List.getElem?_of_mem d
  exact(i y d (q j y hj).2).1)
 by_cases h4:k=4
 ·subst h4
  have s:=c3l t o ks v
  exact⟨b5w t o ks s,fun _=>s⟩
 refine⟨?_,fun e=>absurd e h4⟩
 by_cases h10:k=10
 ·subst h10
  have a:ks.length=3:=by unfold a0w at h1;omega
  match ks,a with
  | [x,y,z],_ =>
   have f:=q 2 z rfl
   have g:z.k=4:=by
    have:=f.1
    unfold a0z at this
    rw[if_neg (by omega),if_neg (by omega),if_neg (by omega),if_neg (by omega),if_pos rfl,if_pos (by omega)]at this
    exact this
   exact c3m t o _ (d6w t o x y z (b5u _ (fun w u=>by
    rcases List.mem_cons.1 u with rfl|u
    ·exact(i _ (by simp) (q 0 _ rfl).2).1
    ·rcases List.mem_cons.1 u with rfl|u
     ·exact(i _ (by simp) (q 1 _ rfl).2).1
     ·simp at u)) ((i z (by simp) f.2).2 g))
 by_cases h3:k=3
 ·subst h3;exact b5x t o ks v
 by_cases h5:k=5
 ·subst h5;exact b5y t o ks v
 by_cases h18:k=18
 ·subst h18;exact b9s t o ks v
 by_cases h21:k=21
 ·subst h21;exact b9t t o ks v
 by_cases h6:k=6
 ·subst h6
  have a:ks.length=2:=by unfold a0w at h1;omega
  obtain⟨p,hp⟩:∃p,ks[0]?=some p:=⟨_,List.getElem?_eq_getElem (by omega)⟩
  exact c3n t o ks p hp v
 exact b9r k ⟨h10,h4,h3,h5,h18,h6,h21⟩ t o ks v
theorem d6x(t0:List UInt8)(n0:Int)(ks:List Nd)(P:Nat)(z:Nd)(hP1:P+1=ks.length)(z9:ks[P]?=some z)(hz:InC z)(x4:a8x (ks.take P))(i:Nat)(w0:World)(B:Nat)(u:Nd)(ub:Option Addr)(uc fm:Nat)(O:Nat->Prop)(sl:List Int)(b:Option Addr)(cap:Nat)(W:World)(hC:Ck w0 B u ub uc fm O sl [] 0 W)(hN:NdV (low w0) w0 ⟨2,t0,n0,ks⟩ (ndv ⟨2,t0,n0,ks⟩ b cap))(hM:sl.length+manyN ⟨2,t0,n0,ks⟩<=100000)(y8:u.kids[i]?=some ⟨2,t0,n0,ks⟩)(hul:u.kids.length<=100000) :
  Cl 45 #[Po B 0,ndv ⟨2,t0,n0,ks⟩ b cap,vi (i:Nat)] W (CQ w0 B u ub uc fm O W (funC (u.kids.map Nd.t) i ⟨2,t0,n0,ks⟩ ⟨sl,[]⟩)):=by
 have r2:i<u.kids.length:=(List.getElem?_eq_some_iff.1 y8).1
 have s3:manyN ⟨2,t0,n0,ks⟩=manyN.go ks+1:=rfl
 rw[s3]at hM
 have r3:=a2k ks
 have hK:=KA.of hN
 obtain⟨bz,cz,x5,p⟩:=body_any w0 2 t0 n0 ks b cap hK P z z9 hP1 (by omega)
 have u4:=hK.1
 have v7:KA (low w0) w0 b cap (ks.take P):=hK.take P
 have s8:(ks.take P).length=P:=by simp;omega
 obtain⟨g',m,_,_,rfl,_⟩:=KA.at hK z9
 have o:=fun V=>params_any 2 t0 n0 ks g' m cap P hP1 (by omega) u4 V
 have y:ks=ks.take P++[z]:=by
  have e:ks.drop P=[z]:=by
   rw[List.drop_eq_getElem_cons (by omega),List.drop_eq_nil_of_le (by omega)]
   congr 1
   exact(List.getElem?_eq_some_iff.1 z9).2
  rw[<- e,List.take_append_drop]
 have r7:manyN.go ks=manyN.go (ks.take P)+manyN z:=by
  have:=congrArg manyN.go y
  rw[a5z]at this
  simpa[manyN.go]using this
 have r4:=a3i z
 obtain⟨j,hj⟩:∃j,funI (u.kids.map Nd.t) t0=some j:=by
  have u9:t0∈(u.kids.map Nd.t):=List.mem_map.2 ⟨_,List.mem_of_getElem? y8,rfl⟩
  cases hf:funI (u.kids.map Nd.t) t0 with
  | none =>
   unfold funI at hf
   rw[List.findIdx?_eq_none_iff]at hf
   have:=hf t0 u9
   simp at this
  | some j=>exact⟨j,rfl⟩
 obtain⟨R,hR⟩:∃R,funC (u.kids.map Nd.t) i ⟨2,t0,n0,ks⟩ ⟨sl,[]⟩=R:=⟨_,rfl⟩
 rw[hR]
 have y6:(if j<i then .error (5,sl.length) else if 12<=i\/5<P then .error (1,sl.length) else ((allC (u.kids.map Nd.t) (ks.take P) ⟨sl++[-1],[[]]⟩).bind (visC (u.kids.map Nd.t) true z)).map Cs.close)=R:=by
  rw[<- hR,funC]
  have e1:c1w (u.kids.map Nd.t) i t0=decide (j<i):=by unfold c1w;rw[hj]
  have e2:(12<=i\/6<ks.length)↔(12<=i\/5<P):=by omega
  simp only[e1,decide_eq_true_eq,e2]
  split
  ·rfl
  ·split
   ·rfl
   ·rw[<- a9b,<- y];rfl
 clear hR
 have u1:=ext_alloc (Below.refl W.heap.size W) (nbx ⟨2,t0,n0,ks⟩ (some (Ad g' m)) cap)
 have g0:=a0a W (nbx ⟨2,t0,n0,ks⟩ (some (Ad g' m)) cap)
 have x6:=CK.below (O:=O) u1
 have x1:=a2o w0 B u ub uc fm O sl [] 0 _ (hC.on u1) (by omega)
 have v0:¬O W.heap.size:=fun h=>by have:=(hC.hO _ h).2;omega
 obtain⟨t,ht⟩:∃t,W.heap.size=t:=⟨_,rfl⟩
 rw[ht]at g0 v0
 obtain⟨s0,z8⟩:∃s0,sl.length=s0:=⟨_,rfl⟩
 rw[z8]at x1 y6 hM
 replace z8:Hid _:=z8
 replace y6:Hid _:=y6
 replace p:Hid _:=p
 replace o:Hid _:=o
 replace hz:Hid (InC z):=hz
 replace x4:Hid (a8x (ks.take P)):=x4
 replace x5:Hid (NdV (low w0) w0 z (ndv z bz cz)):=x5
 replace v7:Hid (KA (low w0) w0 (some (Ad g' m)) cap (ks.take P)):=v7
 replace y:Hid _:=y
 replace z9:Hid (ks[P]?=some z):=z9
 replace y8:Hid _:=y8
 replace hj:Hid (funI (u.kids.map Nd.t) t0=some j):=hj
 clear hC hN hK
 go_enter Tryz.func45,Tryz.ntmps45
 go_wp2_with (go_at_call 44;refine x1.mono ?_;rintro e w1 ⟨rfl,O1,y5,v4⟩;refine Hid.out ?_)
 obtain⟨g1,s4⟩:=v4.box g0 v0
 have n:Bw w1 w1.drew:=(Below.refl _ _).drew
 obtain⟨z0,z1,z2,z3,_,_,_,_⟩:=in4 g1
 simp only at z0 z1 z2 z3
 obtain⟨_,c4,_,_⟩:=y5.cells
 have s:=(y5.on n).funs t0 false
 rw[hj.out]at s
 simp only[Bool.false_eq_true,if_false,Option.map_some,Option.getD_some]at s
 have y9:=x6.trans (v4.trans (CK.below (O:=O1) n))
 have v:=y5.on n
 clear x1 x6 v4 y5
 have g:=y6.out
 by_cases hji:j<i
 ·rw[if_pos hji]at g
  subst g
  have u7:(j:Int)<(i:Int):=by omega
  have fin:Hid (Bw w0 w1.drew):=v.bl
  refine Lib.hid ?_
  go_wp2
  go_region_with ((go_at_call 46;refine(a2l _ _ _ s0 _).mono ?_;rintro e w2 ⟨rfl,(⟨f,rfl⟩|⟨f,rfl⟩)⟩;(exact⟨rfl,.inr ⟨5,s0,rfl,rfl,fin.out⟩⟩)))
  all_goals exact absurd f (by simp;try omega)
 rw[if_neg hji]at g
 replace g:Hid _:=g
 have u7:¬(j:Int)<(i:Int):=by omega
 have s9:w1.drew.cell? (Ad B 4)=some (.map (some fm)):=c4
 have v3:w1.drew.cell? (Ad t 1)=some (sk t0):=z1
 refine Lib.hid ?_
 go_wp2
 go_region_held3 (fun w'=>w'.cell? (Ad B 4)=some (.map (some fm))/\w'.cell? (Ad t 1)=some (sk t0)) (go_keep) ((go_at_call 46;refine(refuse_no _ _ _ _).mono ?_;rintro e w2 ⟨rfl,rfl⟩))
 obtain⟨V,hV⟩:∃V,w1.drew=V:=⟨_,rfl⟩
 rw[hV]at v y9 s s9 v3
 have gV:V.heap[t]?=some (nbx ⟨2,t0,n0,ks⟩ (some (Ad g' m)) cap):=by rw[<- hV];exact g1
 rw[hV]
 clear hV c4 z0 z1 z2 z3 s9 v3 s g1 n
 obtain⟨z0,z1,z2,z3,_,_,_,_⟩:=in4 gV
 simp only at z0 z1 z2 z3
 have q:=g.out
 by_cases h12:12<=i
 ·rw[if_pos (.inl h12)]at q
  subst q
  have t1:(12:Int)<=(i:Int):=by omega
  have fin:Hid (Bw w0 V):=v.bl
  go_wp2_with (go_at_call 46;refine(a2l _ _ _ s0 _).mono ?_;rintro e w3 ⟨rfl,(⟨f,rfl⟩|⟨f,rfl⟩)⟩;(exact⟨rfl,.inr ⟨1,s0,rfl,rfl,fin.out⟩⟩))
  exact absurd f (by simp;try omega)
 have t1:¬(12:Int)<=(i:Int):=by omega
 have x3:=o.out V
 by_cases h5:5<P
 ·rw[if_pos (.inr h5)]at q
  subst q
  have r8:(5:Int)<(P:Int):=by omega
  have fin:Hid (∀w3,Bw V w3->Bw w0 w3):=fun w3 h=>ext_trans v.bl h
  go_wp2_with (first
   | (go_at_call 47;refine x3.mono ?_;rintro e w2 ⟨rfl,z5⟩)
   | (go_at_call 46;refine(a2l _ _ _ s0 _).mono ?_;rintro e w3 ⟨rfl,(⟨f,rfl⟩|⟨f,rfl⟩)⟩;(exact⟨rfl,.inr ⟨1,s0,rfl,rfl,fin.out _ z5⟩⟩)))
  exact absurd f (by simp;try omega)
 have r8:¬(5:Int)<(P:Int):=by omega
 rw[if_neg (by omega)]at q
 have f1:Hid (∀cd a,allC (u.kids.map Nd.t) (ks.take P) ⟨sl++[-1],[[]]⟩=.error (cd,a)->R=.error (cd,a)):=fun cd a e=>by rw[<- q,e];rfl
 have f2:Hid (∀d cd a,allC (u.kids.map Nd.t) (ks.take P) ⟨sl++[-1],[[]]⟩=.ok d->visC (u.kids.map Nd.t) true z ⟨d.sl,d.bl⟩=.error (cd,a)->R=.error (cd,a)):=fun d cd a e e2=>by rw[<- q,e];show Except.map _ (visC (u.kids.map Nd.t) true z ⟨d.sl,d.bl⟩)=_;rw[e2];rfl
 have f3:Hid (∀d h,allC (u.kids.map Nd.t) (ks.take P) ⟨sl++[-1],[[]]⟩=.ok d->visC (u.kids.map Nd.t) true z ⟨d.sl,d.bl⟩=.ok h->R=.ok h.close):=fun d h e e2=>by rw[<- q,e];show Except.map _ (visC (u.kids.map Nd.t) true z ⟨d.sl,d.bl⟩)=_;rw[e2];rfl
 clear q
 go_wp2_with (first
  | (go_at_call 47;refine x3.mono ?_;rintro e w2 ⟨rfl,z5⟩)
  | (go_at_call 46;refine(a2l _ _ _ s0 _).mono ?_;rintro e w3 ⟨rfl,(⟨f,rfl⟩|⟨f,rfl⟩)⟩;(exact absurd f (by simp;try omega));refine Hid.out ?_))
 have t2:=v.on z5
 have x7:=y9.trans (CK.below (O:=O1) z5)
 obtain⟨g2,s5⟩:=(CK.below (O:=O1) z5).box gV s4
 have x8:=begin_any w0 B u ub uc fm O1 (sl++[-1]) [] 0 w3 t2 (by simp)
 clear x3 v y9 z0 z1 z2 z3 f
 refine Lib.hid ?_
 go_wp2_with (go_at_call 67;refine x8.mono ?_;rintro e w4 ⟨rfl,O4,t3,v5⟩;refine Hid.out ?_)
 obtain⟨g4,s6⟩:=v5.box g2 s5
 obtain⟨z0,z1,z2,z3,_,_,_,_⟩:=in4 g4
 simp only at z0 z1 z2 z3
 have v1:=o.out w4
 have z4:=fun w5 (h5:Ck w0 B u ub uc fm O4 (sl++[-1]) [[]] 0 w5)=>x4.out w0 B u ub uc fm O4 (sl++[-1]) [[]] (some (Ad g' m)) cap w5 h5 v7.out (by have:=z8.out;simp;omega) (by simp;omega) (by decide) (fun b hb=>by simp at hb;subst hb;simp) (by simp) hul
 rw[s8]at z4
 clear x8 t2
 refine Lib.hid ?_
 go_wp2_with (first
  | (go_at_call 47;refine v1.mono ?_;rintro e w5 ⟨rfl,v8⟩;have t4:=t3.on v8)
  | (go_at_call 68;refine(z4 _ t4).mono ?_;intro e w6 hq;rcases hq.par with⟨cd,a,he,rfl,v9⟩|⟨c6,z6,rfl,O6,t5,v6⟩;(exact⟨rfl,.inr ⟨cd,a,f1.out _ _ he,rfl,v9⟩⟩);refine Hid.out ?_))
 have t7:=x7.trans (v5.trans ((CK.below (O:=O4) v8).trans v6))
 obtain⟨g5,s7⟩:=(CK.below (O:=O4) v8).box g4 s6
 obtain⟨g6,r5⟩:=v6.box g5 s7
 obtain⟨y0,y1,y2,y3,_,_,_,_⟩:=in4 g6
 simp only at y0 y1 y2 y3
 have z7:=a2q _ _ _ _ z6
 have u8:=a4i _ _ _ _ z6
 have y4:sumL c6.bl<=30:=a5g _ _ _ _ z6 (by show sumL [[]]<=30;decide)
 have u0:=z7.nb (fun b hb=>by simp at hb;subst hb;simp)
 have y7:=z7.len
 have v2:=z7.tail
 simp only[List.length_append,List.length_singleton,List.tail_cons]at u8 y7 v2
 have u3:=p.out w6 t5.bl
 have u6:=fun w7 (h7:Ck w0 B u ub uc fm O6 c6.sl c6.bl (sumL c6.bl) w7)=>hz.out w0 B u ub uc fm O6 c6.sl c6.bl bz cz w7 h7 x5.out (by have:=z8.out;omega) (by omega) y4 u0 (fun e=>by rw[e]at y7;simp at y7) hul
 clear v1 z4 t3 t4 v5 v6 x7 z0 z1 z2 z3
 refine Lib.hid ?_
 go_wp2_with (first
  | (go_at_call 70;refine u3.mono ?_;rintro e w7 ⟨rfl,u2⟩;have r9:=t5.on u2)
  | (go_at_call 69;refine(u6 w7 r9).mono ?_;intro e w8 hq;rcases hq.par with⟨cd,a,he,rfl,v9⟩|⟨c8,x0,rfl,O8,t6,t9⟩;(exact⟨rfl,.inr ⟨cd,a,f2.out _ _ _ z6 he,rfl,v9⟩⟩);refine Hid.out ?_))
 have x9:=a4d _ _ _ _ _ x0
 have r6:sumL c8.bl<=30:=b1h _ _ _ _ _ x0 y4
 obtain⟨fb,x2⟩:=b5v (r:=[]) (x9.tail.trans v2) (by rw[x9.len];simpa using y7)
 have u5:=b5k w0 B u ub uc fm O8 c8.sl fb [] (sumL c8.bl) w8 (by rw[<- x2];exact t6) (by simp) (by omega) (by rw[x2])
 have t8:=t7.trans ((CK.below (O:=O6) u2).trans t9)
 have fin:Hid (∀W',Ck w0 B u ub uc fm O8 c8.sl [] (sumL []) W'->CK O8 w8 O8 W'->CQ w0 B u ub uc fm O W R (.returned (.tuple #[])) W'):=fun W' h1 h2=>.inl ⟨c8.close,f3.out _ _ z6 x0,rfl,O8,by rw[show c8.close.bl=[] by show c8.bl.tail=_;rw[x2];rfl];exact h1,t8.trans h2⟩
 clear u3 u6 t6 t9 y0 y1 y2 y3
 refine Lib.hid ?_
 go_wp2_with (go_at_call 71;refine u5.mono ?_;rintro e w9 ⟨rfl,s1,s2⟩)
 go_end0
 exact fin.out _ s1 s2
theorem c7f(n:Nd)(hn:isN n)(hk:n.k=2)(i:Nat)(w0:World)(B:Nat)(u:Nd)(ub:Option Addr)(uc fm:Nat)(O:Nat->Prop)(sl:List Int)(b:Option Addr)(cap:Nat)(W:World)(hC:Ck w0 B u ub uc fm O sl [] 0 W)(hN:NdV (low w0) w0 n (ndv n b cap))(hM:sl.length+manyN n<=100000)(hui:u.kids[i]?=some n)(hul:u.kids.length<=100000) :
  Cl 45 #[Po B 0,ndv n b cap,vi (i:Nat)] W (CQ w0 B u ub uc fm O W (funC (u.kids.map Nd.t) i n ⟨sl,[]⟩)):=by
 obtain⟨k,t,o,ks⟩:=n
 simp only at hk
 subst hk
 rw[isN]at hn
 obtain⟨h1,_,_,_,_,_,_,_,q⟩:=hn
 rw[a7h]at q
 have f:1<=ks.length:=by unfold a0w at h1;omega
 obtain⟨P,g⟩:∃P,P+1=ks.length:=⟨ks.length-1,by omega⟩
 obtain⟨z,p⟩:∃z,ks[P]?=some z:=⟨_,List.getElem?_eq_getElem (by omega)⟩
 have v:=q P z p
 have s:z.k=4:=by
  have:=v.1
  unfold a0z at this
  rw[if_neg (by omega),if_pos rfl,if_pos (by omega)]at this
  exact this
 refine d6x t o ks P z g p ((c3o z v.2).2 s) (b5u _ (fun y m=>?_)) i w0 B u ub uc fm O sl b cap W hC hN hM hui hul
 obtain⟨j,h⟩:=List.getElem?_of_mem (List.mem_of_mem_take m)
 exact(c3o y (q j y h).2).1
theorem d3d(fs:List (List UInt8))(i:Nat)(n:Nd)(c c':Cs)(h:funC fs i n c=.ok c')(hk:n.kids≠[]):c'.sl.length<=c.sl.length+manyN n/\(c.bl=[]->c'.bl=[]):=by
 have z:=b6u fs i n c c' h
 refine⟨?_,fun e=>?_⟩
 ·unfold funC at h
  split at h
  ·cases h
  split at h
  ·cases h
  ·obtain⟨d,h1,rfl⟩:=a5n h
   rw[a3i]
   have e:=List.dropLast_concat_getLast hk
   rw[<- e,a9b]at h1
   obtain⟨g,h2,h3⟩:=a1h h1
   have h4:=a4i fs _ _ _ h2
   have h5:=b5j fs _ _ _ _ h3
   have y:=congrArg manyN.go e
   rw[a5z]at y
   simp only[manyN.go]at y
   simp only[Cs.enter,Cs.begin,Cs.close,List.length_append,List.length_singleton]at *
   omega
 ·have:=z.len
  rw[e]at this
  exact List.length_eq_zero_iff.1 this
def UI (w0:World) (B:Nat) (u:Nd) (ub:Option Addr) (uc fm:Nat) (O:Nat->Prop) (W:World) (M:Nat) (R:CR) (j:Nat) (wr:World):Prop :=
 ∃O' sl',Ck w0 B u ub uc fm O' sl' [] 0 wr/\CK O W O' wr/\a5m (u.kids.map Nd.t) j (u.kids.drop j) ⟨sl',[]⟩=R/\sl'.length+manyN.go (u.kids.drop j)<=M
def UQ (w0:World) (B:Nat) (u:Nd) (ub:Option Addr) (uc fm:Nat) (O:Nat->Prop) (W:World) (R:Except (Int×Nat) (List Int)) (e:Ending) (W':World):Prop :=
 (∃cd a,R=.error (cd,a)/\e=.panicked (pan (flt cd a))/\Bw w0 W')\/(∃sl',R=.ok sl'/\e=.returned (.tuple #[])/\∃O',Ck w0 B u ub uc fm O' sl' [] 0 W'/\CK O W O' W')
theorem c7g(u:Nd)(hu:isN u)(hk:u.k=1)(w0:World)(B:Nat)(ub:Option Addr)(uc fm:Nat)(O:Nat->Prop)(W:World)(hC:Ck w0 B u ub uc fm O [] [] 0 W)(hK:KA (low w0) w0 ub uc u.kids)(hM:manyN u<=90000) :
  Cl 31 #[Po B 0] W (UQ w0 B u ub uc fm O W (a7k u)):=by
 have hms:=a3i u
 have hkl:=a2k u.kids
 have hul:u.kids.length<=100000:=by omega
 have hkids:∀(j:Nat) (y:Nd),u.kids[j]?=some y->isN y/\y.k=2/\y.kids≠[]:=fun j y hy=>by
  obtain⟨k,t,o,ks⟩:=u
  simp only at hk hy
  subst hk
  rw[isN]at hu
  obtain⟨_,_,_,_,_,_,_,_,h9⟩:=hu
  rw[a7h]at h9
  have h:=h9 j y hy
  have h1:=h.1
  unfold a0z at h1
  rw[if_pos rfl]at h1
  refine⟨h.2,h1,fun e=>?_⟩
  have h2:=h.2
  obtain⟨yk,yt,yo,ys⟩:=y
  rw[isN]at h2
  have h3:=h2.1
  simp only at h1 e
  subst h1 e
  unfold a0w at h3
  simp at h3
 obtain⟨R,hR⟩:∃R,a5m (u.kids.map Nd.t) 0 u.kids ⟨[-1],[]⟩=R:=⟨_,rfl⟩
 obtain⟨RU,hRU⟩:∃RU,a7k u=RU:=⟨_,rfl⟩
 rw[hRU]
 have hRU2:endC u R=RU:=by rw[<- hRU,<- hR,c6h]
 clear hRU
 have hen:=a2o w0 B u ub uc fm O [] [] 0 _ hC (by simp)
 obtain⟨L,hL⟩:∃L,u.kids.length=L:=⟨_,rfl⟩
 replace hL:Hid _:=hL
 replace hR:Hid _:=hR
 replace hRU2:Hid _:=hRU2
 replace hkids:Hid _:=hkids
 replace hK:Hid (KA (low w0) w0 ub uc u.kids):=hK
 go_enter Tryz.func31,Tryz.ntmps31
 go_wp2_with (go_at_call 44;refine hen.mono ?_;rintro e w1 ⟨rfl,O1,hC1,hK1⟩;obtain⟨c3,c4,c7,f7⟩:=hC1.cells;rw[hL.out]at c3)
 have hI:UI w0 B u ub uc fm O W 90001 R 0 w1:=⟨O1,[-1],hC1,hK1,by rw[List.drop_zero];exact hR.out,by rw[List.drop_zero];simp;omega⟩
 clear hen hC hC1 c7 f7 c4 hK1
 go_loopw [15] (fun ix wr=>∃j:Nat,j<=L/\ix=vi (j:Nat)/\UI w0 B u ub uc fm O W 90001 R j wr) (fun ix _=>L-(intOf ix).toNat)
 case atStart=>exact⟨0,Nat.zero_le _,rfl,hI⟩
 case round =>
  obtain⟨j,hj,rfl,O2,sl2,hC,hCK,hgo,hs2⟩:=hrel
  clear hI
  by_cases hlt:j<L
  ·have hlt':(j:Int)<(L:Int):=by omega
   have hge:(0:Int)<=(j:Int):=by omega
   have hjk:j<u.kids.length:=by have:=hL.out;omega
   obtain⟨y,hy⟩:∃y,u.kids[j]?=some y:=⟨_,List.getElem?_eq_getElem hjk⟩
   obtain⟨hyN,hy2,hyk⟩:=hkids.out j y hy
   obtain⟨g',off,b',cap',eb,v0,v1,v2,v3,hyV⟩:=KA.at hK.out hy
   subst eb
   have hgw:=World.block_lt_of_cell? _ _ v0
   simp only at hgw
   have hcell:∀i v,Ce w0 g' i v->Ce wr g' i v:=fun i v h=>(hC.bl.cell (p:=(Ad g' i)) hgw).trans h
   replace v0:=hcell _ _ v0
   replace v1:=hcell _ _ v1
   replace v2:=hcell _ _ v2
   replace v3:=hcell _ _ v3
   have hdr:u.kids.drop j=y::u.kids.drop (j+1):=by rw[List.drop_eq_getElem_cons hjk];congr 1;exact(List.getElem?_eq_some_iff.1 hy).2
   rw[hdr]at hgo hs2
   simp only[manyN.go]at hs2
   rw[a5m]at hgo
   have hb0:=ext_alloc (Below.refl wr.heap.size wr) (nbx y b' cap')
   have hcall:=c7f y hyN hy2 j w0 B u (some (Ad g' off)) uc fm O2 sl2 b' cap' _ (hC.on hb0) hyV (by omega) hy hul
   have hCK0:=hCK.trans (CK.below (O:=O2) hb0)
   have hpan:∀cd a,funC (u.kids.map Nd.t) j y ⟨sl2,[]⟩=.error (cd,a)->RU=.error (cd,a):=fun cd a e=>by rw[<- hRU2.out,<- hgo,e];rfl
   have hok:∀c',funC (u.kids.map Nd.t) j y ⟨sl2,[]⟩=.ok c'->c'.bl=[]/\a5m (u.kids.map Nd.t) (j+1) (u.kids.drop (j+1)) ⟨c'.sl,[]⟩=R/\c'.sl.length<=sl2.length+manyN y:=fun c' e=>by
    obtain⟨h1,h2⟩:=d3d _ _ _ _ _ e hyk
    have hb:=h2 rfl
    refine⟨hb,?_,h1⟩
    rw[<- hgo,e]
    show _=a5m _ _ _ c'
    rw[show(⟨c'.sl,[]⟩:Cs)=c' by rw[<- hb]]
   replace hpan:Hid _:=hpan
   replace hok:Hid _:=hok
   obtain⟨yk,yt,yn,ys⟩:=y
   simp only at v0 v1 v2 v3
   replace hcall:Cl 45 #[Po B 0,.agg #[vi yk,sk yt,vi yn,.slice b' ys.length cap'],vi (j:Nat)] (wr.alloc (.cells #[vi yk,sk yt,vi yn,.slice b' ys.length cap'] 43)) (CQ w0 B u (some (Ad g' off)) uc fm O2 (wr.alloc (.cells #[vi yk,sk yt,vi yn,.slice b' ys.length cap'] 43)) (funC (u.kids.map Nd.t) j ⟨yk,yt,yn,ys⟩ ⟨sl2,[]⟩)):=hcall
   clear hy hdr hcell hgo hyN hy2 hyk hyV
   go_wp2_with (go_at_call 45;refine hcall.mono ?_;intro e w2 hq;rcases hq.par with⟨cd,a,he,rfl,hbp⟩|⟨c2,he,rfl,O3,hC3,hK3⟩;(exact⟨rfl,.inl ⟨cd,a,hpan.out _ _ he,rfl,hbp⟩⟩))
   go_roundw
   case rel =>
    obtain⟨h1,h2,h3⟩:=hok.out _ he
    rw[h1]at hC3
    exact⟨j+1,by omega,by go_num,O3,c2.sl,hC3,hCK0.trans hK3,h2,by omega⟩
   case measure=>simp[intOf];omega
  ·have hlt':¬(j:Int)<(L:Int):=by omega
   have hRo:R=.ok ⟨sl2,[]⟩:=by rw[<- hgo,List.drop_eq_nil_of_le (by have:=hL.out;omega),a5m]
   have hRU3:=hRU2.out
   rw[hRo]at hRU3
   obtain⟨c3',c4,_,_⟩:=hC.cells
   rw[hL.out]at c3'
   have hlook:=hC.funs Go.Proofs.YtfbpdbndejefdaaGreatDoor.W.main_ true
   have hlook':(Instr.lookup 82 (.map (some fm)) (.string ⟨#[109,97,105,110]⟩) true).run Tryz.prog wr=_:=hlook
   cases hf:funI (u.kids.map Nd.t) Go.Proofs.YtfbpdbndejefdaaGreatDoor.W.main_ with
   | none =>
    rw[hf]at hlook'
    rw[c1x _ _ hf]at hRU3
    simp only[if_true,Option.map_none,Option.getD_none,Option.isSome_none]at hlook'
    subst hRU3
    have fin:Hid (Bw w0 wr):=hC.bl
    clear hlook hRo hgo
    go_wp2_with (go_at_call 46;refine(a4q _ _ 0 _).mono ?_;rintro e w3 ⟨rfl,rfl⟩)
    exact⟨rfl,.inl ⟨4,0,rfl,rfl,fin.out⟩⟩
   | some q =>
    rw[hf]at hlook'
    rw[c1y _ _ _ hf]at hRU3
    simp only[if_true,Option.map_some,Option.getD_some,Option.isSome_some]at hlook'
    have hqk:q<u.kids.length:=by
     unfold funI at hf
     rw[List.findIdx?_eq_some_iff_getElem]at hf
     obtain⟨hq,_⟩:=hf
     simpa using hq
    obtain⟨y,hy⟩:∃y,u.kids[q]?=some y:=⟨_,List.getElem?_eq_getElem hqk⟩
    obtain⟨hyN,hy2,hyk⟩:=hkids.out q y hy
    rw[hy]at hRU3
    obtain⟨g',off,b',cap',eb,v0,v1,v2,v3,hyV⟩:=KA.at hK.out hy
    subst eb
    have hgw:=World.block_lt_of_cell? _ _ v0
    simp only at hgw
    have hcell:∀i v,Ce w0 g' i v->Ce wr g' i v:=fun i v h=>(hC.bl.cell (p:=(Ad g' i)) hgw).trans h
    replace v0:=hcell _ _ v0
    replace v1:=hcell _ _ v1
    replace v2:=hcell _ _ v2
    replace v3:=hcell _ _ v3
    have hq0:(0:Int)<=(q:Int):=by omega
    have hq1:(q:Int)<(L:Int):=by have:=hL.out;omega
    obtain⟨yk,yt,yn,ys⟩:=y
    simp only at v0 v1 v2 v3 hyk
    obtain⟨P,hP⟩:∃P,P+1=ys.length:=⟨ys.length-1,by have:=List.length_pos_iff.2 hyk;omega⟩
    have hKy:=KA.of hyV
    have hys:ys.length<=100000:=by
     have h1:manyN ⟨yk,yt,yn,ys⟩<=manyN.go u.kids:=by
      have:=congrArg manyN.go (List.take_append_drop q u.kids)
      rw[a5z,List.drop_eq_getElem_cons hqk,(List.getElem?_eq_some_iff.1 hy).2]at this
      simp only[manyN.go]at this
      omega
     have h2:=a3i ⟨yk,yt,yn,ys⟩
     have h3:=a2k ys
     simp only at h2
     omega
    obtain⟨zz,hzz⟩:∃zz,ys[0]?=some zz:=⟨_,List.getElem?_eq_getElem (by omega)⟩
    obtain⟨gy,offy,_,_,eb2,_⟩:=KA.at hKy hzz
    subst eb2
    have hpar:=params_any yk yt yn ys gy offy cap' P hP hys hKy.1 wr
    replace hpar:Cl 47 #[.agg #[vi yk,sk yt,vi yn,.slice (some (Ad gy offy)) ys.length cap']] wr fun e W'=>e=.returned (.slice (some (Ad gy offy)) P cap')/\Bw wr W':=hpar
    have hpb:b1b (some ⟨yk,yt,yn,ys⟩)=decide (0<P):=by unfold b1b;simp only;rw[decide_eq_decide];omega
    rw[hpb]at hRU3
    have hCw:=hC
    clear hlook hRo hgo hcell hyV hKy hy hyN hy2 hyk hzz hf
    by_cases hP0:0<P
    ·rw[decide_eq_true hP0,if_pos rfl]at hRU3
     subst hRU3
     have hP0':(0:Int)<(P:Int):=by omega
     have fin:Hid (∀w3,Bw wr w3->Bw w0 w3):=fun w3 h=>ext_trans hCw.bl h
     go_wp2_with (first
      | (go_at_call 47;refine hpar.mono ?_;rintro e w4 ⟨rfl,hb4⟩)
      | (go_at_call 46;refine(a2l _ _ _ 0 _).mono ?_;rintro e w3 ⟨rfl,(⟨hw,rfl⟩|⟨hw,rfl⟩)⟩;(first|(exact absurd hw (by decide))|(exact⟨rfl,.inl ⟨6,0,rfl,rfl,fin.out _ hb4⟩⟩))))
     exact absurd hw (by simp;try omega)
    ·rw[decide_eq_false hP0,if_neg (by simp)]at hRU3
     subst hRU3
     have hP0':¬(0:Int)<(P:Int):=by omega
     have fin:Hid (∀w3,Bw wr w3->UQ w0 B u (some (Ad g' off)) uc fm O W (.ok sl2) (.returned (.tuple #[])) w3):=fun w3 h=>.inr ⟨sl2,rfl,rfl,O2,hCw.on h,hCK.trans (CK.below (O:=O2) h)⟩
     go_wp2_with (first
      | (go_at_call 47;refine hpar.mono ?_;rintro e w4 ⟨rfl,hb4⟩)
      | (go_at_call 46;refine(refuse_no _ _ _ _).mono ?_;rintro e w3 ⟨rfl,rfl⟩))
     go_end0
     exact fin.out _ hb4
theorem b0e(fs:List (List UInt8)):∀(l:List (List UInt8)) (i:Nat) (x:List UInt8) (kv:List (List UInt8×Value)),a2d fs i (l++[x]) kv=(if ((a2d fs i l kv).lookup x).isSome then a2d fs i l kv else a2d fs i l kv++[(x,.int .i64 ((i+l.length:Nat):Int))])
 | [],i,x,kv=>by
  show a2d fs i [x] kv=_
  rw[a2d,a2d,a2d]
  rfl
 | y::l,i,x,kv=>by
  show a2d fs i (y::(l++[x])) kv=_
  rw[a2d,b0e fs l (i+1) x]
  rw[show a2d fs i (y::l) kv=a2d fs (i+1) l (if (kv.lookup y).isSome then kv else kv++[(y,.int .i64 (i:Nat))]) by rw[a2d]]
  rw[show i+1+l.length=i+(y::l).length by simp;omega]
def NI (B fm:Nat) (u:Nd) (ub:Option Addr) (uc:Nat) (W:World) (fs:List (List UInt8)) (j:Nat) (wr:World):Prop :=
 wr.heap[B]?=some (ckb u ub uc fm none 0 0 none 0 0 0)/\wr.heap[fm]?=some (a0e sk (a2d fs 0 (fs.take j) []))/\Below W.heap.size W wr
theorem new_any(u:Nd)(ub:Option Addr)(uc:Nat)(W:World)(hN:NdV (low W) W u (ndv u ub uc))(hl:u.kids.length<=100000) :
  Calls Tryz.prog 30 #[ndv u ub uc] W fun e W'=>∃B,e=.returned (.pointer (some ⟨B,0,none⟩))/\∃fm O,Ck W B u ub uc fm O [] [] 0 W':=by
 obtain⟨k0,t0,n0,ks⟩:=u
 have hK:=KA.of hN
 simp only at hl
 have hb0:=ext_alloc (Below.refl W.heap.size W) (nbx ⟨k0,t0,n0,ks⟩ ub uc)
 have hb1:=ext_alloc hb0 (.map #[] 0)
 have gm:=a0a (W.alloc (nbx ⟨k0,t0,n0,ks⟩ ub uc)) (.map #[] 0)
 rw[World.size_alloc]at gm
 obtain⟨fm,hfm⟩:∃fm,W.heap.size+1=fm:=⟨_,rfl⟩
 rw[hfm]at gm
 have hb2:=ext_alloc hb1 (ckb ⟨k0,t0,n0,ks⟩ ub uc fm none 0 0 none 0 0 0)
 have gB:=a0a ((W.alloc (nbx ⟨k0,t0,n0,ks⟩ ub uc)).alloc (.map #[] 0)) (ckb ⟨k0,t0,n0,ks⟩ ub uc fm none 0 0 none 0 0 0)
 simp only[World.size_alloc]at gB
 replace gm:=block_alloc (ckb ⟨k0,t0,n0,ks⟩ ub uc fm none 0 0 none 0 0 0) gm
 obtain⟨B,hB⟩:∃B,W.heap.size+1+1=B:=⟨_,rfl⟩
 rw[hB]at gB
 obtain⟨V,hV⟩:∃V,((W.alloc (nbx ⟨k0,t0,n0,ks⟩ ub uc)).alloc (.map #[] 0)).alloc (ckb ⟨k0,t0,n0,ks⟩ ub uc fm none 0 0 none 0 0 0)=V:=⟨_,rfl⟩
 rw[hV]at gm gB hb2
 have hmk:∀wx:World,(Instr.makeMap 82 none).run Tryz.prog wx=.ok (.map (some wx.heap.size)) (wx.alloc (.map #[] 0)):=fun wx=>by kernel_rfl
 obtain⟨L,hL⟩:∃L,ks.length=L:=⟨_,rfl⟩
 obtain⟨fs,hfs⟩:∃fs,ks.map Nd.t=fs:=⟨_,rfl⟩
 have hI:NI B fm ⟨k0,t0,n0,ks⟩ ub uc W fs 0 V:=⟨gB,gm,hb2⟩
 have c3:V.cell? ⟨B,3,none⟩=some (.slice ub ks.length uc):=cell_block gB rfl
 rw[hL]at c3 hl
 replace hL:Hid _:=hL
 replace hfs:Hid _:=hfs
 replace hK:Hid (KA (low W) W ub uc ks):=hK
 replace hB:Hid _:=hB
 replace hfm:Hid _:=hfm
 have hV':((W.alloc (.cells #[.int .i64 k0,sk t0,.int .i64 n0,.slice ub ks.length uc] 43)).alloc (.map #[] 0)).alloc (.cells #[.int .i64 k0,sk t0,.int .i64 n0,.slice ub ks.length uc,.map (some (W.heap.size+1)),.slice none 0 0,.slice none 0 0,.int .i64 0] 85)=V:=by rw[hfm.out];exact hV
 replace hV:Hid _:=hV
 replace hV':Hid _:=hV'
 go_enter Tryz.func30,Tryz.ntmps30
 go_wp2
 try rw[hV'.out]
 try rw[hB.out]
 clear hmk hb0 hb1 gm gB hb2 c3
 go_loopw [18] (fun ix wr=>∃j:Nat,j<=L/\ix=.int .i64 (j:Nat)/\NI B fm ⟨k0,t0,n0,ks⟩ ub uc W fs j wr) (fun ix _=>L-(intOf ix).toNat)
 case atStart=>exact⟨0,Nat.zero_le _,rfl,hI⟩
 case round =>
  obtain⟨j,hj,rfl,gB,gm,hb⟩:=hrel
  clear hI
  by_cases hlt:j<L
  ·have hlt':(j:Int)<(L:Int):=by omega
   have hge:(0:Int)<=(j:Int):=by omega
   have hjk:j<ks.length:=by have:=hL.out;omega
   obtain⟨y,hy⟩:∃y,ks[j]?=some y:=⟨_,List.getElem?_eq_getElem hjk⟩
   obtain⟨g',off,b',cap',eb,v0,v1,v2,v3,hyV⟩:=KA.at hK.out hy
   subst eb
   have hgw:=World.block_lt_of_cell? _ _ v0
   simp only at hgw
   have hcell:∀i v,W.cell? ⟨g',i,none⟩=some v->wr.cell? ⟨g',i,none⟩=some v:=fun i v h=>(hb.cell (p:=⟨g',i,none⟩) hgw).trans h
   replace v0:=hcell _ _ v0
   replace v1:=hcell _ _ v1
   replace v2:=hcell _ _ v2
   replace v3:=hcell _ _ v3
   have hyf:fs[j]?=some y.t:=by rw[<- hfs.out,List.getElem?_map,hy];rfl
   have htk:fs.take (j+1)=fs.take j++[y.t]:=by rw[List.take_add_one,hyf];rfl
   have hjl:(fs.take j).length=j:=by have:=(List.getElem?_eq_some_iff.1 hyf).1;simp;omega
   have hsn:=b0e fs (fs.take j) 0 y.t []
   rw[<- htk,hjl,Nat.zero_add]at hsn
   obtain⟨kv,hkv⟩:∃kv,a2d fs 0 (fs.take j) []=kv:=⟨_,rfl⟩
   rw[hkv]at gm hsn
   have hnd:(kv.map (·.1)).Nodup:=by rw[<- hkv];exact a5q _ _ _ _ (by simp)
   obtain⟨yk,yt,yn,ys⟩:=y
   simp only at v0 v1 v2 v3 hsn
   have hlB:=block_lt gB
   have hlm:=block_lt gm
   have c4:∀o,(wr.alloc o).cell? ⟨B,4,none⟩=some (.map (some fm)):=fun o=>cell_block (block_alloc o gB) rfl
   have gmA:(wr.alloc (.cells #[.int .i64 yk,sk yt,.int .i64 yn,.slice b' ys.length cap'] 43)).drew.heap[fm]?=some (a0e sk kv):=block_alloc _ gm
   have hlook:=a4u (P:=Tryz.prog) (T:=82) (K:=9) (E:=3) (by kernel_rfl) (by kernel_rfl) a1b gmA hnd (z:=.int .i64 0) (by kernel_rfl) yt true
   have hbA:Below wr.heap.size wr (wr.alloc (.cells #[.int .i64 yk,sk yt,.int .i64 yn,.slice b' ys.length cap'] 43)):=ext_alloc (Below.refl _ _) _
   have hBW:W.heap.size<=fm:=by have:=hfm.out;omega
   have hBm:B≠fm:=by have:=hfm.out;have:=hB.out;omega
   cases hk:kv.lookup yt with
   | some v =>
    rw[hk]at hlook hsn
    simp only[if_true,Option.getD_some,Option.isSome_some]at hlook hsn
    have fin:Hid (NI B fm ⟨k0,t0,n0,ks⟩ (some ⟨g',off,none⟩) uc W fs (j+1) (wr.alloc (.cells #[.int .i64 yk,sk yt,.int .i64 yn,.slice b' ys.length cap'] 43)).drew):=⟨block_alloc _ gB,by rw[hsn];exact gmA,(ext_trans hb hbA).drew⟩
    obtain⟨vi,rfl⟩:∃vi,v=.int .i64 vi:=by
     rw[<- hkv,a6q]at hk
     simp only[List.lookup_nil]at hk
     obtain⟨q,_,rfl⟩:=Option.map_eq_some_iff.1 hk
     exact⟨_,rfl⟩
    clear hcell hyf htk hsn hkv hnd hyV hy gmA hk
    go_wp2
    go_region_with (fail)
    all_goals
     go_wp2
     go_roundw
     case rel=>exact⟨j+1,by omega,by go_num,fin.out⟩
     case measure=>simp[intOf];omega
   | none =>
    rw[hk]at hlook hsn
    simp only[if_true,Option.getD_none,Option.isSome_none,Bool.false_eq_true,if_false]at hlook hsn
    have gmB:(wr.alloc (.cells #[.int .i64 yk,sk yt,.int .i64 yn,.slice b' ys.length cap'] 43)).drew.drew.heap[fm]?=some (a0e sk kv):=gmA
    have hput:=a9o (P:=Tryz.prog) (T:=82) (K:=9) (E:=3) (by kernel_rfl) (by kernel_rfl) a1b gmB hnd yt hk (.int .i64 (j:Nat))
    obtain⟨V3,hV3⟩:∃V3:World,{ (wr.alloc (.cells #[.int .i64 yk,sk yt,.int .i64 yn,.slice b' ys.length cap'] 43)).drew.drew with heap:=(wr.alloc (.cells #[.int .i64 yk,sk yt,.int .i64 yn,.slice b' ys.length cap'] 43)).drew.drew.heap.setIfInBounds fm (a0e sk (kv++[(yt,.int .i64 (j:Nat))])) }=V3:=⟨_,rfl⟩
    rw[hV3]at hput
    have fin:Hid (NI B fm ⟨k0,t0,n0,ks⟩ (some ⟨g',off,none⟩) uc W fs (j+1) V3):=by
     refine⟨?_,?_,?_⟩
     ·rw[<- hV3]
      have:(wr.alloc (.cells #[.int .i64 yk,sk yt,.int .i64 yn,.slice b' ys.length cap'] 43)).heap[B]?=_:=block_alloc _ gB
      simp only[World.drew]
      rw[Array.getElem?_setIfInBounds_ne (Ne.symm hBm)]
      exact this
     ·rw[hsn,<- hV3]
      have hs:fm<(wr.alloc (.cells #[.int .i64 yk,sk yt,.int .i64 yn,.slice b' ys.length cap'] 43)).heap.size:=block_lt gmA
      simp only[World.drew]
      rw[Array.getElem?_setIfInBounds_self_of_lt hs]
     ·have h1:Below W.heap.size W (wr.alloc (.cells #[.int .i64 yk,sk yt,.int .i64 yn,.slice b' ys.length cap'] 43)).drew.drew:=((ext_trans hb hbA).drew).drew
      rw[<- hV3]
      exact⟨h1.os,h1.tape,h1.output,by simpa using h1.size,fun k hk=>by
       have:=h1.block k hk
       simp only[World.drew]at this⊢
       rw[Array.getElem?_setIfInBounds_ne (by omega)]
       exact this⟩
    clear hcell hyf htk hsn hkv hnd hyV hy gmA gmB hk hV3
    go_wp2
    go_region_with (fail)
    all_goals
     go_wp2
     go_region_with (fail)
     all_goals
      go_wp2
      go_roundw
      case rel=>exact⟨j+1,by omega,by go_num,fin.out⟩
      case measure=>simp[intOf];omega
  ·have hlt':¬(j:Int)<(L:Int):=by omega
   have hjL:j=L:=by omega
   subst hjL
   have htk:fs.take j=fs:=List.take_of_length_le (by rw[<- hfs.out];simp;exact Nat.le_of_eq hL.out)
   rw[htk]at gm
   have hjk:¬j<ks.length:=by have:=hL.out;omega
   have hjk':¬(j:Int)<(ks.length:Int):=by omega
   go_wp2
   go_ret
   refine⟨B,rfl,fm,fun k=>k=B,⟨none,0,none,0,[],gB,⟨rfl,.inl ⟨rfl,rfl⟩⟩,⟨rfl,.inl ⟨rfl,rfl⟩⟩,trivial,List.nodup_nil,fun q e=>by simp[Value.ownBlock]at e,fun q e=>by simp[Value.ownBlock]at e,fun m hm=>by simp at hm⟩,rfl,fun k hk=>?_,⟨_,by show _=a2d (ks.map Nd.t) 0 (ks.map Nd.t) [];rw[hfs.out],gm⟩,?_,hb⟩
   ·subst hk
    exact⟨by have:=hB.out;omega,block_lt gB⟩
   ·have:=hfm.out
    have:=hB.out
    omega
end Go.Proofs.YtfbpdbndejefdaaGreatDoor
