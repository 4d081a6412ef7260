import Derived.Test.YtomniogfpfbolaaGreatDoorS23
namespace Go.Proofs.YtomniogfpfbolaaGreatDoor
open Go.RowKit Go
set_option maxRecDepth 100000
set_option maxHeartbeats 8000000
set_option linter.all false
variable {S O:Nat->Prop} {w W w0 W':World} {ks:List Nd} {b ub:Option Addr} {cap j B uc fm lv:Nat} {s:List UInt8} {u:Nd} {sl:List Int} {bl:List (List Lc)}
def KA (S:Nat->Prop) (w:World) (b:Option Addr) (cap:Nat) (ks:List Nd):Prop:=ks.length<=cap/\(ks=[]\/∃g off,b=some (Ad g off)/\S g/\∀j y,ks[j]?=some y->NdAt S w y (fun i=>w.cell? (Ad g (off+j*4+i))))
theorem KA.of{k:Int}{t:List UInt8}{n:Int}(h:NdV S w ⟨k,t,n,ks⟩ (ndv ⟨k,t,n,ks⟩ b cap)):KA S w b cap ks:=c3e h
theorem KA.at(h:KA S w b cap ks){y:Nd}(hy:ks[j]?=some y):∃g z b' cap',b=some (Ad g z)/\w.cell? (Ad g (z+j*4))=some (vi y.k)/\w.cell? (Ad g (z+j*4+1))=some (sk y.t)/\w.cell? (Ad g (z+j*4+2))=some (vi y.n)/\w.cell? (Ad g (z+j*4+3))=some (.slice b' y.kids.length cap')/\NdV S w y (ndv y b' cap'):=by
 rcases h.2 with p|⟨g,z,rfl,_,v⟩
 ·rw[p]at hy;simp at hy
 ·obtain⟨b',cap',q,r,s,u,x⟩:=a9g (v j y hy)
  exact⟨g,z,b',cap',rfl,q,r,s,u,x⟩
theorem KA.on{w':World}(h:KA S w b cap ks)(hW:∀g,S g->g<w.heap.size->w'.heap[g]?=w.heap[g]?):KA S w' b cap ks:=by
 refine⟨h.1,?_⟩
 rcases h.2 with o|⟨g,x,rfl,s,z⟩
 ·exact .inl o
 ·refine .inr ⟨g,x,rfl,s,fun j y t=>?_⟩
  have u:g<w.heap.size:=World.block_lt_of_cell? _ _ (z j y t).first
  exact NdAt.on (fun q hq p=>⟨hq,hW q hq p⟩) y _ _ (fun i v r=>(World.cell?_of_block (a:=(Ad g _)) (hW g s u)).trans r) (z j y t)
def funV (ks:List Nd) (s:List UInt8):Int:=match funI (ks.map Nd.t) s with|some i=>(i:Nat)|none=>-1
theorem c3y(h:∀k x,k<ks.length->ks[k]?=some x->x.t≠s):funI (ks.map Nd.t) s=none:=by
 unfold funI
 rw[List.findIdx?_eq_none_iff]
 intro x v
 obtain⟨y,w,rfl⟩:=List.mem_map.1 v
 obtain⟨k,z⟩:=List.getElem?_of_mem w
 simpa using h k y (List.getElem?_eq_some_iff.1 z).1 z
theorem c3z{i:Nat}{x:Nd}(hx:ks[i]?=some x)(hn:x.t=s)(h:∀k x,k<i->ks[k]?=some x->x.t≠s):funI (ks.map Nd.t) s=some i:=by
 unfold funI
 rw[List.findIdx?_eq_some_iff_getElem]
 obtain⟨w,e⟩:=List.getElem?_eq_some_iff.1 hx
 refine⟨by simpa using w,by simp[e,hn],fun j y=>?_⟩
 have z:j<ks.length:=by omega
 simpa using h j ks[j] y (List.getElem?_eq_getElem z)
theorem b2q(w0:World)(B:Nat)(u:Nd)(ub:Option Addr)(uc:Nat)(sl:List Int)(ls:List Ld)(c a:Int)(st:Bool)(s:List UInt8)(S:Nat->Prop)(W:World)(h:Lo w0 B u ub uc sl ls c a st W)(hk:KA S W ub uc u.kids)(hl:u.kids.length<=100000):Cl 13 #[Po B 0,sk s] W fun e W'=>e=.returned (vi (funV u.kids s))/\W'=W:=by
 obtain⟨⟨sb,sc,lb,lc,h1,h2,h3,h4,h5⟩,h6,h7⟩:=h
 obtain⟨k0,t0,n0,ks⟩:=u
 simp only at hk hl
 obtain⟨R,hR⟩:=exq (funV ks s)
 show Cl 13 _ W fun e W'=>e=.returned (vi (funV ks s))/\W'=W
 rw[hR]
 obtain⟨L,hL⟩:=exq (ks.length)
 have c3:Ce W B 3 (.slice ub L uc):=by rw[<- hL];exact q2z h1 rfl
 rw[hL]at hl
 replace hR:Hid _:=hR
 replace hL:Hid _:=hL
 replace hk:Hid (KA S W ub uc ks):=hk
 clear h1 h2 h3 h4 h5 h6
 go_enter Tryz.func13,Tryz.ntmps13
 go_wp2
 go_loop [5] (fun i=>∃j:Nat,j<=L/\i=vi (j:Nat)/\∀k x,k<j->ks[k]?=some x->x.t≠s) (fun i=>L-(intOf i).toNat)
 case atStart=>exact⟨0,Nat.zero_le _,rfl,fun k x hk=>by omega⟩
 case round =>
  obtain⟨j,hj,rfl,hno⟩:=hrel
  replace hno:Hid _:=hno
  by_cases hj0:j=L
  ·subst hj0
   have e:R=-1:=by
    rw[<- hR.out,funV,c3y (fun k x hk hx=>hno.out k x (by have:=hL.out;omega) hx)]
   subst e
   go_wp2
   go_ret
   exact⟨rfl,rfl⟩
  ·obtain⟨x,hx⟩:∃x,ks[j]?=some x:=⟨_,List.getElem?_eq_getElem (show j<ks.length by have:=hL.out;omega)⟩
   obtain⟨g,off,b',cap',rfl,v0,v1,v2,v3,_⟩:=KA.at hk.out hx
   have hlt:(j:Int)<(L:Int):=by omega
   have hge:(0:Int)<=(j:Int):=by omega
   clear v0 v2 v3
   by_cases hn:x.t=s
   ·have e:R=(j:Nat):=by
     rw[<- hR.out,funV,c3z hx hn (fun k y hk hy=>hno.out k y hk hy)]
    subst e
    rw[hn]at v1
    clear hx hn
    go_wp2
    go_ret
    exact⟨rfl,rfl⟩
   ·have hnext:Hid (∀k y,k<j+1->ks[k]?=some y->y.t≠s):=fun k y hk hy=>by
     by_cases e:k=j
     ·subst e;rw[hx]at hy;cases hy;exact hn
     ·exact hno.out k y (by omega) hy
    have hneb:(x.t == s)=false:=by simpa using hn
    obtain⟨xk,xt,xn,xs⟩:=x
    simp only at v1 hneb
    clear hx hn
    go_wp2
    go_round
    case rel=>exact⟨j+1,by omega,by go_num,hnext.out⟩
    case measure=>simp[intOf];omega
abbrev lcv (i:Nat) (fx:Bool):Value:=.agg #[vi (i:Nat),.bool fx]
def kvB (base:Nat) (b:List Lc):List (List UInt8×Value):=b.mapIdx fun j x=>(x.nm,lcv (base+j) x.fx)
def a7b (W:World):List Nat->List (List Lc)->Prop
 | [],[]=>True
 | q::ms,b::r=>W.heap[q]?=some (a0f sk (kvB (sumL r) b))/\a7b W ms r
 | _,_=>False
theorem a7b.len{W:World} : ∀{z:List Nat} {bl:List (List Lc)},a7b W z bl->z.length=bl.length
 | [],[],_=>rfl
 | _::z,_::r,h=>by rw[List.length_cons,List.length_cons,a7b.len h.2]
 | [],_::_,h=>h.elim
 | _::_,[],h=>h.elim
theorem a7b.keep{W W':World} : ∀{z:List Nat} {bl:List (List Lc)},a7b W z bl->(∀m∈z,W'.heap[m]?=W.heap[m]?)->a7b W' z bl
 | [],[],_,_=>trivial
 | q::z,_::r,h,k=>⟨(k q (by simp)).trans h.1,a7b.keep h.2 fun m y=>k m (by simp[y])⟩
 | [],_::_,h,_=>h.elim
 | _::_,[],h,_=>h.elim
abbrev mp (q:Nat):Value:=.map (some q)
def a2p (fs:List (List UInt8)):Nat->List (List UInt8)->List (List UInt8×Value)->List (List UInt8×Value)
 | _,[],kv=>kv
 | i,x::l,kv=>a2p fs (i+1) l (if (kv.lookup x).isSome then kv else kv++[(x,vi (i:Nat))])
abbrev ckb (u:Nd) (ub:Option Addr) (uc:Nat) (fm:Nat) (sb:Option Addr) (sn sc:Nat) (bb:Option Addr) (bn bc:Nat) (lv:Nat):Obj:=.cells #[vi u.k,sk u.t,vi u.n,.slice ub u.kids.length uc,.map (some fm),.slice sb sn sc,.slice bb bn bc,vi (lv:Nat)] 111
structure Ck (w0:World) (B:Nat) (u:Nd) (ub:Option Addr) (uc:Nat) (fm:Nat) (O:Nat->Prop) (sl:List Int) (bl:List (List Lc)) (lv:Nat) (W:World):Prop where
 box:∃sb sc bb bc ms,W.heap[B]?=some (ckb u ub uc fm sb sl.length sc bb bl.length bc lv)/\W.ownsRow w0.heap.size 3 1 (.slice sb sl.length sc) sl.length (sl.map iv)/\W.ownsRow w0.heap.size 175 1 (.slice bb bl.length bc) bl.length (ms.reverse.map mp)/\a7b W ms bl/\ms.Nodup /\
  (∀q,Value.ownBlock (.slice sb sl.length sc)=some q->O q/\q≠B/\q∉ms)/\(∀q,Value.ownBlock (.slice bb bl.length bc)=some q->O q/\q≠B/\q∉ms/\Value.ownBlock (.slice sb sl.length sc)≠some q)/\(∀m∈ms,O m/\m≠B)
 hB:O B
 hO:∀k,O k->w0.heap.size<=k/\k<W.heap.size
 hf:∃kv,kv=a2p (u.kids.map Nd.t) 0 (u.kids.map Nd.t) []/\W.heap[fm]?=some (a0f sk kv)
 hn:¬O fm
 bl:Bw w0 W
structure CK (O:Nat->Prop) (W:World) (O':Nat->Prop) (W':World):Prop where
 k:a0b O W W'
 o:∀k,O' k->O k\/W.heap.size<=k
theorem CK.trans{O1 O2:Nat->Prop}{W1 W2:World}(h:CK O W O1 W1)(k:CK O1 W1 O2 W2):CK O W O2 W2:=by
 refine⟨h.k.then k.k (fun j z h1=>?_),fun j z=>?_⟩
 ·rcases h.o j h1 with h2|h2
  ·exact h2
  ·omega
 ·rcases k.o j z with h2|h2
  ·exact h.o j h2
  ·exact .inr (Nat.le_trans h.k.size h2)
theorem a4l{V:World}(hb:Bw w0 V)(hk:a0b O V W')(hO:∀k,O k->w0.heap.size<=k):Bw w0 W' :=
 ⟨hk.os.trans hb.os,hk.tape.trans hb.tape,hk.output.trans hb.output,Nat.le_trans hb.size hk.size,fun k z=>(hk.block k (Nat.lt_of_lt_of_le z hb.size) (fun h=>by have:=hO k h;omega)).trans (hb.block k z)⟩
theorem CK.below(hb:Bw W W'):CK O W O W':=⟨a0b.of_below hb,fun _ h=>.inl h⟩
theorem CK.refl(O:Nat->Prop)(W:World):CK O W O W:=⟨a0b.refl _ _,fun _ h=>.inl h⟩
theorem CK.box{O':Nat->Prop}(h:CK O W O' W'){t:Nat}{o:Obj}(g:W.heap[t]?=some o)(hn:¬O t):W'.heap[t]?=some o/\¬O' t:=by
 refine⟨h.k.box g hn,fun h1=>?_⟩
 rcases h.o t h1 with h2|h2
 ·exact hn h2
 ·have:=q5z g
  omega
theorem Ck.lt(h:Ck w0 B u ub uc fm O sl bl lv W):B<W.heap.size:=(h.hO B h.hB).2
theorem Ck.on(h:Ck w0 B u ub uc fm O sl bl lv W)(hb:Bw W W'):Ck w0 B u ub uc fm O sl bl lv W':=by
 obtain⟨⟨sb,v,bb,p,t,h1,h2,h3,h4,h5,q,r,w⟩,hB,hO,⟨kv,z,hf⟩,hn,y⟩:=h
 exact⟨⟨sb,v,bb,p,t,q0z hb h1,a6u h2 hb,a6u h3 hb,h4.keep (fun m s=>hb.block m (hO m (w m s).1).2),h5,q,r,w⟩,hB,fun k x=>⟨(hO k x).1,Nat.lt_of_lt_of_le (hO k x).2 hb.size⟩,⟨kv,z,q0z hb hf⟩,hn,q3z y hb⟩
theorem Ck.cells(h:Ck w0 B u ub uc fm O sl bl lv W):W.cell? (Ad B 3)=some (.slice ub u.kids.length uc)/\W.cell? (Ad B 4)=some (.map (some fm))/\W.cell? (Ad B 7)=some (vi (lv:Nat))/\W.frozen? (Ad B 7)=false:=by
 obtain⟨⟨sb,z,bb,x,y,h1,_⟩,_⟩:=h
 exact⟨q2z h1 rfl,q2z h1 rfl,q2z h1 rfl,q6z h1⟩
theorem a2z(w0:World)(B:Nat)(u:Nd)(ub:Option Addr)(uc fm:Nat)(O:Nat->Prop)(sl:List Int)(bl:List (List Lc))(lv:Nat)(W:World)(h:Ck w0 B u ub uc fm O sl bl lv W)(hlen:sl.length<=100000):Cl 81 #[Po B 0] W fun e W'=>e=.returned (vi (sl.length:Nat))/\∃O',Ck w0 B u ub uc fm O' (sl++[-1]) bl lv W'/\CK O W O' W':=by
 have hb:=q1z (Below.refl W.heap.size W) (.cells #[vi (-1)] 3)
 have gQ:=a0a W (.cells #[vi (-1)] 3)
 have z3:=CK.below (O:=O) hb
 have z7:=h.lt
 have z4:=h.hO
 replace h:=h.on hb
 obtain⟨Q,hQ⟩:=exq (W.heap.size)
 obtain⟨V,hV⟩:=exq (W.alloc (.cells #[vi (-1)] 3))
 rw[hV]at h gQ z3
 rw[hQ]at gQ
 obtain⟨i0,y4,y8,y9,z0⟩:=info_parts d5g
 obtain⟨⟨sb,b,bb,bc,ms,h1,h2,h3,h4,h5,p,h7,h8⟩,hB,hO,⟨kv,l,hf⟩,hn,z5⟩:=h
 have c5:Ce W B 5 (.slice sb sl.length b):=by
  have:=q2z (i:=5) h1 rfl
  rw[<- hV]at this
  rw[World.cell?_alloc_past _ _ _ z7]at this
  exact this
 have d5:Ce V B 5 (.slice sb sl.length b):=q2z h1 rfl
 have f5:V.frozen? (Ad B 5)=false:=q6z h1
 have z9:some B≠Value.ownBlock (.slice sb sl.length b):=fun e=>(p B e.symm).2.1 rfl
 have n:∀j x,[iv (-1)][j]?=some x->V.cell? ((Ad Q 0).add j)=some x:=fun j x s=>by
  match j,s with
  | 0,s=>cases s;simpa[Addr.add]using q2z (i:=0) gQ rfl
  | j+1,s=>simp at s
 have a:∀x∈[iv (-1)],x.oneCell'=true:=fun x s=>by simp at s;subst s;rfl
 have x8:sl.length+1<=maxLen:=by unfold maxLen;omega
 have y0:(sl.length+1)*8<=140737488355328:=by omega
 have y7:=z5.size
 replace z4:Hid _:=z4
 replace l:Hid _:=l
 go_enter Tryz.func81,Tryz.ntmps81
 go_wp2_with (at_builtin;refine wpList_append_lies _ (by rfl) _ _ _ (by rfl) w0.heap.size 3 i0 _ 1 8 Tryz.underlying35 y4 y8 y9 z0 rfl (by omega) (.slice sb sl.length b) sl.length _ (by rfl) h2 (Ad Q 0) 1 1 [iv (-1)] (by rfl) (by rfl) n a (by omega) x8 y0 y7 _ rfl ?_;intro y w c o z v z8;have p1:=(z.block _ (q5z h1) z9).trans h1;have d5:Ce c B 5 (.slice sb sl.length b):=q2z p1 rfl;have f5:c.frozen? (Ad B 5)=false:=q6z p1)
 have z6:y≠B:=by
  rcases v with e|e
  ·exact(p y e).2.1
  ·have:=q5z h1
   omega
 have y1:w0.heap.size<=y:=by
  rcases v with e|e
  ·exact(hO y (p y e).1).1
  ·omega
 have y2:O y\/V.heap.size<=y:=by
  rcases v with e|e
  ·exact .inl (p y e).1
  ·exact .inr (by omega)
 have y3:y∉ms:=fun e=>by
  rcases v with d|d
  ·exact(p y d).2.2 e
  ·have:=(hO y (h8 y e).1).2
   omega
 have y5:a0b O V c:=(a0b.grown z).mono (fun k _ e=>(p k e.symm).1)
 have g:=y5.set B 5 (.slice (some (Ad y 0)) (sl.length+1) w) (fun _=>hB)
 have x9:=q7z (i:=5) (.slice (some (Ad y 0)) (sl.length+1) w) p1
 have t:(sl++[-1]).length=sl.length+1:=by simp
 have y6:(c.setCell (Ad B 5) (.slice (some (Ad y 0)) (sl.length+1) w)).heap.size=c.heap.size:=by simp
 go_ret
 refine⟨rfl,fun k=>O k\/k=y,⟨⟨some (Ad y 0),w,bb,bc,ms,?_,?_,?_,?_,h5,?_,?_,?_⟩,.inl hB,?_,⟨kv,l.out,?_⟩,?_,?_⟩,z3.trans ⟨g,?_⟩⟩
 ·rw[t]
  exact x9
 ·rw[t,List.map_append]
  exact a1c o (fun q e _=>by simp[Value.ownBlock]at e;subst e;exact q8z _ _ z6)
 ·refine a1c h3 (fun q e hq=>?_)
  obtain⟨_,d,_,e3⟩:=h7 q e
  exact(q8z _ _ d).trans (z.block q hq (fun e4=>e3 e4.symm))
 ·refine h4.keep (fun m f=>?_)
  exact(q8z _ _ (h8 m f).2).trans (z.block m (hO m (h8 m f).1).2 (fun e4=>(p m e4.symm).2.2 f))
 ·rw[t]
  intro q e
  simp[Value.ownBlock]at e
  subst e
  exact⟨.inr rfl,z6,y3⟩
 ·rw[t]
  intro q e
  obtain⟨e1,d,e3,e4⟩:=h7 q e
  refine⟨.inl e1,d,e3,fun e5=>?_⟩
  simp[Value.ownBlock]at e5
  subst e5
  rcases v with e6|e6
  ·exact e4 e6
  ·have:=a3g h3 e
   omega
 ·exact fun m f=>⟨.inl (h8 m f).1,(h8 m f).2⟩
 ·intro k r
  rw[y6]
  rcases r with r|rfl
  ·exact⟨(hO k r).1,Nat.lt_of_lt_of_le (hO k r).2 z.size⟩
  ·exact⟨y1,z8⟩
 ·exact g.box hf hn
 ·rintro(r|rfl)
  ·exact hn r
  ·rcases v with e|e
   ·exact hn (p _ e).1
   ·have:=q5z hf
    omega
 ·exact a4l z5 g (fun k h=>(hO k h).1)
 ·rintro k (r|rfl)
  ·exact .inl r
  ·exact y2
theorem Ck.slot(h:Ck w0 B u ub uc fm O sl bl lv W)(hj:j<sl.length):∃g w,W.cell? (Ad B 5)=some (.slice (some (Ad g 0)) sl.length w)/\g≠B/\O g/\(∃x,W.cell? (Ad g j)=some (vi x))/\W.frozen? (Ad g j)=false /\
  ∀v,Ck w0 B u ub uc fm O (sl.set j v) bl lv (W.setCell (Ad g j) (iv v))/\CK O W O (W.setCell (Ad g j) (iv v)):=by
 obtain⟨⟨sb,w,bb,bc,ms,h1,h2,h3,h4,h5,h6,h7,h8⟩,hB,hO,⟨kv,f,hf⟩,hn,a⟩:=h
 obtain⟨z8,z9⟩:=h2
 rcases z9 with⟨e,h0⟩|⟨g,cap,n,e,y,b,p,t,l,ht⟩
 ·omega
 cases e
 obtain⟨o,r,d⟩:=h6 g rfl
 have hc:n[j]?=some (iv sl[j]):=by
  have e1:(n.toList.take (sl.length*1))[j]?=(sl.map iv)[j]?:=by rw[ht]
  rw[List.getElem?_take_of_lt (by omega)]at e1
  simpa[hj]using e1
 refine⟨g,w,q2z h1 rfl,r,o,⟨sl[j],q2z b hc⟩,q6z b,fun v=>?_⟩
 have c:=q7z (i:=j) (iv v) b
 have z:∀q,q≠g->(W.setCell (Ad g j) (iv v)).heap[q]?=W.heap[q]?:=fun q hq=>q8z _ _ hq
 have s:a0b O W (W.setCell (Ad g j) (iv v)):=(a0b.refl O W).set g j _ (fun _=>o)
 refine⟨⟨⟨some (Ad g 0),w,bb,bc,ms,?_,?_,?_,?_,h5,?_,?_,h8⟩,hB,?_,⟨kv,f,?_⟩,hn,?_⟩,s,fun _=>.inl⟩
 ·rw[List.length_set]
  exact(z B (Ne.symm r)).trans h1
 ·rw[List.length_set]
  refine⟨by simp,.inr ⟨g,w,_,rfl,y,c,p,t,by simpa using l,?_⟩⟩
  rw[Array.toList_setIfInBounds,List.take_set,ht,List.map_set]
 ·exact a1c h3 (fun q e _=>z q (fun e2=>(h7 q e).2.2.2 (by rw[e2];rfl)))
 ·exact h4.keep (fun m hm=>z m (fun e=>d (e▸hm)))
 ·rw[List.length_set]
  exact h6
 ·rw[List.length_set]
  exact h7
 ·intro k s
  have:(W.setCell (Ad g j) (iv v)).heap.size=W.heap.size:=by simp
  rw[this]
  exact hO k s
 ·exact s.box hf hn
 ·exact a4l a s (fun k h=>(hO k h).1)
abbrev flt (cd:Int) (a:Nat):Value:=.iface 27 (.agg #[vi cd,vi (a:Nat)])
theorem a8c(p:Value)(code:Int)(a:Value)(W:World):Cl 83 #[p,.bool false,vi code,a] W fun e W'=>e=.returned (.tuple #[])/\W'=W:=by
 go_enter Tryz.func83,Tryz.ntmps83
 go_wp2
 go_end0
 exact⟨rfl,rfl⟩
theorem a5k(p:Value)(code:Int)(a:Nat)(W:World):Cl 83 #[p,.bool true,vi code,vi (a:Nat)] W fun e W'=>e=.panicked (pan (flt code a))/\W'=W:=by
 go_enter Tryz.func83,Tryz.ntmps83
 go_wp2
 exact⟨rfl,rfl,rfl⟩
theorem a2x(p:Value)(wrong:Bool)(code:Int)(a:Nat)(W:World):Cl 83 #[p,.bool wrong,vi code,vi (a:Nat)] W fun e W'=>W'=W/\((wrong=true/\e=.panicked (pan (flt code a)))\/(wrong=false/\e=.returned (.tuple #[]))):=by
 cases wrong with
 | true=>exact(a5k p code a W).mono fun e W' ⟨h1,h2⟩=>⟨h2,.inl ⟨rfl,h1⟩⟩
 | false=>exact(a8c p code _ W).mono fun e W' ⟨h1,h2⟩=>⟨h2,.inr ⟨rfl,h1⟩⟩
theorem d2g:(Tryz.prog.info? 175).map (fun i=>(i.zero,i.size,i.bytes))=some (some (.map none),1,8):=by kernel_rfl
theorem b0i(w0:World)(B:Nat)(u:Nd)(ub:Option Addr)(uc fm:Nat)(O:Nat->Prop)(sl:List Int)(bl:List (List Lc))(lv:Nat)(W:World)(h:Ck w0 B u ub uc fm O sl bl lv W)(hlen:bl.length<=100000):Cl 109 #[Po B 0] W fun e W'=>e=.returned (.tuple #[])/\∃O',Ck w0 B u ub uc fm O' sl ([]::bl) lv W'/\CK O W O' W':=by
 have x9:=q1z (Below.refl W.heap.size W) (.map #[] 0)
 have gM:=a0a W (.map #[] 0)
 obtain⟨Q,hQ⟩:=exq (W.heap.size)
 rw[hQ]at gM
 have hb:=q1z x9 (.cells #[mp Q] 175)
 have gQ:=a0a (W.alloc (.map #[] 0)) (.cells #[mp Q] 175)
 rw[World.size_alloc,hQ]at gQ
 replace gM:=q4z (.cells #[mp Q] 175) gM
 have z2:=CK.below (O:=O) hb
 have z7:=h.lt
 have o:=h.hO
 have x3:fm<Q:=by
  obtain⟨_,_,hf⟩:=h.hf
  rw[<- hQ]
  exact q5z hf
 replace h:=h.on hb
 obtain⟨V,hV⟩:=exq ((W.alloc (.map #[] 0)).alloc (.cells #[mp Q] 175))
 have x2:V.heap.size=Q+2:=by rw[<- hV,World.size_alloc,World.size_alloc,hQ]
 have y0:Bw W V:=hV▸hb
 rw[hV]at h gQ gM z2
 obtain⟨i0,y5,y9,z0,z1⟩:=info_parts d2g
 obtain⟨⟨sb,sc,bb,bc,ms,h1,h2,h3,h4,h5,h6,r,c⟩,hB,hO,⟨kv,f,hf⟩,hn,z4⟩:=h
 have c6:Ce W B 6 (.slice bb bl.length bc):=by
  have:=(y0.block B z7).symm.trans h1
  exact q2z this rfl
 have d6:Ce V B 6 (.slice bb bl.length bc):=q2z h1 rfl
 have f6:V.frozen? (Ad B 6)=false:=q6z h1
 have z9:some B≠Value.ownBlock (.slice bb bl.length bc):=fun e=>(r B e.symm).2.1 rfl
 have g:∀j x,[mp Q][j]?=some x->V.cell? ((Ad (Q+1) 0).add j)=some x:=fun j x n=>by
  match j,n with
  | 0,n=>cases n;simpa[Addr.add]using q2z (i:=0) gQ rfl
  | j+1,n=>simp at n
 have a:∀x∈[mp Q],x.oneCell'=true:=fun x n=>by simp at n;subst n;rfl
 have x6:bl.length+1<=maxLen:=by unfold maxLen;omega
 have y1:(bl.length+1)*8<=140737488355328:=by omega
 have y8:=z4.size
 have s:∀k,O k->k<Q:=fun k p=>hQ▸(o k p).2
 have x7:w0.heap.size<=Q:=by have:=(o B hB).1;have:=s B hB;omega
 have z3:Q≠B:=fun e=>by have:=s B hB;omega
 have x5:∀wx:World,(Instr.makeMap 175 none).run Tryz.prog wx=.ok (.map (some wx.heap.size)) (wx.alloc (.map #[] 0)):=fun wx=>by kernel_rfl
 replace o:Hid _:=o
 replace f:Hid _:=f
 go_enter Tryz.func109,Tryz.ntmps109
 go_wp2_with (at_builtin;refine wpList_append_lies _ (by rfl) _ _ _ (by rfl) w0.heap.size 175 i0 _ 1 8 Tryz.underlying109 y5 y9 z0 z1 rfl (by omega) (.slice bb bl.length bc) bl.length _ (by rfl) h3 (Ad (Q+1) 0) 1 1 [mp Q] (by rfl) (by rfl) g a (by omega) x6 y1 y8 _ rfl ?_;intro w v b l z t z8;have p1:=(z.block _ (q5z h1) z9).trans h1;have d6:Ce b B 6 (.slice bb bl.length bc):=q2z p1 rfl;have f6:b.frozen? (Ad B 6)=false:=q6z p1)
 have z5:w≠B:=by
  rcases t with e|e
  ·exact(r w e).2.1
  ·have:=q5z h1
   omega
 have y2:w0.heap.size<=w:=by
  rcases t with e|e
  ·exact(hO w (r w e).1).1
  ·omega
 have z6:O w\/V.heap.size<=w:=by
  rcases t with e|e
  ·exact .inl (r w e).1
  ·exact .inr (by omega)
 have y3:w≠Q:=fun e=>by
  rcases z6 with h|h
  ·have:=s _ h;omega
  ·omega
 have y4:w∉ms:=fun e=>by
  rcases t with e2|e2
  ·exact(r w e2).2.2.1 e
  ·have:=(hO w (c w e).1).2
   omega
 have y6:a0b O V b:=(a0b.grown z).mono (fun k _ e=>(r k e.symm).1)
 have d:=y6.set B 6 (.slice (some (Ad w 0)) (bl.length+1) v) (fun _=>hB)
 have x8:=q7z (i:=6) (.slice (some (Ad w 0)) (bl.length+1) v) p1
 have y7:(b.setCell (Ad B 6) (.slice (some (Ad w 0)) (bl.length+1) v)).heap.size=b.heap.size:=by simp
 have x4:=z.size
 go_end0
 refine⟨rfl,fun k=>O k\/k=Q\/k=w,⟨⟨sb,sc,some (Ad w 0),v,Q::ms,?_,?_,?_,?_,?_,?_,?_,?_⟩,.inl hB,?_,⟨kv,f.out,?_⟩,?_,?_⟩,z2.k.trans d,?_⟩
 ·exact x8
 ·refine a1c h2 (fun q e hq=>?_)
  exact(q8z _ _ (h6 q e).2.1).trans (z.block q hq (fun e4=>(r q e4.symm).2.2.2 e))
 ·have e:((Q::ms).reverse.map mp)=ms.reverse.map mp++[mp Q]:=by simp
  rw[e]
  exact a1c l (fun q e _=>by simp[Value.ownBlock]at e;subst e;exact q8z _ _ z5)
 ·refine⟨?_,h4.keep (fun m y=>?_)⟩
  ·refine(q8z _ _ z3).trans ((z.block Q (by omega) (fun e4=>?_)).trans gM)
   have:=s Q (r Q e4.symm).1
   omega
  ·exact(q8z _ _ (c m y).2).trans (z.block m (hO m (c m y).1).2 (fun e4=>(r m e4.symm).2.2.1 y))
 ·rw[List.nodup_cons]
  exact⟨fun y=>by have:=s Q (c Q y).1;omega,h5⟩
 ·intro q e
  obtain⟨e1,e2,e3⟩:=h6 q e
  refine⟨.inl e1,e2,fun y=>?_⟩
  rcases List.mem_cons.1 y with rfl|y
  ·have:=s _ e1;omega
  ·exact e3 y
 ·intro q e
  simp[Value.ownBlock]at e
  subst e
  refine⟨.inr (.inr rfl),z5,fun y=>?_,fun e5=>?_⟩
  ·rcases List.mem_cons.1 y with e6|y
   ·exact y3 e6
   ·exact y4 y
  ·rcases t with e6|e6
   ·exact(r _ e6).2.2.2 e5
   ·have:=a3g h2 e5
    omega
 ·intro m y
  rcases List.mem_cons.1 y with rfl|y
  ·exact⟨.inr (.inl rfl),z3⟩
  ·exact⟨.inl (c m y).1,(c m y).2⟩
 ·intro k p
  rw[y7]
  rcases p with p|rfl|rfl
  ·exact⟨(hO k p).1,Nat.lt_of_lt_of_le (hO k p).2 z.size⟩
  ·exact⟨x7,by omega⟩
  ·exact⟨y2,z8⟩
 ·exact d.box hf hn
 ·rintro(p|rfl|rfl)
  ·exact hn p
  ·omega
  ·rcases t with e|e
   ·exact hn (r _ e).1
   ·have:=q5z hf
    omega
 ·exact a4l z4 d (fun k h=>(hO k h).1)
 ·rintro k (p|rfl|rfl)
  ·exact .inl p
  ·exact .inr (by omega)
  ·rcases z6 with h|h
   ·exact .inl h
   ·exact .inr (by omega)
theorem d2h(n:Nat)(b:List Lc):(kvB n b).length=b.length:=by simp[kvB]
theorem c4a{α:Type}(kf:α->Value)(kv:List (α×Value)):(ents kf kv).size=kv.length:=by simp[ents]
theorem d2i{base T:Nat}{n d:Nat}{xs:List Value}(h:W.ownsRow base T 1 (.slice b n d) n xs){v:Value}(hv:xs[j]?=some v)(hj:j<n):∃g,b=some (Ad g 0)/\W.cell? (Ad g j)=some v/\n<=d:=by
 rcases h.2 with⟨e,t⟩|⟨g,cap,x,e,_,u,z,_,_,w⟩
 ·omega
 ·cases e
  refine⟨g,rfl,?_,z⟩
  rw[<- w,List.getElem?_take_of_lt (by omega)]at hv
  have y:x[j]?=some v:=by simpa using hv
  simp[World.cell?,u,y]
theorem Ck.live(h:Ck w0 B u ub uc fm O sl bl lv W)(l:Nat):Ck w0 B u ub uc fm O sl bl l (W.setCell (Ad B 7) (vi (l:Nat)))/\CK O W O (W.setCell (Ad B 7) (vi (l:Nat))):=by
 obtain⟨⟨sb,r,bb,f,q,h1,h2,h3,h4,h5,s,t,v⟩,hB,hO,⟨kv,x,hf⟩,hn,w⟩:=h
 have y:a0b O W (W.setCell (Ad B 7) (vi (l:Nat))):=(a0b.refl O W).set B 7 _ (fun _=>hB)
 have z:∀p,p≠B->(W.setCell (Ad B 7) (vi (l:Nat))).heap[p]?=W.heap[p]?:=fun p n=>q8z _ _ n
 have o:(W.setCell (Ad B 7) (vi (l:Nat))).heap.size=W.heap.size:=by simp
 exact⟨⟨⟨sb,r,bb,f,q,q7z (i:=7) _ h1,a1c h2 (fun p e _=>z p (s p e).2.1),a1c h3 (fun p e _=>z p (t p e).2.1),h4.keep (fun m g=>z m (v m g).2),h5,s,t,v⟩,hB,fun k y=>⟨(hO k y).1,by rw[o];exact(hO k y).2⟩,⟨kv,x,y.box hf hn⟩,hn,a4l w y (fun k h=>(hO k h).1)⟩,y,fun _=>.inl⟩
theorem Ck.top{b:List Lc}{r:List (List Lc)}(h:Ck w0 B u ub uc fm O sl (b::r) lv W):∃y v q,W.cell? (Ad B 6)=some (.slice (some (Ad y 0)) (r.length+1) v)/\W.frozen? (Ad B 6)=false/\r.length+1<=v/\y≠B/\W.cell? (Ad y r.length)=some (mp q)/\q≠B/\q≠y/\O q/\W.heap[q]?=some (a0f sk (kvB (sumL r) b)) /\
  (Ck w0 B u ub uc fm O sl r lv (W.setCell (Ad B 6) (.slice (some (Ad y 0)) r.length v))/\CK O W O (W.setCell (Ad B 6) (.slice (some (Ad y 0)) r.length v))) /\
  (∀x:Lc,Ck w0 B u ub uc fm O sl ((b++[x])::r) lv ({ W with heap:=W.heap.setIfInBounds q (a0f sk (kvB (sumL r) b++[(x.nm,lcv (sumL (b::r)) x.fx)])) } : World)/\CK O W O ({ W with heap:=W.heap.setIfInBounds q (a0f sk (kvB (sumL r) b++[(x.nm,lcv (sumL (b::r)) x.fx)])) } : World)):=by
 obtain⟨⟨sb,sc,bb,v,d,h1,h2,h3,h4,h5,c,h7,h8⟩,hB,hO,⟨kv,z5,hf⟩,hn,z3⟩:=h
 match d,h4 with
 | q::d,h4 =>
 have z8:=h4.2.len
 have n:((q::d).reverse.map mp)[r.length]?=some (mp q):=by
  simp only[List.reverse_cons,List.map_append,List.map_cons,List.map_nil]
  rw[List.getElem?_append_right (by simp;omega)]
  simp[z8]
 obtain⟨y,rfl,hc,t⟩:=d2i h3 n (by simp)
 obtain⟨y6,l,z4,y7⟩:=h7 y rfl
 obtain⟨z2,z9⟩:=h8 q (by simp)
 have z0:q≠y:=fun e=>z4 (by simp[e])
 refine⟨y,v,q,q2z h1 rfl,q6z h1,by simpa using t,l,hc,z9,z0,z2,h4.1,?_,fun x=>?_⟩
 ·have w:a0b O W (W.setCell (Ad B 6) (.slice (some (Ad y 0)) r.length v)):=(a0b.refl O W).set B 6 _ (fun _=>hB)
  have z:∀p,p≠B->(W.setCell (Ad B 6) (.slice (some (Ad y 0)) r.length v)).heap[p]?=W.heap[p]?:=fun p hp=>q8z _ _ hp
  have hs:(W.setCell (Ad B 6) (.slice (some (Ad y 0)) r.length v)).heap.size=W.heap.size:=by simp
  refine⟨⟨⟨sb,sc,some (Ad y 0),v,d,q7z (i:=6) _ h1,a1c h2 (fun p e _=>z p (c p e).2.1),?_,h4.2.keep (fun m o=>z m (h8 m (by simp[o])).2),(List.nodup_cons.1 h5).2,fun p e=>⟨(c p e).1,(c p e).2.1,fun o=>(c p e).2.2 (by simp[o])⟩,fun p e=>?_,fun m o=>h8 m (by simp[o])⟩,hB,fun k w=>⟨(hO k w).1,by rw[hs];exact(hO k w).2⟩,⟨kv,z5,w.box hf hn⟩,hn,a4l z3 w (fun k h=>(hO k h).1)⟩,w,fun _=>.inl⟩
  ·have y5:W.ownsRow w0.heap.size 175 1 (.slice (some (Ad y 0)) r.length v) r.length (d.reverse.map mp):=by
    refine⟨by simp[z8],?_⟩
    rcases h3.2 with⟨e,h0⟩|⟨g,cap,y4,e,f,hg,t,z7,z1,ht⟩
    ·simp at h0
    ·cases e
     refine .inr ⟨y,v,y4,rfl,f,hg,by simp at t;omega,z7,z1,?_⟩
     have a:=congrArg (List.take (r.length*1)) ht
     rw[List.take_take,Nat.min_eq_left (by simp)]at a
     rw[a]
     simp only[List.reverse_cons,List.map_append,List.map_cons,List.map_nil]
     rw[List.take_append_of_le_length (by simp;omega)]
     exact List.take_of_length_le (by simp;omega)
   exact a1c y5 (fun p e _=>by simp[Value.ownBlock]at e;subst e;exact z _ l)
  ·simp[Value.ownBlock]at e
   subst e
   exact⟨y6,l,fun o=>z4 (by simp[o]),y7⟩
 ·have z6:kvB (sumL r) b++[(x.nm,lcv (sumL (b::r)) x.fx)]=kvB (sumL r) (b++[x]):=by
   rw[a0l,Nat.add_comm]
   simp[kvB,List.mapIdx_append]
  rw[z6]
  obtain⟨W1,s⟩:∃W1:World,{ W with heap:=W.heap.setIfInBounds q (a0f sk (kvB (sumL r) (b++[x]))) }=W1:=⟨_,rfl⟩
  have w:a0b O W W1:=by
   rw[<- s]
   exact⟨rfl,rfl,rfl,by simp,fun k w hs=>by
    have:k≠q:=fun e=>hs (e▸z2)
    simp[Ne.symm this]⟩
  have y9:W1.heap[q]?=some (a0f sk (kvB (sumL r) (b++[x]))):=by
   rw[<- s]
   simp[q5z h4.1]
  have z:∀p,p≠q->W1.heap[p]?=W.heap[p]?:=fun p y8=>by rw[<- s];simp[Ne.symm y8]
  rw[s]
  have hs:W1.heap.size=W.heap.size:=by rw[<- s];simp
  exact⟨⟨⟨sb,sc,some (Ad y 0),v,q::d,(z B (Ne.symm z9)).trans h1,a1c h2 (fun p e _=>z p (fun a=>(c p e).2.2 (by simp[a]))),a1c h3 (fun p e _=>z p (fun a=>(h7 p e).2.2.1 (by simp[a]))),⟨y9,h4.2.keep (fun m o=>z m (fun e=>(List.nodup_cons.1 h5).1 (e▸o)))⟩,h5,c,h7,h8⟩,hB,fun k w=>⟨(hO k w).1,by rw[hs];exact(hO k w).2⟩,⟨kv,z5,w.box hf hn⟩,hn,a4l z3 w (fun k h=>(hO k h).1)⟩,w,fun _=>.inl⟩
theorem b6i(w0:World)(B:Nat)(u:Nd)(ub:Option Addr)(uc fm:Nat)(O:Nat->Prop)(sl:List Int)(b:List Lc)(r:List (List Lc))(lv:Nat)(W:World)(h:Ck w0 B u ub uc fm O sl (b::r) lv W)(hr:r.length<=100000)(hlv:lv<=100000)(hlv2:lv=sumL (b::r)):Cl 113 #[Po B 0] W fun e W'=>e=.returned (.tuple #[])/\Ck w0 B u ub uc fm O sl r (sumL r) W'/\CK O W O W':=by
 have o:Bw W W.drew:=bz0.drew
 have z6:=CK.below (O:=O) o
 have z9:=h.cells
 replace h:=h.on o
 obtain⟨hL,l⟩:=h.live (sumL r)
 obtain⟨gb,f,q,c6,f6,p,y2,hc,y7,y8,y0,hq,_,_⟩:=h.top
 obtain⟨x9,x7,q2,g,z5,z8,z0,y1,z2,z3,y9,y6,⟨x,z⟩,_⟩:=hL.top
 have ec:(W.drew.setCell (Ad B 7) (vi (sumL r:Nat))).cell? (Ad B 6)=W.drew.cell? (Ad B 6):=by
  obtain⟨⟨sb,sc,bb,f,ms,h1,_⟩,_⟩:=h
  exact(q2z (i:=6) (v:=.slice bb (b::r).length f) (q7z (i:=7) _ h1) rfl).trans (q2z (i:=6) h1 rfl).symm
 rw[ec,c6]at g
 cases g
 have z4:W.cell? (Ad B 6)=some (.slice (some (Ad gb 0)) (r.length+1) f):=c6
 have z7:W.cell? (Ad gb r.length)=some (mp q):=hc
 have x8:W.frozen? (Ad B 6)=false:=f6
 obtain⟨_,_,c7,f7⟩:=z9
 obtain⟨w,y⟩:=exq (ents sk (kvB (sumL r) b))
 obtain⟨ck,s⟩:=exq ((kvB (sumL r) b).length)
 have a:W.heap[q]?=some (.map w ck):=by
  have:W.heap[q]?=some (a0f sk (kvB (sumL r) b)):=hq
  rw[this,a0f,y,s]
 have t:w.size=b.length:=by rw[<- y,c4a,d2h]
 obtain⟨n,hn⟩:=exq (r.length)
 obtain⟨d,c⟩:=exq (sumL r)
 rw[a0l]at hlv2
 rw[c]at hlv2 z5 x z hL l⊢
 rw[hn]at c6 z4 hc z7 hr p x z
 have hw:IntKind.i64.wrap ((lv:Int)-(w.size:Int))=(d:Int):=by rw[t,IntKind.wrap_i64];omega
 clear t hlv2
 have y4:(n:Int)<=(f:Int):=by omega
 have y3:(0:Int)<=(n:Int):=by omega
 have y5:(n:Int)<((n+1:Nat):Int):=by omega
 have z1:(Builtin.len_ #[175] 3 #[.map (some q)]).run Tryz.prog W.drew=.ok (goInt w.size) W.drew:=run_len_map (P:=Tryz.prog) W.drew 175 3 q w ck (by kernel_rfl) a
 clear y s hq
 go_enter Tryz.func113,Tryz.ntmps113
 go_wp2
 go_region_with (fail)
 all_goals
  go_wp2
  go_end0
  exact⟨rfl,x,z6.trans (l.trans z)⟩
theorem b2r(n:Nat)(s:List UInt8):∀(b:List Lc),(kvB n b).lookup s=(b.findIdx? (fun x=>x.nm == s)).map fun i=>lcv (n+i) ((b[i]?.map Lc.fx).getD false):=by
 intro b
 induction b generalizing n with
 | nil=>rfl
 | cons x l ih =>
  have e:kvB n (x::l)=(x.nm,lcv n x.fx)::kvB (n+1) l:=by
   simp only[kvB,List.mapIdx_cons,Nat.add_zero]
   congr 1
   apply List.ext_getElem?
   intro i
   simp only[List.getElem?_mapIdx]
   cases l[i]? with
   | none=>rfl
   | some y=>simp[Nat.add_assoc,Nat.add_comm 1 i]
  rw[e,List.lookup_cons,List.findIdx?_cons]
  by_cases hx:x.nm=s
  ·subst hx
   simp
  ·have h1:(s == x.nm)=false:=by simpa using fun h=>hx h.symm
   have h2:(x.nm == s)=false:=by simpa using hx
   rw[h1,h2,ih]
   simp only[Bool.false_eq_true,if_false]
   cases hf:l.findIdx? (fun x=>x.nm == s) with
   | none=>rfl
   | some i=>simp[Nat.add_assoc,Nat.add_comm 1 i]
theorem b7w(n:Nat)(b:List Lc):(kvB n b).map (·.1)=b.map Lc.nm:=by
 apply List.ext_getElem?
 intro i
 simp only[kvB,List.getElem?_map,List.getElem?_mapIdx]
 cases b[i]? <;> rfl
def b0v (s:List UInt8) (bl:List (List Lc)):Value:=match findL s bl with
 | some p=>.tuple #[lcv p.1 p.2,.bool true]
 | none=>.tuple #[lcv 0 false,.bool false]
end Go.Proofs.YtomniogfpfbolaaGreatDoor
