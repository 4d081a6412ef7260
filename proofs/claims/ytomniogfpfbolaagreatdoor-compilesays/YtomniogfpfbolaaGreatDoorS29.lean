import Derived.Test.YtomniogfpfbolaaGreatDoorS28
namespace Go.Proofs.YtomniogfpfbolaaGreatDoor
open Go.RowKit Go
set_option maxRecDepth 100000
set_option maxHeartbeats 8000000
set_option linter.all false
variable {S:Nat->Prop} {B t uc lc g:Nat} {W W' w0 V:World} {u:Nd} {ub:Option Addr} {sl:List Int} {ls:List Ld} {c a:Int} {st:Bool}
def SA (S:Nat->Prop) (B:Nat) (W:World):Prop:=∀g,S g->g<W.heap.size/\ApL B W g
theorem SA.on(h:SA S B W)(k:LK B W W'):SA S B W'/\∀g,S g->W'.heap[g]?=W.heap[g]?:=by
 refine⟨fun g z=>?_,fun g z=>?_⟩
 ·obtain⟨h1,h2⟩:=h g z
  obtain⟨h3,h4⟩:=k g _ h2 (Array.getElem?_eq_getElem h1)
  exact⟨q5z h3,h4⟩
 ·obtain⟨h1,h2⟩:=h g z
  obtain⟨h3,h4⟩:=k g _ h2 (Array.getElem?_eq_getElem h1)
  rw[h3,Array.getElem?_eq_getElem h1]
theorem KA.lk{w w':World}{b:Option Addr}{cap:Nat}{ks:List Nd}(h:KA S w b cap ks)(hs:SA S B w)(k:LK B w w'):KA S w' b cap ks:=h.on fun g z _=>(hs.on k).2 g z
theorem ApL.below(ha:ApL B W t)(hB:B<W.heap.size)(hb:Bw W W'):ApL B W' t:=⟨ha.1,fun q r s u v w x y z p=>ha.2 q r s u v w x y z ((hb.block B hB).symm.trans p)⟩
theorem Lo.ap(h:Lo w0 B u ub uc sl ls c a st W)(ht:W.heap.size<=t):ApL B W t:=by
 have r:=h.lt
 obtain⟨⟨sb,w,lb,v,h1,h2,h3,h4,h5⟩,b,d⟩:=h
 refine⟨by omega,fun f g i l x y n o p s=>?_⟩
 have z:=h1.symm.trans s
 have q:Value.slice sb sl.length w=x/\Value.slice lb ls.length v=y:=by
  simp at z
  exact⟨z.2.2.2.2.1,z.2.2.2.2.2.1⟩
 obtain⟨rfl,rfl⟩:=q
 exact⟨fun e=>by have:=a3g h2 e;omega,fun e=>by have:=a3g h3 e;omega⟩
theorem Lo.slot(h:Lo w0 B u ub uc sl ls c a st W){j:Nat}(hj:j<sl.length):∃g y,W.cell? (Ad B 4)=some (.slice (some (Ad g 0)) sl.length y)/\(∃x,W.cell? (Ad g j)=some (vi x))/\W.frozen? (Ad g j)=false /\
  ∀v,Lo w0 B u ub uc (sl.set j v) ls c a st (W.setCell (Ad g j) (iv v))/\LK B W (W.setCell (Ad g j) (iv v)):=by
 obtain⟨⟨sb,y,lb,lc,h1,h2,h3,h4,h5⟩,h6,h7⟩:=h
 obtain⟨z8,z9⟩:=h2
 rcases z9 with⟨e,h0⟩|⟨g,cap,n,e,z,hg,s,w,f,ht⟩
 ·omega
 cases e
 have d:g≠B:=(h4 g rfl).2
 have hc:n[j]?=some (iv sl[j]):=by
  have e1:(n.toList.take (sl.length*1))[j]?=(sl.map iv)[j]?:=by rw[ht]
  rw[List.getElem?_take_of_lt (by omega)]at e1
  simpa[hj]using e1
 refine⟨g,y,q2z h1 rfl,⟨sl[j],q2z hg hc⟩,q6z hg,fun v=>?_⟩
 have b:=q7z (i:=j) (iv v) hg
 have r:(W.setCell (Ad g j) (iv v)).heap[B]?=W.heap[B]?:=q8z _ _ (Ne.symm d)
 refine⟨⟨⟨some (Ad g 0),y,lb,lc,?_,?_,?_,?_,?_⟩,?_,h7⟩,?_⟩
 ·rw[List.length_set]
  exact r.trans h1
 ·rw[List.length_set]
  refine⟨by simp,.inr ⟨g,y,_,rfl,z,b,s,w,by simpa using f,?_⟩⟩
  rw[Array.toList_setIfInBounds,List.take_set,ht,List.map_set]
 ·exact a1c h3 (fun q e _=>q8z _ _ (fun e2=>(h5 q e).2.2 (by rw[e2];rfl)))
 ·rw[List.length_set]
  exact h4
 ·rw[List.length_set]
  exact h5
 ·exact h6.setCell (p:=(Ad g j)) (h4 g rfl).1 _
 ·intro t o ha ho
  have l:t≠g:=fun e=>(ha.2 _ _ _ _ _ _ _ _ _ h1).1 (by rw[e];rfl)
  refine⟨(q8z _ _ l).trans ho,ha.1,fun v0 v1 v2 v3 v4 v5 v6 v7 v8 hv=>ha.2 v0 v1 v2 v3 v4 v5 v6 v7 v8 (r.symm.trans hv)⟩
structure XQ (w0:World) (B:Nat) (u:Nd) (ub:Option Addr) (uc:Nat) (bl:List (List Lc)) (c a:Int) (s0 m:Nat) (R:CR) (W:World) (e:Ending) (W':World):Prop where
 e:e=.returned (.tuple #[])
 k:LK B W W'
 r:(∃sl',R=.ok ⟨sl',bl⟩/\s0<sl'.length/\sl'.length<=s0+m/\Lo w0 B u ub uc sl' (a0h bl) c a false W')\/(∃cd at_ sl',R=.error (cd,at_)/\s0<sl'.length/\sl'.length<=s0+m/\Lo w0 B u ub uc sl' (a0h bl) cd (at_:Nat) true W')
def XC (n:Nd):Prop:=∀(w0:World) (B:Nat) (u:Nd) (ub:Option Addr) (uc:Nat) (sl:List Int) (bl:List (List Lc)) (c a:Int) (S:Nat->Prop) (b:Option Addr) (cap:Nat) (W:World),Lo w0 B u ub uc sl (a0h bl) c a false W->KA S W ub uc u.kids->NdV S W n (ndv n b cap)->SA S B W->sl.length+manyN n<=100000->sumL bl<=100000->u.kids.length<=100000->NB bl->Cl 74 #[Po B 0,ndv n b cap] W (XQ w0 B u ub uc bl c a sl.length (manyN n) (visC (u.kids.map Nd.t) false n ⟨sl,bl⟩) W)
def XI (w0:World) (B:Nat) (u:Nd) (ub:Option Addr) (uc:Nat) (bl:List (List Lc)) (c a:Int) (S:Nat->Prop) (n:Nd) (b:Option Addr) (cap:Nat) (W:World) (t M s0:Nat) (R:CR) (j:Nat) (wr:World):Prop :=
 wr.heap[t]?=some (nbx n b cap)/\ApL B wr t/\LK B W wr/\SA S B wr/\KA S wr ub uc u.kids/\KA S wr b cap n.kids /\
 ((∃sl',visC.go (u.kids.map Nd.t) n.k n.t s0 j (n.kids.drop j) ⟨sl',bl⟩=R/\s0<sl'.length/\sl'.length+manyN.go (n.kids.drop j)<=M/\Lo w0 B u ub uc sl' (a0h bl) c a false wr)\/(∃cd at_ sl',R=.error (cd,at_)/\s0<sl'.length/\sl'.length<=M/\Lo w0 B u ub uc sl' (a0h bl) cd (at_:Nat) true wr))
theorem c4b(k0:Int)(t0:List UInt8)(n0:Int)(ks:List Nd)(hk:a1i k0)(h18:k0≠18)(ih:∀y∈ks,XC y):XC ⟨k0,t0,n0,ks⟩:=by
 intro w0 B u ub uc sl bl c a S b cap W hLo hKu hN hSA hM hbl hul hNB
 have hKn:=KA.of hN
 have hd:visC (u.kids.map Nd.t) false ⟨k0,t0,n0,ks⟩ ⟨sl,bl⟩=(visC.go (u.kids.map Nd.t) k0 t0 sl.length 0 ks ⟨sl++[-1],bl⟩).bind (fun c'=>if k0=21/\6<ks.length then .error (1,sl.length) else .ok c'):=by
  rw[visC]
  unfold a1i at hk
  rw[if_neg (by omega)]
  show Except.bind _ _=_
  congr 1
  funext c'
  rw[if_neg (by omega),actC,if_neg (by omega),if_neg h18,if_neg (by omega)]
  by_cases h21:k0=21
  ·simp[h21]
  ·simp[h21]
 have hms:manyN ⟨k0,t0,n0,ks⟩=manyN.go ks+1:=rfl
 rw[hd]
 obtain⟨R,hR⟩:=exq (visC.go (u.kids.map Nd.t) k0 t0 sl.length 0 ks ⟨sl++[-1],bl⟩)
 obtain⟨M,hMd⟩:=exq (manyN ⟨k0,t0,n0,ks⟩)
 rw[hR,hMd]
 rw[hMd]at hM hms
 obtain⟨s0,hs0⟩:=exq (sl.length)
 have hb0:=q1z (Below.refl W.heap.size W) (nbx ⟨k0,t0,n0,ks⟩ b cap)
 have g0:=a0a W (nbx ⟨k0,t0,n0,ks⟩ b cap)
 have ha0:=(hLo.ap (Nat.le_refl _)).below hLo.lt hb0
 have hlk0:=LK.below hLo.lt hb0
 have hLo1:=hLo.on hb0
 have hnum:=fun V (h:Lo w0 B u ub uc sl (a0h bl) c a false V)=>number_any w0 B u ub uc sl (a0h bl) c a false V h (by omega)
 have hall:=a1g ks
 obtain⟨t,ht⟩:=exq (W.heap.size)
 rw[ht]at g0 ha0
 rw[hs0]at hnum hR hM⊢
 replace hR:Hid _:=hR
 replace ih:Hid (∀y∈ks,XC y):=ih
 have hkk:Hid (a1i k0):=hk
 go_enter Tryz.func74,Tryz.ntmps74
 go_wp2_with (go_at_call 11;refine(hnum _ hLo1).mono ?_;rintro e w1 ⟨rfl,hL1,hk1⟩)
 clear hnum hLo1 hLo hN
 have hSA1:=(hSA.on (hlk0.trans hk1))
 have hI:XI w0 B u ub uc bl c a S ⟨k0,t0,n0,ks⟩ b cap W t (s0+M) s0 R 0 w1:=by
  obtain⟨q1,q2⟩:=hk1 t _ ha0 g0
  exact⟨q1,q2,hlk0.trans hk1,hSA1.1,hKu.lk hSA (hlk0.trans hk1),hKn.lk hSA (hlk0.trans hk1),.inl ⟨sl++[-1],hR.out,by simp;omega,by simp;omega,hL1⟩⟩
 clear hSA1 hL1 hk1 ha0 g0 hb0 hlk0 hKu hKn hSA
 go_loopw [5] (fun ix wr=>∃j:Nat,j<=ks.length/\ix=vi (j:Nat)/\XI w0 B u ub uc bl c a S ⟨k0,t0,n0,ks⟩ b cap W t (s0+M) s0 R j wr) (fun ix _=>ks.length-(intOf ix).toNat)
 case atStart=>exact⟨0,Nat.zero_le _,rfl,hI⟩
 case round =>
  obtain⟨j,hj,rfl,g,ha,hlk,hS1,hKu,hKn,hst⟩:=hrel
  clear hI
  simp only at hKn hst
  obtain⟨q0,q1,q2,q3,_,_,_,_⟩:=in4 g
  simp only at q0 q1 q2 q3
  have e18:(k0 == 18)=false:=by simpa using h18
  rcases hst with⟨sl',hgo,hs1,hs2,hLo⟩|⟨cd,at_,sl',hRe,hs1,hs2,hLo⟩
  ·obtain⟨c8,_,_,_,_,_⟩:=hLo.cells
   by_cases hlt:j<ks.length
   ·have hlt':(j:Int)<(ks.length:Int):=by omega
    obtain⟨y,hy⟩:∃y,ks[j]?=some y:=⟨_,List.getElem?_eq_getElem hlt⟩
    obtain⟨g',off,b',cap',rfl,v0,v1,v2,v3,hyV⟩:=KA.at hKn hy
    have hdr:ks.drop j=y::ks.drop (j+1):=by rw[List.drop_eq_getElem_cons hlt];congr 1;exact(List.getElem?_eq_some_iff.1 hy).2
    have hcall:=ih.out y (List.mem_of_getElem? hy) w0 B u ub uc sl' bl c a S b' cap' wr hLo hKu hyV hS1 (by rw[hdr]at hs2;simp only[manyN.go]at hs2;omega) hbl hul hNB
    replace hgo:Hid _:=hgo
    replace hs2:Hid _:=hs2
    replace hdr:Hid (ks.drop j=y::ks.drop (j+1)):=hdr
    clear hy
    go_wp2_with (go_at_call 74;refine hcall.mono ?_;rintro e w2 ⟨rfl,hk2,hr2⟩)
    go_roundw
    case rel =>
     obtain⟨g2,ha2⟩:=hk2 t _ ha g
     refine⟨j+1,by omega,by go_num,g2,ha2,hlk.trans hk2,(hS1.on hk2).1,hKu.lk hS1 hk2,hKn.lk hS1 hk2,?_⟩
     have hgo':=hgo.out
     have hs2':=hs2.out
     rw[hdr.out]at hgo' hs2'
     simp only[manyN.go]at hs2'
     rw[visC.go,if_neg (by have:=hkk.out;unfold a1i at this;omega)]at hgo'
     rcases hr2 with⟨sl2,e2,p1,p2,p3⟩|⟨cd,at_,sl2,e2,p1,p2,p3⟩
     ·rw[e2]at hgo'
      exact .inl ⟨sl2,hgo',by omega,by simp only;omega,p3⟩
     ·rw[e2]at hgo'
      exact .inr ⟨cd,at_,sl2,hgo'.symm,by omega,by omega,p3⟩
    case measure=>simp[intOf];omega
   ·have hlt':¬(j:Int)<(ks.length:Int):=by omega
    have hRo:R=.ok ⟨sl',bl⟩:=by
     rw[<- hgo,List.drop_eq_nil_of_le (by omega),visC.go]
    subst hRo
    by_cases h21:k0=21
    ·subst h21
     by_cases h6:ks.length<=6
     ·have h6':(ks.length:Int)<=6:=by omega
      have hun:=a0q w0 B u ub uc sl' (a0h bl) c a false true 1 (s0:Nat) wr hLo
      clear hgo
      go_wp2_with (go_at_call 14;refine hun.mono ?_;rintro e w2 ⟨rfl,hL2,hk2⟩)
      go_end0
      exact⟨rfl,hlk.trans hk2,.inl ⟨sl',by simp[Except.bind],by omega,by omega,hL2⟩⟩
     ·have h6':¬(ks.length:Int)<=6:=by omega
      have hun:=a0q w0 B u ub uc sl' (a0h bl) c a false false 1 (s0:Nat) wr hLo
      clear hgo
      go_wp2_with (go_at_call 14;refine hun.mono ?_;rintro e w2 ⟨rfl,hL2,hk2⟩)
      go_end0
      exact⟨rfl,hlk.trans hk2,.inr ⟨1,s0,sl',by simp[Except.bind],by omega,by omega,hL2⟩⟩
    ·have e21:(k0 == 21)=false:=by simpa using h21
     clear hgo
     go_wp2
     go_end0
     exact⟨rfl,hlk,.inl ⟨sl',by simp[Except.bind],by omega,by omega,hLo⟩⟩
  ·obtain⟨c8,_,_,_,_,_⟩:=hLo.cells
   subst hRe
   by_cases h21:k0=21
   ·subst h21
    have hun:=fun q=>a0q w0 B u ub uc sl' (a0h bl) cd (at_:Nat) true q 1 (s0:Nat) wr hLo
    have hul2:∀q,unl q 1 (s0:Nat) (cd,((at_:Nat):Int),true)=(cd,((at_:Nat):Int),true):=fun q=>by simp[unl]
    simp only[hul2]at hun
    clear hul2
    by_cases h6:ks.length<=6
    ·have h6':(ks.length:Int)<=6:=by omega
     by_cases hlt:j<ks.length
     ·have hlt':(j:Int)<(ks.length:Int):=by omega
      go_wp2_with (go_at_call 14;refine(hun _).mono ?_;rintro e w2 ⟨rfl,hL2,hk2⟩)
      go_end0
      exact⟨rfl,hlk.trans hk2,.inr ⟨cd,at_,sl',rfl,by omega,by omega,hL2⟩⟩
     ·have hlt':¬(j:Int)<(ks.length:Int):=by omega
      go_wp2_with (go_at_call 14;refine(hun _).mono ?_;rintro e w2 ⟨rfl,hL2,hk2⟩)
      go_end0
      exact⟨rfl,hlk.trans hk2,.inr ⟨cd,at_,sl',rfl,by omega,by omega,hL2⟩⟩
    ·have h6':¬(ks.length:Int)<=6:=by omega
     by_cases hlt:j<ks.length
     ·have hlt':(j:Int)<(ks.length:Int):=by omega
      go_wp2_with (go_at_call 14;refine(hun _).mono ?_;rintro e w2 ⟨rfl,hL2,hk2⟩)
      go_end0
      exact⟨rfl,hlk.trans hk2,.inr ⟨cd,at_,sl',rfl,by omega,by omega,hL2⟩⟩
     ·have hlt':¬(j:Int)<(ks.length:Int):=by omega
      go_wp2_with (go_at_call 14;refine(hun _).mono ?_;rintro e w2 ⟨rfl,hL2,hk2⟩)
      go_end0
      exact⟨rfl,hlk.trans hk2,.inr ⟨cd,at_,sl',rfl,by omega,by omega,hL2⟩⟩
   ·have e21:(k0 == 21)=false:=by simpa using h21
    by_cases hlt:j<ks.length
    ·have hlt':(j:Int)<(ks.length:Int):=by omega
     go_wp2
     go_end0
     exact⟨rfl,hlk,.inr ⟨cd,at_,sl',rfl,by omega,by omega,hLo⟩⟩
    ·have hlt':¬(j:Int)<(ks.length:Int):=by omega
     go_wp2
     go_end0
     exact⟨rfl,hlk,.inr ⟨cd,at_,sl',rfl,by omega,by omega,hLo⟩⟩
theorem b2s{bl:List (List Lc)}(hN:NB bl)(s:List UInt8):b2h s (a0h bl)=match findL s bl with|some p=>((p.1:Nat):Int)|none=>-1:=by
 cases h:findL s bl with
 | none=>rw[b2h,a6v (b0z h)]
 | some p =>
  obtain⟨i,fx⟩:=p
  obtain⟨⟨d,h1⟩,h2⟩:=a8j hN h
  rw[b2h,a8q h1 rfl h2]
theorem d2j(ks:List Nd)(s:List UInt8):funV ks s=match funI (ks.map Nd.t) s with|some j=>((j:Nat):Int)|none=>-1:=by
 unfold funV
 cases funI (ks.map Nd.t) s <;> rfl
theorem c4c(t0:List UInt8)(n0:Int):XC ⟨18,t0,n0,[]⟩:=by
 intro w0 B u ub uc sl bl c a S b cap W hLo hKu hN hSA hM hbl hul hNB
 have hd:visC (u.kids.map Nd.t) false ⟨18,t0,n0,[]⟩ ⟨sl,bl⟩=a4a (u.kids.map Nd.t) t0 sl.length ⟨sl++[-1],bl⟩:=by
  rw[visC,if_neg (by omega)]
  rw[visC.go]
  simp only[Except.bind]
  rw[if_neg (by omega),actC,if_neg (by omega),if_pos rfl]
  rfl
 have hms:manyN ⟨18,t0,n0,[]⟩=1:=rfl
 rw[hd,hms]
 rw[hms]at hM
 have hlv:=b2s hNB t0
 have hfv:=d2j u.kids t0
 have hlb:(a0h bl).length<=100000:=by rw[a2i];exact hbl
 obtain⟨s0,hs0⟩:=exq (sl.length)
 have hb0:=q1z (Below.refl W.heap.size W) (nbx ⟨18,t0,n0,[]⟩ b cap)
 have g0:=a0a W (nbx ⟨18,t0,n0,[]⟩ b cap)
 have ha0:=(hLo.ap (Nat.le_refl _)).below hLo.lt hb0
 have hlk0:=LK.below hLo.lt hb0
 have hLo1:=hLo.on hb0
 have hnum:=fun V (h:Lo w0 B u ub uc sl (a0h bl) c a false V)=>number_any w0 B u ub uc sl (a0h bl) c a false V h (by omega)
 have hloc:=fun V (h:Lo w0 B u ub uc (sl++[-1]) (a0h bl) c a false V)=>a7y w0 B u ub uc (sl++[-1]) (a0h bl) c a false t0 V h hlb
 have hfun:=fun V (h:Lo w0 B u ub uc (sl++[-1]) (a0h bl) c a false V) (hk:KA S V ub uc u.kids)=>b2q w0 B u ub uc (sl++[-1]) (a0h bl) c a false t0 S V h hk hul
 have hun:=fun q V (h:Lo w0 B u ub uc (sl++[-1]) (a0h bl) c a false V)=>a0q w0 B u ub uc (sl++[-1]) (a0h bl) c a false q 4 (s0:Nat) V h
 obtain⟨t,ht⟩:=exq (W.heap.size)
 rw[ht]at g0 ha0
 rw[hs0]at hnum hM⊢
 have hlen:s0<(sl++[-1]).length:=by simp;omega
 have hlen2:(sl++[-1]).length=s0+1:=by simp;omega
 rw[hlv]at hloc
 rw[hfv]at hfun
 clear hlv hfv hd
 replace hs0:Hid _:=hs0
 cases hf:findL t0 bl with
 | some p =>
  obtain⟨i,fx⟩:=p
  rw[hf]at hloc
  simp only at hloc
  obtain⟨fv,hfv⟩:∃fv:Int,(match funI (u.kids.map Nd.t) t0 with|some j=>((j:Nat):Int)|none=>-1)=fv:=⟨_,rfl⟩
  rw[hfv]at hfun
  replace hfv:Hid _:=hfv
  have hi0:(0:Int)<=((i:Nat):Int):=by omega
  have hi1:¬((i:Nat):Int)<0:=by omega
  have hres:Hid (a4a (u.kids.map Nd.t) t0 s0 ⟨sl++[-1],bl⟩=.ok ⟨(sl++[-1]).set s0 (i:Nat),bl⟩):=by
   show a4a _ _ _ _=_
   rw[a4a]
   simp only[hf]
   rfl
  clear hf
  go_enter Tryz.func74,Tryz.ntmps74
  go_wp2_with (go_at_call 11;refine(hnum _ hLo1).mono ?_;rintro e w1 ⟨rfl,hL1,hk1⟩)
  have hlk:=hlk0.trans hk1
  have hKu1:=hKu.lk hSA hlk
  obtain⟨gt,at1⟩:=hk1 t _ ha0 g0
  obtain⟨q0,q1,q2,q3,_,_,_,_⟩:=in4 gt
  obtain⟨c8,_,_,_,_,_⟩:=hL1.cells
  simp only[List.length_nil]at q0 q1 q2 q3
  clear hnum hLo1 hlk0 hKu hSA g0 ha0 hb0 hLo hN
  go_loopw [5] (fun ix wr=>ix=vi 0/\wr=w1) (fun _ _=>0)
  case atStart=>exact⟨rfl,rfl⟩
  case round =>
  obtain⟨rfl,rfl⟩:=hrel
  go_wp2_with (first|(go_at_call 32;refine(hloc _ hL1).mono ?_;rintro e w2 ⟨rfl,rfl⟩)|(go_at_call 13;refine(hfun _ hL1 hKu1).mono ?_;rintro e w2 ⟨rfl,rfl⟩)|(go_at_call 14;refine(hun _ _ hL1).mono ?_;rintro e w2 ⟨rfl,hL2,hk2⟩;obtain⟨g,sc,c4,⟨x,cx⟩,fx2,hset⟩:=hL2.slot hlen;rw[hlen2]at c4;have hset1:=hset (i:Nat);obtain⟨gt2,at2⟩:=hk2 t _ at1 gt;obtain⟨gt3,at3⟩:=hset1.2 t _ at2 gt2;have z0:=(in4 gt3).c0))
  go_end0
  exact⟨rfl,hlk.trans (hk2.trans hset1.2),.inl ⟨_,hres.out,by simp only[List.length_set];omega,by simp only[List.length_set];omega,hset1.1⟩⟩
 | none =>
  rw[hf]at hloc
  simp only at hloc
  cases hg:funI (u.kids.map Nd.t) t0 with
  | some j =>
  rw[hg]at hfun
  simp only at hfun
  have hi0:(0:Int)<=((j:Nat):Int):=by omega
  have hjl:j<=100000:=by
   unfold funI at hg
   rw[List.findIdx?_eq_some_iff_getElem]at hg
   obtain⟨hi,_⟩:=hg
   simp at hi
   omega
  have hres:Hid (a4a (u.kids.map Nd.t) t0 s0 ⟨sl++[-1],bl⟩=.ok ⟨(sl++[-1]).set s0 (30+(j:Nat)),bl⟩):=by
   show a4a _ _ _ _=_
   rw[a4a]
   simp only[hf,hg]
   rfl
  clear hf hg
  go_enter Tryz.func74,Tryz.ntmps74
  go_wp2_with (go_at_call 11;refine(hnum _ hLo1).mono ?_;rintro e w1 ⟨rfl,hL1,hk1⟩)
  have hlk:=hlk0.trans hk1
  have hKu1:=hKu.lk hSA hlk
  obtain⟨gt,at1⟩:=hk1 t _ ha0 g0
  obtain⟨q0,q1,q2,q3,_,_,_,_⟩:=in4 gt
  obtain⟨c8,_,_,_,_,_⟩:=hL1.cells
  simp only[List.length_nil]at q0 q1 q2 q3
  clear hnum hLo1 hlk0 hKu hSA g0 ha0 hb0 hLo hN
  go_loopw [5] (fun ix wr=>ix=vi 0/\wr=w1) (fun _ _=>0)
  case atStart=>exact⟨rfl,rfl⟩
  case round =>
  obtain⟨rfl,rfl⟩:=hrel
  go_wp2_with (first|(go_at_call 32;refine(hloc _ hL1).mono ?_;rintro e w2 ⟨rfl,rfl⟩)|(go_at_call 13;refine(hfun _ hL1 hKu1).mono ?_;rintro e w2 ⟨rfl,rfl⟩)|(go_at_call 14;refine(hun _ _ hL1).mono ?_;rintro e w2 ⟨rfl,hL2,hk2⟩;obtain⟨g,sc,c4,⟨x,cx⟩,fx2,hset⟩:=hL2.slot hlen;rw[hlen2]at c4;have hset1:=hset (-1);obtain⟨hL3,hk3⟩:=hset1;obtain⟨g5,sc5,c45,⟨x5,cx5⟩,fx5,hset5⟩:=hL3.slot (j:=s0) (by rw[List.length_set];exact hlen);rw[List.length_set,hlen2]at c45;have hset6:=hset5 (30+(j:Nat));obtain⟨gt2,at2⟩:=hk2 t _ at1 gt;obtain⟨gt3,at3⟩:=hk3 t _ at2 gt2;obtain⟨gt4,at4⟩:=hset6.2 t _ at3 gt3;have z0:=(in4 gt4).c0))
  go_end0
  refine⟨rfl,hlk.trans (hk2.trans (hk3.trans hset6.2)),.inl ⟨_,hres.out,by simp only[List.length_set];omega,by simp only[List.length_set];omega,?_⟩⟩
  have:=hset6.1
  rw[List.set_set]at this
  exact this
  | none =>
  rw[hg]at hfun
  simp only at hfun
  have hres:Hid (a4a (u.kids.map Nd.t) t0 s0 ⟨sl++[-1],bl⟩=.error (4,s0)):=by
   show a4a _ _ _ _=_
   rw[a4a]
   simp only[hf,hg]
  clear hf hg
  go_enter Tryz.func74,Tryz.ntmps74
  go_wp2_with (go_at_call 11;refine(hnum _ hLo1).mono ?_;rintro e w1 ⟨rfl,hL1,hk1⟩)
  have hlk:=hlk0.trans hk1
  have hKu1:=hKu.lk hSA hlk
  obtain⟨gt,at1⟩:=hk1 t _ ha0 g0
  obtain⟨q0,q1,q2,q3,_,_,_,_⟩:=in4 gt
  obtain⟨c8,_,_,_,_,_⟩:=hL1.cells
  simp only[List.length_nil]at q0 q1 q2 q3
  clear hnum hLo1 hlk0 hKu hSA g0 ha0 hb0 hLo hN
  go_loopw [5] (fun ix wr=>ix=vi 0/\wr=w1) (fun _ _=>0)
  case atStart=>exact⟨rfl,rfl⟩
  case round =>
  obtain⟨rfl,rfl⟩:=hrel
  go_wp2_with (first|(go_at_call 32;refine(hloc _ hL1).mono ?_;rintro e w2 ⟨rfl,rfl⟩)|(go_at_call 13;refine(hfun _ hL1 hKu1).mono ?_;rintro e w2 ⟨rfl,rfl⟩)|(go_at_call 14;refine(hun _ _ hL1).mono ?_;rintro e w2 ⟨rfl,hL2,hk2⟩;obtain⟨g,sc,c4,⟨x,cx⟩,fx2,hset⟩:=hL2.slot hlen;rw[hlen2]at c4;have hset1:=hset (-1);obtain⟨hL3,hk3⟩:=hset1;obtain⟨g5,sc5,c45,⟨x5,cx5⟩,fx5,hset5⟩:=hL3.slot (j:=s0) (by rw[List.length_set];exact hlen);rw[List.length_set,hlen2]at c45;have hset6:=hset5 29;obtain⟨gt2,at2⟩:=hk2 t _ at1 gt;obtain⟨gt3,at3⟩:=hk3 t _ at2 gt2;obtain⟨gt4,at4⟩:=hset6.2 t _ at3 gt3;have z0:=(in4 gt4).c0))
  go_end0
  exact⟨rfl,hlk.trans (hk2.trans (hk3.trans hset6.2)),.inr ⟨4,s0,_,hres.out,by simp only[List.length_set];omega,by simp only[List.length_set];omega,hset6.1⟩⟩
theorem c8a(n:Nd):isN n->a1i n.k->XC n:=by
 refine a3x (m:=fun n=>isN n->a1i n.k->XC n) (fun k t o ks v h z=>?_) n
 rw[isN]at h
 obtain⟨h1,_,_,_,_,_,_,_,w⟩:=h
 rw[a5f]at w
 simp only at z
 by_cases h18:k=18
 ·subst h18
  have:ks=[]:=by
   unfold a0r at h1
   exact List.length_eq_zero_iff.1 (by omega)
  subst this
  exact c4c t o
 ·refine c4b k t o ks z h18 (fun y x=>?_)
  obtain⟨j,u⟩:=List.getElem?_of_mem x
  obtain⟨p1,p2⟩:=w j y u
  refine v y x p2 ?_
  unfold a1i at z
  unfold a0w at p1
  rw[if_neg (by omega),if_neg (by omega),if_neg (by omega),if_neg (by omega),if_neg (by omega)]at p1
  exact p1
theorem c4d:(Tryz.prog.info? 88).map (fun i=>(i.zero,i.size,i.bytes))=some (some (.agg #[.string ⟨#[]⟩,vi 0,.bool false]),3,32):=by kernel_rfl
theorem b4g:∀ls:List Ld,(a5i ls).length=ls.length*3
 | []=>rfl
 | x::l=>by
  show(a3k x++a5i l).length=_
  rw[List.length_append,b4g l]
  simp[a3k]
  omega
theorem b1l:∀(ls:List Ld) (m:Nat),(a5i ls).take (m*3)=a5i (ls.take m)
 | [],m=>by simp[a5i]
 | x::l,0=>by simp[a5i]
 | x::l,m+1=>by
  show(a3k x++a5i l).take _=a3k x++a5i (l.take m)
  rw[<- b1l l m,List.take_append]
  have z:(a3k x).length=3:=rfl
  rw[z,List.take_of_length_le (by rw[z];omega),show(m+1)*3-3=m*3 by omega]
theorem b9s(ls:List Ld)(x:Ld):a5i (ls++[x])=a5i ls++a3k x:=by simp[a5i]
theorem Lo.locals{ls':List Ld}{w3:World}{sb lb lb':Option Addr}{sc lc':Nat}(h1:V.heap[B]?=some (lkb u ub uc sb sl.length sc lb ls.length lc c a st))(h2:V.ownsRow w0.heap.size 3 1 (.slice sb sl.length sc) sl.length (sl.map iv))(h4:∀q,Value.ownBlock (.slice sb sl.length sc)=some q->w0.heap.size<=q/\q≠B)(h5:∀q,Value.ownBlock (.slice lb ls.length lc)=some q->w0.heap.size<=q/\q≠B/\Value.ownBlock (.slice sb sl.length sc)≠some q)(h6:Bw w0 V)(h7:w0.heap.size<=B)(hown:w3.ownsRow w0.heap.size 88 3 (.slice lb' ls'.length lc') ls'.length (a5i ls'))(hgrow:V.grownBy w3 (Value.ownBlock (.slice lb ls.length lc)))(hat:∀q,Value.ownBlock (.slice lb' ls'.length lc')=some q->Value.ownBlock (.slice lb ls.length lc)=some q\/q=V.heap.size) :
  Lo w0 B u ub uc sl ls' c a st (w3.setCell (Ad B 5) (.slice lb' ls'.length lc'))/\LK B V (w3.setCell (Ad B 5) (.slice lb' ls'.length lc')):=by
 have l:=q5z h1
 have r:=h6.size
 have w:some B≠Value.ownBlock (.slice lb ls.length lc):=fun e=>(h5 B e.symm).2.1 rfl
 have p1:=(hgrow.block _ l w).trans h1
 have v:=q7z (i:=5) (.slice lb' ls'.length lc') p1
 have hq:∀q,Value.ownBlock (.slice lb' ls'.length lc')=some q->w0.heap.size<=q/\q≠B/\Value.ownBlock (.slice sb sl.length sc)≠some q:=fun q e=>by
  rcases hat q e with y|y
  ·exact h5 q y
  ·subst y
   exact⟨r,by omega,fun e3=>by have:=a3g h2 e3;omega⟩
 refine⟨⟨⟨sb,sc,lb',lc',v,?_,?_,h4,hq⟩,?_,h7⟩,?_⟩
 ·refine a1c h2 (fun q e n=>(q8z _ _ (h4 q e).2).trans (hgrow.block q n (fun e4=>(h5 q e4.symm).2.2 e)))
 ·exact a1c hown (fun q e _=>q8z _ _ (hq q e).2.1)
 ·exact(((a0b.of_below (S:=no) h6).then (a0b.grown hgrow) (fun q hq e=>by have:=(h5 q e.symm).1;omega)).set B 5 _ (fun h=>by omega)).below (Nat.le_refl _) (fun _ _=>id)
 ·intro t o s p
  have x:some t≠Value.ownBlock (.slice lb ls.length lc):=fun e=>(s.2 _ _ _ _ _ _ _ _ _ h1).2 e.symm
  refine⟨(q8z _ _ s.1).trans ((hgrow.block t (q5z p) x).trans p),s.1,fun v0 v1 v2 v3 f g v6 v7 v8 d=>?_⟩
  have z:=v.symm.trans d
  have b:Value.slice sb sl.length sc=f/\Value.slice lb' ls'.length lc'=g:=by
   simp at z
   exact⟨z.2.2.2.2.1,z.2.2.2.2.2.1⟩
  obtain⟨rfl,rfl⟩:=b
  refine⟨(s.2 _ _ _ _ _ _ _ _ _ h1).1,fun e=>?_⟩
  rcases hat t e with y|y
  ·exact x y.symm
  ·have:=q5z p
   omega
theorem b1m(V:World)(q:Option Nat):V.grownBy V q:=⟨rfl,rfl,rfl,Nat.le_refl _,fun _ _ _=>rfl⟩
theorem Lo.cut(h:Lo w0 B u ub uc sl ls c a st W){m:Nat}(hm:m<=ls.length):∃lb y,W.cell? (Ad B 5)=some (.slice lb ls.length y)/\W.frozen? (Ad B 5)=false/\ls.length<=y/\((lb=none/\y=0)\/∃g,lb=some (Ad g 0)) /\
  Lo w0 B u ub uc sl (ls.take m) c a st (W.setCell (Ad B 5) (.slice lb m y))/\LK B W (W.setCell (Ad B 5) (.slice lb m y)):=by
 obtain⟨⟨sb,d,lb,y,h1,h2,h3,h4,h5⟩,f,i⟩:=h
 have r:(ls.take m).length=m:=by simp;omega
 have s:W.ownsRow w0.heap.size 88 3 (.slice lb (ls.take m).length y) (ls.take m).length (a5i (ls.take m)):=by
  refine⟨b4g _,?_⟩
  rcases h3.2 with⟨e,l⟩|⟨g,cap,t,e,z,n,w,x,v,p⟩
  ·simp only[Value.slice.injEq]at e
   obtain⟨rfl,b,rfl⟩:=e
   exact .inl ⟨by rw[r];congr 1;omega,by omega⟩
  ·cases e
   refine .inr ⟨g,y,t,by rw[r],z,n,by omega,x,v,?_⟩
   rw[r,<- b1l,<- p,List.take_take,Nat.min_eq_left (by omega)]
 have o:Value.ownBlock (.slice lb (ls.take m).length y)=Value.ownBlock (.slice lb ls.length y):=by cases lb <;> rfl
 have key:=Lo.locals h1 h2 h4 h5 f i s (b1m W _) (fun q e=>.inl (o▸e))
 rw[r]at key
 refine⟨lb,y,q2z h1 rfl,q6z h1,?_,?_,key⟩
 ·rcases h3.2 with⟨e,l⟩|⟨g,cap,t,e,z,n,w,x,v,p⟩
  ·simp only[Value.slice.injEq]at e;omega
  ·cases e;exact w
 ·rcases h3.2 with⟨e,l⟩|⟨g,cap,t,e,z,n,w,x,v,p⟩
  ·simp only[Value.slice.injEq]at e;exact .inl ⟨e.1,e.2.2⟩
  ·cases e;exact .inr ⟨g,rfl⟩
structure BQ (w0:World) (B:Nat) (u:Nd) (ub:Option Addr) (uc:Nat) (ls:List Ld) (c a:Int) (s0 m:Nat) (R:CR) (W:World) (e:Ending) (W':World):Prop where
 e:e=.returned (.tuple #[])
 k:LK B W W'
 r:(∃sl' bl',R=.ok ⟨sl',bl'⟩/\s0<sl'.length/\sl'.length<=s0+m/\Lo w0 B u ub uc sl' ls c a false W')\/(∃cd at_ sl' ls',R=.error (cd,at_)/\s0<sl'.length/\sl'.length<=s0+m/\ls'.length=ls.length/\Lo w0 B u ub uc sl' ls' cd (at_:Nat) true W')
structure SQ (w0:World) (B:Nat) (u:Nd) (ub:Option Addr) (uc:Nat) (had:Nat) (c a:Int) (s0 m:Nat) (R:CR) (W:World) (e:Ending) (W':World):Prop where
 e:e=.returned (.tuple #[])
 k:LK B W W'
 r:(∃sl' bl',R=.ok ⟨sl',bl'⟩/\s0<sl'.length/\sl'.length<=s0+m/\Lo w0 B u ub uc sl' (a0h bl') c a false W')\/(∃cd at_ sl' ls',R=.error (cd,at_)/\s0<sl'.length/\sl'.length<=s0+m/\had<=ls'.length/\Lo w0 B u ub uc sl' ls' cd (at_:Nat) true W')
def SC (n:Nd):Prop:=∀(w0:World) (B:Nat) (u:Nd) (ub:Option Addr) (uc:Nat) (sl:List Int) (h:List Lc) (r:List (List Lc)) (c a:Int) (S:Nat->Prop) (b:Option Addr) (cap:Nat) (W:World),Lo w0 B u ub uc sl (a0h (h::r)) c a false W->KA S W ub uc u.kids->NdV S W n (ndv n b cap)->SA S B W->sl.length+manyN n<=100000->r.length+manyN n<=100000->sumL (h::r)<=30->u.kids.length<=100000->NB (h::r) ->
 Cl 49 #[Po B 0,ndv n b cap,vi ((r.length+1:Nat):Int)] W (SQ w0 B u ub uc (a0h (h::r)).length c a sl.length (manyN n) (visC (u.kids.map Nd.t) false n ⟨sl,h::r⟩) W)
def BC (n:Nd):Prop:=∀(w0:World) (B:Nat) (u:Nd) (ub:Option Addr) (uc:Nat) (sl:List Int) (h:List Lc) (r:List (List Lc)) (c a:Int) (S:Nat->Prop) (b:Option Addr) (cap:Nat) (W:World),Lo w0 B u ub uc sl (a0h (h::r)) c a false W->KA S W ub uc u.kids->NdV S W n (ndv n b cap)->SA S B W->sl.length+manyN n<=100000->r.length+manyN n<=100000->sumL (h::r)<=30->u.kids.length<=100000->NB (h::r) ->
 Cl 33 #[Po B 0,ndv n b cap,vi ((r.length+1:Nat):Int)] W (BQ w0 B u ub uc (a0h (h::r)) c a sl.length (manyN n) (visC (u.kids.map Nd.t) true n ⟨sl,h::r⟩) W)
def LI (w0:World) (B:Nat) (u:Nd) (ub:Option Addr) (uc:Nat) (h:List Lc) (r:List (List Lc)) (c a:Int) (S:Nat->Prop) (n:Nd) (b:Option Addr) (cap:Nat) (W:World) (t M s0 had:Nat) (R:CR) (j:Nat) (wr:World):Prop :=
 wr.heap[t]?=some (nbx n b cap)/\ApL B wr t/\LK B W wr/\SA S B wr/\KA S wr ub uc u.kids/\KA S wr b cap n.kids /\
 ((∃sl' m,visC.go (u.kids.map Nd.t) n.k n.t 0 j (n.kids.drop j) ⟨sl',(h++m)::r⟩=R/\s0<sl'.length/\sl'.length+manyN.go (n.kids.drop j)<=M/\sumL ((h++m)::r)<=30/\NB ((h++m)::r)/\Lo w0 B u ub uc sl' (a0h ((h++m)::r)) c a false wr)\/(∃cd at_ sl' ls',R=.error (cd,at_)/\s0<sl'.length/\sl'.length<=M/\had<=ls'.length/\Lo w0 B u ub uc sl' ls' cd (at_:Nat) true wr))
theorem d5r(t0:List UInt8)(n0:Int)(ks:List Nd)(ih:∀y∈ks,SC y):BC ⟨4,t0,n0,ks⟩:=by
 intro w0 B u ub uc sl h r c a S b cap W hLo hKu hN hSA hM hD hbl hul hNB
 have hKn:=KA.of hN
 have hd:visC (u.kids.map Nd.t) true ⟨4,t0,n0,ks⟩ ⟨sl,h::r⟩=visC.go (u.kids.map Nd.t) 4 t0 0 0 ks ⟨sl++[-1],h::r⟩:=by
  rw[visC,if_pos rfl]
  rfl
 have hms:manyN ⟨4,t0,n0,ks⟩=manyN.go ks+1:=rfl
 rw[hd]
 obtain⟨R,hR⟩:=exq (visC.go (u.kids.map Nd.t) 4 t0 0 0 ks ⟨sl++[-1],h::r⟩)
 obtain⟨M,hMd⟩:=exq (manyN ⟨4,t0,n0,ks⟩)
 rw[hR,hMd]
 rw[hMd]at hM hD hms
 obtain⟨hm1,hm2⟩:M<=manyN.go ks+1/\manyN.go ks+1<=M:=by omega
 clear hms
 obtain⟨s0,hs0⟩:=exq (sl.length)
 obtain⟨had,hhad⟩:=exq ((a0h (h::r)).length)
 have hb0:=q1z (Below.refl W.heap.size W) (nbx ⟨4,t0,n0,ks⟩ b cap)
 have g0:=a0a W (nbx ⟨4,t0,n0,ks⟩ b cap)
 have ha0:=(hLo.ap (Nat.le_refl _)).below hLo.lt hb0
 have hlk0:=LK.below hLo.lt hb0
 have hLo1:=hLo.on hb0
 have hnum:=fun V (h':Lo w0 B u ub uc sl (a0h (h::r)) c a false V)=>number_any w0 B u ub uc sl (a0h (h::r)) c a false V h' (by omega)
 have hall:=a1g ks
 obtain⟨lb,lc,c5,_,_,_,_⟩:=hLo1.cut (m:=0) (Nat.zero_le _)
 rw[hhad]at c5
 obtain⟨t,ht⟩:=exq (W.heap.size)
 rw[ht]at g0 ha0
 rw[hs0]at hnum hM⊢
 obtain⟨D,hDd⟩:=exq (r.length+1)
 rw[hDd]
 replace hDd:Hid _:=hDd
 replace hhad:Hid _:=hhad
 replace hR:Hid _:=hR
 replace ih:Hid (∀y∈ks,SC y):=ih
 go_enter Tryz.func33,Tryz.ntmps33
 go_wp2_with (go_at_call 11;refine(hnum _ hLo1).mono ?_;rintro e w1 ⟨rfl,hL1,hk1⟩)
 clear hnum hLo1 hLo hN
 have hSA1:=(hSA.on (hlk0.trans hk1))
 have hI:LI w0 B u ub uc h r c a S ⟨4,t0,n0,ks⟩ b cap W t (s0+M) s0 had R 0 w1:=by
  obtain⟨q1,q2⟩:=hk1 t _ ha0 g0
  refine⟨q1,q2,hlk0.trans hk1,hSA1.1,hKu.lk hSA (hlk0.trans hk1),hKn.lk hSA (hlk0.trans hk1),.inl ⟨sl++[-1],[],?_,by simp;omega,by simp;omega,?_,?_,?_⟩⟩
  all_goals rw[List.append_nil]
  ·exact hR.out
  ·exact hbl
  ·exact hNB
  ·exact hL1
 clear hSA1 hL1 hk1 ha0 g0 hb0 hlk0 hKu hKn hSA c5
 go_loopw [7] (fun ix wr=>∃j:Nat,j<=ks.length/\ix=vi (j:Nat)/\LI w0 B u ub uc h r c a S ⟨4,t0,n0,ks⟩ b cap W t (s0+M) s0 had R j wr) (fun ix _=>ks.length-(intOf ix).toNat)
 case atStart=>exact⟨0,Nat.zero_le _,rfl,hI⟩
 case round =>
  obtain⟨j,hj,rfl,g,ha,hlk,hS1,hKu,hKn,hst⟩:=hrel
  clear hI
  simp only at hKn hst
  obtain⟨q0,q1,q2,q3,_,_,_,_⟩:=in4 g
  simp only at q0 q1 q2 q3
  rcases hst with⟨sl',m,hgo,hs1,hs2,hlv,hnb,hLo⟩|⟨cd,at_,sl',ls',hRe,hs1,hs2,hle,hLo⟩
  ·obtain⟨c8,_,_,_,_,_⟩:=hLo.cells
   by_cases hlt:j<ks.length
   ·have hlt':(j:Int)<(ks.length:Int):=by omega
    obtain⟨y,hy⟩:∃y,ks[j]?=some y:=⟨_,List.getElem?_eq_getElem hlt⟩
    obtain⟨g',off,b',cap',rfl,v0,v1,v2,v3,hyV⟩:=KA.at hKn hy
    have hdr:ks.drop j=y::ks.drop (j+1):=by rw[List.drop_eq_getElem_cons hlt];congr 1;exact(List.getElem?_eq_some_iff.1 hy).2
    have hmk:manyN y<=manyN.go ks:=by
     have:=congrArg manyN.go (List.take_append_drop j ks)
     rw[a2m,hdr]at this
     simp only[manyN.go]at this
     omega
    have hcall:=ih.out y (List.mem_of_getElem? hy) w0 B u ub uc sl' (h++m) r c a S b' cap' wr hLo hKu hyV hS1 (by rw[hdr]at hs2;simp only[manyN.go]at hs2;omega) (by omega) hlv hul hnb
    rw[hDd.out]at hcall
    replace hgo:Hid _:=hgo
    replace hs2:Hid _:=hs2
    replace hdr:Hid (ks.drop j=y::ks.drop (j+1)):=hdr
    clear hy
    go_wp2_with (go_at_call 49;refine hcall.mono ?_;rintro e w2 ⟨rfl,hk2,hr2⟩)
    go_roundw
    case rel =>
     obtain⟨g2,ha2⟩:=hk2 t _ ha g
     refine⟨j+1,by omega,by go_num,g2,ha2,hlk.trans hk2,(hS1.on hk2).1,hKu.lk hS1 hk2,hKn.lk hS1 hk2,?_⟩
     have hgo':=hgo.out
     have hs2':=hs2.out
     rw[hdr.out]at hgo' hs2'
     simp only[manyN.go]at hs2'
     rw[visC.go,if_neg (by omega)]at hgo'
     rcases hr2 with⟨sl2,bl2,e2,p1,p2,p3⟩|⟨cd,at_,sl2,ls2,e2,p1,p2,p4,p3⟩
     ·obtain⟨m2,hm2⟩:=d0o _ _ _ _ _ e2 (h++m) r rfl
      have hlv2:=a8w _ _ _ _ _ e2 hlv
      have hnb2:=(a2g _ _ _ _ _ e2).nb hnb
      rw[e2]at hgo'
      simp only at hm2
      subst hm2
      rw[List.append_assoc]at hgo' p3 hlv2 hnb2
      exact .inl ⟨sl2,m++m2,hgo',by omega,by simp only;omega,hlv2,hnb2,p3⟩
     ·rw[e2]at hgo'
      refine .inr ⟨cd,at_,sl2,ls2,hgo'.symm,by omega,by omega,?_,p3⟩
      have:=hhad.out
      rw[a2i,a0l]at this p4
      simp at p4
      omega
    case measure=>simp[intOf];omega
   ·have hlt':¬(j:Int)<(ks.length:Int):=by omega
    have hRo:R=.ok ⟨sl',(h++m)::r⟩:=by
     rw[<- hgo,List.drop_eq_nil_of_le (by omega),visC.go]
    subst hRo
    have hle:had<=(a0h ((h++m)::r)).length:=by
     have:=hhad.out
     rw[a2i,a0l]at this⊢
     simp
     omega
    obtain⟨lb,lc,c5,f5,hlc,hsh,hcut,hkc⟩:=hLo.cut hle
    have hc1:(had:Int)<=(lc:Int):=by omega
    have hc0:(0:Int)<=(had:Int):=by omega
    obtain⟨LL,hLL⟩:=exq ((a0h ((h++m)::r)).length)
    rw[hLL]at c5
    replace hLL:Hid _:=hLL
    clear hgo
    have fin:Hid (BQ w0 B u ub uc (a0h (h::r)) c a s0 M (.ok ⟨sl',(h++m)::r⟩) W (.returned (.tuple #[])) (wr.setCell (Ad B 5) (.slice lb had lc))):=by
     refine⟨rfl,hlk.trans hkc,.inl ⟨sl',_,rfl,by omega,by omega,?_⟩⟩
     have e:(a0h ((h++m)::r)).take had=a0h (h::r):=by rw[<- hhad.out];exact b8r
     rw[e]at hcut
     exact hcut
    clear hcut hkc
    rcases hsh with⟨rfl,rfl⟩|⟨gl,rfl⟩
    ·have e0:had=0:=by omega
     subst e0
     go_wp2
     go_end0
     exact fin.out
    ·go_wp2
     go_end0
     exact fin.out
  ·obtain⟨c8,_,_,_,_,_⟩:=hLo.cells
   subst hRe
   obtain⟨lb,lc,c5,f5,hlc,hsh,hcut,hkc⟩:=hLo.cut hle
   have hc1:(had:Int)<=(lc:Int):=by omega
   have hc0:(0:Int)<=(had:Int):=by omega
   obtain⟨LL,hLL⟩:=exq (ls'.length)
   rw[hLL]at c5
   have fin:Hid (BQ w0 B u ub uc (a0h (h::r)) c a s0 M (.error (cd,at_)) W (.returned (.tuple #[])) (wr.setCell (Ad B 5) (.slice lb had lc))):=by
    refine⟨rfl,hlk.trans hkc,.inr ⟨cd,at_,sl',_,rfl,by omega,by omega,?_,hcut⟩⟩
    have:=hhad.out
    simp
    omega
   replace hLL:Hid _:=hLL
   clear hcut hkc
   rcases hsh with⟨rfl,rfl⟩|⟨gl,rfl⟩
   ·have e0:had=0:=by omega
    subst e0
    by_cases hlt:j<ks.length
    ·have hlt':(j:Int)<(ks.length:Int):=by omega
     go_wp2
     go_end0
     exact fin.out
    ·have hlt':¬(j:Int)<(ks.length:Int):=by omega
     go_wp2
     go_end0
     exact fin.out
   ·by_cases hlt:j<ks.length
    ·have hlt':(j:Int)<(ks.length:Int):=by omega
     go_wp2
     go_end0
     exact fin.out
    ·have hlt':¬(j:Int)<(ks.length:Int):=by omega
     go_wp2
     go_end0
     exact fin.out
theorem b0j(bl:List (List Lc)):a0h ([]::bl)=a0h bl:=by simp[a0h]
def YI (w0:World) (B:Nat) (u:Nd) (ub:Option Addr) (uc:Nat) (bl:List (List Lc)) (c a:Int) (S:Nat->Prop) (n:Nd) (b:Option Addr) (cap:Nat) (W:World) (t M s0 had:Nat) (R:CR) (j:Nat) (wr:World):Prop :=
 wr.heap[t]?=some (nbx n b cap)/\ApL B wr t/\LK B W wr/\SA S B wr/\KA S wr ub uc u.kids/\KA S wr b cap n.kids /\
 ((∃sl',visC.go (u.kids.map Nd.t) n.k n.t s0 j (n.kids.drop j) ⟨sl',bl⟩=R/\s0<sl'.length/\sl'.length+manyN.go (n.kids.drop j)<=M/\Lo w0 B u ub uc sl' (a0h bl) c a false wr)\/(∃cd at_ sl' ls',R=.error (cd,at_)/\s0<sl'.length/\sl'.length<=M/\ls'.length=had/\Lo w0 B u ub uc sl' ls' cd (at_:Nat) true wr))
theorem b9t(k0:Int)(t0:List UInt8)(n0:Int)(ks:List Nd)(hk:k0=7\/k0=8\/k0=9\/k0=11\/k0=12)(ih:∀y∈ks,(a1i y.k/\XC y)\/(y.k=4/\BC y)):SC ⟨k0,t0,n0,ks⟩:=by
 intro w0 B u ub uc sl h r c a S b cap W hLo hKu hN hSA hM hD hbl hul hNB
 have hKn:=KA.of hN
 have hd:visC (u.kids.map Nd.t) false ⟨k0,t0,n0,ks⟩ ⟨sl,h::r⟩=visC.go (u.kids.map Nd.t) k0 t0 sl.length 0 ks ⟨sl++[-1],h::r⟩:=by
  rw[visC,if_neg (by omega)]
  show Except.bind (visC.go (u.kids.map Nd.t) k0 t0 sl.length 0 ks ⟨sl++[-1],h::r⟩) _=_
  cases visC.go (u.kids.map Nd.t) k0 t0 sl.length 0 ks ⟨sl++[-1],h::r⟩ with
  | error e=>rfl
  | ok c' =>
   simp only[Except.bind]
   rw[if_neg (by omega),actC,if_neg (by omega),if_neg (by omega),if_neg (by omega),if_neg (by omega)]
 have hms:manyN ⟨k0,t0,n0,ks⟩=manyN.go ks+1:=rfl
 rw[hd]
 obtain⟨R,hR⟩:=exq (visC.go (u.kids.map Nd.t) k0 t0 sl.length 0 ks ⟨sl++[-1],h::r⟩)
 obtain⟨M,hMd⟩:=exq (manyN ⟨k0,t0,n0,ks⟩)
 rw[hR,hMd]
 rw[hMd]at hM hD hms
 obtain⟨hm1,hm2⟩:M<=manyN.go ks+1/\manyN.go ks+1<=M:=by omega
 clear hms
 obtain⟨s0,hs0⟩:=exq (sl.length)
 obtain⟨had,hhad⟩:=exq ((a0h (h::r)).length)
 rw[hhad]
 have hb0:=q1z (Below.refl W.heap.size W) (nbx ⟨k0,t0,n0,ks⟩ b cap)
 have g0:=a0a W (nbx ⟨k0,t0,n0,ks⟩ b cap)
 have ha0:=(hLo.ap (Nat.le_refl _)).below hLo.lt hb0
 have hlk0:=LK.below hLo.lt hb0
 have hLo1:=hLo.on hb0
 have hnum:=fun V (h':Lo w0 B u ub uc sl (a0h (h::r)) c a false V)=>number_any w0 B u ub uc sl (a0h (h::r)) c a false V h' (by omega)
 have hall:=a1g ks
 obtain⟨t,ht⟩:=exq (W.heap.size)
 rw[ht]at g0 ha0
 rw[hs0]at hnum hM hR⊢
 obtain⟨D,hDd⟩:=exq (r.length+1)
 rw[hDd]
 have hDM:D+manyN.go ks<=100000:=by omega
 replace hDd:Hid _:=hDd
 replace hhad:Hid _:=hhad
 replace hR:Hid _:=hR
 replace ih:Hid (∀y∈ks,(a1i y.k/\XC y)\/(y.k=4/\BC y)):=ih
 go_enter Tryz.func49,Tryz.ntmps49
 go_wp2_with (go_at_call 11;refine(hnum _ hLo1).mono ?_;rintro e w1 ⟨rfl,hL1,hk1⟩)
 clear hnum hLo1 hLo hN
 have hSA1:=(hSA.on (hlk0.trans hk1))
 have hI:YI w0 B u ub uc (h::r) c a S ⟨k0,t0,n0,ks⟩ b cap W t (s0+M) s0 had R 0 w1:=by
  obtain⟨q1,q2⟩:=hk1 t _ ha0 g0
  exact⟨q1,q2,hlk0.trans hk1,hSA1.1,hKu.lk hSA (hlk0.trans hk1),hKn.lk hSA (hlk0.trans hk1),.inl ⟨sl++[-1],hR.out,by simp;omega,by simp;omega,hL1⟩⟩
 clear hSA1 hL1 hk1 ha0 g0 hb0 hlk0 hKu hKn hSA
 have e5:(k0 == 5)=false:=by simp;omega
 have e6:(k0 == 6)=false:=by simp;omega
 have e10:(k0 == 10)=false:=by simp;omega
 replace hk:Hid _:=hk
 go_loopw [7] (fun ix wr=>∃j:Nat,j<=ks.length/\ix=vi (j:Nat)/\YI w0 B u ub uc (h::r) c a S ⟨k0,t0,n0,ks⟩ b cap W t (s0+M) s0 had R j wr) (fun ix _=>ks.length-(intOf ix).toNat)
 case atStart=>exact⟨0,Nat.zero_le _,rfl,hI⟩
 case round =>
  obtain⟨j,hj,rfl,g,ha,hlk,hS1,hKu,hKn,hst⟩:=hrel
  clear hI
  simp only at hKn hst
  obtain⟨q0,q1,q2,q3,_,_,_,_⟩:=in4 g
  simp only at q0 q1 q2 q3
  rcases hst with⟨sl',hgo,hs1,hs2,hLo⟩|⟨cd,at_,sl',ls',hRe,hs1,hs2,hle,hLo⟩
  ·obtain⟨c8,_,_,_,_,_⟩:=hLo.cells
   by_cases hlt:j<ks.length
   ·have hlt':(j:Int)<(ks.length:Int):=by omega
    obtain⟨y,hy⟩:∃y,ks[j]?=some y:=⟨_,List.getElem?_eq_getElem hlt⟩
    obtain⟨g',off,b',cap',rfl,v0,v1,v2,v3,hyV⟩:=KA.at hKn hy
    have hdr:ks.drop j=y::ks.drop (j+1):=by rw[List.drop_eq_getElem_cons hlt];congr 1;exact(List.getElem?_eq_some_iff.1 hy).2
    have hmk:manyN y<=manyN.go ks:=by
     have:=congrArg manyN.go (List.take_append_drop j ks)
     rw[a2m,hdr]at this
     simp only[manyN.go]at this
     omega
    have hsy:sl'.length+manyN y<=100000:=by rw[hdr]at hs2;simp only[manyN.go]at hs2;omega
    have hgo':=hgo
    have hs2':=hs2
    rw[hdr]at hgo' hs2'
    simp only[manyN.go]at hs2'
    rw[visC.go,if_neg (by have:=hk.out;omega)]at hgo'
    clear hgo hs2 hdr
    replace hgo':Hid _:=hgo'
    replace hs2':Hid _:=hs2'
    rcases ih.out y (List.mem_of_getElem? hy) with⟨hx,hX⟩|⟨hx,hX⟩
    ·have hcall:=hX w0 B u ub uc sl' (h::r) c a S b' cap' wr hLo hKu hyV hS1 hsy (by omega) hul hNB
     have ey:(y.k == 4)=false:=by unfold a1i at hx;simp;omega
     clear hy hx hX
     go_wp2_with (go_at_call 74;refine hcall.mono ?_;rintro e w2 ⟨rfl,hk2,hr2⟩)
     go_roundw
     case rel =>
      obtain⟨g2,ha2⟩:=hk2 t _ ha g
      refine⟨j+1,by omega,by go_num,g2,ha2,hlk.trans hk2,(hS1.on hk2).1,hKu.lk hS1 hk2,hKn.lk hS1 hk2,?_⟩
      have hg2:=hgo'.out
      have hs3:=hs2'.out
      rcases hr2 with⟨sl2,e2,p1,p2,p3⟩|⟨cd,at_,sl2,e2,p1,p2,p3⟩
      ·rw[e2]at hg2
       exact .inl ⟨sl2,hg2,by omega,by simp only;omega,p3⟩
      ·rw[e2]at hg2
       exact .inr ⟨cd,at_,sl2,_,hg2.symm,by omega,by omega,hhad.out,p3⟩
     case measure=>simp[intOf];omega
    ·have hLo2:Lo w0 B u ub uc sl' (a0h ([]::h::r)) c a false wr:=by rw[b0j];exact hLo
     have hcall:=hX w0 B u ub uc sl' [] (h::r) c a S b' cap' wr hLo2 hKu hyV hS1 hsy (by have:=hDd.out;simp;omega) (by rw[a0l];simpa using hbl) hul (NB.begin (c:=⟨sl',h::r⟩) hNB)
     rw[show(((h::r).length+1:Nat):Int)=(D:Int)+1 by have:=hDd.out;simp;omega]at hcall
     obtain⟨yk,yt,yo,yks⟩:=y
     simp only at hx
     subst hx
     rw[a7p]at hgo'
     clear hy hX hLo2
     go_wp2_with (go_at_call 33;refine hcall.mono ?_;rintro e w2 ⟨rfl,hk2,hr2⟩)
     go_roundw
     case rel =>
      obtain⟨g2,ha2⟩:=hk2 t _ ha g
      refine⟨j+1,by omega,by go_num,g2,ha2,hlk.trans hk2,(hS1.on hk2).1,hKu.lk hS1 hk2,hKn.lk hS1 hk2,?_⟩
      have hg2:=hgo'.out
      have hs3:=hs2'.out
      rcases hr2 with⟨sl2,bl2,e2,p1,p2,p3⟩|⟨cd,at_,sl2,ls2,e2,p1,p2,p4,p3⟩
      ·have ht2:=(a2g _ _ _ _ _ e2).tail
       simp only[List.tail_cons]at ht2
       rw[show(⟨sl',h::r⟩:Cs).begin=⟨sl',[]::h::r⟩ from rfl,e2]at hg2
       simp only[Except.map,Except.bind,Cs.close]at hg2
       rw[ht2]at hg2
       rw[b0j]at p3
       exact .inl ⟨sl2,hg2,by omega,by simp only;omega,p3⟩
      ·rw[show(⟨sl',h::r⟩:Cs).begin=⟨sl',[]::h::r⟩ from rfl,e2]at hg2
       rw[b0j]at p4
       exact .inr ⟨cd,at_,sl2,ls2,hg2.symm,by omega,by omega,p4.trans hhad.out,p3⟩
     case measure=>simp[intOf];omega
   ·have hlt':¬(j:Int)<(ks.length:Int):=by omega
    have hRo:R=.ok ⟨sl',h::r⟩:=by
     rw[<- hgo,List.drop_eq_nil_of_le (by omega),visC.go]
    subst hRo
    clear hgo
    go_wp2
    go_end0
    exact⟨rfl,hlk,.inl ⟨sl',_,rfl,by omega,by omega,hLo⟩⟩
  ·obtain⟨c8,_,_,_,_,_⟩:=hLo.cells
   subst hRe
   have fin:Hid (SQ w0 B u ub uc had c a s0 M (.error (cd,at_)) W (.returned (.tuple #[])) wr):=⟨rfl,hlk,.inr ⟨cd,at_,sl',ls',rfl,by omega,by omega,by omega,hLo⟩⟩
   by_cases hlt:j<ks.length
   ·have hlt':(j:Int)<(ks.length:Int):=by omega
    go_wp2
    go_end0
    exact fin.out
   ·have hlt':¬(j:Int)<(ks.length:Int):=by omega
    go_wp2
    go_end0
    exact fin.out
theorem Lo.local_at(h:Lo w0 B u ub uc sl ls c a st W){i:Nat}{x:Ld}(hx:ls[i]?=some x):∃g z,W.cell? (Ad B 5)=some (.slice (some (Ad g 0)) ls.length z)/\W.cell? (Ad g (i*3))=some (sk x.nm)/\W.cell? (Ad g (i*3+1))=some (vi (x.dp:Nat))/\W.cell? (Ad g (i*3+2))=some (.bool x.lp):=by
 obtain⟨⟨sb,t,lb,z,h1,h2,h3,h4,h5⟩,r,s⟩:=h
 obtain⟨g,rfl,v,w,y⟩:=b3y h3 hx
 exact⟨g,z,q2z h1 rfl,v,w,y⟩
theorem c8b(t0:List UInt8)(n0:Int)(ks:List Nd)(p:Nd)(hp:ks[0]?=some p)(ih:∀y∈ks,a1i y.k/\XC y):SC ⟨6,t0,n0,ks⟩:=by
 intro w0 B u ub uc sl h r c a S b cap W hLo hKu hN hSA hM hD hbl hul hNB
 have hKn:=KA.of hN
 have hd:visC (u.kids.map Nd.t) false ⟨6,t0,n0,ks⟩ ⟨sl,h::r⟩=(visC.go (u.kids.map Nd.t) 6 t0 sl.length 0 ks ⟨sl++[-1],h::r⟩).bind (fun c'=>if setB (some p) c' then .ok c' else .error (3,sl.length)):=by
  rw[visC,if_neg (by omega)]
  show Except.bind (visC.go (u.kids.map Nd.t) 6 t0 sl.length 0 ks ⟨sl++[-1],h::r⟩) _=_
  congr 1
  funext c'
  rw[if_neg (by omega),actC,if_neg (by omega),if_neg (by omega),if_pos rfl,<- hp,List.head?_eq_getElem?]
 have hms:manyN ⟨6,t0,n0,ks⟩=manyN.go ks+1:=rfl
 rw[hd]
 obtain⟨R,hR⟩:=exq (visC.go (u.kids.map Nd.t) 6 t0 sl.length 0 ks ⟨sl++[-1],h::r⟩)
 obtain⟨M,hMd⟩:=exq (manyN ⟨6,t0,n0,ks⟩)
 rw[hR,hMd]
 rw[hMd]at hM hD hms
 obtain⟨hm1,hm2⟩:M<=manyN.go ks+1/\manyN.go ks+1<=M:=by omega
 clear hms
 obtain⟨s0,hs0⟩:=exq (sl.length)
 obtain⟨had,hhad⟩:=exq ((a0h (h::r)).length)
 rw[hhad]
 have hb0:=q1z (Below.refl W.heap.size W) (nbx ⟨6,t0,n0,ks⟩ b cap)
 have g0:=a0a W (nbx ⟨6,t0,n0,ks⟩ b cap)
 have ha0:=(hLo.ap (Nat.le_refl _)).below hLo.lt hb0
 have hl6:=LK.below hLo.lt hb0
 have hLo1:=hLo.on hb0
 have hnum:=fun V (h':Lo w0 B u ub uc sl (a0h (h::r)) c a false V)=>number_any w0 B u ub uc sl (a0h (h::r)) c a false V h' (by omega)
 have hall:=a1g ks
 obtain⟨t,ht⟩:=exq (W.heap.size)
 rw[ht]at g0 ha0
 rw[hs0]at hnum hM hR⊢
 obtain⟨F,hF⟩:∃F:Cs->CR,(fun c'=>if setB (some p) c' then .ok c' else .error (3,s0))=F:=⟨_,rfl⟩
 rw[hF]
 replace hF:Hid _:=hF
 have hlb:had<=100000:=by rw[<- hhad,a2i];omega
 obtain⟨D,hDd⟩:=exq (r.length+1)
 rw[hDd]
 have hDM:D+manyN.go ks<=100000:=by omega
 replace hDd:Hid _:=hDd
 replace hhad:Hid _:=hhad
 replace hR:Hid _:=hR
 replace ih:Hid (∀y∈ks,a1i y.k/\XC y):=ih
 go_enter Tryz.func49,Tryz.ntmps49
 go_wp2_with (go_at_call 11;refine(hnum _ hLo1).mono ?_;rintro e w1 ⟨rfl,hL1,hk1⟩)
 clear hnum hLo1 hLo hN
 have hSA1:=(hSA.on (hl6.trans hk1))
 have hI:YI w0 B u ub uc (h::r) c a S ⟨6,t0,n0,ks⟩ b cap W t (s0+M) s0 had R 0 w1:=by
  obtain⟨q1,q2⟩:=hk1 t _ ha0 g0
  exact⟨q1,q2,hl6.trans hk1,hSA1.1,hKu.lk hSA (hl6.trans hk1),hKn.lk hSA (hl6.trans hk1),.inl ⟨sl++[-1],hR.out,by simp;omega,by simp;omega,hL1⟩⟩
 clear hSA1 hL1 hk1 ha0 g0 hb0 hl6 hKu hKn hSA
 replace hp:Hid _:=hp
 go_loopw [7] (fun ix wr=>∃j:Nat,j<=ks.length/\ix=vi (j:Nat)/\YI w0 B u ub uc (h::r) c a S ⟨6,t0,n0,ks⟩ b cap W t (s0+M) s0 had R j wr) (fun ix _=>ks.length-(intOf ix).toNat)
 case atStart=>exact⟨0,Nat.zero_le _,rfl,hI⟩
 case round =>
  obtain⟨j,hj,rfl,g,ha,hlk,hS1,hKu,hKn,hst⟩:=hrel
  clear hI
  simp only at hKn hst
  obtain⟨q0,q1,q2,q3,_,_,_,_⟩:=in4 g
  simp only at q0 q1 q2 q3
  rcases hst with⟨sl',hgo,hs1,hs2,hLo⟩|⟨cd,at_,sl',ls',hRe,hs1,hs2,hle,hLo⟩
  ·obtain⟨c8,_,_,_,_,_⟩:=hLo.cells
   by_cases hlt:j<ks.length
   ·have hlt':(j:Int)<(ks.length:Int):=by omega
    obtain⟨y,hy⟩:∃y,ks[j]?=some y:=⟨_,List.getElem?_eq_getElem hlt⟩
    obtain⟨g',off,b',cap',rfl,v0,v1,v2,v3,hyV⟩:=KA.at hKn hy
    have hdr:ks.drop j=y::ks.drop (j+1):=by rw[List.drop_eq_getElem_cons hlt];congr 1;exact(List.getElem?_eq_some_iff.1 hy).2
    have hmk:manyN y<=manyN.go ks:=by
     have:=congrArg manyN.go (List.take_append_drop j ks)
     rw[a2m,hdr]at this
     simp only[manyN.go]at this
     omega
    have hsy:sl'.length+manyN y<=100000:=by rw[hdr]at hs2;simp only[manyN.go]at hs2;omega
    have hgo':=hgo
    have hs2':=hs2
    rw[hdr]at hgo' hs2'
    simp only[manyN.go]at hs2'
    rw[visC.go,if_neg (by omega)]at hgo'
    clear hgo hs2 hdr
    replace hgo':Hid _:=hgo'
    replace hs2':Hid _:=hs2'
    obtain⟨hx,hX⟩:=ih.out y (List.mem_of_getElem? hy)
    ·have hcall:=hX w0 B u ub uc sl' (h::r) c a S b' cap' wr hLo hKu hyV hS1 hsy (by omega) hul hNB
     have ey:(y.k == 4)=false:=by unfold a1i at hx;simp;omega
     clear hy hx hX
     go_wp2_with (go_at_call 74;refine hcall.mono ?_;rintro e w2 ⟨rfl,hk2,hr2⟩)
     go_roundw
     case rel =>
      obtain⟨g2,ha2⟩:=hk2 t _ ha g
      refine⟨j+1,by omega,by go_num,g2,ha2,hlk.trans hk2,(hS1.on hk2).1,hKu.lk hS1 hk2,hKn.lk hS1 hk2,?_⟩
      have hg2:=hgo'.out
      have hs3:=hs2'.out
      rcases hr2 with⟨sl2,e2,p1,p2,p3⟩|⟨cd,at_,sl2,e2,p1,p2,p3⟩
      ·rw[e2]at hg2
       exact .inl ⟨sl2,hg2,by omega,by simp only;omega,p3⟩
      ·rw[e2]at hg2
       exact .inr ⟨cd,at_,sl2,_,hg2.symm,by omega,by omega,hhad.out,p3⟩
     case measure=>simp[intOf];omega
   ·have hlt':¬(j:Int)<(ks.length:Int):=by omega
    have hRo:R=.ok ⟨sl',h::r⟩:=by
     rw[<- hgo,List.drop_eq_nil_of_le (by omega),visC.go]
    subst hRo
    clear hgo
    obtain⟨g',off,b',cap',rfl,v0,v1,v2,v3,_⟩:=KA.at hKn hp.out
    have hk0:(0:Int)<(ks.length:Int):=by have:=(List.getElem?_eq_some_iff.1 hp.out).1;omega
    simp only[Nat.zero_mul,Nat.add_zero]at v0 v1 v2 v3
    have hFo:∀d,F d=if setB (some p) d then .ok d else .error (3,s0):=fun d=>by rw[<- hF.out]
    by_cases h18:p.k=18
    ·have hset:setB (some p) ⟨sl',h::r⟩=(match findL p.t (h::r) with|some q=>!q.2|none=>false):=by simp only[setB,h18,if_true];cases findL p.t (h::r) <;> rfl
     have hloc:=a7y w0 B u ub uc sl' (a0h (h::r)) c a false p.t wr hLo (by have:=hhad.out;omega)
     rw[b2s hNB]at hloc
     have hun:=fun q=>a0q w0 B u ub uc sl' (a0h (h::r)) c a false q 3 (s0:Nat) wr hLo
     rw[h18]at v0
     obtain⟨pt,hpt⟩:=exq (p.t)
     rw[hpt]at hloc v1 hset
     cases hf:findL pt (h::r) with
     | none =>
      rw[hf]at hset hloc
      simp only at hset hloc
      have fin:Hid (F ⟨sl',h::r⟩=.error (3,s0)):=by show _=_;rw[hFo,hset];rfl
      clear hset hf hFo h18 hpt
      go_wp2_with (first|(go_at_call 32;refine hloc.mono ?_;rintro e w2 ⟨rfl,rfl⟩)|(go_at_call 14;refine(hun _).mono ?_;rintro e w2 ⟨rfl,hL2,hk2⟩))
      go_end0
      exact⟨rfl,hlk.trans hk2,.inr ⟨3,s0,sl',_,fin.out,by omega,by omega,Nat.le_of_eq hhad.out.symm,hL2⟩⟩
     | some q =>
      obtain⟨i,fx⟩:=q
      rw[hf]at hset hloc
      simp only at hset hloc
      obtain⟨⟨d,hfi⟩,_⟩:=a8j hNB hf
      obtain⟨gl,lc,c5,z0,z1,z2⟩:=hLo.local_at hfi
      have hil:i<had:=by have:=(List.getElem?_eq_some_iff.1 hfi).1;have:=hhad.out;omega
      rw[hhad.out]at c5
      have hi0:(0:Int)<=(i:Int):=by omega
      have hi1:(i:Int)<(had:Int):=by omega
      simp only at z2
      clear z0 z1 hf hfi h18 hpt
      cases fx with
      | false =>
       have fin:Hid (F ⟨sl',h::r⟩=.ok ⟨sl',h::r⟩):=by show _=_;rw[hFo,hset];rfl
       clear hset hFo
       go_wp2_with (first|(go_at_call 32;refine hloc.mono ?_;rintro e w2 ⟨rfl,rfl⟩)|(go_at_call 14;refine(hun _).mono ?_;rintro e w2 ⟨rfl,hL2,hk2⟩))
       go_end0
       exact⟨rfl,hlk.trans hk2,.inl ⟨sl',_,fin.out,by omega,by omega,hL2⟩⟩
      | true =>
       have fin:Hid (F ⟨sl',h::r⟩=.error (3,s0)):=by show _=_;rw[hFo,hset];rfl
       clear hset hFo
       go_wp2_with (first|(go_at_call 32;refine hloc.mono ?_;rintro e w2 ⟨rfl,rfl⟩)|(go_at_call 14;refine(hun _).mono ?_;rintro e w2 ⟨rfl,hL2,hk2⟩))
       go_end0
       exact⟨rfl,hlk.trans hk2,.inr ⟨3,s0,sl',_,fin.out,by omega,by omega,Nat.le_of_eq hhad.out.symm,hL2⟩⟩
    ·have fin:Hid (F ⟨sl',h::r⟩=.ok ⟨sl',h::r⟩):=by show _=_;rw[hFo];simp[setB,h18]
     have e18:(p.k == 18)=false:=by simpa using h18
     clear hFo h18
     go_wp2
     go_end0
     exact⟨rfl,hlk,.inl ⟨sl',_,fin.out,by omega,by omega,hLo⟩⟩
  ·obtain⟨c8,_,_,_,_,_⟩:=hLo.cells
   subst hRe
   have fin:Hid (SQ w0 B u ub uc had c a s0 M (Except.bind (.error (cd,at_)) F) W (.returned (.tuple #[])) wr):=⟨rfl,hlk,.inr ⟨cd,at_,sl',ls',rfl,by omega,by omega,by omega,hLo⟩⟩
   obtain⟨g',off,b',cap',rfl,v0,v1,v2,v3,_⟩:=KA.at hKn hp.out
   have hk0:(0:Int)<(ks.length:Int):=by have:=(List.getElem?_eq_some_iff.1 hp.out).1;omega
   simp only[Nat.zero_mul,Nat.add_zero]at v0 v1 v2 v3
   by_cases h18:p.k=18
   ·have hloc:=a7y w0 B u ub uc sl' ls' cd (at_:Nat) true p.t wr hLo (by omega)
    have hun:=a0q w0 B u ub uc sl' ls' cd (at_:Nat) true true 3 (s0:Nat) wr hLo
    rw[h18]at v0
    obtain⟨pt,hpt⟩:=exq (p.t)
    rw[hpt]at hloc v1
    obtain⟨lv,hlv⟩:=exq (b2h pt ls')
    rw[hlv]at hloc
    clear h18 hpt hlv
    by_cases hlt:j<ks.length
    ·have hlt':(j:Int)<(ks.length:Int):=by omega
     go_wp2_with (first|(go_at_call 32;refine hloc.mono ?_;rintro e w2 ⟨rfl,rfl⟩)|(go_at_call 14;refine hun.mono ?_;rintro e w2 ⟨rfl,hL2,hk2⟩))
     go_end0
     exact⟨rfl,hlk.trans hk2,.inr ⟨cd,at_,sl',ls',rfl,by omega,by omega,by omega,hL2⟩⟩
    ·have hlt':¬(j:Int)<(ks.length:Int):=by omega
     go_wp2_with (first|(go_at_call 32;refine hloc.mono ?_;rintro e w2 ⟨rfl,rfl⟩)|(go_at_call 14;refine hun.mono ?_;rintro e w2 ⟨rfl,hL2,hk2⟩))
     go_end0
     exact⟨rfl,hlk.trans hk2,.inr ⟨cd,at_,sl',ls',rfl,by omega,by omega,by omega,hL2⟩⟩
   ·have e18:(p.k == 18)=false:=by simpa using h18
    clear h18
    by_cases hlt:j<ks.length
    ·have hlt':(j:Int)<(ks.length:Int):=by omega
     go_wp2
     go_end0
     exact fin.out
    ·have hlt':¬(j:Int)<(ks.length:Int):=by omega
     go_wp2
     go_end0
     exact fin.out
theorem Lo.app(h:Lo w0 B u ub uc sl ls c a st V):∃lb w,V.cell? (Ad B 5)=some (.slice lb ls.length w)/\V.frozen? (Ad B 5)=false/\V.ownsRow w0.heap.size 88 3 (.slice lb ls.length w) ls.length (a5i ls)/\w0.heap.size<=V.heap.size /\
  ∀x t z v,v.ownsRow w0.heap.size 88 3 (.slice (some (Ad t 0)) (ls.length+1) z) (ls.length+1) (a5i ls++a3k x)->V.grownBy v (Value.ownBlock (.slice lb ls.length w))->(Value.ownBlock (.slice lb ls.length w)=some t\/t=V.heap.size) ->
   v.cell? (Ad B 5)=some (.slice lb ls.length w)/\v.frozen? (Ad B 5)=false/\Lo w0 B u ub uc sl (ls++[x]) c a st (v.setCell (Ad B 5) (.slice (some (Ad t 0)) (ls.length+1) z))/\LK B V (v.setCell (Ad B 5) (.slice (some (Ad t 0)) (ls.length+1) z)):=by
 obtain⟨⟨sb,i,lb,w,h1,h2,h3,h4,h5⟩,n,l⟩:=h
 refine⟨lb,w,q2z h1 rfl,q6z h1,h3,n.size,fun x t z v s y p=>?_⟩
 have r:some B≠Value.ownBlock (.slice lb ls.length w):=fun e=>(h5 B e.symm).2.1 rfl
 have p1:=(y.block _ (q5z h1) r).trans h1
 have o:(ls++[x]).length=ls.length+1:=by simp
 have key:=Lo.locals (ls':=ls++[x]) (lb':=some (Ad t 0)) (lc':=z) h1 h2 h4 h5 n l (by rw[o,b9s];exact s) y (fun q e=>by
  simp[Value.ownBlock]at e
  subst e
  exact p)
 rw[o]at key
 exact⟨q2z p1 rfl,q6z p1,key⟩
theorem a4i(n:Nd)(w0:World)(B:Nat)(u:Nd)(ub:Option Addr)(uc:Nat)(sl:List Int)(ls:List Ld)(c a:Int)(b:Option Addr)(cap:Nat)(D:Int)(W:World)(hLo:Lo w0 B u ub uc sl ls c a true W)(hlen:sl.length<=100000) :
  Cl 33 #[Po B 0,ndv n b cap,vi D] W fun e W'=>e=.returned (.tuple #[])/\Lo w0 B u ub uc (sl++[-1]) ls c a true W'/\LK B W W':=by
 have hb0:=q1z (Below.refl W.heap.size W) (nbx n b cap)
 have g0:=a0a W (nbx n b cap)
 have ha0:=(hLo.ap (Nat.le_refl _)).below hLo.lt hb0
 have hlk0:=LK.below hLo.lt hb0
 have hLo1:=hLo.on hb0
 have hnum:=number_any w0 B u ub uc sl ls c a true _ hLo1 hlen
 obtain⟨lb0,lc0,c50,_,_,_,_⟩:=hLo1.cut (m:=0) (Nat.zero_le _)
 obtain⟨t,ht⟩:=exq (W.heap.size)
 rw[ht]at g0 ha0
 obtain⟨had,hhad⟩:=exq (ls.length)
 rw[hhad]at c50
 obtain⟨k0,t0,n0,ks⟩:=n
 go_enter Tryz.func33,Tryz.ntmps33
 go_wp2_with (go_at_call 11;refine hnum.mono ?_;rintro e w1 ⟨rfl,hL1,hk1⟩)
 obtain⟨g1,_⟩:=hk1 t _ ha0 g0
 obtain⟨q0,q1,q2,q3,_,_,_,_⟩:=in4 g1
 simp only at q0 q1 q2 q3
 obtain⟨c8,_,_,_,_,_⟩:=hL1.cells
 obtain⟨lb,lc,c5,f5,hlc,hsh,hcut,hkc⟩:=hL1.cut (m:=had) (Nat.le_of_eq hhad.symm)
 have hc1:(had:Int)<=(lc:Int):=by omega
 have hc0:(0:Int)<=(had:Int):=by omega
 rw[hhad]at c5
 rw[List.take_of_length_le (Nat.le_of_eq hhad)]at hcut
 have fin:Hid (Lo w0 B u ub uc (sl++[-1]) ls c a true (w1.setCell (Ad B 5) (.slice lb had lc))/\LK B W (w1.setCell (Ad B 5) (.slice lb had lc))):=⟨hcut,hlk0.trans (hk1.trans hkc)⟩
 clear hcut hkc hL1 hk1 hnum hLo1 hLo hlk0 ha0 hb0
 go_loopw [7] (fun ix wr=>ix=vi 0/\wr=w1) (fun _ _=>0)
 case atStart=>exact⟨rfl,rfl⟩
 case round =>
 obtain⟨rfl,rfl⟩:=hrel
 rcases hsh with⟨rfl,rfl⟩|⟨gl,rfl⟩
 ·have e0:had=0:=by omega
  subst e0
  by_cases hlt:(0:Int)<(ks.length:Int)
  ·go_wp2
   go_end0
   exact⟨rfl,fin.out⟩
  ·go_wp2
   go_end0
   exact⟨rfl,fin.out⟩
 ·by_cases hlt:(0:Int)<(ks.length:Int)
  ·go_wp2
   go_end0
   exact⟨rfl,fin.out⟩
  ·go_wp2
   go_end0
   exact⟨rfl,fin.out⟩
def a8d (D:Nat) (s:List UInt8) (s0:Nat) (q:Int×Int×Bool) (ls:List Ld):Int×Int×Bool:=if q.2.2 then q else if ls.any (fun x=>x.dp == D&&x.nm == s) then (5,(s0:Nat),true) else q
theorem b0k(D:Nat)(s:List UInt8)(s0:Nat)(q:Int×Int×Bool):a8d D s s0 q []=q:=by simp[a8d]
theorem a8s(D:Nat)(s:List UInt8)(s0:Nat)(q:Int×Int×Bool)(ls:List Ld)(i:Nat)(x:Ld)(hx:ls[i]?=some x):a8d D s s0 q (ls.take (i+1))=unl (!(x.dp == D&&x.nm == s)) 5 (s0:Nat) (a8d D s s0 q (ls.take i)):=by
 have e:ls.take (i+1)=ls.take i++[x]:=by rw[List.take_add_one,hx];rfl
 rw[e]
 unfold a8d unl
 obtain⟨w,y,z⟩:=q
 cases z with
 | true=>simp
 | false =>
  simp only[List.any_append,List.any_cons,List.any_nil,Bool.or_false]
  cases h1:(ls.take i).any (fun x=>x.dp == D&&x.nm == s) <;> cases h2:(x.dp == D&&x.nm == s) <;> simp_all
theorem b1n(h:List Lc)(r:List (List Lc))(s:List UInt8)(fx:Bool):a0h ((h++[⟨s,fx⟩])::r)=a0h (h::r)++[⟨s,r.length+1,fx⟩]:=by simp[a0h]
theorem d5s(h:List Lc)(r:List (List Lc))(s:List UInt8):(a0h (h::r)).any (fun x=>x.dp == r.length+1&&x.nm == s)=h.any (fun x=>x.nm == s):=by
 have:=b5l h r s
 rw[Bool.eq_iff_iff,<- this,List.any_eq_true]
 simp
theorem a6j(w0:World)(B:Nat)(u:Nd)(ub:Option Addr)(uc:Nat)(sl:List Int)(ls:List Ld)(c a:Int)(st:Bool)(is:Bool)(code at_:Int)(W:World)(h:Lo w0 B u ub uc sl ls c a st W):Cl 14 #[Po B 0,.bool is,vi code,vi at_] W fun e W'=>e=.returned (.tuple #[])/\Lo w0 B u ub uc sl ls (unl is code at_ (c,a,st)).1 (unl is code at_ (c,a,st)).2.1 (unl is code at_ (c,a,st)).2.2 W'/\LK B W W'/\(∀q k,q≠B->W'.cell? (Ad q k)=W.cell? (Ad q k))/\W'.cell? (Ad B 5)=W.cell? (Ad B 5):=by
 obtain⟨c8,f8,c6,f6,c7,f7⟩:=h.cells
 have w:LK B W W:=fun t o r y=>⟨y,r⟩
 cases is with
 | true=>exact(b1j B code at_ W).mono fun e W' ⟨s,x⟩=>⟨s,by rw[x];exact⟨h,w,fun _ _ _=>rfl,rfl⟩⟩
 | false =>
  cases st with
  | true=>exact(b3v B code at_ W c8).mono fun e W' ⟨s,x⟩=>⟨s,by rw[x];exact⟨h,w,fun _ _ _=>rfl,rfl⟩⟩
  | false =>
   refine(b3w B code at_ c a W c8 f8 c6 f6 c7 f7).mono fun e W' ⟨s,x⟩=>⟨s,?_⟩
   subst x
   obtain⟨⟨sb,d,lb,l,h1,h2,h3,h4,h5⟩,h6,n⟩:=h
   have g:=q7z (i:=7) (vi at_) (q7z (i:=6) (vi code) (q7z (i:=8) (.bool true) h1))
   have y:∀q,q≠B->(((W.setCell (Ad B 8) (.bool true)).setCell (Ad B 6) (vi code)).setCell (Ad B 7) (vi at_)).heap[q]?=W.heap[q]?:=fun q hq=>(q8z _ _ hq).trans ((q8z _ _ hq).trans (q8z _ _ hq))
   refine⟨⟨⟨sb,d,lb,l,g,a1c h2 (fun q e _=>y q (h4 q e).2),a1c h3 (fun q e _=>y q (h5 q e).2.1),h4,h5⟩,?_,n⟩,fun t o r f=>⟨(y t r.1).trans f,r.1,fun v0 v1 v2 v3 v4 b v6 v7 v8 hv=>?_⟩,fun q k hq=>World.cell?_of_block (y q hq),?_⟩
   ·exact((h6.setCell (p:=(Ad B 8)) n _).setCell (p:=(Ad B 6)) n _).setCell (p:=(Ad B 7)) n _
   ·have z:=g.symm.trans hv
    have ev:Value.slice sb sl.length d=v4/\Value.slice lb ls.length l=b:=by
     simp at z
     exact⟨z.2.2.2.2.1,z.2.2.2.2.2.1⟩
    obtain⟨rfl,rfl⟩:=ev
    exact r.2 _ _ _ _ _ _ _ _ _ h1
   ·exact(q2z (i:=5) (v:=.slice lb ls.length l) g rfl).trans (q2z (i:=5) h1 rfl).symm
theorem b4h(W:World)(a b c:Value):∀j x,[a,b,c][j]?=some x->(W.alloc (.cells #[a,b,c] 88)).cell? ((Ad W.heap.size 0).add j)=some x:=fun j x z=>by
 match j,z with
 | 0,z=>cases z;simp[Addr.add]
 | 1,z=>cases z;simp[Addr.add]
 | 2,z=>cases z;simp[Addr.add]
 | j+3,z=>simp at z
theorem Lo.slot_ne(h:Lo w0 B u ub uc sl ls c a st W){n:Nat}(hc:W.cell? (Ad B 4)=some (.slice (some (Ad g 0)) n lc)):g≠B:=by
 obtain⟨⟨sb,y,lb,z,h1,h2,h3,h4,h5⟩,w,x⟩:=h
 have:=(q2z (i:=4) h1 rfl).symm.trans hc
 cases this
 exact(h4 g rfl).2
theorem Lo.loc_ne(h:Lo w0 B u ub uc sl ls c a st W){n:Nat}(hc:W.cell? (Ad B 5)=some (.slice (some (Ad g 0)) n lc)):g≠B:=by
 obtain⟨⟨sb,y,lb,z,h1,h2,h3,h4,h5⟩,w,x⟩:=h
 have:=(q2z (i:=5) h1 rfl).symm.trans hc
 cases this
 exact(h5 g rfl).2.1
end Go.Proofs.YtomniogfpfbolaaGreatDoor
