import Derived.Test.YtomniogfpfbolaaGreatDoorS36
import Derived.Test.YtomniogfpfbolaaGreatDoorS37
namespace Go.Proofs.YtomniogfpfbolaaGreatDoor
open Go Go.RowKit
set_option maxRecDepth 100000
set_option maxHeartbeats 8000000
set_option linter.all false
theorem c9c(n:Nd):isN n->(b0t n.k->SC n)/\(n.k=4->BC n):=by
 refine a3x (m:=fun n=>isN n->(b0t n.k->SC n)/\(n.k=4->BC n)) (fun k t o ks s h=>?_) n
 rw[isN]at h
 obtain⟨h1,_,_,_,_,_,_,_,w⟩:=h
 rw[a5f]at w
 refine⟨fun q=>?_,fun e=>?_⟩
 ·simp only[b0t]at q
  have v:∀(j:Nat) (y:Nd),ks[j]?=some y->a1i y.k->a1i y.k/\XC y:=fun j y z u=>⟨u,c8a y (w j y z).2 u⟩
  have r:∀(j:Nat) (y:Nd),ks[j]?=some y->y.k=4->y.k=4/\BC y:=fun j y z u=>⟨u,(s y (List.mem_of_getElem? z) (w j y z).2).2 u⟩
  have hf:∀(j:Nat) (y:Nd),ks[j]?=some y->a0w k ks.length j y.k:=fun j y z=>by have:=(w j y z).1;rwa [Nat.zero_add]at this
  by_cases h5:k=5
  ·subst h5
   refine c0g t o ks (fun y x=>?_)
   obtain⟨j,z⟩:=List.getElem?_of_mem x
   have:=hf j y z
   unfold a0w at this
   rw[if_neg (by omega),if_neg (by omega),if_neg (by omega),if_neg (by omega),if_neg (by omega)]at this
   exact v j y z this
  by_cases h6:k=6
  ·subst h6
   have i:ks.length=2:=by unfold a0r at h1;omega
   obtain⟨p,l⟩:∃p,ks[0]?=some p:=⟨_,List.getElem?_eq_getElem (by omega)⟩
   refine c8b t o ks p l (fun y x=>?_)
   obtain⟨j,z⟩:=List.getElem?_of_mem x
   have:=hf j y z
   unfold a0w at this
   rw[if_neg (by omega),if_neg (by omega),if_neg (by omega),if_neg (by omega),if_neg (by omega)]at this
   exact v j y z this
  by_cases h10:k=10
  ·subst h10
   refine c8o t o ks (fun j y z=>?_)
   have:=hf j y z
   unfold a0w at this
   rw[if_neg (by omega),if_neg (by omega),if_neg (by omega),if_neg (by omega),if_pos rfl]at this
   by_cases h2:j=2
   ·rw[if_pos h2]at this
    exact .inr ⟨h2,r j y z this⟩
   ·rw[if_neg h2]at this
    exact .inl ⟨h2,v j y z this⟩
  refine b9t k t o ks (by omega) (fun y x=>?_)
  obtain⟨j,z⟩:=List.getElem?_of_mem x
  have:=hf j y z
  unfold a0w at this
  rw[if_neg (by omega),if_neg (by omega),if_neg (by omega)]at this
  by_cases h8:k=8\/k=9
  ·rw[if_pos h8]at this
   by_cases h0:0<j
   ·rw[if_pos h0]at this
    exact .inr (r j y z this)
   ·rw[if_neg h0]at this
    exact .inl (v j y z this)
  ·rw[if_neg h8,if_neg (by omega)]at this
   exact .inl (v j y z this)
 ·simp only at e
  subst e
  refine d5r t o ks (fun y x=>?_)
  obtain⟨j,z⟩:=List.getElem?_of_mem x
  have:=(w j y z).1
  unfold a0w at this
  rw[if_neg (by omega),if_neg (by omega),if_pos rfl]at this
  exact(s y x (w j y z).2).1 this
theorem Lo.nil{w0:World}{B:Nat}{u:Nd}{ub:Option Addr}{uc:Nat}{sl:List Int}{ls:List Ld}{c a:Int}{st:Bool}{W:World}(h:Lo w0 B u ub uc sl ls c a st W):(∃v,W.cell? (Ad B 5)=some v)/\W.frozen? (Ad B 5)=false/\Lo w0 B u ub uc sl [] c a st (W.setCell (Ad B 5) (.slice none 0 0))/\LK B W (W.setCell (Ad B 5) (.slice none 0 0)):=by
 obtain⟨⟨sb,x,lb,w,h1,h2,h3,h4,h5⟩,y,z⟩:=h
 have key:=Lo.locals (ls':=[]) (lb':=none) (lc':=0) h1 h2 h4 h5 y z ⟨rfl,.inl ⟨rfl,rfl⟩⟩ (b1m W _) (fun q e=>by simp[Value.ownBlock]at e)
 exact⟨⟨_,q2z h1 rfl⟩,q6z h1,key⟩
def FQ (w0:World) (B:Nat) (u:Nd) (ub:Option Addr) (uc:Nat) (c a:Int) (s0 m:Nat) (R:CR) (W:World) (e:Ending) (W':World):Prop :=
 e=.returned (.tuple #[])/\LK B W W'/\((∃sl' ls',R=.ok ⟨sl',[]⟩/\s0<sl'.length/\sl'.length<=s0+m/\ls'.length<=100000/\Lo w0 B u ub uc sl' ls' c a false W')\/(∃cd at_ sl' ls',R=.error (cd,at_)/\s0<sl'.length/\sl'.length<=s0+m/\Lo w0 B u ub uc sl' ls' cd (at_:Nat) true W'))
def PI (w0:World) (B:Nat) (u:Nd) (ub:Option Addr) (uc:Nat) (c a:Int) (S:Nat->Prop) (n:Nd) (b:Option Addr) (cap:Nat) (W:World) (t M s0:Nat) (R:CR) (j:Nat) (wr:World):Prop :=
 wr.heap[t]?=some (nbx n b cap)/\ApL B wr t/\LK B W wr/\SA S B wr/\KA S wr ub uc u.kids/\KA S wr b cap n.kids /\
 ((∃sl' m,a4t (u.kids.map Nd.t) (n.kids.drop j) ⟨sl',[m]⟩=R/\s0<sl'.length/\sl'.length+manyN.go (n.kids.drop j)<=M/\m.length=j/\NB [m]/\Lo w0 B u ub uc sl' (a0h [m]) c a false wr)\/(∃cd at_ sl' ls',R=.error (cd,at_)/\s0<sl'.length/\sl'.length+1<=M/\Lo w0 B u ub uc sl' ls' cd (at_:Nat) true wr))
theorem c5g(fs:List (List UInt8))(x:Nd)(hx:x.k=3)(hk:x.kids=[])(sl:List Int)(m:List Lc)(hm:m.length<=5):visC fs false x ⟨sl,[m]⟩=if m.any (fun y=>y.nm == x.t) then .error (5,sl.length) else .ok ⟨(sl++[-1]).set sl.length ((m.length:Nat):Int),[m++[⟨x.t,false⟩]]⟩:=by
 obtain⟨u,z,w,v⟩:=x
 simp only at hx hk
 subst hx hk
 rw[a3u fs 3 z w [] _ (by omega) (by omega)]
 show actC fs 3 z [] sl.length ⟨sl++[-1],[m]⟩=_
 rw[actC,if_pos (by omega)]
 have e:(⟨sl++[-1],[m]⟩:Cs).live=m.length:=by show sumL [m]=_;rw[a0l];simp[sumL]
 simp only[declareC,e]
 split
 ·rfl
 ·rw[if_neg (by omega)]
theorem function_any(t0:List UInt8)(n0:Int)(ks:List Nd)(P:Nat)(z:Nd)(hP1:P+1=ks.length)(hzk:ks[P]?=some z)(hbc:BC z)(hps:∀j x,j<P->ks[j]?=some x->x.k=3/\x.kids=[])(i:Nat)(w0:World)(B:Nat)(u:Nd)(ub:Option Addr)(uc:Nat)(sl:List Int)(ls:List Ld)(c a:Int)(S:Nat->Prop)(W:World)(hLo:Lo w0 B u ub uc sl ls c a false W)(hKu:KA S W ub uc u.kids)(hui:u.kids[i]?=some ⟨2,t0,n0,ks⟩)(hSA:SA S B W)(hM:sl.length+manyN ⟨2,t0,n0,ks⟩<=100000)(hul:u.kids.length<=100000) :
  Cl 12 #[Po B 0,vi (i:Nat)] W (FQ w0 B u ub uc c a sl.length (manyN ⟨2,t0,n0,ks⟩) (funC (u.kids.map Nd.t) i ⟨2,t0,n0,ks⟩ ⟨sl,[]⟩) W):=by
 obtain⟨i58,hi0,hz0,hz1,hz2⟩:=info_parts c4d
 have hil:i<u.kids.length:=(List.getElem?_eq_some_iff.1 hui).1
 obtain⟨gu,offu,b,cap,rfl,v0,v1,v2,v3,hN⟩:=KA.at hKu hui
 simp only at v0 v1 v2 v3
 have hKn:=KA.of hN
 have hms:manyN ⟨2,t0,n0,ks⟩=manyN.go ks+1:=rfl
 obtain⟨M,hMd⟩:=exq (manyN ⟨2,t0,n0,ks⟩)
 rw[hMd]
 rw[hMd]at hM hms
 obtain⟨hm1,hm2⟩:M<=manyN.go ks+1/\manyN.go ks+1<=M:=by omega
 clear hms
 have hall:=a1g ks
 have hM2:2<=M:=by omega
 obtain⟨s0,hs0⟩:=exq (sl.length)
 -- the result
 obtain⟨R,hR⟩:=exq (a4t (u.kids.map Nd.t) ks ⟨sl++[-1],[[]]⟩)
 have hfun:funC (u.kids.map Nd.t) i ⟨2,t0,n0,ks⟩ ⟨sl,[]⟩=if funV u.kids t0≠(i:Nat) then .error (5,s0) else if 12<=i\/5<P then .error (1,s0) else R.map Cs.close:=by
  rw[<- hR,funC]
  have e1:b3c (u.kids.map Nd.t) i t0=decide (funV u.kids t0≠(i:Nat)):=by
   unfold b3c funV
   have hmem:t0∈(u.kids.map Nd.t):=List.mem_map.2 ⟨_,List.mem_of_getElem? hui,rfl⟩
   cases hf:funI (u.kids.map Nd.t) t0 with
   | none =>
    unfold funI at hf
    rw[List.findIdx?_eq_none_iff]at hf
    have:=hf t0 hmem
    simp at this
   | some j =>
    unfold funI at hf
    rw[List.findIdx?_eq_some_iff_getElem]at hf
    obtain⟨hj,_,hlt⟩:=hf
    have hji:j<=i:=by
     apply Nat.le_of_not_lt
     intro hij
     have:=hlt i hij
     have e:(u.kids.map Nd.t)[i]'(by simpa using hil)=t0:=by
      have:=(List.getElem?_eq_some_iff.1 hui).2
      simp[this]
     rw[e]at this
     simp at this
    simp only
    rw[decide_eq_decide]
    omega
  simp only[e1,decide_eq_true_eq]
  split
  ·rw[hs0]
  ·have e2:(12<=i\/6<ks.length)↔(12<=i\/5<P):=by omega
   simp only[e2]
   split
   ·rw[hs0]
   ·rfl
 rw[hfun]
 obtain⟨FR,hFR⟩:=exq ((if funV u.kids t0≠(i:Nat) then .error (5,s0) else if 12<=i\/5<P then .error (1,s0) else R.map Cs.close))
 rw[hFR]
 clear hfun
 have hb0:=q1z (Below.refl W.heap.size W) (nbx ⟨2,t0,n0,ks⟩ b cap)
 have g0:=a0a W (nbx ⟨2,t0,n0,ks⟩ b cap)
 have ha0:=(hLo.ap (Nat.le_refl _)).below hLo.lt hb0
 have hlk0:=LK.below hLo.lt hb0
 have hLo1:=hLo.on hb0
 have hnum:=number_any w0 B u (some (Ad gu offu)) uc sl ls c a false _ hLo1 (by omega)
 rw[hs0]at hnum hM⊢
 obtain⟨c3⟩:∃_:True,W.cell? (Ad B 3)=some (.slice (some (Ad gu offu)) u.kids.length uc):=by
  obtain⟨⟨sb,sc,lb,lc,h1,_⟩,_⟩:=hLo
  exact⟨trivial,q2z h1 rfl⟩
 rename_i c3
 have hil0:(0:Int)<=(i:Int):=by omega
 have hil1:(i:Int)<(u.kids.length:Int):=by omega
 obtain⟨t,ht⟩:=exq (W.heap.size)
 rw[ht]at g0 ha0
 obtain⟨L,hL⟩:=exq (ks.length)
 have hwP:IntKind.i64.wrap ((L:Int)-1)=(P:Int):=by rw[IntKind.wrap_i64];omega
 have hwP2:(L:Int)-1=(P:Int):=by omega
 obtain⟨FV,hFV⟩:=exq (funV u.kids t0)
 have hfn:=fun V (h1:Lo w0 B u (some (Ad gu offu)) uc (sl++[-1]) ls c a false V) (h2:KA S V (some (Ad gu offu)) uc u.kids)=>b2q w0 B u (some (Ad gu offu)) uc (sl++[-1]) ls c a false t0 S V h1 h2 hul
 rw[hFV]at hfn hFR
 have hun1:=fun qq V (h1:Lo w0 B u (some (Ad gu offu)) uc (sl++[-1]) ls c a false V)=>a0q w0 B u (some (Ad gu offu)) uc (sl++[-1]) ls c a false qq 5 (s0:Nat) V h1
 replace hL:Hid _:=hL
 replace hFV:Hid _:=hFV
 replace hFR:Hid _:=hFR
 replace hR:Hid _:=hR
 replace hbc:Hid (BC z):=hbc
 replace hzk:Hid (ks[P]?=some z):=hzk
 replace hps:Hid (∀j x,j<P->ks[j]?=some x->x.k=3/\x.kids=[]):=hps
 replace hui:Hid _:=hui
 have hgo:∀b2:Bool,(b2=decide (i<12))->Cl 12 #[Po B 0,vi (i:Nat)] W (FQ w0 B u (some (Ad gu offu)) uc c a s0 M FR W):=by
  intro b2 hb2
  cases b2 with
  | true =>
   have h12:(i:Int)<12:=by simp at hb2;omega
   clear hb2
   go_enter Tryz.func12,Tryz.ntmps12
   go_wp2_with (first
    | (go_at_call 11;refine hnum.mono ?_;rintro e w1 ⟨rfl,hL1,hk1⟩;obtain⟨g1,ha1⟩:=hk1 t _ ha0 g0;obtain⟨z0,z1,z2,z3,_,_,_,_⟩:=in4 g1;simp only at z0 z1 z2 z3;rw[hL.out]at z3;have hKu1:=hKu.lk hSA (hlk0.trans hk1))
    | (go_at_call 13;refine(hfn _ hL1 hKu1).mono ?_;rintro e w2 ⟨rfl,rfl⟩)
    | (go_at_call 14;refine(hun1 (FV == (i:Int)) _ hL1).mono ?_;rintro e w3 ⟨rfl,hL3,hk3⟩;refine Hid.out ?_))
   obtain⟨q3,hq3⟩:=exq (unl (FV == (i:Int)) 5 (s0:Nat) (c,a,false))
   rw[hq3]at hL3
   obtain⟨g3,ha3⟩:=hk3 t _ ha1 g1
   have hun2:=fun qq=>a0q w0 B u (some (Ad gu offu)) uc (sl++[-1]) ls q3.1 q3.2.1 q3.2.2 qq 1 (s0:Nat) w3 hL3
   refine Lib.hid ?_
   go_wp2_with (go_at_call 14;refine(hun2 (decide ((P:Int)<=5))).mono ?_;rintro e w4 ⟨rfl,hL4,hk4⟩;refine Hid.out ?_)
   obtain⟨q4,hq4⟩:=exq (unl (decide ((P:Int)<=5)) 1 (s0:Nat) (q3.1,q3.2.1,q3.2.2))
   rw[hq4]at hL4
   obtain⟨g4,ha4⟩:=hk4 t _ ha3 g3
   obtain⟨⟨vv,c5⟩,f5,hL5,hk5⟩:=hL4.nil
   obtain⟨g5,ha5⟩:=hk5 t _ ha4 g4
   obtain⟨W5,hW5⟩:=exq (w4.setCell (Ad B 5) (.slice none 0 0))
   rw[hW5]at hL5 hk5 g5 ha5
   have hlk5:=hlk0.trans (hk1.trans (hk3.trans (hk4.trans hk5)))
   have hSA5:=(hSA.on hlk5).1
   have hKu5:=hKu.lk hSA hlk5
   have hKn5:=hKn.lk hSA hlk5
   obtain⟨y0,y1,y2,y3,_,_,_,_⟩:=in4 g5
   simp only at y0 y1 y2 y3
   rw[hL.out]at y3
   obtain⟨c8,_,_,_,_,_⟩:=hL5.cells
   clear hun1 hun2 hfn hnum hLo hLo1 hL1 hL3 hL4 hk1 hk3 hk4 hk5 z0 z1 z2 z3 hKu1 g0 g1 g3 g4 ha0 ha1 ha3 ha4 hb0 hlk0 v0 v1 v2 v3 c3 hN
   obtain⟨gz,offz,bz,cz,rfl,e0,e1,e2,e3,hzV⟩:=KA.at hKn5 hzk.out
   have hP0:(0:Int)<=(P:Int):=by omega
   have hPL:(P:Int)<(L:Int):=by omega
   by_cases h4:q4.2.2=true
   ·have hbs:=a4i z w0 B u (some (Ad gu offu)) uc (sl++[-1]) [] q4.1 q4.2.1 bz cz 1 W5 (by rw[<- h4];exact hL5) (by simp;omega)
    obtain⟨zk,zt,zn,zs⟩:=z
    simp only at e0 e1 e2 e3
    replace hbs:Cl 33 #[Po B 0,.agg #[vi zk,sk zt,vi zn,.slice bz zs.length cz],vi 1] W5 _:=hbs
    have fin:Hid (∀W',Lo w0 B u (some (Ad gu offu)) uc (sl++[-1]++[-1]) [] q4.1 q4.2.1 true W'->LK B W5 W'->FQ w0 B u (some (Ad gu offu)) uc c a s0 M FR W (.returned (.tuple #[])) W'):=fun W' h1 h2=>by
     refine⟨rfl,hlk5.trans h2,.inr ?_⟩
     rw[<- hFR.out]
     by_cases hv:FV=(i:Int)
     ·have hP5:¬(P:Int)<=5:=fun h=>by rw[<- hq4,<- hq3]at h4;simp[unl,hv,h]at h4
      have hq:q4=(1,((s0:Nat):Int),true):=by rw[<- hq4,<- hq3];simp[unl,hv,hP5]
      rw[if_neg (by simpa using hv),if_pos (by omega)]
      rw[hq]at h1
      exact⟨1,s0,_,_,rfl,by simp;omega,by simp;omega,h1⟩
     ·have hq:q4=(5,((s0:Nat):Int),true):=by rw[<- hq4,<- hq3];simp[unl,hv]
      rw[if_pos (by simpa using hv)]
      rw[hq]at h1
      exact⟨5,s0,_,_,rfl,by simp;omega,by simp;omega,h1⟩
    rw[h4]at c8
    refine Lib.hid ?_
    by_cases hp0:0<P
    ·have hp0':(0:Int)<(P:Int):=by omega
     go_wp2
     try rw[hW5]
     go_loopw [7] (fun ix wr=>ix=vi 0/\wr=W5) (fun _ _=>0)
     case atStart=>exact⟨rfl,rfl⟩
     case round =>
     obtain⟨rfl,rfl⟩:=hrel
     go_wp2_with (go_at_call 33;refine hbs.mono ?_;rintro e w6 ⟨rfl,hL6,hk6⟩)
     go_end0
     exact fin.out _ hL6 hk6
    ·have hp0':¬(0:Int)<(P:Int):=by omega
     go_wp2
     try rw[hW5]
     go_loopw [7] (fun ix wr=>ix=vi 0/\wr=W5) (fun _ _=>0)
     case atStart=>exact⟨rfl,rfl⟩
     case round =>
     obtain⟨rfl,rfl⟩:=hrel
     go_wp2_with (go_at_call 33;refine hbs.mono ?_;rintro e w6 ⟨rfl,hL6,hk6⟩)
     go_end0
     exact fin.out _ hL6 hk6
   ·have hv:FV=(i:Int):=Classical.byContradiction fun hv=>by rw[<- hq4,<- hq3]at h4;simp[unl,hv]at h4
    have hP5:(P:Int)<=5:=Classical.byContradiction fun hP5=>by rw[<- hq4,<- hq3]at h4;simp[unl,hv,hP5]at h4
    have hq:q4=(c,a,false):=by rw[<- hq4,<- hq3];simp[unl,hv,hP5]
    have hFRo:FR=R.map Cs.close:=by rw[<- hFR.out,if_neg (by simpa using hv),if_neg (by omega)]
    subst hFRo
    clear hq4 hq3 hFR h4
    subst hq
    have hI:PI w0 B u (some (Ad gu offu)) uc c a S ⟨2,t0,n0,ks⟩ (some (Ad gz offz)) cap W t (s0+M) s0 R 0 W5 :=
     ⟨g5,ha5,hlk5,hSA5,hKu5,hKn5,.inl ⟨sl++[-1],[],hR.out,by simp;omega,by simp;omega,rfl,fun b hb=>by simp at hb;subst hb;simp,hL5⟩⟩
    clear hlk5 hSA5 hKu5 hKn5 g5 ha5 hL5 c8 y0 y1 y2 y3 e0 e1 e2 e3 hzV
    refine Lib.hid ?_
    go_wp2
    try rw[hW5]
    clear hW5
    go_loopw [7] (fun ix wr=>∃j:Nat,j<=P/\ix=vi (j:Nat)/\PI w0 B u (some (Ad gu offu)) uc c a S ⟨2,t0,n0,ks⟩ (some (Ad gz offz)) cap W t (s0+M) s0 R j wr) (fun ix _=>P-(intOf ix).toNat)
    case atStart=>exact⟨0,Nat.zero_le _,rfl,hI⟩
    case round =>
     obtain⟨j,hj,rfl,g,ha,hlk,hS1,hKu,hKn,hst⟩:=hrel
     clear hI
     simp only at hKn hst
     obtain⟨q0,q1,q2,q3,_,_,_,_⟩:=in4 g
     simp only at q0 q1 q2 q3
     rw[hL.out]at q3
     rcases hst with⟨sl',m,hgo,hs1,hs2,hmj,hNB,hLo⟩|⟨cd,at_,sl',ls',hRe,hs1,hs2,hLo⟩
     ·obtain⟨c8,_,_,_,_,_⟩:=hLo.cells
      by_cases hlt:j<P
      ·have hlt':(j:Int)<(P:Int):=by omega
       have hj0:(0:Int)<=(j:Int):=by omega
       have hjL:(j:Int)<(L:Int):=by omega
       obtain⟨x,hx⟩:∃x,ks[j]?=some x:=⟨_,List.getElem?_eq_getElem (by omega)⟩
       obtain⟨hx3,hxs⟩:=hps.out j x hlt hx
       have hdr:ks.drop j=x::ks.drop (j+1):=by rw[List.drop_eq_getElem_cons (by omega)];congr 1;exact(List.getElem?_eq_some_iff.1 hx).2
       obtain⟨y,l,hdr2⟩:∃y l,ks.drop (j+1)=y::l:=by
        cases e:ks.drop (j+1) with
        | nil=>have:=List.drop_eq_nil_iff.1 e;omega
        | cons y l=>exact⟨y,l,rfl⟩
       have hy1:=a2n y
       have hx1:=a2n x
       rw[hdr]at hgo hs2
       simp only[manyN.go]at hs2
       have hs3:sl'.length+1+manyN.go (ks.drop (j+1))<=s0+M:=by omega
       have hs4:1<=manyN.go (ks.drop (j+1)):=by rw[hdr2];simp only[manyN.go];omega
       have hgo2:(visC (u.kids.map Nd.t) false x ⟨sl',[m]⟩).bind (a4t (u.kids.map Nd.t) (ks.drop (j+1)))=R:=by rw[<- hgo,hdr2,a4t]
       rw[c5g _ x hx3 hxs sl' m (by omega)]at hgo2
       obtain⟨LV,hLV⟩:=exq (b2h x.t (a0h [m]))
       have hany:decide (LV<0)=!(m.any (fun y=>y.nm == x.t)):=by
        rw[<- hLV,b2s hNB,findL]
        cases hf:m.findIdx? (fun y=>y.nm == x.t) with
        | none =>
         have:m.any (fun y=>y.nm == x.t)=false:=by
          rw[List.any_eq_false]
          intro w hw
          simpa using a6c hf w hw
         rw[this]
         rfl
        | some k =>
         obtain⟨w,hw,hn⟩:=a8v hf
         have:m.any (fun y=>y.nm == x.t)=true:=List.any_eq_true.2 ⟨w,List.mem_of_getElem? hw,by simpa using hn⟩
         rw[this]
         simp
         omega
       obtain⟨LS,hLSd⟩:=exq (a0h [m])
       rw[hLSd]at hLo hLV
       have hLS:Hid (LS.length=j):=by show _=_;rw[<- hLSd,a2i,a0l,hmj];simp[sumL]
       have hnum:=number_any w0 B u (some (Ad gu offu)) uc sl' LS c a false wr hLo (by omega)
       have hloc:=fun V (h1:Lo w0 B u (some (Ad gu offu)) uc (sl'++[-1]) LS c a false V)=>a7y w0 B u (some (Ad gu offu)) uc (sl'++[-1]) LS c a false x.t V h1 (by have:=hLS.out;omega)
       rw[hLV]at hloc
       have hun:=fun V (h1:Lo w0 B u (some (Ad gu offu)) uc (sl'++[-1]) LS c a false V)=>a0q w0 B u (some (Ad gu offu)) uc (sl'++[-1]) LS c a false (decide (LV<0)) 5 ((sl'.length:Nat):Int) V h1
       obtain⟨sx,hsx⟩:=exq (sl'.length)
       rw[hsx]at hnum hun hgo2 hs1 hs3
       obtain⟨sl2,hsl2⟩:=exq (sl'++[-1])
       rw[hsl2]at hnum hun hloc hgo2
       have hl2:sl2.length=sx+1:=by rw[<- hsl2];simp[hsx]
       have fin:Hid (∀W' q5,unl (decide (LV<0)) 5 ((sx:Nat):Int) (c,a,false)=q5->Lo w0 B u (some (Ad gu offu)) uc (sl2.set sx ((j:Nat):Int)) (LS++[⟨x.t,1,false⟩]) q5.1 q5.2.1 q5.2.2 W'->((∃sl' m,a4t (u.kids.map Nd.t) (ks.drop (j+1)) ⟨sl',[m]⟩=R/\s0<sl'.length/\sl'.length+manyN.go (ks.drop (j+1))<=s0+M/\m.length=j+1/\NB [m]/\Lo w0 B u (some (Ad gu offu)) uc sl' (a0h [m]) c a false W')\/(∃cd at_ sl' ls',R=.error (cd,at_)/\s0<sl'.length/\sl'.length+1<=s0+M/\Lo w0 B u (some (Ad gu offu)) uc sl' ls' cd (at_:Nat) true W'))):=by
        intro W' q5 hq5 hL
        rw[hany]at hq5
        cases hb:m.any (fun y=>y.nm == x.t) with
        | true =>
         rw[hb]at hq5
         rw[hb,if_pos rfl]at hgo2
         have e5:q5=(5,((sx:Nat):Int),true):=by rw[<- hq5];simp[unl]
         subst e5
         exact .inr ⟨5,sx,_,_,hgo2.symm,by rw[List.length_set];omega,by rw[List.length_set];omega,hL⟩
        | false =>
         rw[hb]at hq5
         rw[hb,if_neg (by simp),hmj]at hgo2
         have e5:q5=(c,a,false):=by rw[<- hq5];simp[unl]
         subst e5
         refine .inl ⟨sl2.set sx ((j:Nat):Int),m++[⟨x.t,false⟩],by rw[<- hgo2];rfl,by rw[List.length_set];omega,by rw[List.length_set];omega,by simp[hmj],?_,?_⟩
         ·intro w hw
          simp at hw
          subst hw
          have hnd:=hNB m (by simp)
          rw[List.map_append,List.nodup_append]
          refine⟨hnd,by simp,fun p hp r hr=>?_⟩
          simp at hr
          subst hr
          intro e
          obtain⟨q,hq,rfl⟩:=List.mem_map.1 hp
          exact absurd (List.any_eq_true.2 ⟨q,hq,by simpa using e⟩:m.any (fun y=>y.nm == x.t)=true) (by rw[hb];simp)
         ·rw[b1n,hLSd]
          exact hL
       replace hgo2:Hid _:=hgo2
       replace hl2:Hid _:=hl2
       clear hgo hdr hdr2 hLo hany hLV hLSd hsl2 hy1 hx1
       go_wp2_with (first
        | (go_at_call 11;refine hnum.mono ?_;rintro e w1 ⟨rfl,hL1,hk1⟩;obtain⟨g1,ha1⟩:=hk1 t _ ha g;obtain⟨z0,z1,z2,z3,_,_,_,_⟩:=in4 g1;simp only at z0 z1 z2 z3;rw[hL.out]at z3;have hKn1:=hKn.lk hS1 hk1;obtain⟨gx,offx,bx,cx,ex,x0,x1,x2,x3,_⟩:=KA.at hKn1 hx;cases ex)
        | (go_at_call 32;refine(hloc _ hL1).mono ?_;rintro e w2 ⟨rfl,rfl⟩)
        | (go_at_call 14;refine(hun _ hL1).mono ?_;rintro e w5 ⟨rfl,hL5,hk5⟩;refine Hid.out ?_))
       obtain⟨q5,hq5⟩:=exq (unl (decide (LV<0)) 5 ((sx:Nat):Int) (c,a,false))
       rw[hq5]at hL5
       have hbd5:Bw w5 w5.drew:=bz0.drew
       have hkd5:=LK.below hL5.lt hbd5
       obtain⟨g5,ha5⟩:=(hk5.trans hkd5) t _ ha1 g1
       replace hL5:=hL5.on hbd5
       obtain⟨gs,sc,c4,⟨xx,cx⟩,fx,hset⟩:=hL5.slot (j:=sx) (by have:=hl2.out;omega)
       have hgsB:=hL5.slot_ne c4
       obtain⟨lb5,lc5,c55,f55,_,_,_,_⟩:=hL5.cut (m:=0) (Nat.zero_le _)
       rw[hLS.out]at c55
       obtain⟨hL6,hk6⟩:=hset ((j:Nat):Int)
       obtain⟨g6,ha6⟩:=hk6 t _ ha5 g5
       have hs0':(0:Int)<=(sx:Int):=by omega
       have hs1':(sx:Int)<(sl2.length:Int):=by have:=hl2.out;omega
       have c4':w5.cell? (Ad B 4)=some (.slice (some (Ad gs 0)) sl2.length sc):=c4
       have c55':w5.cell? (Ad B 5)=some (.slice lb5 j lc5):=c55
       have cx':w5.cell? (Ad gs sx)=some (vi xx):=cx
       have fx':w5.frozen? (Ad gs sx)=false:=fx
       refine Lib.hid ?_
       go_wp2
       go_region_held3 (fun w'=>w'.cell? (Ad B 4)=some (.slice (some (Ad gs 0)) sl2.length sc)/\w'.cell? (Ad B 5)=some (.slice lb5 j lc5)) (go_keep) (fail)
       obtain⟨W6,hW6⟩:=exq (w5.drew.setCell (Ad gs sx) (iv ((j:Nat):Int)))
       rw[hW6]at hL6 hk6 g6 ha6
       have hW6':(w5.setCell (Ad gs sx) (vi ((j:Nat):Int))).drew=W6:=hW6
       first|rw[hW6']|rw[hW6]
       clear hW6 hW6' c4 c4' c55 c55' cx cx' fx fx' hset x0 x1 x2 x3 z0 z1 z2 z3
       have hba:=q1z ((Below.refl W6.heap.size W6).drew) (.cells #[sk x.t,vi 1,.bool false] 88)
       have hka:=LK.below hL6.lt hba
       obtain⟨g7,ha7⟩:=hka t _ ha6 g6
       have hLV:=hL6.on hba
       obtain⟨lbV,lcV,cV,fV,hownV,hszV,happ⟩:=hLV.app
       rw[hLS.out]at cV hownV happ
       have c5W:W6.cell? (Ad B 5)=some (.slice lbV j lcV):=(World.cell?_of_block (a:=(Ad B 5)) (hba.block B hL6.lt)).symm.trans cV
       have c5a:∀o,(W6.alloc o).cell? (Ad B 5)=some (.slice lbV j lcV):=fun o=>(World.cell?_alloc_past _ _ _ hL6.lt).trans c5W
       obtain⟨z0,z1,z2,z3,_,_,_,_⟩:=in4 g6
       simp only at z0 z1 z2 z3
       rw[hL.out]at z3
       have hlkA:=hk1.trans (hk5.trans (hkd5.trans hk6))
       have hKn6:=hKn.lk hS1 hlkA
       obtain⟨gx,offx,bx,cx,ex,x0,x1,x2,x3,_⟩:=KA.at hKn6 hx
       cases ex
       have hnews:=b4h W6.drew (sk x.t) (vi 1) (.bool false)
       have h63:j+1<=maxLen:=by unfold maxLen;omega
       have hby:(j+1)*32<=140737488355328:=by omega
       have htr:a3k ⟨x.t,1,false⟩=[sk x.t,vi 1,.bool false]:=by simp[a3k]
       have hone:∀v∈[sk x.t,vi 1,.bool false],v.oneCell'=true:=by simp[Value.oneCell']
       go_wp2
       go_region_law ((refine step_append_lies _ (by rfl) _ _ _ (by rfl) w0.heap.size 88 i58 _ 3 32 Tryz.underlying36 hi0 hz0 hz1 hz2 rfl (by omega) (.slice lbV j lcV) j _ (by rfl) hownV (Ad W6.drew.heap.size 0) 1 1 [sk x.t,vi 1,.bool false] (by rfl) (by rfl) hnews hone (by omega) h63 hby hszV _ rfl ?_;intro g3 cap3 w3 hown3 hgrow hat hlt3;rw[<- htr]at hown3;obtain⟨c5,f5,hL7,hk7⟩:=happ _ _ _ _ hown3 hgrow hat))
       all_goals
        go_wp2
        go_roundw
        case rel =>
         have hlkB:=hlkA.trans (hka.trans hk7)
         obtain⟨g8,ha8⟩:=hk7 t _ ha7 g7
         exact⟨j+1,by omega,by go_num,g8,ha8,hlk.trans hlkB,(hS1.on hlkB).1,hKu.lk hS1 hlkB,hKn.lk hS1 hlkB,fin.out _ _ hq5 hL7⟩
        case measure=>simp[intOf];omega
      ·have hjP:j=P:=by omega
       subst hjP
       have hlt':¬(j:Int)<(j:Int):=by omega
       have hdr:ks.drop j=[z]:=by
        rw[List.drop_eq_getElem_cons (by omega),List.drop_eq_nil_of_le (by omega)]
        congr 1
        exact(List.getElem?_eq_some_iff.1 hzk.out).2
       rw[hdr]at hgo hs2
       rw[a4t]at hgo
       simp only[manyN.go]at hs2
       obtain⟨g',off,bz,cz,eb,v0,v1,v2,v3,hzV⟩:=KA.at hKn hzk.out
       cases eb
       have hcall:=hbc.out w0 B u (some (Ad gu offu)) uc sl' m [] c a S bz cz wr hLo hKu hzV hS1 (by omega) (by simp;omega) (by rw[a0l];simp[sumL];omega) hul hNB
       rw[hgo]at hcall
       obtain⟨zk,zt,zn,zs⟩:=z
       simp only at v0 v1 v2 v3
       replace hcall:Cl 33 #[Po B 0,.agg #[vi zk,sk zt,vi zn,.slice bz zs.length cz],vi 1] wr _:=hcall
       have hln:(a0h [m]).length<=100000:=by rw[a2i,a0l];simp[sumL];omega
       replace hgo:Hid _:=hgo
       clear hdr hzV
       go_wp2_with (go_at_call 33;refine hcall.mono ?_;rintro e w6 ⟨rfl,hk6,hr6⟩)
       go_end0
       refine⟨rfl,hlk.trans hk6,?_⟩
       rcases hr6 with⟨sl2,bl2,e2,p1,p2,p3⟩|⟨cd,at_,sl2,ls2,e2,p1,p2,p4,p3⟩
       ·refine .inl ⟨sl2,_,?_,by omega,by omega,hln,p3⟩
        have hgo2:=hgo.out
        rw[e2]at hgo2
        have htl:=(a2g _ _ _ _ _ hgo2).tail
        rw[e2]
        show Except.ok (⟨sl2,bl2.tail⟩:Cs)=_
        rw[htl]
        rfl
       ·exact .inr ⟨cd,at_,sl2,ls2,by rw[e2];rfl,by omega,by omega,p3⟩
     ·obtain⟨c8,_,_,_,_,_⟩:=hLo.cells
      subst hRe
      obtain⟨g',off,bz,cz,eb,v0,v1,v2,v3,hzV⟩:=KA.at hKn hzk.out
      cases eb
      have hbs:=a4i z w0 B u (some (Ad gu offu)) uc sl' ls' cd ((at_:Nat):Int) bz cz 1 wr hLo (by omega)
      obtain⟨zk,zt,zn,zs⟩:=z
      simp only at v0 v1 v2 v3
      replace hbs:Cl 33 #[Po B 0,.agg #[vi zk,sk zt,vi zn,.slice bz zs.length cz],vi 1] wr _:=hbs
      by_cases hlt:j<P
      ·have hlt':(j:Int)<(P:Int):=by omega
       go_wp2_with (go_at_call 33;refine hbs.mono ?_;rintro e w6 ⟨rfl,hL6,hk6⟩)
       go_end0
       exact⟨rfl,hlk.trans hk6,.inr ⟨cd,at_,_,_,rfl,by simp;omega,by simp;omega,hL6⟩⟩
      ·have hlt':¬(j:Int)<(P:Int):=by omega
       go_wp2_with (go_at_call 33;refine hbs.mono ?_;rintro e w6 ⟨rfl,hL6,hk6⟩)
       go_end0
       exact⟨rfl,hlk.trans hk6,.inr ⟨cd,at_,_,_,rfl,by simp;omega,by simp;omega,hL6⟩⟩
  | false =>
   have h12:¬(i:Int)<12:=by simp at hb2;omega
   clear hb2
   go_enter Tryz.func12,Tryz.ntmps12
   go_wp2_with (first
    | (go_at_call 11;refine hnum.mono ?_;rintro e w1 ⟨rfl,hL1,hk1⟩;obtain⟨g1,ha1⟩:=hk1 t _ ha0 g0;obtain⟨z0,z1,z2,z3,_,_,_,_⟩:=in4 g1;simp only at z0 z1 z2 z3;rw[hL.out]at z3;have hKu1:=hKu.lk hSA (hlk0.trans hk1))
    | (go_at_call 13;refine(hfn _ hL1 hKu1).mono ?_;rintro e w2 ⟨rfl,rfl⟩)
    | (go_at_call 14;refine(hun1 (FV == (i:Int)) _ hL1).mono ?_;rintro e w3 ⟨rfl,hL3,hk3⟩;refine Hid.out ?_))
   obtain⟨q3,hq3⟩:=exq (unl (FV == (i:Int)) 5 (s0:Nat) (c,a,false))
   rw[hq3]at hL3
   obtain⟨g3,ha3⟩:=hk3 t _ ha1 g1
   have hun2:=fun qq=>a0q w0 B u (some (Ad gu offu)) uc (sl++[-1]) ls q3.1 q3.2.1 q3.2.2 qq 1 (s0:Nat) w3 hL3
   refine Lib.hid ?_
   go_wp2_with (go_at_call 14;refine(hun2 false).mono ?_;rintro e w4 ⟨rfl,hL4,hk4⟩;refine Hid.out ?_)
   obtain⟨q4,hq4⟩:=exq (unl false 1 (s0:Nat) (q3.1,q3.2.1,q3.2.2))
   rw[hq4]at hL4
   obtain⟨g4,ha4⟩:=hk4 t _ ha3 g3
   obtain⟨⟨vv,c5⟩,f5,hL5,hk5⟩:=hL4.nil
   obtain⟨g5,ha5⟩:=hk5 t _ ha4 g4
   obtain⟨W5,hW5⟩:=exq (w4.setCell (Ad B 5) (.slice none 0 0))
   rw[hW5]at hL5 hk5 g5 ha5
   have hlk5:=hlk0.trans (hk1.trans (hk3.trans (hk4.trans hk5)))
   have hSA5:=(hSA.on hlk5).1
   have hKu5:=hKu.lk hSA hlk5
   have hKn5:=hKn.lk hSA hlk5
   obtain⟨y0,y1,y2,y3,_,_,_,_⟩:=in4 g5
   simp only at y0 y1 y2 y3
   rw[hL.out]at y3
   obtain⟨c8,_,_,_,_,_⟩:=hL5.cells
   clear hun1 hun2 hfn hnum hLo hLo1 hL1 hL3 hL4 hk1 hk3 hk4 hk5 z0 z1 z2 z3 hKu1 g0 g1 g3 g4 ha0 ha1 ha3 ha4 hb0 hlk0 v0 v1 v2 v3 c3 hN
   obtain⟨gz,offz,bz,cz,rfl,e0,e1,e2,e3,hzV⟩:=KA.at hKn5 hzk.out
   have hP0:(0:Int)<=(P:Int):=by omega
   have hPL:(P:Int)<(L:Int):=by omega
   have h4:q4.2.2=true:=by
    by_cases hv:FV=(i:Int)
    ·rw[<- hq4,<- hq3];simp[unl,hv]
    ·rw[<- hq4,<- hq3];simp[unl,hv]
   have hbs:=a4i z w0 B u (some (Ad gu offu)) uc (sl++[-1]) [] q4.1 q4.2.1 bz cz 1 W5 (by rw[<- h4];exact hL5) (by simp;omega)
   obtain⟨zk,zt,zn,zs⟩:=z
   simp only at e0 e1 e2 e3
   replace hbs:Cl 33 #[Po B 0,.agg #[vi zk,sk zt,vi zn,.slice bz zs.length cz],vi 1] W5 _:=hbs
   have fin:Hid (∀W',Lo w0 B u (some (Ad gu offu)) uc (sl++[-1]++[-1]) [] q4.1 q4.2.1 true W'->LK B W5 W'->FQ w0 B u (some (Ad gu offu)) uc c a s0 M FR W (.returned (.tuple #[])) W'):=fun W' h1 h2=>by
    refine⟨rfl,hlk5.trans h2,.inr ?_⟩
    rw[<- hFR.out]
    by_cases hv:FV=(i:Int)
    ·have hq:q4=(1,((s0:Nat):Int),true):=by rw[<- hq4,<- hq3];simp[unl,hv]
     rw[if_neg (by simpa using hv),if_pos (by omega)]
     rw[hq]at h1
     exact⟨1,s0,_,_,rfl,by simp;omega,by simp;omega,h1⟩
    ·have hq:q4=(5,((s0:Nat):Int),true):=by rw[<- hq4,<- hq3];simp[unl,hv]
     rw[if_pos (by simpa using hv)]
     rw[hq]at h1
     exact⟨5,s0,_,_,rfl,by simp;omega,by simp;omega,h1⟩
   rw[h4]at c8
   refine Lib.hid ?_
   by_cases hp0:0<P
   ·have hp0':(0:Int)<(P:Int):=by omega
    go_wp2
    try rw[hW5]
    go_loopw [7] (fun ix wr=>ix=vi 0/\wr=W5) (fun _ _=>0)
    case atStart=>exact⟨rfl,rfl⟩
    case round =>
    obtain⟨rfl,rfl⟩:=hrel
    go_wp2_with (go_at_call 33;refine hbs.mono ?_;rintro e w6 ⟨rfl,hL6,hk6⟩)
    go_end0
    exact fin.out _ hL6 hk6
   ·have hp0':¬(0:Int)<(P:Int):=by omega
    go_wp2
    try rw[hW5]
    go_loopw [7] (fun ix wr=>ix=vi 0/\wr=W5) (fun _ _=>0)
    case atStart=>exact⟨rfl,rfl⟩
    case round =>
    obtain⟨rfl,rfl⟩:=hrel
    go_wp2_with (go_at_call 33;refine hbs.mono ?_;rintro e w6 ⟨rfl,hL6,hk6⟩)
    go_end0
    exact fin.out _ hL6 hk6
 exact hgo _ rfl
end Go.Proofs.YtomniogfpfbolaaGreatDoor
