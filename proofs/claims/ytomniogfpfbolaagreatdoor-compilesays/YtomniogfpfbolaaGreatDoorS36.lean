import Derived.Test.YtomniogfpfbolaaGreatDoorS29
namespace Go.Proofs.YtomniogfpfbolaaGreatDoor
open Go.RowKit Go
set_option maxRecDepth 100000
set_option maxHeartbeats 8000000
set_option linter.all false
theorem c0g(t0:List UInt8)(n0:Int)(ks:List Nd)(ih:∀y∈ks,a1i y.k/\XC y):SC ⟨5,t0,n0,ks⟩:=by
 intro w0 B u ub uc sl h r c a S b cap W hLo hKu hN hSA hM hD hbl hul hNB
 have hKn:=KA.of hN
 have hd:visC (u.kids.map Nd.t) false ⟨5,t0,n0,ks⟩ ⟨sl,h::r⟩=(visC.go (u.kids.map Nd.t) 5 t0 sl.length 0 ks ⟨sl++[-1],h::r⟩).bind (fun c'=>declareC t0 false sl.length c'):=by
  rw[visC,if_neg (by omega)]
  show Except.bind (visC.go (u.kids.map Nd.t) 5 t0 sl.length 0 ks ⟨sl++[-1],h::r⟩) _=_
  congr 1
 have hms:manyN ⟨5,t0,n0,ks⟩=manyN.go ks+1:=rfl
 rw[hd]
 obtain⟨R,hR⟩:=exq (visC.go (u.kids.map Nd.t) 5 t0 sl.length 0 ks ⟨sl++[-1],h::r⟩)
 obtain⟨M,hMd⟩:=exq (manyN ⟨5,t0,n0,ks⟩)
 rw[hR,hMd]
 rw[hMd]at hM hD hms
 obtain⟨hm1,hm2⟩:M<=manyN.go ks+1/\manyN.go ks+1<=M:=by omega
 clear hms
 obtain⟨i58,hi0,hz0,hz1,hz2⟩:=info_parts c4d
 obtain⟨s0,hs0⟩:=exq (sl.length)
 obtain⟨had,hhad⟩:=exq ((a0h (h::r)).length)
 rw[hhad]
 have hb0:=q1z (Below.refl W.heap.size W) (nbx ⟨5,t0,n0,ks⟩ b cap)
 have g0:=a0a W (nbx ⟨5,t0,n0,ks⟩ b cap)
 have ha0:=(hLo.ap (Nat.le_refl _)).below hLo.lt hb0
 have hl6:=LK.below hLo.lt hb0
 have hLo1:=hLo.on hb0
 have hnum:=fun V (h':Lo w0 B u ub uc sl (a0h (h::r)) c a false V)=>number_any w0 B u ub uc sl (a0h (h::r)) c a false V h' (by omega)
 have hall:=a1g ks
 obtain⟨t,ht⟩:=exq (W.heap.size)
 rw[ht]at g0 ha0
 rw[hs0]at hnum hM hR⊢
 obtain⟨F,hF⟩:∃F:Cs->CR,(fun c'=>declareC t0 false s0 c')=F:=⟨_,rfl⟩
 rw[hF]
 replace hF:Hid _:=hF
 have hlb:had<=100000:=by rw[<- hhad,a2i];omega
 obtain⟨D,hDd⟩:=exq (r.length+1)
 rw[hDd]
 have hDM:D+manyN.go ks<=100000:=by omega
 replace hDd:Hid _:=hDd
 replace hhad:Hid _:=hhad
 replace hR:Hid _:=hR
 replace ih:Hid (∀y∈ks,a1i y.k/\XC y):=ih
 go_enter Tryz.func49,Tryz.ntmps49
 go_wp2_with (go_at_call 11;refine(hnum _ hLo1).mono ?_;rintro e w1 ⟨rfl,hL1,hk1⟩)
 clear hnum hLo1 hLo hN
 have hSA1:=(hSA.on (hl6.trans hk1))
 have hI:YI w0 B u ub uc (h::r) c a S ⟨5,t0,n0,ks⟩ b cap W t (s0+M) s0 had R 0 w1:=by
  obtain⟨q1,q2⟩:=hk1 t _ ha0 g0
  exact⟨q1,q2,hl6.trans hk1,hSA1.1,hKu.lk hSA (hl6.trans hk1),hKn.lk hSA (hl6.trans hk1),.inl ⟨sl++[-1],hR.out,by simp;omega,by simp;omega,hL1⟩⟩
 clear hSA1 hL1 hk1 ha0 g0 hb0 hl6 hKu hKn hSA
 go_loopw [7] (fun ix wr=>∃j:Nat,j<=ks.length/\ix=vi (j:Nat)/\YI w0 B u ub uc (h::r) c a S ⟨5,t0,n0,ks⟩ b cap W t (s0+M) s0 had R j wr) (fun ix _=>ks.length-(intOf ix).toNat)
 case atStart=>exact⟨0,Nat.zero_le _,rfl,hI⟩
 case round =>
  obtain⟨j,hj,rfl,g,ha,hlk,hS1,hKu,hKn,hst⟩:=hrel
  clear hI
  simp only at hKn hst
  obtain⟨q0,q1,q2,q3,_,_,_,_⟩:=in4 g
  simp only at q0 q1 q2 q3
  rcases hst with⟨sl',hgo,hs1,hs2,hLo⟩|⟨cd,at_,sl',LS,hRe,hs1,hs2,hle,hLo⟩
  ·obtain⟨c8,_,_,_,_,_⟩:=hLo.cells
   by_cases hlt:j<ks.length
   ·have hlt':(j:Int)<(ks.length:Int):=by omega
    obtain⟨y,hy⟩:∃y,ks[j]?=some y:=⟨_,List.getElem?_eq_getElem hlt⟩
    obtain⟨g',off,b',cap',rfl,v0,v1,v2,v3,hyV⟩:=KA.at hKn hy
    have hdr:ks.drop j=y::ks.drop (j+1):=by rw[List.drop_eq_getElem_cons hlt];congr 1;exact(List.getElem?_eq_some_iff.1 hy).2
    have hmk:manyN y<=manyN.go ks:=by
     have:=congrArg manyN.go (List.take_append_drop j ks)
     rw[a2m,hdr]at this
     simp only[manyN.go]at this
     omega
    have hsy:sl'.length+manyN y<=100000:=by rw[hdr]at hs2;simp only[manyN.go]at hs2;omega
    have hgo':=hgo
    have hs2':=hs2
    rw[hdr]at hgo' hs2'
    simp only[manyN.go]at hs2'
    rw[visC.go,if_neg (by omega)]at hgo'
    clear hgo hs2 hdr
    replace hgo':Hid _:=hgo'
    replace hs2':Hid _:=hs2'
    obtain⟨hx,hX⟩:=ih.out y (List.mem_of_getElem? hy)
    ·have hcall:=hX w0 B u ub uc sl' (h::r) c a S b' cap' wr hLo hKu hyV hS1 hsy (by omega) hul hNB
     have ey:(y.k == 4)=false:=by unfold a1i at hx;simp;omega
     clear hy hx hX
     go_wp2_with (go_at_call 74;refine hcall.mono ?_;rintro e w2 ⟨rfl,hk2,hr2⟩)
     go_roundw
     case rel =>
      obtain⟨g2,ha2⟩:=hk2 t _ ha g
      refine⟨j+1,by omega,by go_num,g2,ha2,hlk.trans hk2,(hS1.on hk2).1,hKu.lk hS1 hk2,hKn.lk hS1 hk2,?_⟩
      have hg2:=hgo'.out
      have hs3:=hs2'.out
      rcases hr2 with⟨sl2,e2,p1,p2,p3⟩|⟨cd,at_,sl2,e2,p1,p2,p3⟩
      ·rw[e2]at hg2
       exact .inl ⟨sl2,hg2,by omega,by simp only;omega,p3⟩
      ·rw[e2]at hg2
       exact .inr ⟨cd,at_,sl2,_,hg2.symm,by omega,by omega,hhad.out,p3⟩
     case measure=>simp[intOf];omega
   ·have hlt':¬(j:Int)<(ks.length:Int):=by omega
    have hRo:R=.ok ⟨sl',h::r⟩:=by
     rw[<- hgo,List.drop_eq_nil_of_le (by omega),visC.go]
    subst hRo
    clear hgo
    obtain⟨LS,hLSd⟩:=exq (a0h (h::r))
    rw[hLSd]at hLo hhad
    have hLS:Hid (LS.length=had):=hhad.out
    obtain⟨lb,lc,c5,f5,hlc,hsh,_,_⟩:=hLo.cut (m:=0) (Nat.zero_le _)
    rw[hLS.out]at c5
    clear hhad
    replace hLSd:Hid _:=hLSd
    have fin:Hid (∀W',LK B W W'->∀q,q=a8d D t0 s0 (c,a,false) LS->∀q5,unl (decide ((had:Int)<30)) 1 (s0:Nat) (q.1,q.2.1,q.2.2)=q5->Lo w0 B u ub uc (sl'.set s0 ((had:Nat):Int)) (LS++[⟨t0,D,false⟩]) q5.1 q5.2.1 q5.2.2 W'->SQ w0 B u ub uc had c a s0 M (Except.bind (.ok ⟨sl',h::r⟩) F) W (.returned (.tuple #[])) W'):=by
     intro W' hk q hq q5 hq5 hL
     subst hq
     have hany:LS.any (fun x=>x.dp == D&&x.nm == t0)=h.any (fun x=>x.nm == t0):=by rw[<- hLSd.out,<- hDd.out];exact d5s h r t0
     have hR:Except.bind (.ok ⟨sl',h::r⟩) F=declareC t0 false s0 ⟨sl',h::r⟩:=by rw[<- hF.out];rfl
     rw[hR]
     have hlive:(⟨sl',h::r⟩:Cs).live=had:=by rw[<- hLS.out,<- hLSd.out,a2i];rfl
     have hsnoc:LS++[⟨t0,D,false⟩]=a0h ((h++[⟨t0,false⟩])::r):=by rw[b1n,hLSd.out,hDd.out]
     have hl1:s0<(sl'.set s0 ((had:Nat):Int)).length:=by rw[List.length_set];exact hs1
     have hl2:(sl'.set s0 ((had:Nat):Int)).length<=s0+M:=by rw[List.length_set];omega
     have hl3:had<=(LS++[(⟨t0,D,false⟩:Ld)]).length:=by simp[hLS.out]
     cases hb:h.any (fun x=>x.nm == t0) with
     | true =>
      have e5:q5=(5,((s0:Nat):Int),true):=by rw[<- hq5];simp[a8d,unl,hany,hb]
      subst e5
      exact⟨rfl,hk,.inr ⟨5,s0,_,_,by simp[declareC,hb],hl1,hl2,hl3,hL⟩⟩
     | false =>
      by_cases h30:had<30
      ·have e5:q5=(c,a,false):=by rw[<- hq5];simp[a8d,unl,hany,hb];omega
       subst e5
       refine⟨rfl,hk,.inl ⟨_,(h++[⟨t0,false⟩])::r,?_,hl1,hl2,by rw[<- hsnoc];exact hL⟩⟩
       simp only[declareC,hb,hlive]
       simp
       omega
      ·have e5:q5=(1,((s0:Nat):Int),true):=by rw[<- hq5];simp[a8d,unl,hany,hb];omega
       subst e5
       refine⟨rfl,hk,.inr ⟨1,s0,_,_,?_,hl1,hl2,hl3,hL⟩⟩
       simp only[declareC,hb,hlive]
       simp
       omega
    go_wp2
    go_loopw [8] (fun ix wr2=>∃i:Nat,i<=had/\ix=vi (i:Nat)/\wr2.heap[t]?=some (nbx ⟨5,t0,n0,ks⟩ b cap)/\ApL B wr2 t/\LK B W wr2/\∃q,q=a8d D t0 s0 (c,a,false) (LS.take i)/\Lo w0 B u ub uc sl' LS q.1 q.2.1 q.2.2 wr2) (fun ix _=>had-(intOf ix).toNat)
    case atStart=>exact⟨0,Nat.zero_le _,rfl,g,ha,hlk,_,rfl,by rw[List.take_zero,b0k];exact hLo⟩
    case round =>
     obtain⟨i,hi,rfl,g4,ha4,hlk4,q,hq,hLo4⟩:=hrel
     obtain⟨z0,z1,z2,z3,_,_,_,_⟩:=in4 g4
     simp only at z0 z1 z2 z3
     by_cases hih:i<had
     ·have hih':(i:Int)<(had:Int):=by omega
      have hige:(0:Int)<=(i:Int):=by omega
      obtain⟨x,hx⟩:∃x,LS[i]?=some x:=⟨_,List.getElem?_eq_getElem (by have:=hLS.out;omega)⟩
      have hstep:=a8s D t0 s0 (c,a,false) LS i x hx
      rw[<- hq]at hstep
      obtain⟨gl,lc,c5,y0,y1,y2⟩:=hLo4.local_at hx
      have hglB:gl≠B:=hLo4.loc_ne c5
      have htB:t≠B:=ha4.1
      rw[hLS.out]at c5
      have hbd:Bw wr wr.drew:=bz0.drew
      have hkd:=LK.below hLo4.lt hbd
      obtain⟨g4d,ha4d⟩:=hkd t _ ha4 g4
      have hun:=fun qq=>a6j w0 B u ub uc sl' LS q.1 q.2.1 q.2.2 qq 5 (s0:Nat) wr.drew (hLo4.on hbd)
      clear y2 hx hq
      replace hstep:Hid _:=hstep
      obtain⟨xn,xd,xl⟩:=x
      simp only at y0 y1
      by_cases hxd:xd=D
      ·subst hxd
       go_wp2
       go_region_held3 (fun w'=>w'.cell? (Ad B 5)=some (.slice (some (Ad gl 0)) had lc)/\w'.cell? (Ad gl (i*3+1))=some (vi (xd:Nat))/\w'.cell? (Ad gl (i*3))=some (sk xn)/\w'.cell? (Ad t 1)=some (sk t0)) (first|go_keep|(exact⟨hc6.trans c5,(hc5 _ _ hglB).trans y1,(hc5 _ _ hglB).trans y0,(hc5 _ _ htB).trans z1⟩)) ((go_at_call 14;refine(hun _).mono ?_;rintro e w5 ⟨rfl,hL5,hk5,hc5,hc6⟩))
       all_goals
        go_wp2
        go_roundw
        case rel =>
         obtain⟨g6,ha6⟩:=hk5 t _ ha4d g4d
         exact⟨i+1,by omega,by go_num,g6,ha6,hlk4.trans (hkd.trans hk5),_,rfl,by rw[hstep.out];simpa[bne]using hL5⟩
        case measure=>simp[intOf];omega
      ·have ed:(xd == D)=false:=by simpa using hxd
       have ed2:((xd:Int) == (D:Int))=false:=by simp;omega
       go_wp2
       refine wp_region_any (by kernel_rfl) ?_
       change wpAny _ _ _ _ _ _ _ (World.drew _)
       refine wpAny_take (i:=0) (v:=?_) rfl (by kernel_rfl) (by kernel_rfl) (by kernel_rfl) (fun _ _ _ h=>h) (Or.inl ⟨by rfl,?_⟩) ?_
       rotate_left
       ·intro w;go_simp;try with_reducible rfl
       refine wpAny_take (i:=1) (v:=?_) rfl (by kernel_rfl) (by kernel_rfl) (by kernel_rfl) (fun _ _ _ h=>h) (Or.inl ⟨by rfl,?_⟩) ?_
       rotate_left
       ·intro w;go_simp;try with_reducible rfl
       refine wpAny_take (i:=2) (v:=?_) rfl (by kernel_rfl) (by kernel_rfl) (by kernel_rfl) (fun _ _ _ h=>h) (Or.inl ⟨by rfl,?_⟩) ?_
       rotate_left
       ·intro w;go_simp;try with_reducible rfl
       refine wpAny_take (i:=3) (v:=?_) rfl (by kernel_rfl) (by kernel_rfl) (by kernel_rfl) (fun _ _ _ h=>h) (Or.inl ⟨by rfl,?_⟩) ?_
       rotate_left
       ·intro w;go_simp;try with_reducible rfl
       refine wpAny_take (i:=5) (v:=?_) rfl (by kernel_rfl) (by kernel_rfl) (by kernel_rfl) (fun _ _ _ h=>h) (Or.inl ⟨by rfl,?_⟩) ?_
       rotate_left
       ·intro w;go_simp;try with_reducible rfl
       refine wpAny_take (i:=9) (v:=?_) rfl (by kernel_rfl) (by kernel_rfl) (by kernel_rfl) (fun _ _ _ h=>h) (Or.inl ⟨by rfl,?_⟩) ?_
       rotate_left
       ·intro w;go_simp;try with_reducible rfl
       refine wpAny_take (i:=24) (v:=?_) rfl (by kernel_rfl) (by kernel_rfl) (by kernel_rfl) (fun _ _ _ h=>h) (Or.inl ⟨by rfl,?_⟩) ?_
       rotate_left
       ·intro w;go_simp;try with_reducible rfl
       refine wpAny_ready (rs:=[4]) (by kernel_rfl) (by simp) ?_
       refine AllReady.cons rfl (fun K hK=>?_) AllReady.nil
       go_simp
       refine hK _ _ ?_
       clear hK K
       refine wpAny_take (i:=6) (v:=?_) rfl (by kernel_rfl) (by kernel_rfl) (by kernel_rfl) (fun _ _ _ h=>h) (Or.inl ⟨by rfl,?_⟩) ?_
       rotate_left
       ·intro w;go_simp;try with_reducible rfl
       refine wpAny_take (i:=7) (v:=?_) rfl (by kernel_rfl) (by kernel_rfl) (by kernel_rfl) (fun _ _ _ h=>h) (Or.inl ⟨by rfl,?_⟩) ?_
       rotate_left
       ·intro w;go_simp;try with_reducible rfl
       refine wpAny_ready (rs:=[8]) (by kernel_rfl) (by simp) ?_
       refine AllReady.cons rfl (fun K hK=>?_) AllReady.nil
       go_simp
       refine hK _ _ ?_
       clear hK K
       refine wpAny_take (i:=10) (v:=.bool true) rfl (by kernel_rfl) (by kernel_rfl) (by kernel_rfl) (fun _ _ _ h=>h) (Or.inl ⟨by rfl,?_⟩) ?_
       ·intro w;go_simp;omega
       refine wpAny_take (i:=11) (v:=.bool true) rfl (by kernel_rfl) (by kernel_rfl) (by kernel_rfl) (fun _ _ _ h=>h) (Or.inl ⟨by kernel_rfl,fun w=>by kernel_rfl⟩) ?_
       refine wpAny_take (i:=12) (v:=undef) rfl (by kernel_rfl) (by kernel_rfl) (by kernel_rfl) (fun _ _ _ h=>h) (Or.inr ⟨by kernel_rfl,rfl⟩) ?_
       refine wpAny_take (i:=13) (v:=undef) rfl (by kernel_rfl) (by kernel_rfl) (by kernel_rfl) (fun _ _ _ h=>h) (Or.inr ⟨by kernel_rfl,rfl⟩) ?_
       refine wpAny_take (i:=14) (v:=undef) rfl (by kernel_rfl) (by kernel_rfl) (by kernel_rfl) (fun _ _ _ h=>h) (Or.inr ⟨by kernel_rfl,rfl⟩) ?_
       refine wpAny_take (i:=15) (v:=undef) rfl (by kernel_rfl) (by kernel_rfl) (by kernel_rfl) (fun _ _ _ h=>h) (Or.inr ⟨by kernel_rfl,rfl⟩) ?_
       refine wpAny_take (i:=16) (v:=undef) rfl (by kernel_rfl) (by kernel_rfl) (by kernel_rfl) (fun _ _ _ h=>h) (Or.inr ⟨by kernel_rfl,rfl⟩) ?_
       refine wpAny_take (i:=17) (v:=undef) rfl (by kernel_rfl) (by kernel_rfl) (by kernel_rfl) (fun _ _ _ h=>h) (Or.inr ⟨by kernel_rfl,rfl⟩) ?_
       refine wpAny_take (i:=18) (v:=undef) rfl (by kernel_rfl) (by kernel_rfl) (by kernel_rfl) (fun _ _ _ h=>h) (Or.inr ⟨by kernel_rfl,rfl⟩) ?_
       refine wpAny_take (i:=19) (v:=undef) rfl (by kernel_rfl) (by kernel_rfl) (by kernel_rfl) (fun _ _ _ h=>h) (Or.inr ⟨by kernel_rfl,rfl⟩) ?_
       refine wpAny_take (i:=20) (v:=undef) rfl (by kernel_rfl) (by kernel_rfl) (by kernel_rfl) (fun _ _ _ h=>h) (Or.inr ⟨by kernel_rfl,rfl⟩) ?_
       refine wpAny_take (i:=21) (v:=undef) rfl (by kernel_rfl) (by kernel_rfl) (by kernel_rfl) (fun _ _ _ h=>h) (Or.inr ⟨by kernel_rfl,rfl⟩) ?_
       refine wpAny_take (i:=22) (v:=undef) rfl (by kernel_rfl) (by kernel_rfl) (by kernel_rfl) (fun _ _ _ h=>h) (Or.inr ⟨by kernel_rfl,rfl⟩) ?_
       refine wpAny_take (i:=23) (v:=.bool true) rfl (by kernel_rfl) (by kernel_rfl) (by kernel_rfl) (fun _ _ _ h=>h) (Or.inl ⟨by kernel_rfl,fun w=>by kernel_rfl⟩) ?_
       refine wpAny_ready (rs:=[25]) (by kernel_rfl) (by simp) ?_
       refine AllReady.cons rfl (fun K hK=>?_) AllReady.nil
       go_simp
       go_wp2_with (go_at_call 14;refine(hun _).mono ?_;rintro e w5 ⟨rfl,hL5,hk5,hc5,hc6⟩)
       try(refine hK _ _ ?_;clear hK K)
       refine wpAny_done (by kernel_rfl) ?_ _
       go_wp2
       go_roundw
       case rel =>
        obtain⟨g6,ha6⟩:=hk5 t _ ha4d g4d
        exact⟨i+1,by omega,by go_num,g6,ha6,hlk4.trans (hkd.trans hk5),_,rfl,by rw[hstep.out];simpa[ed]using hL5⟩
       case measure=>simp[intOf];omega
     ·have hih':¬(i:Int)<(had:Int):=by omega
      obtain rfl:i=had:=by omega
      rw[List.take_of_length_le (Nat.le_of_eq hLS.out)]at hq
      obtain⟨lb,lc,c5,f5,hlc,hsh,_,_⟩:=hLo4.cut (m:=0) (Nat.zero_le _)
      rw[hLS.out]at c5
      have hun2:=fun qq=>a0q w0 B u ub uc sl' LS q.1 q.2.1 q.2.2 qq 1 (s0:Nat) wr hLo4
      go_wp2_with (go_at_call 14;refine(hun2 (decide ((i:Int)<30))).mono ?_;rintro e w5 ⟨rfl,hL5,hk5⟩;refine Hid.out ?_)
      clear hun2 c5 f5
      obtain⟨q5,hq5⟩:=exq (unl (decide ((i:Int)<30)) 1 (s0:Nat) (q.1,q.2.1,q.2.2))
      rw[hq5]at hL5
      have hbd5:Bw w5 w5.drew:=bz0.drew
      have hkd5:=LK.below hL5.lt hbd5
      obtain⟨g5,ha5⟩:=(hk5.trans hkd5) t _ ha4 g4
      replace hL5:=hL5.on hbd5
      obtain⟨gs,sc,c4,⟨xx,cx⟩,fx,hset⟩:=hL5.slot hs1
      have hgsB:=hL5.slot_ne c4
      obtain⟨lb5,lc5,c55,f55,_,_,_,_⟩:=hL5.cut (m:=0) (Nat.zero_le _)
      rw[hLS.out]at c55
      obtain⟨hL6,hk6⟩:=hset ((i:Nat):Int)
      obtain⟨g6,ha6⟩:=hk6 t _ ha5 g5
      have hs0':(0:Int)<=(s0:Int):=by omega
      have hs1':(s0:Int)<(sl'.length:Int):=by omega
      have c4':w5.cell? (Ad B 4)=some (.slice (some (Ad gs 0)) sl'.length sc):=c4
      have c55':w5.cell? (Ad B 5)=some (.slice lb5 i lc5):=c55
      have cx':w5.cell? (Ad gs s0)=some (vi xx):=cx
      have fx':w5.frozen? (Ad gs s0)=false:=fx
      refine Lib.hid ?_
      go_wp2
      go_region_held3 (fun w'=>w'.cell? (Ad B 4)=some (.slice (some (Ad gs 0)) sl'.length sc)/\w'.cell? (Ad B 5)=some (.slice lb5 i lc5)) (go_keep) (fail)
      obtain⟨W6,hW6⟩:=exq (w5.drew.setCell (Ad gs s0) (iv ((i:Nat):Int)))
      rw[hW6]at hL6 hk6 g6 ha6
      have hW6':(w5.setCell (Ad gs s0) (vi ((i:Nat):Int))).drew=W6:=hW6
      first|rw[hW6']|rw[hW6]
      clear hW6 hW6' c4 c4' c55 c55' cx cx' fx fx' hset
      have hba:=q1z ((Below.refl W6.heap.size W6).drew) (.cells #[sk t0,vi (D:Nat),.bool false] 88)
      have hka:=LK.below hL6.lt hba
      obtain⟨g7,ha7⟩:=hka t _ ha6 g6
      have hLV:=hL6.on hba
      obtain⟨lbV,lcV,cV,fV,hownV,hszV,happ⟩:=hLV.app
      rw[hLS.out]at cV hownV happ
      have c5W:W6.cell? (Ad B 5)=some (.slice lbV i lcV):=(World.cell?_of_block (a:=(Ad B 5)) (hba.block B hL6.lt)).symm.trans cV
      have c5a:∀o,(W6.alloc o).cell? (Ad B 5)=some (.slice lbV i lcV):=fun o=>(World.cell?_alloc_past _ _ _ hL6.lt).trans c5W
      obtain⟨z0,z1,z2,z3,_,_,_,_⟩:=in4 g6
      simp only at z0 z1 z2 z3
      have hnews:=b4h W6.drew (sk t0) (vi (D:Nat)) (.bool false)
      have h63:i+1<=maxLen:=by unfold maxLen;omega
      have hby:(i+1)*32<=140737488355328:=by omega
      have hone:∀x∈a3k ⟨t0,D,false⟩,x.oneCell'=true:=by simp[a3k,Value.oneCell']
      go_wp2
      go_region_law ((refine step_append_lies _ (by rfl) _ _ _ (by rfl) w0.heap.size 88 i58 _ 3 32 Tryz.underlying36 hi0 hz0 hz1 hz2 rfl (by omega) (.slice lbV i lcV) i _ (by rfl) hownV (Ad W6.drew.heap.size 0) 1 1 (a3k ⟨t0,D,false⟩) (by rfl) (by rfl) hnews hone (by omega) h63 hby hszV _ rfl ?_;intro g3 cap3 w3 hown3 hgrow hat hlt3;obtain⟨c5,f5,hL7,hk7⟩:=happ _ _ _ _ hown3 hgrow hat;obtain⟨g8,_⟩:=hk7 t _ ha7 g7;obtain⟨y0,y1,y2,y3,_,_,_,_⟩:=in4 g8))
      all_goals
       go_wp2
       go_end0
       exact fin.out _ (hlk4.trans (hk5.trans (hkd5.trans (hk6.trans (hka.trans hk7))))) _ hq _ hq5 hL7
  ·obtain⟨c8,_,_,_,_,_⟩:=hLo.cells
   subst hRe
   have hLS:Hid (LS.length=had):=hle
   obtain⟨lb,lc,c5,f5,hlc,hsh,_,_⟩:=hLo.cut (m:=0) (Nat.zero_le _)
   rw[hLS.out]at c5
   clear hhad
   have fin:Hid (∀W',LK B W W'->∀q,q=a8d D t0 s0 (cd,((at_:Nat):Int),true) LS->∀q5,unl (decide ((had:Int)<30)) 1 (s0:Nat) (q.1,q.2.1,q.2.2)=q5->Lo w0 B u ub uc (sl'.set s0 ((had:Nat):Int)) (LS++[⟨t0,D,false⟩]) q5.1 q5.2.1 q5.2.2 W'->SQ w0 B u ub uc had c a s0 M (Except.bind (.error (cd,at_)) F) W (.returned (.tuple #[])) W'):=by
    intro W' hk q hq q5 hq5 hL
    subst hq
    have hl1:s0<(sl'.set s0 ((had:Nat):Int)).length:=by rw[List.length_set];exact hs1
    have hl2:(sl'.set s0 ((had:Nat):Int)).length<=s0+M:=by rw[List.length_set];omega
    have hl3:had<=(LS++[(⟨t0,D,false⟩:Ld)]).length:=by simp[hLS.out]
    have e5:q5=(cd,((at_:Nat):Int),true):=by rw[<- hq5];simp[a8d,unl]
    subst e5
    exact⟨rfl,hk,.inr ⟨cd,at_,_,_,rfl,hl1,hl2,hl3,hL⟩⟩
   clear hle
   by_cases hlt:j<ks.length
   ·have hlt':(j:Int)<(ks.length:Int):=by omega
    go_wp2
    go_loopw [8] (fun ix wr2=>∃i:Nat,i<=had/\ix=vi (i:Nat)/\wr2.heap[t]?=some (nbx ⟨5,t0,n0,ks⟩ b cap)/\ApL B wr2 t/\LK B W wr2/\∃q,q=a8d D t0 s0 (cd,((at_:Nat):Int),true) (LS.take i)/\Lo w0 B u ub uc sl' LS q.1 q.2.1 q.2.2 wr2) (fun ix _=>had-(intOf ix).toNat)
    case atStart=>exact⟨0,Nat.zero_le _,rfl,g,ha,hlk,_,rfl,by rw[List.take_zero,b0k];exact hLo⟩
    case round =>
     obtain⟨i,hi,rfl,g4,ha4,hlk4,q,hq,hLo4⟩:=hrel
     obtain⟨z0,z1,z2,z3,_,_,_,_⟩:=in4 g4
     simp only at z0 z1 z2 z3
     by_cases hih:i<had
     ·have hih':(i:Int)<(had:Int):=by omega
      have hige:(0:Int)<=(i:Int):=by omega
      obtain⟨x,hx⟩:∃x,LS[i]?=some x:=⟨_,List.getElem?_eq_getElem (by have:=hLS.out;omega)⟩
      have hstep:=a8s D t0 s0 (cd,((at_:Nat):Int),true) LS i x hx
      rw[<- hq]at hstep
      obtain⟨gl,lc,c5,y0,y1,y2⟩:=hLo4.local_at hx
      have hglB:gl≠B:=hLo4.loc_ne c5
      have htB:t≠B:=ha4.1
      rw[hLS.out]at c5
      have hbd:Bw wr wr.drew:=bz0.drew
      have hkd:=LK.below hLo4.lt hbd
      obtain⟨g4d,ha4d⟩:=hkd t _ ha4 g4
      have hun:=fun qq=>a6j w0 B u ub uc sl' LS q.1 q.2.1 q.2.2 qq 5 (s0:Nat) wr.drew (hLo4.on hbd)
      clear y2 hx hq
      replace hstep:Hid _:=hstep
      obtain⟨xn,xd,xl⟩:=x
      simp only at y0 y1
      by_cases hxd:xd=D
      ·subst hxd
       go_wp2
       go_region_held3 (fun w'=>w'.cell? (Ad B 5)=some (.slice (some (Ad gl 0)) had lc)/\w'.cell? (Ad gl (i*3+1))=some (vi (xd:Nat))/\w'.cell? (Ad gl (i*3))=some (sk xn)/\w'.cell? (Ad t 1)=some (sk t0)) (first|go_keep|(exact⟨hc6.trans c5,(hc5 _ _ hglB).trans y1,(hc5 _ _ hglB).trans y0,(hc5 _ _ htB).trans z1⟩)) ((go_at_call 14;refine(hun _).mono ?_;rintro e w5 ⟨rfl,hL5,hk5,hc5,hc6⟩))
       all_goals
        go_wp2
        go_roundw
        case rel =>
         obtain⟨g6,ha6⟩:=hk5 t _ ha4d g4d
         exact⟨i+1,by omega,by go_num,g6,ha6,hlk4.trans (hkd.trans hk5),_,rfl,by rw[hstep.out];simpa[bne]using hL5⟩
        case measure=>simp[intOf];omega
      ·have ed:(xd == D)=false:=by simpa using hxd
       have ed2:((xd:Int) == (D:Int))=false:=by simp;omega
       go_wp2
       refine wp_region_any (by kernel_rfl) ?_
       change wpAny _ _ _ _ _ _ _ (World.drew _)
       refine wpAny_take (i:=0) (v:=?_) rfl (by kernel_rfl) (by kernel_rfl) (by kernel_rfl) (fun _ _ _ h=>h) (Or.inl ⟨by rfl,?_⟩) ?_
       rotate_left
       ·intro w;go_simp;try with_reducible rfl
       refine wpAny_take (i:=1) (v:=?_) rfl (by kernel_rfl) (by kernel_rfl) (by kernel_rfl) (fun _ _ _ h=>h) (Or.inl ⟨by rfl,?_⟩) ?_
       rotate_left
       ·intro w;go_simp;try with_reducible rfl
       refine wpAny_take (i:=2) (v:=?_) rfl (by kernel_rfl) (by kernel_rfl) (by kernel_rfl) (fun _ _ _ h=>h) (Or.inl ⟨by rfl,?_⟩) ?_
       rotate_left
       ·intro w;go_simp;try with_reducible rfl
       refine wpAny_take (i:=3) (v:=?_) rfl (by kernel_rfl) (by kernel_rfl) (by kernel_rfl) (fun _ _ _ h=>h) (Or.inl ⟨by rfl,?_⟩) ?_
       rotate_left
       ·intro w;go_simp;try with_reducible rfl
       refine wpAny_take (i:=5) (v:=?_) rfl (by kernel_rfl) (by kernel_rfl) (by kernel_rfl) (fun _ _ _ h=>h) (Or.inl ⟨by rfl,?_⟩) ?_
       rotate_left
       ·intro w;go_simp;try with_reducible rfl
       refine wpAny_take (i:=9) (v:=?_) rfl (by kernel_rfl) (by kernel_rfl) (by kernel_rfl) (fun _ _ _ h=>h) (Or.inl ⟨by rfl,?_⟩) ?_
       rotate_left
       ·intro w;go_simp;try with_reducible rfl
       refine wpAny_take (i:=24) (v:=?_) rfl (by kernel_rfl) (by kernel_rfl) (by kernel_rfl) (fun _ _ _ h=>h) (Or.inl ⟨by rfl,?_⟩) ?_
       rotate_left
       ·intro w;go_simp;try with_reducible rfl
       refine wpAny_ready (rs:=[4]) (by kernel_rfl) (by simp) ?_
       refine AllReady.cons rfl (fun K hK=>?_) AllReady.nil
       go_simp
       refine hK _ _ ?_
       clear hK K
       refine wpAny_take (i:=6) (v:=?_) rfl (by kernel_rfl) (by kernel_rfl) (by kernel_rfl) (fun _ _ _ h=>h) (Or.inl ⟨by rfl,?_⟩) ?_
       rotate_left
       ·intro w;go_simp;try with_reducible rfl
       refine wpAny_take (i:=7) (v:=?_) rfl (by kernel_rfl) (by kernel_rfl) (by kernel_rfl) (fun _ _ _ h=>h) (Or.inl ⟨by rfl,?_⟩) ?_
       rotate_left
       ·intro w;go_simp;try with_reducible rfl
       refine wpAny_ready (rs:=[8]) (by kernel_rfl) (by simp) ?_
       refine AllReady.cons rfl (fun K hK=>?_) AllReady.nil
       go_simp
       refine hK _ _ ?_
       clear hK K
       refine wpAny_take (i:=10) (v:=.bool true) rfl (by kernel_rfl) (by kernel_rfl) (by kernel_rfl) (fun _ _ _ h=>h) (Or.inl ⟨by rfl,?_⟩) ?_
       ·intro w;go_simp;omega
       refine wpAny_take (i:=11) (v:=.bool true) rfl (by kernel_rfl) (by kernel_rfl) (by kernel_rfl) (fun _ _ _ h=>h) (Or.inl ⟨by kernel_rfl,fun w=>by kernel_rfl⟩) ?_
       refine wpAny_take (i:=12) (v:=undef) rfl (by kernel_rfl) (by kernel_rfl) (by kernel_rfl) (fun _ _ _ h=>h) (Or.inr ⟨by kernel_rfl,rfl⟩) ?_
       refine wpAny_take (i:=13) (v:=undef) rfl (by kernel_rfl) (by kernel_rfl) (by kernel_rfl) (fun _ _ _ h=>h) (Or.inr ⟨by kernel_rfl,rfl⟩) ?_
       refine wpAny_take (i:=14) (v:=undef) rfl (by kernel_rfl) (by kernel_rfl) (by kernel_rfl) (fun _ _ _ h=>h) (Or.inr ⟨by kernel_rfl,rfl⟩) ?_
       refine wpAny_take (i:=15) (v:=undef) rfl (by kernel_rfl) (by kernel_rfl) (by kernel_rfl) (fun _ _ _ h=>h) (Or.inr ⟨by kernel_rfl,rfl⟩) ?_
       refine wpAny_take (i:=16) (v:=undef) rfl (by kernel_rfl) (by kernel_rfl) (by kernel_rfl) (fun _ _ _ h=>h) (Or.inr ⟨by kernel_rfl,rfl⟩) ?_
       refine wpAny_take (i:=17) (v:=undef) rfl (by kernel_rfl) (by kernel_rfl) (by kernel_rfl) (fun _ _ _ h=>h) (Or.inr ⟨by kernel_rfl,rfl⟩) ?_
       refine wpAny_take (i:=18) (v:=undef) rfl (by kernel_rfl) (by kernel_rfl) (by kernel_rfl) (fun _ _ _ h=>h) (Or.inr ⟨by kernel_rfl,rfl⟩) ?_
       refine wpAny_take (i:=19) (v:=undef) rfl (by kernel_rfl) (by kernel_rfl) (by kernel_rfl) (fun _ _ _ h=>h) (Or.inr ⟨by kernel_rfl,rfl⟩) ?_
       refine wpAny_take (i:=20) (v:=undef) rfl (by kernel_rfl) (by kernel_rfl) (by kernel_rfl) (fun _ _ _ h=>h) (Or.inr ⟨by kernel_rfl,rfl⟩) ?_
       refine wpAny_take (i:=21) (v:=undef) rfl (by kernel_rfl) (by kernel_rfl) (by kernel_rfl) (fun _ _ _ h=>h) (Or.inr ⟨by kernel_rfl,rfl⟩) ?_
       refine wpAny_take (i:=22) (v:=undef) rfl (by kernel_rfl) (by kernel_rfl) (by kernel_rfl) (fun _ _ _ h=>h) (Or.inr ⟨by kernel_rfl,rfl⟩) ?_
       refine wpAny_take (i:=23) (v:=.bool true) rfl (by kernel_rfl) (by kernel_rfl) (by kernel_rfl) (fun _ _ _ h=>h) (Or.inl ⟨by kernel_rfl,fun w=>by kernel_rfl⟩) ?_
       refine wpAny_ready (rs:=[25]) (by kernel_rfl) (by simp) ?_
       refine AllReady.cons rfl (fun K hK=>?_) AllReady.nil
       go_simp
       go_wp2_with (go_at_call 14;refine(hun _).mono ?_;rintro e w5 ⟨rfl,hL5,hk5,hc5,hc6⟩)
       try(refine hK _ _ ?_;clear hK K)
       refine wpAny_done (by kernel_rfl) ?_ _
       go_wp2
       go_roundw
       case rel =>
        obtain⟨g6,ha6⟩:=hk5 t _ ha4d g4d
        exact⟨i+1,by omega,by go_num,g6,ha6,hlk4.trans (hkd.trans hk5),_,rfl,by rw[hstep.out];simpa[ed]using hL5⟩
       case measure=>simp[intOf];omega
     ·have hih':¬(i:Int)<(had:Int):=by omega
      obtain rfl:i=had:=by omega
      rw[List.take_of_length_le (Nat.le_of_eq hLS.out)]at hq
      obtain⟨lb,lc,c5,f5,hlc,hsh,_,_⟩:=hLo4.cut (m:=0) (Nat.zero_le _)
      rw[hLS.out]at c5
      have hun2:=fun qq=>a0q w0 B u ub uc sl' LS q.1 q.2.1 q.2.2 qq 1 (s0:Nat) wr hLo4
      go_wp2_with (go_at_call 14;refine(hun2 (decide ((i:Int)<30))).mono ?_;rintro e w5 ⟨rfl,hL5,hk5⟩;refine Hid.out ?_)
      clear hun2 c5 f5
      obtain⟨q5,hq5⟩:=exq (unl (decide ((i:Int)<30)) 1 (s0:Nat) (q.1,q.2.1,q.2.2))
      rw[hq5]at hL5
      have hbd5:Bw w5 w5.drew:=bz0.drew
      have hkd5:=LK.below hL5.lt hbd5
      obtain⟨g5,ha5⟩:=(hk5.trans hkd5) t _ ha4 g4
      replace hL5:=hL5.on hbd5
      obtain⟨gs,sc,c4,⟨xx,cx⟩,fx,hset⟩:=hL5.slot hs1
      have hgsB:=hL5.slot_ne c4
      obtain⟨lb5,lc5,c55,f55,_,_,_,_⟩:=hL5.cut (m:=0) (Nat.zero_le _)
      rw[hLS.out]at c55
      obtain⟨hL6,hk6⟩:=hset ((i:Nat):Int)
      obtain⟨g6,ha6⟩:=hk6 t _ ha5 g5
      have hs0':(0:Int)<=(s0:Int):=by omega
      have hs1':(s0:Int)<(sl'.length:Int):=by omega
      have c4':w5.cell? (Ad B 4)=some (.slice (some (Ad gs 0)) sl'.length sc):=c4
      have c55':w5.cell? (Ad B 5)=some (.slice lb5 i lc5):=c55
      have cx':w5.cell? (Ad gs s0)=some (vi xx):=cx
      have fx':w5.frozen? (Ad gs s0)=false:=fx
      refine Lib.hid ?_
      go_wp2
      go_region_held3 (fun w'=>w'.cell? (Ad B 4)=some (.slice (some (Ad gs 0)) sl'.length sc)/\w'.cell? (Ad B 5)=some (.slice lb5 i lc5)) (go_keep) (fail)
      obtain⟨W6,hW6⟩:=exq (w5.drew.setCell (Ad gs s0) (iv ((i:Nat):Int)))
      rw[hW6]at hL6 hk6 g6 ha6
      have hW6':(w5.setCell (Ad gs s0) (vi ((i:Nat):Int))).drew=W6:=hW6
      first|rw[hW6']|rw[hW6]
      clear hW6 hW6' c4 c4' c55 c55' cx cx' fx fx' hset
      have hba:=q1z ((Below.refl W6.heap.size W6).drew) (.cells #[sk t0,vi (D:Nat),.bool false] 88)
      have hka:=LK.below hL6.lt hba
      obtain⟨g7,ha7⟩:=hka t _ ha6 g6
      have hLV:=hL6.on hba
      obtain⟨lbV,lcV,cV,fV,hownV,hszV,happ⟩:=hLV.app
      rw[hLS.out]at cV hownV happ
      have c5W:W6.cell? (Ad B 5)=some (.slice lbV i lcV):=(World.cell?_of_block (a:=(Ad B 5)) (hba.block B hL6.lt)).symm.trans cV
      have c5a:∀o,(W6.alloc o).cell? (Ad B 5)=some (.slice lbV i lcV):=fun o=>(World.cell?_alloc_past _ _ _ hL6.lt).trans c5W
      obtain⟨z0,z1,z2,z3,_,_,_,_⟩:=in4 g6
      simp only at z0 z1 z2 z3
      have hnews:=b4h W6.drew (sk t0) (vi (D:Nat)) (.bool false)
      have h63:i+1<=maxLen:=by unfold maxLen;omega
      have hby:(i+1)*32<=140737488355328:=by omega
      have hone:∀x∈a3k ⟨t0,D,false⟩,x.oneCell'=true:=by simp[a3k,Value.oneCell']
      go_wp2
      go_region_law ((refine step_append_lies _ (by rfl) _ _ _ (by rfl) w0.heap.size 88 i58 _ 3 32 Tryz.underlying36 hi0 hz0 hz1 hz2 rfl (by omega) (.slice lbV i lcV) i _ (by rfl) hownV (Ad W6.drew.heap.size 0) 1 1 (a3k ⟨t0,D,false⟩) (by rfl) (by rfl) hnews hone (by omega) h63 hby hszV _ rfl ?_;intro g3 cap3 w3 hown3 hgrow hat hlt3;obtain⟨c5,f5,hL7,hk7⟩:=happ _ _ _ _ hown3 hgrow hat;obtain⟨g8,_⟩:=hk7 t _ ha7 g7;obtain⟨y0,y1,y2,y3,_,_,_,_⟩:=in4 g8))
      all_goals
       go_wp2
       go_end0
       exact fin.out _ (hlk4.trans (hk5.trans (hkd5.trans (hk6.trans (hka.trans hk7))))) _ hq _ hq5 hL7
   ·have hlt':¬(j:Int)<(ks.length:Int):=by omega
    go_wp2
    go_loopw [8] (fun ix wr2=>∃i:Nat,i<=had/\ix=vi (i:Nat)/\wr2.heap[t]?=some (nbx ⟨5,t0,n0,ks⟩ b cap)/\ApL B wr2 t/\LK B W wr2/\∃q,q=a8d D t0 s0 (cd,((at_:Nat):Int),true) (LS.take i)/\Lo w0 B u ub uc sl' LS q.1 q.2.1 q.2.2 wr2) (fun ix _=>had-(intOf ix).toNat)
    case atStart=>exact⟨0,Nat.zero_le _,rfl,g,ha,hlk,_,rfl,by rw[List.take_zero,b0k];exact hLo⟩
    case round =>
     obtain⟨i,hi,rfl,g4,ha4,hlk4,q,hq,hLo4⟩:=hrel
     obtain⟨z0,z1,z2,z3,_,_,_,_⟩:=in4 g4
     simp only at z0 z1 z2 z3
     by_cases hih:i<had
     ·have hih':(i:Int)<(had:Int):=by omega
      have hige:(0:Int)<=(i:Int):=by omega
      obtain⟨x,hx⟩:∃x,LS[i]?=some x:=⟨_,List.getElem?_eq_getElem (by have:=hLS.out;omega)⟩
      have hstep:=a8s D t0 s0 (cd,((at_:Nat):Int),true) LS i x hx
      rw[<- hq]at hstep
      obtain⟨gl,lc,c5,y0,y1,y2⟩:=hLo4.local_at hx
      have hglB:gl≠B:=hLo4.loc_ne c5
      have htB:t≠B:=ha4.1
      rw[hLS.out]at c5
      have hbd:Bw wr wr.drew:=bz0.drew
      have hkd:=LK.below hLo4.lt hbd
      obtain⟨g4d,ha4d⟩:=hkd t _ ha4 g4
      have hun:=fun qq=>a6j w0 B u ub uc sl' LS q.1 q.2.1 q.2.2 qq 5 (s0:Nat) wr.drew (hLo4.on hbd)
      clear y2 hx hq
      replace hstep:Hid _:=hstep
      obtain⟨xn,xd,xl⟩:=x
      simp only at y0 y1
      by_cases hxd:xd=D
      ·subst hxd
       go_wp2
       go_region_held3 (fun w'=>w'.cell? (Ad B 5)=some (.slice (some (Ad gl 0)) had lc)/\w'.cell? (Ad gl (i*3+1))=some (vi (xd:Nat))/\w'.cell? (Ad gl (i*3))=some (sk xn)/\w'.cell? (Ad t 1)=some (sk t0)) (first|go_keep|(exact⟨hc6.trans c5,(hc5 _ _ hglB).trans y1,(hc5 _ _ hglB).trans y0,(hc5 _ _ htB).trans z1⟩)) ((go_at_call 14;refine(hun _).mono ?_;rintro e w5 ⟨rfl,hL5,hk5,hc5,hc6⟩))
       all_goals
        go_wp2
        go_roundw
        case rel =>
         obtain⟨g6,ha6⟩:=hk5 t _ ha4d g4d
         exact⟨i+1,by omega,by go_num,g6,ha6,hlk4.trans (hkd.trans hk5),_,rfl,by rw[hstep.out];simpa[bne]using hL5⟩
        case measure=>simp[intOf];omega
      ·have ed:(xd == D)=false:=by simpa using hxd
       have ed2:((xd:Int) == (D:Int))=false:=by simp;omega
       go_wp2
       refine wp_region_any (by kernel_rfl) ?_
       change wpAny _ _ _ _ _ _ _ (World.drew _)
       refine wpAny_take (i:=0) (v:=?_) rfl (by kernel_rfl) (by kernel_rfl) (by kernel_rfl) (fun _ _ _ h=>h) (Or.inl ⟨by rfl,?_⟩) ?_
       rotate_left
       ·intro w;go_simp;try with_reducible rfl
       refine wpAny_take (i:=1) (v:=?_) rfl (by kernel_rfl) (by kernel_rfl) (by kernel_rfl) (fun _ _ _ h=>h) (Or.inl ⟨by rfl,?_⟩) ?_
       rotate_left
       ·intro w;go_simp;try with_reducible rfl
       refine wpAny_take (i:=2) (v:=?_) rfl (by kernel_rfl) (by kernel_rfl) (by kernel_rfl) (fun _ _ _ h=>h) (Or.inl ⟨by rfl,?_⟩) ?_
       rotate_left
       ·intro w;go_simp;try with_reducible rfl
       refine wpAny_take (i:=3) (v:=?_) rfl (by kernel_rfl) (by kernel_rfl) (by kernel_rfl) (fun _ _ _ h=>h) (Or.inl ⟨by rfl,?_⟩) ?_
       rotate_left
       ·intro w;go_simp;try with_reducible rfl
       refine wpAny_take (i:=5) (v:=?_) rfl (by kernel_rfl) (by kernel_rfl) (by kernel_rfl) (fun _ _ _ h=>h) (Or.inl ⟨by rfl,?_⟩) ?_
       rotate_left
       ·intro w;go_simp;try with_reducible rfl
       refine wpAny_take (i:=9) (v:=?_) rfl (by kernel_rfl) (by kernel_rfl) (by kernel_rfl) (fun _ _ _ h=>h) (Or.inl ⟨by rfl,?_⟩) ?_
       rotate_left
       ·intro w;go_simp;try with_reducible rfl
       refine wpAny_take (i:=24) (v:=?_) rfl (by kernel_rfl) (by kernel_rfl) (by kernel_rfl) (fun _ _ _ h=>h) (Or.inl ⟨by rfl,?_⟩) ?_
       rotate_left
       ·intro w;go_simp;try with_reducible rfl
       refine wpAny_ready (rs:=[4]) (by kernel_rfl) (by simp) ?_
       refine AllReady.cons rfl (fun K hK=>?_) AllReady.nil
       go_simp
       refine hK _ _ ?_
       clear hK K
       refine wpAny_take (i:=6) (v:=?_) rfl (by kernel_rfl) (by kernel_rfl) (by kernel_rfl) (fun _ _ _ h=>h) (Or.inl ⟨by rfl,?_⟩) ?_
       rotate_left
       ·intro w;go_simp;try with_reducible rfl
       refine wpAny_take (i:=7) (v:=?_) rfl (by kernel_rfl) (by kernel_rfl) (by kernel_rfl) (fun _ _ _ h=>h) (Or.inl ⟨by rfl,?_⟩) ?_
       rotate_left
       ·intro w;go_simp;try with_reducible rfl
       refine wpAny_ready (rs:=[8]) (by kernel_rfl) (by simp) ?_
       refine AllReady.cons rfl (fun K hK=>?_) AllReady.nil
       go_simp
       refine hK _ _ ?_
       clear hK K
       refine wpAny_take (i:=10) (v:=.bool true) rfl (by kernel_rfl) (by kernel_rfl) (by kernel_rfl) (fun _ _ _ h=>h) (Or.inl ⟨by rfl,?_⟩) ?_
       ·intro w;go_simp;omega
       refine wpAny_take (i:=11) (v:=.bool true) rfl (by kernel_rfl) (by kernel_rfl) (by kernel_rfl) (fun _ _ _ h=>h) (Or.inl ⟨by kernel_rfl,fun w=>by kernel_rfl⟩) ?_
       refine wpAny_take (i:=12) (v:=undef) rfl (by kernel_rfl) (by kernel_rfl) (by kernel_rfl) (fun _ _ _ h=>h) (Or.inr ⟨by kernel_rfl,rfl⟩) ?_
       refine wpAny_take (i:=13) (v:=undef) rfl (by kernel_rfl) (by kernel_rfl) (by kernel_rfl) (fun _ _ _ h=>h) (Or.inr ⟨by kernel_rfl,rfl⟩) ?_
       refine wpAny_take (i:=14) (v:=undef) rfl (by kernel_rfl) (by kernel_rfl) (by kernel_rfl) (fun _ _ _ h=>h) (Or.inr ⟨by kernel_rfl,rfl⟩) ?_
       refine wpAny_take (i:=15) (v:=undef) rfl (by kernel_rfl) (by kernel_rfl) (by kernel_rfl) (fun _ _ _ h=>h) (Or.inr ⟨by kernel_rfl,rfl⟩) ?_
       refine wpAny_take (i:=16) (v:=undef) rfl (by kernel_rfl) (by kernel_rfl) (by kernel_rfl) (fun _ _ _ h=>h) (Or.inr ⟨by kernel_rfl,rfl⟩) ?_
       refine wpAny_take (i:=17) (v:=undef) rfl (by kernel_rfl) (by kernel_rfl) (by kernel_rfl) (fun _ _ _ h=>h) (Or.inr ⟨by kernel_rfl,rfl⟩) ?_
       refine wpAny_take (i:=18) (v:=undef) rfl (by kernel_rfl) (by kernel_rfl) (by kernel_rfl) (fun _ _ _ h=>h) (Or.inr ⟨by kernel_rfl,rfl⟩) ?_
       refine wpAny_take (i:=19) (v:=undef) rfl (by kernel_rfl) (by kernel_rfl) (by kernel_rfl) (fun _ _ _ h=>h) (Or.inr ⟨by kernel_rfl,rfl⟩) ?_
       refine wpAny_take (i:=20) (v:=undef) rfl (by kernel_rfl) (by kernel_rfl) (by kernel_rfl) (fun _ _ _ h=>h) (Or.inr ⟨by kernel_rfl,rfl⟩) ?_
       refine wpAny_take (i:=21) (v:=undef) rfl (by kernel_rfl) (by kernel_rfl) (by kernel_rfl) (fun _ _ _ h=>h) (Or.inr ⟨by kernel_rfl,rfl⟩) ?_
       refine wpAny_take (i:=22) (v:=undef) rfl (by kernel_rfl) (by kernel_rfl) (by kernel_rfl) (fun _ _ _ h=>h) (Or.inr ⟨by kernel_rfl,rfl⟩) ?_
       refine wpAny_take (i:=23) (v:=.bool true) rfl (by kernel_rfl) (by kernel_rfl) (by kernel_rfl) (fun _ _ _ h=>h) (Or.inl ⟨by kernel_rfl,fun w=>by kernel_rfl⟩) ?_
       refine wpAny_ready (rs:=[25]) (by kernel_rfl) (by simp) ?_
       refine AllReady.cons rfl (fun K hK=>?_) AllReady.nil
       go_simp
       go_wp2_with (go_at_call 14;refine(hun _).mono ?_;rintro e w5 ⟨rfl,hL5,hk5,hc5,hc6⟩)
       try(refine hK _ _ ?_;clear hK K)
       refine wpAny_done (by kernel_rfl) ?_ _
       go_wp2
       go_roundw
       case rel =>
        obtain⟨g6,ha6⟩:=hk5 t _ ha4d g4d
        exact⟨i+1,by omega,by go_num,g6,ha6,hlk4.trans (hkd.trans hk5),_,rfl,by rw[hstep.out];simpa[ed]using hL5⟩
       case measure=>simp[intOf];omega
     ·have hih':¬(i:Int)<(had:Int):=by omega
      obtain rfl:i=had:=by omega
      rw[List.take_of_length_le (Nat.le_of_eq hLS.out)]at hq
      obtain⟨lb,lc,c5,f5,hlc,hsh,_,_⟩:=hLo4.cut (m:=0) (Nat.zero_le _)
      rw[hLS.out]at c5
      have hun2:=fun qq=>a0q w0 B u ub uc sl' LS q.1 q.2.1 q.2.2 qq 1 (s0:Nat) wr hLo4
      go_wp2_with (go_at_call 14;refine(hun2 (decide ((i:Int)<30))).mono ?_;rintro e w5 ⟨rfl,hL5,hk5⟩;refine Hid.out ?_)
      clear hun2 c5 f5
      obtain⟨q5,hq5⟩:=exq (unl (decide ((i:Int)<30)) 1 (s0:Nat) (q.1,q.2.1,q.2.2))
      rw[hq5]at hL5
      have hbd5:Bw w5 w5.drew:=bz0.drew
      have hkd5:=LK.below hL5.lt hbd5
      obtain⟨g5,ha5⟩:=(hk5.trans hkd5) t _ ha4 g4
      replace hL5:=hL5.on hbd5
      obtain⟨gs,sc,c4,⟨xx,cx⟩,fx,hset⟩:=hL5.slot hs1
      have hgsB:=hL5.slot_ne c4
      obtain⟨lb5,lc5,c55,f55,_,_,_,_⟩:=hL5.cut (m:=0) (Nat.zero_le _)
      rw[hLS.out]at c55
      obtain⟨hL6,hk6⟩:=hset ((i:Nat):Int)
      obtain⟨g6,ha6⟩:=hk6 t _ ha5 g5
      have hs0':(0:Int)<=(s0:Int):=by omega
      have hs1':(s0:Int)<(sl'.length:Int):=by omega
      have c4':w5.cell? (Ad B 4)=some (.slice (some (Ad gs 0)) sl'.length sc):=c4
      have c55':w5.cell? (Ad B 5)=some (.slice lb5 i lc5):=c55
      have cx':w5.cell? (Ad gs s0)=some (vi xx):=cx
      have fx':w5.frozen? (Ad gs s0)=false:=fx
      refine Lib.hid ?_
      go_wp2
      go_region_held3 (fun w'=>w'.cell? (Ad B 4)=some (.slice (some (Ad gs 0)) sl'.length sc)/\w'.cell? (Ad B 5)=some (.slice lb5 i lc5)) (go_keep) (fail)
      obtain⟨W6,hW6⟩:=exq (w5.drew.setCell (Ad gs s0) (iv ((i:Nat):Int)))
      rw[hW6]at hL6 hk6 g6 ha6
      have hW6':(w5.setCell (Ad gs s0) (vi ((i:Nat):Int))).drew=W6:=hW6
      first|rw[hW6']|rw[hW6]
      clear hW6 hW6' c4 c4' c55 c55' cx cx' fx fx' hset
      have hba:=q1z ((Below.refl W6.heap.size W6).drew) (.cells #[sk t0,vi (D:Nat),.bool false] 88)
      have hka:=LK.below hL6.lt hba
      obtain⟨g7,ha7⟩:=hka t _ ha6 g6
      have hLV:=hL6.on hba
      obtain⟨lbV,lcV,cV,fV,hownV,hszV,happ⟩:=hLV.app
      rw[hLS.out]at cV hownV happ
      have c5W:W6.cell? (Ad B 5)=some (.slice lbV i lcV):=(World.cell?_of_block (a:=(Ad B 5)) (hba.block B hL6.lt)).symm.trans cV
      have c5a:∀o,(W6.alloc o).cell? (Ad B 5)=some (.slice lbV i lcV):=fun o=>(World.cell?_alloc_past _ _ _ hL6.lt).trans c5W
      obtain⟨z0,z1,z2,z3,_,_,_,_⟩:=in4 g6
      simp only at z0 z1 z2 z3
      have hnews:=b4h W6.drew (sk t0) (vi (D:Nat)) (.bool false)
      have h63:i+1<=maxLen:=by unfold maxLen;omega
      have hby:(i+1)*32<=140737488355328:=by omega
      have hone:∀x∈a3k ⟨t0,D,false⟩,x.oneCell'=true:=by simp[a3k,Value.oneCell']
      go_wp2
      go_region_law ((refine step_append_lies _ (by rfl) _ _ _ (by rfl) w0.heap.size 88 i58 _ 3 32 Tryz.underlying36 hi0 hz0 hz1 hz2 rfl (by omega) (.slice lbV i lcV) i _ (by rfl) hownV (Ad W6.drew.heap.size 0) 1 1 (a3k ⟨t0,D,false⟩) (by rfl) (by rfl) hnews hone (by omega) h63 hby hszV _ rfl ?_;intro g3 cap3 w3 hown3 hgrow hat hlt3;obtain⟨c5,f5,hL7,hk7⟩:=happ _ _ _ _ hown3 hgrow hat;obtain⟨g8,_⟩:=hk7 t _ ha7 g7;obtain⟨y0,y1,y2,y3,_,_,_,_⟩:=in4 g8))
      all_goals
       go_wp2
       go_end0
       exact fin.out _ (hlk4.trans (hk5.trans (hkd5.trans (hk6.trans (hka.trans hk7))))) _ hq _ hq5 hL7
end Go.Proofs.YtomniogfpfbolaaGreatDoor
