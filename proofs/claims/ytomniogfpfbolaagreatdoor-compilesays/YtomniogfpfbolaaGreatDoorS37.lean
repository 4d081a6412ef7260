import Derived.Test.YtomniogfpfbolaaGreatDoorS29
namespace Go.Proofs.YtomniogfpfbolaaGreatDoor
open Go.RowKit Go
set_option maxRecDepth 100000
set_option maxHeartbeats 8000000
set_option linter.all false
theorem b6u(t0:List UInt8)(s0:Nat)(sl:List Int)(bl:List (List Lc)):declareC t0 true s0 ⟨sl,[]::bl⟩=if 30<=sumL bl then .error (1,s0) else .ok ⟨sl.set s0 (sumL bl),[⟨t0,true⟩]::bl⟩:=by
 have e:(⟨sl,[]::bl⟩:Cs).live=sumL bl:=by show sumL ([]::bl)=_;rw[a0l];simp
 simp only[declareC,e]
 simp
theorem c8o(t0:List UInt8)(n0:Int)(ks:List Nd)(ih:∀j y,ks[j]?=some y->(j≠2/\a1i y.k/\XC y)\/(j=2/\y.k=4/\BC y)):SC ⟨10,t0,n0,ks⟩:=by
 intro w0 B u ub uc sl h r c a S b cap W hLo hKu hN hSA hM hD hbl hul hNB
 have hKn:=KA.of hN
 have hd:visC (u.kids.map Nd.t) false ⟨10,t0,n0,ks⟩ ⟨sl,h::r⟩=visC.go (u.kids.map Nd.t) 10 t0 sl.length 0 ks ⟨sl++[-1],h::r⟩:=by
  rw[visC,if_neg (by omega)]
  show Except.bind (visC.go (u.kids.map Nd.t) 10 t0 sl.length 0 ks ⟨sl++[-1],h::r⟩) _=_
  cases visC.go (u.kids.map Nd.t) 10 t0 sl.length 0 ks ⟨sl++[-1],h::r⟩ with
  | error e=>rfl
  | ok c' =>
   simp only[Except.bind]
   exact if_pos trivial
 have hms:manyN ⟨10,t0,n0,ks⟩=manyN.go ks+1:=rfl
 rw[hd]
 obtain⟨R,hR⟩:=exq (visC.go (u.kids.map Nd.t) 10 t0 sl.length 0 ks ⟨sl++[-1],h::r⟩)
 obtain⟨M,hMd⟩:=exq (manyN ⟨10,t0,n0,ks⟩)
 rw[hR,hMd]
 rw[hMd]at hM hD hms
 obtain⟨hm1,hm2⟩:M<=manyN.go ks+1/\manyN.go ks+1<=M:=by omega
 clear hms
 obtain⟨s0,hs0⟩:=exq (sl.length)
 obtain⟨had,hhad⟩:=exq ((a0h (h::r)).length)
 rw[hhad]
 have hb0:=q1z (Below.refl W.heap.size W) (nbx ⟨10,t0,n0,ks⟩ b cap)
 have g0:=a0a W (nbx ⟨10,t0,n0,ks⟩ b cap)
 have ha0:=(hLo.ap (Nat.le_refl _)).below hLo.lt hb0
 have hlk0:=LK.below hLo.lt hb0
 have hLo1:=hLo.on hb0
 have hnum:=fun V (h':Lo w0 B u ub uc sl (a0h (h::r)) c a false V)=>number_any w0 B u ub uc sl (a0h (h::r)) c a false V h' (by omega)
 have hall:=a1g ks
 obtain⟨t,ht⟩:=exq (W.heap.size)
 rw[ht]at g0 ha0
 rw[hs0]at hnum hM hR⊢
 obtain⟨D,hDd⟩:=exq (r.length+1)
 rw[hDd]
 have hDM:D+manyN.go ks<=100000:=by omega
 replace hDd:Hid _:=hDd
 replace hhad:Hid _:=hhad
 replace hR:Hid _:=hR
 replace ih:Hid (∀j y,ks[j]?=some y->(j≠2/\a1i y.k/\XC y)\/(j=2/\y.k=4/\BC y)):=ih
 have hlb:had<=30:=by rw[<- hhad.out,a2i];exact hbl
 obtain⟨i58,hi0,hz0,hz1,hz2⟩:=info_parts c4d
 go_enter Tryz.func49,Tryz.ntmps49
 go_wp2_with (go_at_call 11;refine(hnum _ hLo1).mono ?_;rintro e w1 ⟨rfl,hL1,hk1⟩)
 clear hnum hLo1 hLo hN
 have hSA1:=(hSA.on (hlk0.trans hk1))
 have hI:YI w0 B u ub uc (h::r) c a S ⟨10,t0,n0,ks⟩ b cap W t (s0+M) s0 had R 0 w1:=by
  obtain⟨q1,q2⟩:=hk1 t _ ha0 g0
  exact⟨q1,q2,hlk0.trans hk1,hSA1.1,hKu.lk hSA (hlk0.trans hk1),hKn.lk hSA (hlk0.trans hk1),.inl ⟨sl++[-1],hR.out,by simp;omega,by simp;omega,hL1⟩⟩
 clear hSA1 hL1 hk1 ha0 g0 hb0 hlk0 hKu hKn hSA
 go_loopw [7] (fun ix wr=>∃j:Nat,j<=ks.length/\ix=vi (j:Nat)/\YI w0 B u ub uc (h::r) c a S ⟨10,t0,n0,ks⟩ b cap W t (s0+M) s0 had R j wr) (fun ix _=>ks.length-(intOf ix).toNat)
 case atStart=>exact⟨0,Nat.zero_le _,rfl,hI⟩
 case round =>
  obtain⟨j,hj,rfl,g,ha,hlk,hS1,hKu,hKn,hst⟩:=hrel
  clear hI
  simp only at hKn hst
  obtain⟨q0,q1,q2,q3,_,_,_,_⟩:=in4 g
  simp only at q0 q1 q2 q3
  rcases hst with⟨sl',hgo,hs1,hs2,hLo⟩|⟨cd,at_,sl',ls',hRe,hs1,hs2,hle,hLo⟩
  ·obtain⟨c8,_,_,_,_,_⟩:=hLo.cells
   by_cases hlt:j<ks.length
   ·have hlt':(j:Int)<(ks.length:Int):=by omega
    obtain⟨y,hy⟩:∃y,ks[j]?=some y:=⟨_,List.getElem?_eq_getElem hlt⟩
    obtain⟨g',off,b',cap',rfl,v0,v1,v2,v3,hyV⟩:=KA.at hKn hy
    have hdr:ks.drop j=y::ks.drop (j+1):=by rw[List.drop_eq_getElem_cons hlt];congr 1;exact(List.getElem?_eq_some_iff.1 hy).2
    have hmk:manyN y<=manyN.go ks:=by
     have:=congrArg manyN.go (List.take_append_drop j ks)
     rw[a2m,hdr]at this
     simp only[manyN.go]at this
     omega
    have hsy:sl'.length+manyN y<=100000:=by rw[hdr]at hs2;simp only[manyN.go]at hs2;omega
    have hgo':=hgo
    have hs2':=hs2
    rw[hdr]at hgo' hs2'
    simp only[manyN.go]at hs2'
    rw[visC.go]at hgo'
    clear hgo hs2 hdr
    rcases ih.out j y hy with⟨hj2,hx,hX⟩|⟨hj2,hx,hX⟩
    ·rw[if_neg (by omega)]at hgo'
     have hcall:=hX w0 B u ub uc sl' (h::r) c a S b' cap' wr hLo hKu hyV hS1 hsy (by omega) hul hNB
     have ey:(y.k == 4)=false:=by unfold a1i at hx;simp;omega
     clear hy hx hX
     replace hgo':Hid _:=hgo'
     replace hs2':Hid _:=hs2'
     go_wp2_with (go_at_call 74;refine hcall.mono ?_;rintro e w2 ⟨rfl,hk2,hr2⟩)
     go_roundw
     case rel =>
      obtain⟨g2,ha2⟩:=hk2 t _ ha g
      refine⟨j+1,by omega,by go_num,g2,ha2,hlk.trans hk2,(hS1.on hk2).1,hKu.lk hS1 hk2,hKn.lk hS1 hk2,?_⟩
      have hg2:=hgo'.out
      have hs3:=hs2'.out
      rcases hr2 with⟨sl2,e2,p1,p2,p3⟩|⟨cd,at_,sl2,e2,p1,p2,p3⟩
      ·rw[e2]at hg2
       exact .inl ⟨sl2,hg2,by omega,by simp only;omega,p3⟩
      ·rw[e2]at hg2
       exact .inr ⟨cd,at_,sl2,_,hg2.symm,by omega,by omega,hhad.out,p3⟩
     case measure=>simp[intOf];omega
    ·subst hj2
     rw[if_pos ⟨rfl,rfl⟩]at hgo'
     rw[show(⟨sl',h::r⟩:Cs).begin=⟨sl',[]::h::r⟩ from rfl,b6u]at hgo'
     have hsum:sumL (h::r)=had:=by rw[<- hhad.out,a2i]
     rw[hsum]at hgo'
     obtain⟨LS,hLSd⟩:=exq (a0h (h::r))
     rw[hLSd]at hLo
     have hLS:Hid (LS.length=had):=by show _=_;rw[<- hLSd];exact hhad.out
     have hsnoc:LS++[⟨t0,D+1,true⟩]=a0h ([⟨t0,true⟩]::h::r):=by rw[<- hLSd,<- hDd.out];simp[a0h]
     have hD1:(((h::r).length+1:Nat):Int)=(D:Int)+1:=by have:=hDd.out;simp;omega
     have hblk:=fun b' cap' V (h1:Lo w0 B u ub uc (sl'.set s0 ((had:Nat):Int)) (LS++[⟨t0,D+1,true⟩]) c a false V) (h2:KA S V ub uc u.kids) (h3:NdV S V y (ndv y b' cap')) (h4:SA S B V) (h5:had<30)=>by
      have:=hX w0 B u ub uc (sl'.set s0 ((had:Nat):Int)) [⟨t0,true⟩] (h::r) c a S b' cap' V (by rw[<- hsnoc];exact h1) h2 h3 h4 (by rw[List.length_set];exact hsy) (by have:=hDd.out;simp;omega) (by rw[a0l,hsum];simp;omega) hul (fun x hx=>by
       rcases List.mem_cons.1 hx with rfl|hx
       ·simp
       ·exact hNB x hx)
      rw[hD1]at this
      exact this
     have hbst:=fun b' cap' V (h1:Lo w0 B u ub uc (sl'.set s0 ((had:Nat):Int)) (LS++[⟨t0,D+1,true⟩]) 1 ((s0:Nat):Int) true V)=>a4i y w0 B u ub uc (sl'.set s0 ((had:Nat):Int)) (LS++[⟨t0,D+1,true⟩]) 1 ((s0:Nat):Int) b' cap' ((D:Int)+1) V h1 (by rw[List.length_set];omega)
     have hun:=fun qq=>a0q w0 B u ub uc sl' LS c a false qq 1 (s0:Nat) wr hLo
     obtain⟨lb,lc,c5,f5,hlc,hsh,_,_⟩:=hLo.cut (m:=0) (Nat.zero_le _)
     rw[hLS.out]at c5
     have hy4:y.k=4:=hx
     rw[hy4]at v0
     have hsnoc':Hid _:=hsnoc
     replace hgo':Hid _:=hgo'
     replace hs2':Hid _:=hs2'
     replace hblk:Hid _:=hblk
     replace hbst:Hid _:=hbst
     replace hLSd:Hid _:=hLSd
     clear hX hsnoc hsum hx hy4
     go_wp2_with (go_at_call 14;refine(hun (decide ((had:Int)<30))).mono ?_;rintro e w5 ⟨rfl,hL5,hk5⟩;refine Hid.out ?_)
     clear hun c5 f5
     obtain⟨q5,hq5⟩:=exq (unl (decide ((had:Int)<30)) 1 (s0:Nat) (c,a,false))
     rw[hq5]at hL5
     have hbd5:Bw w5 w5.drew:=bz0.drew
     have hkd5:=LK.below hL5.lt hbd5
     obtain⟨g5,ha5⟩:=(hk5.trans hkd5) t _ ha g
     replace hL5:=hL5.on hbd5
     obtain⟨gs,sc,c4,⟨xx,cx⟩,fx,hset⟩:=hL5.slot hs1
     have hgsB:=hL5.slot_ne c4
     obtain⟨lb5,lc5,c55,f55,_,_,_,_⟩:=hL5.cut (m:=0) (Nat.zero_le _)
     rw[hLS.out]at c55
     obtain⟨hL6,hk6⟩:=hset ((had:Nat):Int)
     obtain⟨g6,ha6⟩:=hk6 t _ ha5 g5
     have hs0':(0:Int)<=(s0:Int):=by omega
     have hs1':(s0:Int)<(sl'.length:Int):=by omega
     have c4':w5.cell? (Ad B 4)=some (.slice (some (Ad gs 0)) sl'.length sc):=c4
     have c55':w5.cell? (Ad B 5)=some (.slice lb5 had lc5):=c55
     have cx':w5.cell? (Ad gs s0)=some (vi xx):=cx
     have fx':w5.frozen? (Ad gs s0)=false:=fx
     refine Lib.hid ?_
     go_wp2
     go_region_held3 (fun w'=>w'.cell? (Ad B 4)=some (.slice (some (Ad gs 0)) sl'.length sc)/\w'.cell? (Ad B 5)=some (.slice lb5 had lc5)) (go_keep) (fail)
     obtain⟨W6,hW6⟩:=exq (w5.drew.setCell (Ad gs s0) (iv ((had:Nat):Int)))
     rw[hW6]at hL6 hk6 g6 ha6
     have hW6':(w5.setCell (Ad gs s0) (vi ((had:Nat):Int))).drew=W6:=hW6
     first|rw[hW6']|rw[hW6]
     clear hW6 hW6' c4 c4' c55 c55' cx cx' fx fx' hset
     have hba:=q1z ((Below.refl W6.heap.size W6).drew) (.cells #[sk t0,vi ((D:Int)+1),.bool true] 88)
     have hka:=LK.below hL6.lt hba
     obtain⟨g7,ha7⟩:=hka t _ ha6 g6
     have hLV:=hL6.on hba
     obtain⟨lbV,lcV,cV,fV,hownV,hszV,happ⟩:=hLV.app
     rw[hLS.out]at cV hownV happ
     have c5W:W6.cell? (Ad B 5)=some (.slice lbV had lcV):=(World.cell?_of_block (a:=(Ad B 5)) (hba.block B hL6.lt)).symm.trans cV
     have c5a:∀o,(W6.alloc o).cell? (Ad B 5)=some (.slice lbV had lcV):=fun o=>(World.cell?_alloc_past _ _ _ hL6.lt).trans c5W
     obtain⟨z0,z1,z2,z3,_,_,_,_⟩:=in4 g6
     simp only at z0 z1 z2 z3
     have hwD:IntKind.i64.wrap ((D:Int)+1)=(D:Int)+1:=by rw[IntKind.wrap_i64];omega
     have hnews:=b4h W6.drew (sk t0) (vi ((D:Int)+1)) (.bool true)
     have h63:had+1<=maxLen:=by unfold maxLen;omega
     have hby:(had+1)*32<=140737488355328:=by omega
     have htr:a3k ⟨t0,D+1,true⟩=[sk t0,vi ((D:Int)+1),.bool true]:=by simp[a3k]
     have hone:∀x∈[sk t0,vi ((D:Int)+1),.bool true],x.oneCell'=true:=by simp[Value.oneCell']
     have hlkV:=hlk.trans (hk5.trans (hkd5.trans (hk6.trans hka)))
     have hlkU:=hk5.trans (hkd5.trans (hk6.trans hka))
     go_wp2
     go_region_law ((refine step_append_lies _ (by rfl) _ _ _ (by rfl) w0.heap.size 88 i58 _ 3 32 Tryz.underlying36 hi0 hz0 hz1 hz2 rfl (by omega) (.slice lbV had lcV) had _ (by rfl) hownV (Ad W6.drew.heap.size 0) 1 1 [sk t0,vi ((D:Int)+1),.bool true] (by rfl) (by rfl) hnews hone (by omega) h63 hby hszV _ rfl ?_;intro g3 cap3 w3 hown3 hgrow hat hlt3;rw[<- htr]at hown3;obtain⟨c5,f5,hL7,hk7⟩:=happ _ _ _ _ hown3 hgrow hat))
     all_goals
      obtain⟨W7,hW7⟩:=exq (w3.setCell (Ad B 5) (.slice (some (Ad g3 0)) (had+1) cap3))
      rw[hW7]at hL7 hk7
      rw[hW7]
      obtain⟨g8,ha8⟩:=hk7 t _ ha7 g7
      obtain⟨y0,y1,y2,y3,_,_,_,_⟩:=in4 g8
      simp only at y0 y1 y2 y3
      have hlkW:=hlkU.trans hk7
      have hS7:=hS1.on hlkW
      have hKu7:=hKu.lk hS1 hlkW
      have hKn7:=hKn.lk hS1 hlkW
      obtain⟨gx,offx,bx',capx,ex,x0,x1,x2,x3,hyV7⟩:=KA.at hKn7 hy
      cases ex
      clear hW7 c5 f5 c5W c5a hown3 hgrow hat hlt3 happ hownV cV fV
      by_cases h30:had<30
      ·have e5:q5=(c,a,false):=by rw[<- hq5];simp[unl];omega
       subst e5
       have hcall:=hblk.out bx' capx W7 hL7 hKu7 hyV7 hS7.1 h30
       go_wp2_with (go_at_call 33;refine hcall.mono ?_;rintro e w8 ⟨rfl,hk8,hr8⟩;refine Hid.out ?_)
       obtain⟨sl2,LS2,q8,hL8,hlen8,hfin8⟩:∃sl2 LS2,∃q8:Int×Int×Bool,Lo w0 B u ub uc sl2 LS2 q8.1 q8.2.1 q8.2.2 w8/\LS2.length=had+1/\Hid (∀W',Lo w0 B u ub uc sl2 (LS2.take had) q8.1 q8.2.1 q8.2.2 W'->(∃sl',visC.go (u.kids.map Nd.t) 10 t0 s0 (2+1) (ks.drop (2+1)) ⟨sl',h::r⟩=R/\s0<sl'.length/\sl'.length+manyN.go (ks.drop (2+1))<=s0+M/\Lo w0 B u ub uc sl' (a0h (h::r)) c a false W')\/(∃cd at_ sl' ls',R=.error (cd,at_)/\s0<sl'.length/\sl'.length<=s0+M/\ls'.length=had/\Lo w0 B u ub uc sl' ls' cd (at_:Nat) true W')):=by
        have hg2:=hgo'.out
        have hs3:=hs2'.out
        rw[if_neg (by omega)]at hg2
        simp only[List.length_set]at hr8
        rcases hr8 with⟨sl2,bl2,e2,p1,p2,p3⟩|⟨cd,at_,sl2,ls2,e2,p1,p2,p4,p3⟩
        ·have ht2:=(a2g _ _ _ _ _ e2).tail
         simp only[List.tail_cons]at ht2
         rw[<- hsnoc'.out]at p3
         refine⟨sl2,_,(c,a,false),p3,by simp[hLS.out],fun W' hW'=>.inl ⟨sl2,?_,by omega,by omega,?_⟩⟩
         ·rw[<- hg2]
          show _=((visC (u.kids.map Nd.t) true y ⟨sl'.set s0 (had:Nat),[⟨t0,true⟩]::h::r⟩).map Cs.close).bind _
          rw[e2]
          show _=visC.go _ _ _ _ _ _ ⟨sl2,bl2.tail⟩
          rw[ht2]
         ·rw[List.take_left' hLS.out]at hW'
          rw[hLSd.out]
          exact hW'
        ·rw[<- hsnoc'.out]at p4
         have hl2:ls2.length=had+1:=by rw[p4];simp[hLS.out]
         refine⟨sl2,ls2,(cd,((at_:Nat):Int),true),p3,hl2,fun W' hW'=>.inr ⟨cd,at_,sl2,_,?_,by omega,by omega,by simp[hl2],hW'⟩⟩
         rw[<- hg2]
         show((visC (u.kids.map Nd.t) true y ⟨sl'.set s0 (had:Nat),[⟨t0,true⟩]::h::r⟩).map Cs.close).bind _=_
         rw[e2]
         rfl
       have hbd8:Bw w8 w8.drew:=bz0.drew
       have hkd8:=LK.below hL8.lt hbd8
       have hlk8:=hlkW.trans (hk8.trans hkd8)
       obtain⟨g9,ha9⟩:=(hk8.trans hkd8) t _ ha8 g8
       replace hL8:=hL8.on hbd8
       obtain⟨lb8,lc8,c58,f58,hlc8,hsh8,hcut8,hkc8⟩:=hL8.cut (m:=had) (by omega)
       rw[hlen8]at c58 hlc8
       have hn1:(had:Int)<=(lc8:Int):=by omega
       have hn0:(0:Int)<=(had:Int):=by omega
       have hw1:IntKind.i64.wrap (had:Int)=(had:Int):=by rw[IntKind.wrap_i64];omega
       have hw2:IntKind.i64.wrap ((had:Int)+1-1)=(had:Int):=by rw[IntKind.wrap_i64];omega
       have fin9:=hfin8.out _ hcut8
       replace fin9:Hid _:=fin9
       have c58':w8.cell? (Ad B 5)=some (.slice lb8 (had+1) lc8):=c58
       have f58':w8.frozen? (Ad B 5)=false:=f58
       clear hfin8 hcut8
       rcases hsh8 with⟨rfl,rfl⟩|⟨gl8,rfl⟩
       ·omega
       refine Lib.hid ?_
       go_wp2
       go_region_with (fail)
       all_goals
        go_wp2
        go_roundw
        case rel =>
         obtain⟨g10,ha10⟩:=hkc8 t _ ha9 g9
         exact⟨3,by omega,by go_num,g10,ha10,hlk.trans (hlk8.trans hkc8),(hS1.on (hlk8.trans hkc8)).1,hKu.lk hS1 (hlk8.trans hkc8),hKn.lk hS1 (hlk8.trans hkc8),fin9.out⟩
        case measure=>simp[intOf];omega
      ·have e5:q5=(1,((s0:Nat):Int),true):=by rw[<- hq5];simp[unl];omega
       subst e5
       have hcall:=hbst.out bx' capx W7 hL7
       go_wp2_with (go_at_call 33;refine hcall.mono ?_;rintro e w8 ⟨rfl,hL8,hk8⟩;refine Hid.out ?_)
       obtain⟨sl2,LS2,q8,hL8,hlen8,hfin8⟩:∃sl2 LS2,∃q8:Int×Int×Bool,Lo w0 B u ub uc sl2 LS2 q8.1 q8.2.1 q8.2.2 w8/\LS2.length=had+1/\Hid (∀W',Lo w0 B u ub uc sl2 (LS2.take had) q8.1 q8.2.1 q8.2.2 W'->(∃sl',visC.go (u.kids.map Nd.t) 10 t0 s0 (2+1) (ks.drop (2+1)) ⟨sl',h::r⟩=R/\s0<sl'.length/\sl'.length+manyN.go (ks.drop (2+1))<=s0+M/\Lo w0 B u ub uc sl' (a0h (h::r)) c a false W')\/(∃cd at_ sl' ls',R=.error (cd,at_)/\s0<sl'.length/\sl'.length<=s0+M/\ls'.length=had/\Lo w0 B u ub uc sl' ls' cd (at_:Nat) true W')):=by
        have hg2:=hgo'.out
        have hs3:=hs2'.out
        have hmy:=a2n y
        rw[if_pos (by omega)]at hg2
        refine⟨_,_,(1,((s0:Nat):Int),true),hL8,by simp[hLS.out],fun W' hW'=>.inr ⟨1,s0,_,_,hg2.symm,?_,?_,by simp[hLS.out],hW'⟩⟩
        ·simp
         omega
        ·simp
         omega
       have hbd8:Bw w8 w8.drew:=bz0.drew
       have hkd8:=LK.below hL8.lt hbd8
       have hlk8:=hlkW.trans (hk8.trans hkd8)
       obtain⟨g9,ha9⟩:=(hk8.trans hkd8) t _ ha8 g8
       replace hL8:=hL8.on hbd8
       obtain⟨lb8,lc8,c58,f58,hlc8,hsh8,hcut8,hkc8⟩:=hL8.cut (m:=had) (by omega)
       rw[hlen8]at c58 hlc8
       have hn1:(had:Int)<=(lc8:Int):=by omega
       have hn0:(0:Int)<=(had:Int):=by omega
       have hw1:IntKind.i64.wrap (had:Int)=(had:Int):=by rw[IntKind.wrap_i64];omega
       have hw2:IntKind.i64.wrap ((had:Int)+1-1)=(had:Int):=by rw[IntKind.wrap_i64];omega
       have fin9:=hfin8.out _ hcut8
       replace fin9:Hid _:=fin9
       have c58':w8.cell? (Ad B 5)=some (.slice lb8 (had+1) lc8):=c58
       have f58':w8.frozen? (Ad B 5)=false:=f58
       clear hfin8 hcut8
       rcases hsh8 with⟨rfl,rfl⟩|⟨gl8,rfl⟩
       ·omega
       refine Lib.hid ?_
       go_wp2
       go_region_with (fail)
       all_goals
        go_wp2
        go_roundw
        case rel =>
         obtain⟨g10,ha10⟩:=hkc8 t _ ha9 g9
         exact⟨3,by omega,by go_num,g10,ha10,hlk.trans (hlk8.trans hkc8),(hS1.on (hlk8.trans hkc8)).1,hKu.lk hS1 (hlk8.trans hkc8),hKn.lk hS1 (hlk8.trans hkc8),fin9.out⟩
        case measure=>simp[intOf];omega
   ·have hlt':¬(j:Int)<(ks.length:Int):=by omega
    have hRo:R=.ok ⟨sl',h::r⟩:=by
     rw[<- hgo,List.drop_eq_nil_of_le (by omega),visC.go]
    subst hRo
    clear hgo
    go_wp2
    go_end0
    exact⟨rfl,hlk,.inl ⟨sl',_,rfl,by omega,by omega,hLo⟩⟩
  ·obtain⟨c8,_,_,_,_,_⟩:=hLo.cells
   subst hRe
   have fin:Hid (SQ w0 B u ub uc had c a s0 M (.error (cd,at_)) W (.returned (.tuple #[])) wr):=⟨rfl,hlk,.inr ⟨cd,at_,sl',ls',rfl,by omega,by omega,by omega,hLo⟩⟩
   by_cases hlt:j<ks.length
   ·have hlt':(j:Int)<(ks.length:Int):=by omega
    go_wp2
    go_end0
    exact fin.out
   ·have hlt':¬(j:Int)<(ks.length:Int):=by omega
    go_wp2
    go_end0
    exact fin.out
end Go.Proofs.YtomniogfpfbolaaGreatDoor
