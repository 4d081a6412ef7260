/- A run of the model: a loop that counts. -/
import Derived.Test.YtfbpdbndejefdaaGreatDoorS51
import Derived.Test.YtfbpdbndejefdaaGreatDoorS49
namespace Go.Proofs.YtfbpdbndejefdaaGreatDoor.V
open Go.RowKit Go
set_option maxRecDepth 100000
set_option maxHeartbeats 8000000
set_option linter.all false
variable {n:Nat}
section
variable [DecidableEq Vl]
section
variable {F:Int->Vl->Vl->Vl×Int} {e:En} {D:Nat->Prop} {C:Nat} {l:List Vl} {r:Rn Tb} {W:World}
def b0p (F:Int->Vl->Vl->Vl×Int) (e:En) (p:Pt) (a b:Vl) (l:List Vl) (r:Rn Tb):Res Vl Tb Vl:=need (if a.k=2/\b.k=2 then 0 else 3) r (if b.n<a.n then Res.ok nilV l r else ZX F e 3 p a.n b.n l r)
theorem e0f(p:Pt)(s:Nat)(hs:p.sl=s)(i j:Int)(l:List Vl)(r:Rn Tb)(h:r.st<=e.lim):ZX F e 3 p i j l r=tick e.lim l r fun l r=>(optB F e p.kids.getLast? (l.set s (intV i)) r).bind fun _ l r=>if i=j then Res.ok nilV l r else ZX F e 3 p (i+1) j l r:=by
 rw[a3r F e 3 p i j l r h]
 show(tick e.lim l r fun l r=>(blockX (zS F e) p.kids.getLast? (l.set p.sl.toNat (intV i)) r).bind fun _ l r=>if i=j then Res.ok nilV l r else ZX F e 3 p (i+1) j l r)=_
 rw[hs]
 congr 1
 funext l r
 show((blockX (zS F e) p.kids.getLast? (l.set s (intV i)) r).bind fun _ l r=>if i=j then Res.ok nilV l r else ZX F e 3 p (i+1) j l r)=_
 cases p.kids.getLast? with
 | none=>rfl
 | some q=>exact a8j (zS F e) (fun l r=>if i=j then Res.ok nilV l r else ZX F e 3 p (i+1) j l r) q.kids _ r
def CI (F:Int->Vl->Vl->Vl×Int) (e:En) (n C:Nat) (D:Nat->Prop) (W:World) (os:List (Nat×Obj)) (nt:Nat) (R:Res Vl Tb Vl) (p:Pt) (i j:Int) (wr:World):Prop :=
 ∃D' l' r',Ac e C D W os D' l' r' wr/\ZX F e 3 p i j l' r'=R/\e.lim<n+r'.st/\nt<=r'.tb.length
theorem c4t(hE:EC F e n)(hB:BK F e n)(hn:e.lim<n+r.st)(t:ByteArray)(nn:Int)(s:Nat)(hs30:s<30)(ks:List Pt)(b:Option Addr)(cap:Nat)(hw:Wf (nf e) ⟨10,t,nn,s,ks⟩)(hk:PK tt e.w1 ks b cap)(h:St e D C l r W):Cl 53 #[pC C,ptv ⟨10,t,nn,s,ks⟩ b cap] W (XQ g0 e D C W r.tb.length ((a4k (zE F e) ⟨10,t,nn,s,ks⟩ l r).bind fun z l r=>b0p F e ⟨10,t,nn,s,ks⟩ z.1 z.2 l r)):=by
 have hlen:ks.length=3:=by
  have hw2:=hw
  rw[Wf]at hw2
  have h1:=hw2.1
  clear hw2
  unfold a0w at h1
  omega
 obtain⟨y0,hy0⟩:∃y0,ks[0]?=some y0:=⟨_,List.getElem?_eq_getElem (by omega)⟩
 obtain⟨y1,hy1⟩:∃y1,ks[1]?=some y1:=⟨_,List.getElem?_eq_getElem (by omega)⟩
 obtain⟨y2,hy2⟩:∃y2,ks[2]?=some y2:=⟨_,List.getElem?_eq_getElem (by omega)⟩
 have hk0:a2s y0.k:=by have:=(hw.kid hy0).1;simpa[a0z]using this
 have hk1:a2s y1.k:=by have:=(hw.kid hy1).1;simpa[a0z]using this
 have hk2:y2.k=4:=by have:=(hw.kid hy2).1;simpa[a0z]using this
 have hw2:=(hw.kid hy2).2
 have hlast:ks.getLast?=some y2:=by rw[List.getLast?_eq_getElem?,hlen];exact hy2
 have hLc:=hk.1
 obtain⟨w0,hw0e⟩:=exq (W.alloc (.cells #[vi 10,.string t,vi nn,vi (s:Nat),.slice b ks.length cap] 34))
 have hb0:Bw W w0:=by rw[<- hw0e];exact ext_alloc (Below.refl _ _) _
 have hA:=Ac.begin (os:=[(W.heap.size,.cells #[vi 10,.string t,vi nn,vi (s:Nat),.slice b ks.length cap] 34)]) h hb0 (fun p hp=>by simp at hp;subst hp;exact⟨by rw[<- hw0e];exact new1 _ _,Nat.le_refl _⟩)
 have hc:=a9h hE ⟨10,t,nn,s,ks⟩ b cap hn hw hy0 hy1 hk0 hk1 hk hA.st
 replace hc:Cl 76 #[pC C,.agg #[vi 10,.string t,vi nn,vi (s:Nat),.slice b ks.length cap]] w0 _:=hc
 obtain⟨R,hR⟩:=exq ((a4k (zE F e) ⟨10,t,nn,s,ks⟩ l r).bind (fun z l r=>b0p F e ⟨10,t,nn,s,ks⟩ z.1 z.2 l r))
 rw[hR]
 have hst:∀z l' r',a4k (zE F e) ⟨10,t,nn,s,ks⟩ l r=Res.ok z l' r'->e.lim<n+r'.st:=fun z l' r' hz=>by
  have hG:Gr e.lim r (a4k (zE F e) ⟨10,t,nn,s,ks⟩ l r):=by
   unfold a4k
   refine(Gr.ex (fun p l r=>grow (O:=Oz F) (prog:=e.u.kids) (lim:=e.lim) (2*e.lim+3) 0 p 0 0 l r) _ l r).bind fun _ l r=>?_
   exact(Gr.ex (fun p l r=>grow (O:=Oz F) (prog:=e.u.kids) (lim:=e.lim) (2*e.lim+3) 0 p 0 0 l r) _ l r).bind fun _ _ _=>Gr.ok rfl (List.prefix_refl _)
  rw[hz]at hG
  have:r.st<=r'.st:=hG.1
  omega
 obtain⟨nt,hnt⟩:=exq (r.tb.length)
 rw[hnt]at hc⊢
 obtain⟨p0,p1,p2,p3,p4,_,_,_,_,_⟩:=in5 (hA.at 0 rfl)
 show Cl 53 #[pC C,.agg #[vi 10,.string t,vi nn,vi (s:Nat),.slice b ks.length cap]] W _
 replace hA:Hid _:=hA
 replace hst:Hid _:=hst
 replace hR:Hid _:=hR
 replace hE:Hid (EC F e n):=hE
 replace hB:Hid (BK F e n):=hB
 replace hlen:Hid _:=hlen
 replace hk2:Hid _:=hk2
 have hlo:=h.size
 clear h hb0
 go_enter Tryz.func53,Tryz.ntmps53
 go_wp2_with (go_at_call 76;refine hc.mono ?_;intro en w1 hq;rcases hq.par with⟨pv,rfl,hbd⟩|⟨⟨a,k⟩,l1,r1,D1,vv,hx1,rfl,hS1,hK1,hn1,rfl,hva,hvk⟩;(exact⟨rfl,.inl ⟨pv,rfl,((hA.out.bad hbd).bind _).eq hR.out.symm⟩⟩);refine Hid.out ?_)
 have hAa:=hA.out.step hS1 hK1
 have hA1:=hAa.two a k
 have hst1:=hst.out _ _ _ hx1
 replace hR:=hR.out
 rw[hx1]at hR
 replace hR:b0p F e ⟨10,t,nn,s,ks⟩ a k l1 r1=R:=hR
 have hsW:W.heap.size<w1.heap.size:=block_lt (hAa.at 0 rfl)
 obtain⟨w2,hw2e⟩:=exq ((w1.alloc (.cells #[vi a.k,vi a.n,.string a.s] 52)).alloc (.cells #[vi k.k,vi k.n,.string k.s] 52))
 obtain⟨A,hAe⟩:=exq (w1.heap.size)
 replace hA1:Ac e C D W [(A+1,bx k),(A,bx a),(W.heap.size,.cells #[vi 10,.string t,vi nn,vi (s:Nat),.slice b ks.length cap] 34)] D1 l1 r1 w2:=by rw[<- hw2e,<- hAe];exact hA1
 have hE0:Bw w2 w2.drew:=(Below.refl _ _).drew
 have hS00:(fun V:World=>Ce V C 0 (pR e)/\Ce V A 0 (vi a.k)/\Ce V (A+1) 0 (vi k.k)) w2.drew:=by
  have h1:=hA1.below hE0
  exact⟨h1.st.ptr,(in3 (h1.at 1 rfl)).1,(in3 (h1.at 0 rfl)).1⟩
 have hst':¬(a.k=2/\k.k=2)->∀V,Bw w2 V->XQ g0 e D C W nt R (.panicked (pan (endV 2 3))) V:=fun hne V hb=>.inl ⟨_,rfl,((hA1.below hb).stop 2 3).eq (by rw[<- hR];unfold b0p;rw[if_neg hne];rfl)⟩
 clear hA hAa hx1 hS1 hK1 hc
 by_cases ha:a.k=2
 ·by_cases hb2:k.k=2
  ·have hd1:(a.k != 2)=false:=by simpa using ha
   have hd2:(k.k != 2)=false:=by simpa using hb2
   unfold b0p at hR
   rw[if_pos ⟨ha,hb2⟩]at hR
   replace hR:(if k.n<a.n then Res.ok nilV l1 r1 else ZX F e 3 ⟨10,t,nn,s,ks⟩ a.n k.n l1 r1)=R:=hR
   replace hst':Hid _:=hst'
   clear hst' ha hb2 hva hvk
   refine Lib.hid ?_
   go_wp2
   refine wp_region_held_drew (S:=fun V=>Ce V C 0 (pR e)/\Ce V A 0 (vi a.k)/\Ce V (A+1) 0 (vi k.k)) (by kernel_rfl) hS00 (fun hHeld=>?_)
   change wpAnyH _ _ _ _ _ 13 _ _ _
   iterate 12 (refine tkH 0 (by simp only[nx,gq1,gq2,gq3];rfl) (by kernel_rfl) (by rfl) hHeld ⟨_,by intro w ⟨_,_,_⟩;go_simp;try with_reducible rfl,by exact fun _ _ _ h=>h,?_⟩;try simp only[Act.put,sq1,sq2,sq3])
   refine wpAnyH_ready (rs:=[12]) (by kernel_rfl) (by simp) ?_
   refine AllReadyH.cons rfl (fun K hK=>?_) .nil
   go_simp
   go_at_call 17
   refine(a4t _ 3 _).mono ?_
   rintro en w5 ⟨rfl,hw5⟩
   rw[hw5]
   clear hw5
   refine hK.out _ _ hHeld (fun _=>?_)
   clear hK K
   try simp only[Act.put,sq1,sq2,sq3]
   refine wpAnyH_done (by kernel_rfl) ?_ _
   have hA2:=hA1.below hE0
   obtain⟨V0,hV0⟩:=exq (w2.drew)
   rw[hV0]at hA2⊢
   obtain⟨c0,c1,c2,_,_,_⟩:=in3 (hA2.at 1 rfl)
   obtain⟨e0,e1,e2,_,_,_⟩:=in3 (hA2.at 0 rfl)
   have na:=wf64 a.wn
   have nk:=wf64 k.wn
   clear hHeld hS00 hE0 hV0 hA1 p0 p1 p2 p3 p4 hw2e hw0e
   by_cases hlt:k.n<a.n
   ·rw[if_pos hlt]at hR
    have hfin:XQ g0 e D C W nt R (.returned (.tuple #[])) V0:=.inr ⟨nilV,l1,r1,D1,_,hR.symm,rfl,hA2.st,hA2.ck,hn1,rfl⟩
    have hd:decide (a.n>k.n)=true:=by simpa using hlt
    have hd':a.n>k.n:=hlt
    clear hA2 hR hlt
    go_wp2
    go_end0
    exact hfin
   ·rw[if_neg hlt]at hR
    have hd':¬a.n>k.n:=hlt
    have hI:CI F e n C D W [(A+1,bx k),(A,bx a),(W.heap.size,.cells #[vi 10,.string t,vi nn,vi (s:Nat),.slice b ks.length cap] 34)] nt R ⟨10,t,nn,s,ks⟩ a.n k.n V0:=⟨D1,l1,r1,hA2,hR,hst1,hn1⟩
    clear hA2 hR hst1 hn1
    have hak:a.n<=k.n:=by omega
    go_wp2
    go_loopw [6] (fun iv wr=>∃i:Int,iv=vi i/\a.n<=i/\i<=k.n/\CI F e n C D W [(A+1,bx k),(A,bx a),(W.heap.size,.cells #[vi 10,.string t,vi nn,vi (s:Nat),.slice b ks.length cap] 34)] nt R ⟨10,t,nn,s,ks⟩ i k.n wr) (fun iv _=>(k.n-intOf iv).toNat)
    case atStart=>exact⟨a.n,rfl,Int.le_refl _,hak,hI⟩
    case round =>
     obtain⟨i,rfl,hi1,hi2,D4,l4,r4,hA4,hR4,hst4,hn4⟩:=hrel
     clear hI c0 c1 c2 e0 e1 e2
     rw[e0f ⟨10,t,nn,s,ks⟩ s rfl i k.n l4 r4 hA4.st.rq.gd.st]at hR4
     unfold tick at hR4
     have hstep:=b7z hA4.st.rq
     have hptr4:=hA4.st.ptr
     replace hA4:Hid _:=hA4
     replace hR4:Hid _:=hR4
     go_wp2_with (go_at_call 48;refine hstep.mono ?_;rintro en w5 (⟨hs,rfl,hb5⟩|⟨hs,rfl,hR5,hK5⟩);(exact⟨rfl,.inl ⟨_,rfl,((hA4.out.below hb5).stop 0 0).eq (by rw[<- hR4.out,if_pos hs])⟩⟩);refine Hid.out ?_)
     have hA5:=hA4.out.re hR5 hK5 (Nat.le_refl _)
     replace hR4:=hR4.out
     rw[if_neg (by omega)]at hR4
     obtain⟨r5,hr5⟩:∃r5:Rn Tb,{ r4 with st:=r4.st+1 }=r5:=⟨_,rfl⟩
     have hst5:r5.st=r4.st+1:=by rw[<- hr5]
     have hnt5:nt<=r5.tb.length:=by rw[<- hr5];exact hn4
     rw[hr5]at hA5 hR4
     clear hA4 hstep hptr4 hR5 hK5 hs hr5 hn4
     have p3:=(in5 (hA5.at 2 rfl)).c3
     have hE7:Bw w5 w5.drew:=(Below.refl _ _).drew
     have hSn:∀V,Bw w5 V->Ce V W.heap.size 3 (vi (s:Nat))/\True:=fun V hb=>⟨a3s hb p3,trivial⟩
     have hCn:W.heap.size≠C:=(hA5.bo (W.heap.size,_) (List.Mem.tail _ (List.Mem.tail _ (List.Mem.head _)))).2.2.1
     have hSp:∀V y,(fun V:World=>Ce V W.heap.size 3 (vi (s:Nat))/\True) V->(fun V:World=>Ce V W.heap.size 3 (vi (s:Nat))/\True) (putL V C s y):=fun V y h0=>⟨(kL hCn).trans h0.1,trivial⟩
     have hinl:∀V,Bw w5 V->∃x,InL V C s x:=fun V hb=>(hA5.st.on hb).inl hs30
     have hS70:=hSn _ hE7
     have hfin7:∀V,Bw w5 V->Ac e C D W [(A+1,bx k),(A,bx a),(W.heap.size,.cells #[vi 10,.string t,vi nn,vi (s:Nat),.slice b ks.length cap] 34)] D4 (l4.set s (intV i)) r5 (putL V C s (intV i)):=fun V hb=>by
      have hx:=hA5.below hb
      exact hx.step (hx.st.put s (VG.num _)) (CK.refl.local)
     have hs0:(0:Int)<=(s:Int):=by omega
     have hs3:(s:Int)<30:=by omega
     replace hSn:Hid _:=hSn
     replace hSp:Hid _:=hSp
     replace hinl:Hid _:=hinl
     replace hfin7:Hid _:=hfin7
     clear hA5
     refine Lib.hid ?_
     go_wp2
     refine wp_region_held_drew (S:=fun V=>Ce V W.heap.size 3 (vi (s:Nat))/\True) (by kernel_rfl) hS70 (fun hHeld7=>?_)
     change wpAnyH _ _ _ _ _ 9 _ _ _
     iterate 4 (refine tkH 0 (by simp only[nx,gq1,gq2,gq3];rfl) (by kernel_rfl) (by rfl) hHeld7 ⟨_,by intro w ⟨_,_⟩;go_simp;try with_reducible rfl,by exact fun _ _ _ h=>h,?_⟩;try simp only[Act.put,sq1,sq2,sq3])
     iterate 2 (refine tkH 1 (by simp only[nx,gq1,gq2,gq3];rfl) (by kernel_rfl) (by rfl) hHeld7 ⟨_,by intro w ⟨_,_⟩;go_simp;try with_reducible rfl,by exact fun _ _ _ h=>h,?_⟩;try simp only[Act.put,sq1,sq2,sq3])
     refine wpAnyH_ready (rs:=[4]) (by kernel_rfl) (by simp) ?_
     refine AllReadyH.cons rfl (fun K hK=>?_) .nil
     go_simp
     go_at_call 72
     refine(b6g i (WalkArith.wf_i64 (by omega)) _).mono ?_
     rintro en w8 ⟨rfl,hb8⟩
     have E8:=ext_trans hE7 hb8
     have hH8:=hSn.out _ E8
     obtain⟨xx,v0,v1,v2,v3,v4,v5⟩:=hinl.out _ E8
     refine hK.out _ _ hH8 (fun _=>?_)
     clear hK K
     try simp only[Act.put,sq1,sq2,sq3]
     iterate 1 (refine tkH 0 (by simp only[nx,gq1,gq2,gq3];rfl) (by kernel_rfl) (by rfl) hH8 ⟨_,by intro w ⟨_,_⟩;go_simp;try with_reducible rfl,by exact fun _ _ _ h=>h,?_⟩;try simp only[Act.put,sq1,sq2,sq3])
     refine wpAnyH_ready (rs:=[8]) (by kernel_rfl) (by simp) ?_
     refine AllReadyH.cons rfl (fun K hK=>?_) .nil
     go_simp
     have hH9:=hSp.out _ (intV i) hH8
     refine hK.out _ _ hH9 (fun _=>?_)
     clear hK K
     try simp only[Act.put,sq1,sq2,sq3]
     refine wpAnyH_done (by kernel_rfl) ?_ _
     have hA8:=hfin7.out _ E8
     obtain⟨V8,hV8⟩:=exq (putL w8 C s (intV i))
     rw[hV8]at hA8
     replace hV8:((w8.setCell (Ad C (1+s*3)) (vi (intV i).k)).setCell (Ad C (1+s*3+1)) (vi (intV i).n)).setCell (Ad C (1+s*3+2)) (.string (intV i).s)=V8:=hV8
     rw[hV8]
     clear hV8 hH9 hH8 v0 v1 v2 v3 v4 v5 hHeld7 hS70 p3 hfin7 hinl hSp hSn
     obtain⟨g,off,b2,cap2,rfl,hp2,hc2⟩:=PK.kid hk hy2
     rw[show(⟨10,t,nn,s,ks⟩:Pt).kids.getLast?=some y2 from hlast]at hR4
     replace hR4:((blkX (zS F e) y2.kids (l4.set s (intV i)) r5).bind fun _ l r=>if i=k.n then Res.ok nilV l r else ZX F e 3 ⟨10,t,nn,s,ks⟩ (i+1) k.n l r)=R:=hR4
     have hbody:∀V,Bw V8 V->Cl 21 #[.agg #[vi 10,.string t,vi nn,vi (s:Nat),.slice (some (Ad g off)) ks.length cap]] V fun en V'=>en=.returned (ptv y2 b2 cap2)/\Bw V V':=fun V hb=>body_any ⟨10,t,nn,s,ks⟩ g off cap 2 hlen.out (by omega) y2 b2 cap2 V (hc2 V (hA8.below hb).st.rq.bl) (Nat.lt_of_lt_of_le (hc2 V (hA8.below hb).st.rq.bl).lt (hA8.below hb).st.size)
     have hblk:∀V,Bw V8 V->Cl 20 #[pC C,.agg #[vi y2.k,.string y2.t,vi y2.n,vi y2.sl,.slice b2 y2.kids.length cap2]] V (XQ g0 e D4 C V r5.tb.length (blkX (zS F e) y2.kids (l4.set s (intV i)) r5)):=fun V hb=>hB.out y2 b2 cap2 C (l4.set s (intV i)) r5 D4 V (by omega) hw2 hk2.out hp2 (hA8.below hb).st
     have hbad:∀V V' pv,Bw V8 V->Bd (fun q=>q=C) e D4 V (blkX (zS F e) y2.kids (l4.set s (intV i)) r5) pv V'->XQ g0 e D C W nt R (.panicked pv) V':=fun V V' pv hb hbd=>.inl ⟨pv,rfl,(((hA8.below hb).bad hbd).bind _).eq hR4.symm⟩
     have hnext:∀V V' x l6 r6 D6,Bw V8 V->blkX (zS F e) y2.kids (l4.set s (intV i)) r5=Res.ok x l6 r6->St e D6 C l6 r6 V'->CK (fun q=>q=C) D4 V D6 V'->r5.tb.length<=r6.tb.length->In3 V' (A+1) k/\(i=k.n->XQ g0 e D C W nt R (.returned (.tuple #[])) V')/\(¬i=k.n->CI F e n C D W [(A+1,bx k),(A,bx a),(W.heap.size,.cells #[vi 10,.string t,vi nn,vi (s:Nat),.slice (some (Ad g off)) ks.length cap] 34)] nt R ⟨10,t,nn,s,ks⟩ (i+1) k.n V'):=fun V V' x l6 r6 D6 hb hx hS hK hn6=>by
      have hA9:=(hA8.below hb).step hS hK
      rw[hx]at hR4
      have hst6:=b8e hx
      refine⟨in3 (hA9.at 0 rfl),fun hi=>.inr ⟨nilV,l6,r6,D6,_,?_,rfl,hA9.st,hA9.ck,Nat.le_trans hnt5 hn6,rfl⟩,fun hi=>⟨D6,l6,r6,hA9,?_,by omega,Nat.le_trans hnt5 hn6⟩⟩
      ·rw[<- hR4];show(if i=k.n then _ else _)=_;rw[if_pos hi]
      ·rw[<- hR4];show _=(if i=k.n then _ else _);rw[if_neg hi]
     obtain⟨m0,m1,m2,m3,m4,_,_,_,_,_⟩:=in5 (hA8.at 2 rfl)
     replace hbody:Hid _:=hbody
     replace hblk:Hid _:=hblk
     replace hbad:Hid _:=hbad
     replace hnext:Hid _:=hnext
     replace hi1:Hid _:=hi1
     clear hA8 hR4
     go_wp2_with (first|(go_at_call 21;refine(hbody.out _ (Below.refl _ _)).mono ?_;rintro en w9 ⟨rfl,hb9⟩)|(go_at_call 20;refine(hblk.out _ hb9).mono ?_;intro en w10 hq;rcases hq.par with⟨pv,rfl,hbd⟩|⟨x,l6,r6,D6,vv,hx6,rfl,hS6,hK6,hn6,rfl⟩;(exact⟨rfl,hbad.out _ _ _ hb9 hbd⟩);refine Hid.out ?_))
     obtain⟨⟨_,q1,_,_,_,_⟩,hdone,hgo⟩:=hnext.out _ _ _ _ _ _ hb9 hx6 hS6 hK6 hn6
     replace hdone:Hid _:=hdone
     replace hgo:Hid _:=hgo
     clear hx6 hS6 hK6 hn6 hnext hbad hblk hbody m0 m1 m2 m3 m4
     by_cases hik:i=k.n
     ·have hd:(i == k.n)=true:=by simpa using hik
      have hf:=hdone.out hik
      clear hik
      refine Lib.hid ?_
      go_wp2
      go_end0
      exact hf
     ·have hd:(i == k.n)=false:=by simpa using hik
      have hf:=hgo.out hik
      have hlt2:i<k.n:=by omega
      have hwr:IntKind.i64.wrap (i+1)=i+1:=by rw[IntKind.wrap_i64];have:=hi1.out;omega
      replace hf:Hid _:=hf
      have hlt3:Hid (i<k.n):=hlt2
      clear hik hlt2
      refine Lib.hid ?_
      go_wp2
      go_roundw
      case rel=>exact⟨i+1,rfl,by have:=hi1.out;omega,by have:=hlt3.out;omega,hf.out⟩
      case measure =>
       have:=hlt3.out
       simp[intOf];omega
  ·have hst:=hst' (fun x=>hb2 x.2)
   have hd1:(a.k != 2)=false:=by simpa using ha
   have hd2:(k.k != 2)=true:=by simpa using hb2
   replace hst:Hid _:=hst
   clear hst' ha hb2 hA1 hR hva hvk
   refine Lib.hid ?_
   go_wp2
   refine wp_region_held_drew (S:=fun V=>Ce V C 0 (pR e)/\Ce V A 0 (vi a.k)/\Ce V (A+1) 0 (vi k.k)) (by kernel_rfl) hS00 (fun hHeld=>?_)
   change wpAnyH _ _ _ _ _ 13 _ _ _
   iterate 12 (refine tkH 0 (by simp only[nx,gq1,gq2,gq3];rfl) (by kernel_rfl) (by rfl) hHeld ⟨_,by intro w ⟨_,_,_⟩;go_simp;try with_reducible rfl,by exact fun _ _ _ h=>h,?_⟩;try simp only[Act.put,sq1,sq2,sq3])
   refine wpAnyH_ready (rs:=[12]) (by kernel_rfl) (by simp) ?_
   refine AllReadyH.cons rfl (fun K hK=>?_) .nil
   go_simp
   go_at_call 17
   refine(refuse_no _ 3 _ rfl).mono ?_
   rintro en w5 ⟨rfl,hw5⟩
   rw[hw5]
   exact⟨rfl,hst.out _ hE0⟩
 ·have hst:=hst' (fun x=>ha x.1)
  have hd1:(a.k != 2)=true:=by simpa using ha
  replace hst:Hid _:=hst
  clear hst' ha hA1 hR hva hvk
  refine Lib.hid ?_
  go_wp2
  refine wp_region_held_drew (S:=fun V=>Ce V C 0 (pR e)/\Ce V A 0 (vi a.k)/\Ce V (A+1) 0 (vi k.k)) (by kernel_rfl) hS00 (fun hHeld=>?_)
  change wpAnyH _ _ _ _ _ 13 _ _ _
  iterate 8 (refine tkH 0 (by simp only[nx,gq1,gq2,gq3];rfl) (by kernel_rfl) (by rfl) hHeld ⟨_,by intro w ⟨_,_,_⟩;go_simp;try with_reducible rfl,by exact fun _ _ _ h=>h,?_⟩;try simp only[Act.put,sq1,sq2,sq3])
  refine wpAnyH_take (i := 8) (oi := { dst := some 21, op := Op.fieldAddr 52 (Operand.tmp 5) 0, type := 0, pos := "call.go:75", after := #[{ on := 7, ground := Ground.guard }], guard := some (7, false) }) (v := undef) (fuel := 4) rfl (by kernel_rfl) (by kernel_rfl) (by kernel_rfl) (fun _ _ _ h => h) (Or.inr ⟨by kernel_rfl, rfl⟩) hHeld ?_
  try simp only[Act.put,sq1,sq2,sq3]
  refine wpAnyH_take (i := 9) (oi := { dst := some 22, op := Op.load 3 (Operand.tmp 21), type := 3, pos := "call.go:75", after := #[{ on := 8, ground := Ground.data }, { on := 7, ground := Ground.guard }], guard := some (7, false) }) (v := undef) (fuel := 3) rfl (by kernel_rfl) (by kernel_rfl) (by kernel_rfl) (fun _ _ _ h => h) (Or.inr ⟨by kernel_rfl, rfl⟩) hHeld ?_
  try simp only[Act.put,sq1,sq2,sq3]
  refine wpAnyH_take (i := 10) (oi := { dst := some 23, op := Op.binOp BinOp.neq 3 (Operand.tmp 22) (Operand.const (Value.int IntKind.i64 2)) 3, type := 4, pos := "call.go:75", after := #[{ on := 9, ground := Ground.data }, { on := 7, ground := Ground.guard }], guard := some (7, false) }) (v := undef) (fuel := 2) rfl (by kernel_rfl) (by kernel_rfl) (by kernel_rfl) (fun _ _ _ h => h) (Or.inr ⟨by kernel_rfl, rfl⟩) hHeld ?_
  try simp only[Act.put,sq1,sq2,sq3]
  iterate 1 (refine tkH 0 (by simp only[nx,gq1,gq2,gq3];rfl) (by kernel_rfl) (by rfl) hHeld ⟨_,by intro w ⟨_,_,_⟩;go_simp;try with_reducible rfl,by exact fun _ _ _ h=>h,?_⟩;try simp only[Act.put,sq1,sq2,sq3])
  refine wpAnyH_ready (rs:=[12]) (by kernel_rfl) (by simp) ?_
  refine AllReadyH.cons rfl (fun K hK=>?_) .nil
  go_simp
  go_at_call 17
  refine(refuse_no _ 3 _ rfl).mono ?_
  rintro en w5 ⟨rfl,hw5⟩
  rw[hw5]
  exact⟨rfl,hst.out _ hE0⟩
end
section
variable {F:Int->Vl->Vl->Vl×Int} {e:En} {D:Nat->Prop} {C:Nat} {l:List Vl} {r:Rn Tb} {W:World}
theorem zs_8(t:ByteArray)(nn sl:Int)(ks:List Pt)(l:List Vl)(r:Rn Tb)(h:r.st<=e.lim):ZX F e 1 ⟨8,t,nn,sl,ks⟩ 0 0 l r=tick e.lim l r fun l r=>(b0o F e ks l r).bind fun _ l r=>Res.ok nilV l r:=(show _=tick e.lim l r (fun l r=>(exX (zE F e) ks[0]? l r).bind fun c l r=>(blockX (zS F e) (if tr c=true then ks[1]? else ks[2]?) l r).bind fun _ l r=>Res.ok nilV l r) from(a3r F e 1 _ 0 0 l r h).trans rfl).trans (congrArg (tick e.lim l r) (funext fun l=>funext fun r=>by unfold b0o;rw[a2i];congr 1;funext c l r;exact c0f _ l r nilV))
theorem d8m(hE:EC F e n)(hB:BK F e n)(hn:e.lim<(n+1)+r.st)(t:ByteArray)(nn sl:Int)(ks:List Pt)(b:Option Addr)(cap:Nat)(hw:Wf (nf e) ⟨8,t,nn,sl,ks⟩)(hk:PK tt e.w1 ks b cap)(h:St e D C l r W):Cl 33 #[pC C,ptv ⟨8,t,nn,sl,ks⟩ b cap] W (XQ g0 e D C W r.tb.length (ZX F e 1 ⟨8,t,nn,sl,ks⟩ 0 0 l r)):=by
 obtain⟨z6,w0,z8,p,z⟩:=b4l (.cells #[vi 8,.string t,vi nn,vi sl,.slice b ks.length cap] 34) h (zs_8 t nn sl ks l r h.rq.gd.st)
 generalize ZX F e 1 ⟨8,t,nn,sl,ks⟩ 0 0 l r=R at z⊢
 generalize r.tb.length=nt at z⊢
 show Cl 33 #[pC C,.agg #[vi 8,.string t,vi nn,vi sl,.slice b ks.length cap]] W _
 clear h
 go_enter Tryz.func33,Tryz.ntmps33
 go_wp2_with (go_at_call 48;refine z.mono ?_;rintro en w1 (⟨rfl,hx⟩|⟨rfl,r1,q,z7,o,hR,y⟩);(exact⟨rfl,hx⟩);refine Hid.out ?_)
 try dsimp only at hR
 obtain⟨p0,p1,p2,p3,p4,_,_,_,_,_⟩:=in5 (y.at 0 rfl)
 have f:=y.st.ptr
 clear z p
 replace q:Hid _:=q
 have g:=c0g hE hB (show e.lim<n+r1.st by omega) t nn sl ks b cap hw hk y.st
 replace g:Cl 51 #[pC C,.agg #[vi 8,.string t,vi nn,vi sl,.slice b ks.length cap]] w1 _:=g
 have s:e.lim<n+r1.st:=by omega
 replace y:Hid _:=y
 clear hE hB hk hw s
 refine Lib.hid ?_
 go_wp2_with (go_at_call 51;refine g.mono ?_;intro en w2 hq;rcases hq.par with⟨pv,rfl,z9⟩|⟨a,l2,r2,D2,vv,u,rfl,j,i,d,rfl⟩;(exact⟨rfl,.inl ⟨pv,rfl,((y.out.bad z9).bind _).eq hR.symm⟩⟩);refine Hid.out ?_)
 have v:=y.out.step j i
 have m:XQ g0 e D C W nt R (.returned (.tuple #[])) w2:=.inr ⟨nilV,l2,r2,D2,_,by rw[<- hR,u];rfl,rfl,v.st,v.ck,Nat.le_trans o d,rfl⟩
 clear v y u j i g
 refine Lib.hid ?_
 go_wp2
 go_end0
 exact m
theorem e0g(t:ByteArray)(nn sl:Int)(ks:List Pt)(l:List Vl)(r:Rn Tb)(h:r.st<=e.lim):ZX F e 1 ⟨10,t,nn,sl,ks⟩ 0 0 l r=tick e.lim l r fun l r=>(a4k (zE F e) ⟨10,t,nn,sl,ks⟩ l r).bind fun z l r=>b0p F e ⟨10,t,nn,sl,ks⟩ z.1 z.2 l r:=(a3r F e 1 _ 0 0 l r h).trans (congrArg (tick e.lim l r) (funext fun l=>funext fun r=>a7u (zE F e) ⟨10,t,nn,sl,ks⟩ l r (b0p F e ⟨10,t,nn,sl,ks⟩)))
theorem d4s(hE:EC F e n)(hB:BK F e n)(hn:e.lim<(n+1)+r.st)(t:ByteArray)(nn sl:Int)(ks:List Pt)(b:Option Addr)(cap:Nat)(hw:Wf (nf e) ⟨10,t,nn,sl,ks⟩)(hk:PK tt e.w1 ks b cap)(h:St e D C l r W):Cl 33 #[pC C,ptv ⟨10,t,nn,sl,ks⟩ b cap] W (XQ g0 e D C W r.tb.length (ZX F e 1 ⟨10,t,nn,sl,ks⟩ 0 0 l r)):=by
 obtain⟨z4,w0,z7,p,z⟩:=b4l (.cells #[vi 10,.string t,vi nn,vi sl,.slice b ks.length cap] 34) h (e0g t nn sl ks l r h.rq.gd.st)
 generalize ZX F e 1 ⟨10,t,nn,sl,ks⟩ 0 0 l r=R at z⊢
 generalize r.tb.length=nt at z⊢
 show Cl 33 #[pC C,.agg #[vi 10,.string t,vi nn,vi sl,.slice b ks.length cap]] W _
 clear h
 go_enter Tryz.func33,Tryz.ntmps33
 go_wp2_with (go_at_call 48;refine z.mono ?_;rintro en w1 (⟨rfl,hx⟩|⟨rfl,r1,q,z6,o,hR,y⟩);(exact⟨rfl,hx⟩);refine Hid.out ?_)
 try dsimp only at hR
 obtain⟨p0,p1,p2,p3,p4,_,_,_,_,_⟩:=in5 (y.at 0 rfl)
 have d:=y.st.ptr
 clear z p
 replace q:Hid _:=q
 have z5:0<=sl/\sl<30:=by rw[Wf]at hw;exact hw.2.2.2.2.1 (.inr rfl)
 obtain⟨i,rfl⟩:∃i:Nat,sl=i:=⟨sl.toNat,by omega⟩
 have f:=c4t hE hB (show e.lim<n+r1.st by omega) t nn i (by omega) ks b cap hw hk y.st
 replace f:Cl 53 #[pC C,.agg #[vi 10,.string t,vi nn,vi (i:Nat),.slice b ks.length cap]] w1 _:=f
 have s:e.lim<n+r1.st:=by omega
 replace y:Hid _:=y
 clear hE hB hk hw s
 refine Lib.hid ?_
 go_wp2_with (go_at_call 53;refine f.mono ?_;intro en w2 hq;rcases hq.par with⟨pv,rfl,z8⟩|⟨a,l2,r2,D2,vv,u,rfl,j,g,z9,rfl⟩;(exact⟨rfl,.inl ⟨pv,rfl,(y.out.bad z8).eq hR.symm⟩⟩);refine Hid.out ?_)
 have v:=y.out.step j g
 have m:XQ g0 e D C W nt R (.returned (.tuple #[])) w2:=.inr ⟨a,l2,r2,D2,_,hR.symm.trans u,rfl,v.st,v.ck,Nat.le_trans o z9,rfl⟩
 clear v y u j g f
 refine Lib.hid ?_
 go_wp2
 go_end0
 exact m
def setX (F:Int->Vl->Vl->Vl×Int) (e:En) (ks:List Pt) (l:List Vl) (r:Rn Tb):Res Vl Tb Vl :=
 match ks[0]? with
 | some q=>if q.k=18 then (exX (zE F e) ks[1]? l r).bind fun v l r=>Res.ok nilV (l.set q.sl.toNat v) r else (a4k (zE F e) q l r).bind fun z l r=>(exX (zE F e) ks[1]? l r).bind fun v l r=>putX F z.1 z.2 v l r
 | none=>Res.ok nilV l r
theorem c8q(hE:EC F e n)(hn:e.lim<n+r.st){t:ByteArray}{nn sl:Int}{ks:List Pt}(hw:Wf (nf e) ⟨6,t,nn,sl,ks⟩){q y:Pt}(hq:ks[0]?=some q)(hy:ks[1]?=some y)(hky:a2s y.k){bq:Option Addr}{cq:Nat}(hpq:PK tt e.w1 q.kids bq cq){b1:Option Addr}{cap1:Nat}(hp1:PK tt e.w1 y.kids b1 cap1)(h:St e D C l r W):Cl 50 #[pC C,ptv q bq cq,ptv y b1 cap1] W (XQ g0 e D C W r.tb.length (setX F e ks l r)):=by
 have o:=(hw.kid hy).2
 have z:=(hw.kid hq).2
 have hp:q.k=20\/(q.k=18/\q.sl<30):=by
  rw[Wf]at hw
  obtain⟨x,d,h⟩:=hw.2.2.2.2.2.1 rfl
  rw[hq]at d
  cases d
  exact h
 unfold setX
 rw[hq,hy]
 rcases hp with g|⟨v,z9⟩
 ·obtain⟨k,f,s,u,p⟩:=q
  obtain rfl:k=20:=g
  obtain⟨y0,y1,h0,h1,j,m⟩:=a7w z (.inl rfl)
  exact d4r hE hn ⟨20,f,s,u,p⟩ y rfl bq cq b1 cap1 z h0 h1 j m hpq o hky hp1 h
 ·have h0:0<=q.sl:=by
   obtain⟨k,f,s,u,p⟩:=q
   rw[Wf]at z
   exact(z.2.2.2.1 v).1
  obtain⟨i,a⟩:∃i:Nat,q.sl=i:=⟨q.sl.toNat,by omega⟩
  have hr:=c8p hE hn q y v i (by omega) a bq cq b1 cap1 o hky hp1 h
  show Calls _ _ _ _ (XQ _ _ _ _ _ _ (if q.k=18 then _ else _))
  rw[if_pos v,a]
  exact hr
theorem zs_6(t:ByteArray)(nn sl:Int)(ks:List Pt)(l:List Vl)(r:Rn Tb)(h:r.st<=e.lim):ZX F e 1 ⟨6,t,nn,sl,ks⟩ 0 0 l r=tick e.lim l r fun l r=>setX F e ks l r:=(show _=tick e.lim l r (fun l r=>match ks[0]? with|some q=>if q.k=18 then (exX (zE F e) ks[1]? l r).bind fun v l r=>Res.ok nilV (l.set q.sl.toNat v) r else (exX (zE F e) q.kids[0]? l r).bind fun a l r=>(exX (zE F e) q.kids[1]? l r).bind fun k l r=>(exX (zE F e) ks[1]? l r).bind fun v l r=>putX F a k v l r|none=>Res.ok nilV l r) from(a3r F e 1 _ 0 0 l r h).trans rfl).trans (congrArg (tick e.lim l r) (funext fun l=>funext fun r=>by
 unfold setX
 cases ks[0]? with
 | none=>rfl
 | some q =>
  show(if q.k=18 then _ else _)=(if q.k=18 then _ else _)
  by_cases h18:q.k=18
  ·rw[if_pos h18,if_pos h18]
  ·rw[if_neg h18,if_neg h18];exact a7u (zE F e) q l r fun a k l r=>(exX (zE F e) ks[1]? l r).bind fun v l r=>putX F a k v l r))
theorem stat_6(hE:EC F e n)(hn:e.lim<(n+1)+r.st)(t:ByteArray)(nn sl:Int)(ks:List Pt)(b:Option Addr)(cap:Nat)(hw:Wf (nf e) ⟨6,t,nn,sl,ks⟩)(hk:PK tt e.w1 ks b cap)(h:St e D C l r W):Cl 33 #[pC C,ptv ⟨6,t,nn,sl,ks⟩ b cap] W (XQ g0 e D C W r.tb.length (ZX F e 1 ⟨6,t,nn,sl,ks⟩ 0 0 l r)):=by
 obtain⟨w9,w0,x2,y9,u⟩:=b4l (.cells #[vi 6,.string t,vi nn,vi sl,.slice b ks.length cap] 34) h (zs_6 t nn sl ks l r h.rq.gd.st)
 generalize ZX F e 1 ⟨6,t,nn,sl,ks⟩ 0 0 l r=R at u⊢
 generalize r.tb.length=nt at u⊢
 show Cl 33 #[pC C,.agg #[vi 6,.string t,vi nn,vi sl,.slice b ks.length cap]] W _
 clear h
 go_enter Tryz.func33,Tryz.ntmps33
 go_wp2_with (go_at_call 48;refine u.mono ?_;rintro en w1 (⟨rfl,hx⟩|⟨rfl,r1,z6,x1,y8,hR,s⟩);(exact⟨rfl,hx⟩);refine Hid.out ?_)
 try dsimp only at hR
 obtain⟨p0,p1,p2,p3,p4,_,_,_,_,_⟩:=in5 (s.at 0 rfl)
 have y4:=s.st.ptr
 clear u y9
 replace z6:Hid _:=z6
 have j:ks.length=2:=by
  have z7:=hw
  rw[Wf]at z7
  have h1:=z7.1
  clear z7
  unfold a0w at h1
  omega
 obtain⟨v,z8⟩:∃v,ks[0]?=some v:=⟨_,List.getElem?_eq_getElem (by omega)⟩
 obtain⟨y,d⟩:∃y,ks[1]?=some y:=⟨_,List.getElem?_eq_getElem (by omega)⟩
 have x9:a2s y.k:=by have:=(hw.kid d).1;simpa[a0z]using this
 have x7:=hk.1
 obtain⟨g,z,b0,o,rfl,y2,z3⟩:=PK.kid hk z8
 obtain⟨g',x3,b1,p,x4,y3,z4⟩:=PK.kid hk d
 cases x4
 have hc:∀V,Bw w1 V->Cl 50 #[pC C,.agg #[vi v.k,.string v.t,vi v.n,vi v.sl,.slice b0 v.kids.length o],.agg #[vi y.k,.string y.t,vi y.n,vi y.sl,.slice b1 y.kids.length p]] V (XQ g0 e D C V r1.tb.length (setX F e ks l r1)):=fun V hb=>c8q hE (show e.lim<n+r1.st by omega) hw z8 d x9 y2 y3 (s.below hb).st
 rw[j]at p4 x7
 have y6:∀V,Bw w1 V->Ce V W.heap.size 4 (.slice (some (Ad g z)) 2 cap)/\Ce V g z (vi v.k)/\Ce V g (z+1) (.string v.t)/\Ce V g (z+2) (vi v.n)/\Ce V g (z+3) (vi v.sl)/\Ce V g (z+4) (.slice b0 v.kids.length o)/\Ce V g (z+5) (vi y.k)/\Ce V g (z+5+1) (.string y.t)/\Ce V g (z+5+2) (vi y.n)/\Ce V g (z+5+3) (vi y.sl)/\Ce V g (z+5+4) (.slice b1 y.kids.length p):=fun V hb=>by
  have k3:=z3 V (s.below hb).st.rq.bl
  have m:=z4 V (s.below hb).st.rq.bl
  simp only[Nat.zero_mul,Nat.one_mul,Nat.add_zero]at k3 m
  exact⟨a3s hb p4,k3.c0,k3.c1,k3.c2,k3.c3,k3.c4,m.c0,m.c1,m.c2,m.c3,m.c4⟩
 have z9:Bw w1 w1.drew:=(Below.refl _ _).drew
 have y7:=y6 _ z9
 have f:∀V V' pv,Bw w1 V->Bd (fun q=>q=C) e D V (setX F e ks l r1) pv V'->XQ g0 e D C W nt R (.panicked pv) V':=fun V V' pv hb z2=>.inl ⟨pv,rfl,((s.below hb).bad z2).eq hR.symm⟩
 have i:∀V V' a l2 r2 D2,Bw w1 V->setX F e ks l r1=Res.ok a l2 r2->St e D2 C l2 r2 V'->CK (fun q=>q=C) D V D2 V'->r1.tb.length<=r2.tb.length->XQ g0 e D C W nt R (.returned (.tuple #[])) V'/\(fun V=>Ce V W.heap.size 4 (.slice (some (Ad g z)) 2 cap)/\Ce V g z (vi v.k)/\Ce V g (z+1) (.string v.t)/\Ce V g (z+2) (vi v.n)/\Ce V g (z+3) (vi v.sl)/\Ce V g (z+4) (.slice b0 v.kids.length o)/\Ce V g (z+5) (vi y.k)/\Ce V g (z+5+1) (.string y.t)/\Ce V g (z+5+2) (vi y.n)/\Ce V g (z+5+3) (vi y.sl)/\Ce V g (z+5+4) (.slice b1 y.kids.length p)) V':=fun V V' a l2 r2 D2 hb hx hS hK z5=>by
  have z0:=(s.below hb).step hS hK
  have k1:=in5 (z0.at 0 rfl)
  have k3:=z3 V' hS.rq.bl
  have m:=z4 V' hS.rq.bl
  simp only[Nat.zero_mul,Nat.one_mul,Nat.add_zero]at k3 m
  exact⟨.inr ⟨a,l2,r2,D2,_,hR.symm.trans hx,rfl,z0.st,z0.ck,Nat.le_trans y8 z5,rfl⟩,by rw[<- j];exact k1.c4,k3.c0,k3.c1,k3.c2,k3.c3,k3.c4,m.c0,m.c1,m.c2,m.c3,m.c4⟩
 have x0:(2:Int)<=(cap:Int):=by omega
 replace hc:Hid _:=hc
 replace f:Hid _:=f
 replace i:Hid _:=i
 clear s hE hk hw z3 z4 z8 d j y6 hR z6
 refine Lib.hid ?_
 go_wp2
 refine wp_region_held_drew (S:=fun V=>Ce V W.heap.size 4 (.slice (some (Ad g z)) 2 cap)/\Ce V g z (vi v.k)/\Ce V g (z+1) (.string v.t)/\Ce V g (z+2) (vi v.n)/\Ce V g (z+3) (vi v.sl)/\Ce V g (z+4) (.slice b0 v.kids.length o)/\Ce V g (z+5) (vi y.k)/\Ce V g (z+5+1) (.string y.t)/\Ce V g (z+5+2) (vi y.n)/\Ce V g (z+5+3) (vi y.sl)/\Ce V g (z+5+4) (.slice b1 y.kids.length p)) (by kernel_rfl) y7 (fun z1=>?_)
 change wpAnyH _ _ _ _ _ 10 _ _ _
 iterate 9 (refine tkH 0 (by simp only[nx,gq1,gq2,gq3];rfl) (by kernel_rfl) (by rfl) z1 ⟨_,by intro w ⟨_,_,_,_,_,_,_,_,_,_,_⟩;go_simp;try with_reducible rfl,by exact fun _ _ _ h=>h,?_⟩;try simp only[Act.put,sq1,sq2,sq3])
 refine wpAnyH_ready (rs:=[9]) (by kernel_rfl) (by simp) ?_
 refine AllReadyH.cons rfl (fun K hK=>?_) .nil
 go_simp
 go_at_call 50
 refine(hc.out _ z9).mono ?_
 intro en w2 hq
 rcases hq.par with⟨pv,rfl,z2⟩|⟨a,l2,r2,D2,vv,y5,rfl,x8,x6,z5,rfl⟩
 ·exact⟨rfl,f.out _ _ _ z9 z2⟩
 obtain⟨hf,x5⟩:=i.out _ _ _ _ _ _ z9 y5 x8 x6 z5
 refine hK.out _ _ x5 (fun _=>?_)
 clear hK K
 try simp only[Act.put,sq1,sq2,sq3]
 refine wpAnyH_done (by kernel_rfl) ?_ _
 go_wp2
 go_end0
 exact hf
end
end
end Go.Proofs.YtfbpdbndejefdaaGreatDoor.V
namespace Go.Proofs.YtfbpdbndejefdaaGreatDoor.V
open Go.RowKit Go
set_option maxRecDepth 100000
set_option maxHeartbeats 8000000
set_option linter.all false
section
variable [DecidableEq Vl]
section
variable {F:Int->Vl->Vl->Vl×Int} {e:En} {D:Nat->Prop} {C:Nat} {l:List Vl} {r:Rn Tb} {W:World}
def stOf (e:En) (w:World):Nat:=match w.cell? (Ad e.R 4) with|some (.int _ n)=>n.toNat|_=>0
theorem c4u(h:Rq e D r W):stOf e W=r.st:=by
 obtain⟨c4,_⟩:=h.rc
 unfold stOf
 rw[c4]
 simp
theorem e0h(p:Pt){y0 y1:Pt}(h0:p.kids[0]?=some y0)(h1:p.kids.getLast?=some y1)(l:List Vl)(r:Rn Tb)(h:r.st<=e.lim):ZX F e 2 p 0 0 l r=(a7v (zE F e) y0 l r).bind fun c l r=>if c=true then (blkX (zS F e) y1.kids l r).bind fun _ l r=>ZX F e 2 p 0 0 l r else Res.ok nilV l r:=by
 rw[a3r F e 2 p 0 0 l r h]
 show((exX (zE F e) p.kids[0]? l r).bind fun c l r=>if tr c=true then (blockX (zS F e) p.kids.getLast? l r).bind fun _ l r=>ZX F e 2 p 0 0 l r else Res.ok nilV l r)=_
 rw[h0,h1]
 unfold a7v
 rw[a2i]
 show((zE F e y0 l r).bind fun c l r=>if tr c=true then (blockX (zS F e) (some y1) l r).bind fun _ l r=>ZX F e 2 p 0 0 l r else Res.ok nilV l r)=_
 congr 1
 funext c l r
 show _=(if tr c=true then _ else _)
 rw[show((blockX (zS F e) (some y1) l r).bind fun _ l r=>ZX F e 2 p 0 0 l r)=(blkX (zS F e) y1.kids l r).bind fun _ l r=>ZX F e 2 p 0 0 l r from a8j (zS F e) (fun l r=>ZX F e 2 p 0 0 l r) y1.kids l r]
def WI (F:Int->Vl->Vl->Vl×Int) (e:En) (n C:Nat) (D:Nat->Prop) (W:World) (os:List (Nat×Obj)) (nt:Nat) (R:Res Vl Tb Vl) (p:Pt) (wr:World):Prop :=
 ∃D' l' r',Ac e C D W os D' l' r' wr/\ZX F e 2 p 0 0 l' r'=R/\e.lim<n+r'.st/\nt<=r'.tb.length
theorem zs_9(t:ByteArray)(nn sl:Int)(ks:List Pt)(l:List Vl)(r:Rn Tb)(h:r.st<=e.lim):ZX F e 1 ⟨9,t,nn,sl,ks⟩ 0 0 l r=tick e.lim l r fun l r=>ZX F e 2 ⟨9,t,nn,sl,ks⟩ 0 0 l r:=(a3r F e 1 _ 0 0 l r h).trans rfl
theorem d8n{n:Nat}(hE:EC F e n)(hB:BK F e n)(hn:e.lim<(n+1)+r.st)(t:ByteArray)(nn sl:Int)(ks:List Pt)(b:Option Addr)(cap:Nat)(hw:Wf (nf e) ⟨9,t,nn,sl,ks⟩)(hk:PK tt e.w1 ks b cap)(h:St e D C l r W):Cl 33 #[pC C,ptv ⟨9,t,nn,sl,ks⟩ b cap] W (XQ g0 e D C W r.tb.length (ZX F e 1 ⟨9,t,nn,sl,ks⟩ 0 0 l r)):=by
 obtain⟨hlo,w0,hw0e,hptr,hstep⟩:=b4l (.cells #[vi 9,.string t,vi nn,vi sl,.slice b ks.length cap] 34) h (zs_9 t nn sl ks l r h.rq.gd.st)
 generalize ZX F e 1 ⟨9,t,nn,sl,ks⟩ 0 0 l r=R at hstep⊢
 generalize r.tb.length=nt at hstep⊢
 show Cl 33 #[pC C,.agg #[vi 9,.string t,vi nn,vi sl,.slice b ks.length cap]] W _
 clear h
 go_enter Tryz.func33,Tryz.ntmps33
 go_wp2_with (go_at_call 48;refine hstep.mono ?_;rintro en w1 (⟨rfl,hx⟩|⟨rfl,r1,hr1,hst1,hnt1,hR,hA1⟩);(exact⟨rfl,hx⟩);refine Hid.out ?_)
 try dsimp only at hR
 obtain⟨p0,p1,p2,p3,p4,_,_,_,_,_⟩:=in5 (hA1.at 0 rfl)
 have hptr1:=hA1.st.ptr
 clear hstep hptr
 replace hr1:Hid _:=hr1
 have hlen:ks.length=2:=by
  have hw2:=hw
  rw[Wf]at hw2
  have h1:=hw2.1
  clear hw2
  unfold a0w at h1
  omega
 obtain⟨y0,hy0⟩:∃y0,ks[0]?=some y0:=⟨_,List.getElem?_eq_getElem (by omega)⟩
 obtain⟨y1,hy1⟩:∃y1,ks[1]?=some y1:=⟨_,List.getElem?_eq_getElem (by omega)⟩
 have hk0:a2s y0.k:=by have:=(hw.kid hy0).1;simpa[a0z]using this
 have hk1:y1.k=4:=by have:=(hw.kid hy1).1;simpa[a0z]using this
 have hlast:ks.getLast?=some y1:=by rw[List.getLast?_eq_getElem?,hlen];exact hy1
 have hw0:=(hw.kid hy0).2
 have hw2:=(hw.kid hy1).2
 have hLc:=hk.1
 obtain⟨g,off,b0,cap0,rfl,hp0,hc0⟩:=PK.kid hk hy0
 obtain⟨g',off',b1,cap1,eqk,hp1,hc1⟩:=PK.kid hk hy1
 cases eqk
 have hI:WI F e n C D W [(W.heap.size,.cells #[vi 9,.string t,vi nn,vi sl,.slice (some (Ad g off)) ks.length cap] 34)] nt R ⟨9,t,nn,sl,ks⟩ w1:=⟨D,l,r1,hA1,hR,by omega,hnt1⟩
 have hLcc:(2:Int)<=(cap:Int):=by omega
 replace hk1:Hid _:=hk1
 replace hlen:Hid _:=hlen
 clear hA1 hR hr1
 refine Lib.hid ?_
 go_wp2
 go_loopw [] (fun wr=>WI F e n C D W [(W.heap.size,.cells #[vi 9,.string t,vi nn,vi sl,.slice (some (Ad g off)) ks.length cap] 34)] nt R ⟨9,t,nn,sl,ks⟩ wr) (fun wr=>e.lim-stOf e wr)
 case atStart=>exact hI
 case round =>
  obtain⟨D4,l4,r4,hA4,hR4,hst4,hn4⟩:=hrel
  clear hI p0 p1 p2 p3 p4 hptr1
  rw[e0h ⟨9,t,nn,sl,ks⟩ hy0 hlast l4 r4 hA4.st.rq.gd.st]at hR4
  have hm4:=c4u hA4.st.rq
  have hh:=b4m hE y0 b0 cap0 hst4 hw0 hk0 hp0 hA4.st
  replace hh:Cl 52 #[pC C,.agg #[vi y0.k,.string y0.t,vi y0.n,vi y0.sl,.slice b0 y0.kids.length cap0]] _ _:=hh
  obtain⟨_,j0,j1,j2,j3,j4⟩:=hc0 _ hA4.st.rq.bl
  simp only[Nat.zero_mul,Nat.add_zero]at j0 j1 j2 j3 j4
  obtain⟨m0,m1,m2,m3,m4,_,_,_,_,_⟩:=in5 (hA4.at 0 rfl)
  rw[hlen.out]at m4
  replace hA4:Hid _:=hA4
  replace hR4:Hid _:=hR4
  replace hm4:Hid _:=hm4
  go_wp2_with (go_at_call 52;refine hh.mono ?_;intro en w5 hq;rcases hq.par with⟨pv,rfl,hbd⟩|⟨c,l5,r5,D5,vv,hx5,rfl,hS5,hK5,hn5,rfl⟩;(exact⟨rfl,.inl ⟨pv,rfl,((hA4.out.bad hbd).bind _).eq hR4.out.symm⟩⟩);refine Hid.out ?_)
  have hA5:=hA4.out.step hS5 hK5
  have hg5:r4.st+1<=r5.st:=by
   unfold a7v at hx5
   match hz:zE F e y0 l4 r4 with
   | .inl _=>rw[hz]at hx5;cases hx5
   | .inr (.inl _)=>rw[hz]at hx5;cases hx5
   | .inr (.inr (a,l',r')) =>
    rw[hz]at hx5
    have:=c0k hz
    cases hx5
    exact this
  replace hR4:=hR4.out
  rw[hx5]at hR4
  replace hR4:(if c=true then (blkX (zS F e) y1.kids l5 r5).bind fun _ l r=>ZX F e 2 ⟨9,t,nn,sl,ks⟩ 0 0 l r else Res.ok nilV l5 r5)=R:=hR4
  clear hx5 hS5 hK5 hh hA4 j0 j1 j2 j3 j4 m0 m1 m2 m3 m4
  cases c with
  | false =>
   have hfin:XQ g0 e D C W nt R (.returned (.tuple #[])) w5:=.inr ⟨nilV,l5,r5,D5,_,by rw[<- hR4];rfl,rfl,hA5.st,hA5.ck,Nat.le_trans hn4 hn5,rfl⟩
   clear hA5 hR4
   refine Lib.hid ?_
   go_wp2
   go_end0
   exact hfin
  | true =>
   replace hR4:((blkX (zS F e) y1.kids l5 r5).bind fun _ l r=>ZX F e 2 ⟨9,t,nn,sl,ks⟩ 0 0 l r)=R:=hR4
   have hbody:∀V,Bw w5 V->Cl 21 #[.agg #[vi 9,.string t,vi nn,vi sl,.slice (some (Ad g off)) ks.length cap]] V fun en V'=>en=.returned (ptv y1 b1 cap1)/\Bw V V':=fun V hb=>body_any ⟨9,t,nn,sl,ks⟩ g off cap 1 hlen.out (by omega) y1 b1 cap1 V (hc1 V (hA5.below hb).st.rq.bl) (Nat.lt_of_lt_of_le (hc1 V (hA5.below hb).st.rq.bl).lt (hA5.below hb).st.size)
   have hblk:∀V,Bw w5 V->Cl 20 #[pC C,.agg #[vi y1.k,.string y1.t,vi y1.n,vi y1.sl,.slice b1 y1.kids.length cap1]] V (XQ g0 e D5 C V r5.tb.length (blkX (zS F e) y1.kids l5 r5)):=fun V hb=>hB y1 b1 cap1 C l5 r5 D5 V (by omega) hw2 hk1.out hp1 (hA5.below hb).st
   have hbad:∀V V' pv,Bw w5 V->Bd (fun q=>q=C) e D5 V (blkX (zS F e) y1.kids l5 r5) pv V'->XQ g0 e D C W nt R (.panicked pv) V':=fun V V' pv hb hbd=>.inl ⟨pv,rfl,(((hA5.below hb).bad hbd).bind _).eq hR4.symm⟩
   have hnext:∀V V' x l6 r6 D6,Bw w5 V->blkX (zS F e) y1.kids l5 r5=Res.ok x l6 r6->St e D6 C l6 r6 V'->CK (fun q=>q=C) D5 V D6 V'->r5.tb.length<=r6.tb.length->WI F e n C D W [(W.heap.size,.cells #[vi 9,.string t,vi nn,vi sl,.slice (some (Ad g off)) ks.length cap] 34)] nt R ⟨9,t,nn,sl,ks⟩ V'/\e.lim-stOf e V'<e.lim-r4.st:=fun V V' x l6 r6 D6 hb hx hS hK hn6=>by
    have hA9:=(hA5.below hb).step hS hK
    rw[hx]at hR4
    have hst6:=b8e hx
    have hle:=hA9.st.rq.gd.st
    exact⟨⟨D6,l6,r6,hA9,hR4,by omega,by omega⟩,by rw[c4u hA9.st.rq];omega⟩
   obtain⟨m0,m1,m2,m3,m4,_,_,_,_,_⟩:=in5 (hA5.at 0 rfl)
   replace hbody:Hid _:=hbody
   replace hblk:Hid _:=hblk
   replace hbad:Hid _:=hbad
   replace hnext:Hid _:=hnext
   clear hA5 hR4
   refine Lib.hid ?_
   go_wp2_with (first|(go_at_call 21;refine(hbody.out _ (Below.refl _ _)).mono ?_;rintro en w9 ⟨rfl,hb9⟩)|(go_at_call 20;refine(hblk.out _ hb9).mono ?_;intro en w10 hq;rcases hq.par with⟨pv,rfl,hbd⟩|⟨x,l6,r6,D6,vv,hx6,rfl,hS6,hK6,hn6,rfl⟩;(exact⟨rfl,hbad.out _ _ _ hb9 hbd⟩);refine Hid.out ?_))
   obtain⟨hgo,hms⟩:=hnext.out _ _ _ _ _ _ hb9 hx6 hS6 hK6 hn6
   rw[<- hm4.out]at hms
   replace hgo:Hid _:=hgo
   replace hms:Hid _:=hms
   clear hx6 hS6 hK6 hn6 hnext hbad hblk hbody m0 m1 m2 m3 m4
   refine Lib.hid ?_
   go_wp2
   go_roundw
   case rel=>exact hgo.out
   case measure=>exact hms.out
end
end
end Go.Proofs.YtfbpdbndejefdaaGreatDoor.V
