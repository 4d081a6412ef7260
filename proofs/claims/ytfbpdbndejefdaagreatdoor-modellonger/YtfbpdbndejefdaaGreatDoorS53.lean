/- A run of the model: statements (a loop as long as something holds). -/
import Derived.Test.YtfbpdbndejefdaaGreatDoorS49
import Derived.Test.YtfbpdbndejefdaaGreatDoorS51
namespace Go.Proofs.YtfbpdbndejefdaaGreatDoor.V
open Go.RowKit Go
set_option maxRecDepth 100000
set_option maxHeartbeats 8000000
set_option linter.all false
section
variable [DecidableEq Vl]
section
variable {F:Int->Vl->Vl->Vl×Int} {e:En} {D:Nat->Prop} {C:Nat} {l:List Vl} {r:Rn Tb} {W:World}
def stOf (e:En) (w:World):Nat:=match w.cell? (Ad e.R 4) with|some (.int _ n)=>n.toNat|_=>0
theorem c4u(h:Rq e D r W):stOf e W=r.st:=by
 obtain⟨c4,_⟩:=h.rc
 unfold stOf
 rw[c4]
 simp
theorem e0h(p:Pt){y0 y1:Pt}(h0:p.kids[0]?=some y0)(h1:p.kids.getLast?=some y1)(l:List Vl)(r:Rn Tb)(h:r.st<=e.lim):ZX F e 2 p 0 0 l r=(a7v (zE F e) y0 l r).bind fun c l r=>if c=true then (blkX (zS F e) y1.kids l r).bind fun _ l r=>ZX F e 2 p 0 0 l r else Res.ok nilV l r:=by
 rw[a3r F e 2 p 0 0 l r h]
 show((exX (zE F e) p.kids[0]? l r).bind fun c l r=>if tr c=true then (blockX (zS F e) p.kids.getLast? l r).bind fun _ l r=>ZX F e 2 p 0 0 l r else Res.ok nilV l r)=_
 rw[h0,h1]
 unfold a7v
 rw[a2i]
 show((zE F e y0 l r).bind fun c l r=>if tr c=true then (blockX (zS F e) (some y1) l r).bind fun _ l r=>ZX F e 2 p 0 0 l r else Res.ok nilV l r)=_
 congr 1
 funext c l r
 show _=(if tr c=true then _ else _)
 rw[show((blockX (zS F e) (some y1) l r).bind fun _ l r=>ZX F e 2 p 0 0 l r)=(blkX (zS F e) y1.kids l r).bind fun _ l r=>ZX F e 2 p 0 0 l r from a8j (zS F e) (fun l r=>ZX F e 2 p 0 0 l r) y1.kids l r]
def WI (F:Int->Vl->Vl->Vl×Int) (e:En) (n C:Nat) (D:Nat->Prop) (W:World) (os:List (Nat×Obj)) (nt:Nat) (R:Res Vl Tb Vl) (p:Pt) (wr:World):Prop :=
 ∃D' l' r',Ac e C D W os D' l' r' wr/\ZX F e 2 p 0 0 l' r'=R/\e.lim<n+r'.st/\nt<=r'.tb.length
theorem zs_9(t:ByteArray)(nn sl:Int)(ks:List Pt)(l:List Vl)(r:Rn Tb)(h:r.st<=e.lim):ZX F e 1 ⟨9,t,nn,sl,ks⟩ 0 0 l r=tick e.lim l r fun l r=>ZX F e 2 ⟨9,t,nn,sl,ks⟩ 0 0 l r:=(a3r F e 1 _ 0 0 l r h).trans rfl
theorem d8n{n:Nat}(hE:EC F e n)(hB:BK F e n)(hn:e.lim<(n+1)+r.st)(t:ByteArray)(nn sl:Int)(ks:List Pt)(b:Option Addr)(cap:Nat)(hw:Wf (nf e) ⟨9,t,nn,sl,ks⟩)(hk:PK tt e.w1 ks b cap)(h:St e D C l r W):Cl 33 #[pC C,ptv ⟨9,t,nn,sl,ks⟩ b cap] W (XQ g0 e D C W r.tb.length (ZX F e 1 ⟨9,t,nn,sl,ks⟩ 0 0 l r)):=by
 obtain⟨hlo,w0,hw0e,hptr,hstep⟩:=b4l (.cells #[vi 9,.string t,vi nn,vi sl,.slice b ks.length cap] 34) h (zs_9 t nn sl ks l r h.rq.gd.st)
 generalize ZX F e 1 ⟨9,t,nn,sl,ks⟩ 0 0 l r=R at hstep⊢
 generalize r.tb.length=nt at hstep⊢
 show Cl 33 #[pC C,.agg #[vi 9,.string t,vi nn,vi sl,.slice b ks.length cap]] W _
 clear h
 go_enter Tryz.func33,Tryz.ntmps33
 go_wp2_with (go_at_call 48;refine hstep.mono ?_;rintro en w1 (⟨rfl,hx⟩|⟨rfl,r1,hr1,hst1,hnt1,hR,hA1⟩);(exact⟨rfl,hx⟩);refine Hid.out ?_)
 try dsimp only at hR
 obtain⟨p0,p1,p2,p3,p4,_,_,_,_,_⟩:=in5 (hA1.at 0 rfl)
 have hptr1:=hA1.st.ptr
 clear hstep hptr
 replace hr1:Hid _:=hr1
 have hlen:ks.length=2:=by
  have hw2:=hw
  rw[Wf]at hw2
  have h1:=hw2.1
  clear hw2
  unfold a0w at h1
  omega
 obtain⟨y0,hy0⟩:∃y0,ks[0]?=some y0:=⟨_,List.getElem?_eq_getElem (by omega)⟩
 obtain⟨y1,hy1⟩:∃y1,ks[1]?=some y1:=⟨_,List.getElem?_eq_getElem (by omega)⟩
 have hk0:a2s y0.k:=by have:=(hw.kid hy0).1;simpa[a0z]using this
 have hk1:y1.k=4:=by have:=(hw.kid hy1).1;simpa[a0z]using this
 have hlast:ks.getLast?=some y1:=by rw[List.getLast?_eq_getElem?,hlen];exact hy1
 have hw0:=(hw.kid hy0).2
 have hw2:=(hw.kid hy1).2
 have hLc:=hk.1
 obtain⟨g,off,b0,cap0,rfl,hp0,hc0⟩:=PK.kid hk hy0
 obtain⟨g',off',b1,cap1,eqk,hp1,hc1⟩:=PK.kid hk hy1
 cases eqk
 have hI:WI F e n C D W [(W.heap.size,.cells #[vi 9,.string t,vi nn,vi sl,.slice (some (Ad g off)) ks.length cap] 34)] nt R ⟨9,t,nn,sl,ks⟩ w1:=⟨D,l,r1,hA1,hR,by omega,hnt1⟩
 have hLcc:(2:Int)<=(cap:Int):=by omega
 replace hk1:Hid _:=hk1
 replace hlen:Hid _:=hlen
 clear hA1 hR hr1
 refine Lib.hid ?_
 go_wp2
 go_loopw [] (fun wr=>WI F e n C D W [(W.heap.size,.cells #[vi 9,.string t,vi nn,vi sl,.slice (some (Ad g off)) ks.length cap] 34)] nt R ⟨9,t,nn,sl,ks⟩ wr) (fun wr=>e.lim-stOf e wr)
 case atStart=>exact hI
 case round =>
  obtain⟨D4,l4,r4,hA4,hR4,hst4,hn4⟩:=hrel
  clear hI p0 p1 p2 p3 p4 hptr1
  rw[e0h ⟨9,t,nn,sl,ks⟩ hy0 hlast l4 r4 hA4.st.rq.gd.st]at hR4
  have hm4:=c4u hA4.st.rq
  have hh:=b4m hE y0 b0 cap0 hst4 hw0 hk0 hp0 hA4.st
  replace hh:Cl 52 #[pC C,.agg #[vi y0.k,.string y0.t,vi y0.n,vi y0.sl,.slice b0 y0.kids.length cap0]] _ _:=hh
  obtain⟨_,j0,j1,j2,j3,j4⟩:=hc0 _ hA4.st.rq.bl
  simp only[Nat.zero_mul,Nat.add_zero]at j0 j1 j2 j3 j4
  obtain⟨m0,m1,m2,m3,m4,_,_,_,_,_⟩:=in5 (hA4.at 0 rfl)
  rw[hlen.out]at m4
  replace hA4:Hid _:=hA4
  replace hR4:Hid _:=hR4
  replace hm4:Hid _:=hm4
  go_wp2_with (go_at_call 52;refine hh.mono ?_;intro en w5 hq;rcases hq.par with⟨pv,rfl,hbd⟩|⟨c,l5,r5,D5,vv,hx5,rfl,hS5,hK5,hn5,rfl⟩;(exact⟨rfl,.inl ⟨pv,rfl,((hA4.out.bad hbd).bind _).eq hR4.out.symm⟩⟩);refine Hid.out ?_)
  have hA5:=hA4.out.step hS5 hK5
  have hg5:r4.st+1<=r5.st:=by
   unfold a7v at hx5
   match hz:zE F e y0 l4 r4 with
   | .inl _=>rw[hz]at hx5;cases hx5
   | .inr (.inl _)=>rw[hz]at hx5;cases hx5
   | .inr (.inr (a,l',r')) =>
    rw[hz]at hx5
    have:=c0k hz
    cases hx5
    exact this
  replace hR4:=hR4.out
  rw[hx5]at hR4
  replace hR4:(if c=true then (blkX (zS F e) y1.kids l5 r5).bind fun _ l r=>ZX F e 2 ⟨9,t,nn,sl,ks⟩ 0 0 l r else Res.ok nilV l5 r5)=R:=hR4
  clear hx5 hS5 hK5 hh hA4 j0 j1 j2 j3 j4 m0 m1 m2 m3 m4
  cases c with
  | false =>
   have hfin:XQ g0 e D C W nt R (.returned (.tuple #[])) w5:=.inr ⟨nilV,l5,r5,D5,_,by rw[<- hR4];rfl,rfl,hA5.st,hA5.ck,Nat.le_trans hn4 hn5,rfl⟩
   clear hA5 hR4
   refine Lib.hid ?_
   go_wp2
   go_end0
   exact hfin
  | true =>
   replace hR4:((blkX (zS F e) y1.kids l5 r5).bind fun _ l r=>ZX F e 2 ⟨9,t,nn,sl,ks⟩ 0 0 l r)=R:=hR4
   have hbody:∀V,Bw w5 V->Cl 21 #[.agg #[vi 9,.string t,vi nn,vi sl,.slice (some (Ad g off)) ks.length cap]] V fun en V'=>en=.returned (ptv y1 b1 cap1)/\Bw V V':=fun V hb=>body_any ⟨9,t,nn,sl,ks⟩ g off cap 1 hlen.out (by omega) y1 b1 cap1 V (hc1 V (hA5.below hb).st.rq.bl) (Nat.lt_of_lt_of_le (hc1 V (hA5.below hb).st.rq.bl).lt (hA5.below hb).st.size)
   have hblk:∀V,Bw w5 V->Cl 20 #[pC C,.agg #[vi y1.k,.string y1.t,vi y1.n,vi y1.sl,.slice b1 y1.kids.length cap1]] V (XQ g0 e D5 C V r5.tb.length (blkX (zS F e) y1.kids l5 r5)):=fun V hb=>hB y1 b1 cap1 C l5 r5 D5 V (by omega) hw2 hk1.out hp1 (hA5.below hb).st
   have hbad:∀V V' pv,Bw w5 V->Bd (fun q=>q=C) e D5 V (blkX (zS F e) y1.kids l5 r5) pv V'->XQ g0 e D C W nt R (.panicked pv) V':=fun V V' pv hb hbd=>.inl ⟨pv,rfl,(((hA5.below hb).bad hbd).bind _).eq hR4.symm⟩
   have hnext:∀V V' x l6 r6 D6,Bw w5 V->blkX (zS F e) y1.kids l5 r5=Res.ok x l6 r6->St e D6 C l6 r6 V'->CK (fun q=>q=C) D5 V D6 V'->r5.tb.length<=r6.tb.length->WI F e n C D W [(W.heap.size,.cells #[vi 9,.string t,vi nn,vi sl,.slice (some (Ad g off)) ks.length cap] 34)] nt R ⟨9,t,nn,sl,ks⟩ V'/\e.lim-stOf e V'<e.lim-r4.st:=fun V V' x l6 r6 D6 hb hx hS hK hn6=>by
    have hA9:=(hA5.below hb).step hS hK
    rw[hx]at hR4
    have hst6:=b8e hx
    have hle:=hA9.st.rq.gd.st
    exact⟨⟨D6,l6,r6,hA9,hR4,by omega,by omega⟩,by rw[c4u hA9.st.rq];omega⟩
   obtain⟨m0,m1,m2,m3,m4,_,_,_,_,_⟩:=in5 (hA5.at 0 rfl)
   replace hbody:Hid _:=hbody
   replace hblk:Hid _:=hblk
   replace hbad:Hid _:=hbad
   replace hnext:Hid _:=hnext
   clear hA5 hR4
   refine Lib.hid ?_
   go_wp2_with (first|(go_at_call 21;refine(hbody.out _ (Below.refl _ _)).mono ?_;rintro en w9 ⟨rfl,hb9⟩)|(go_at_call 20;refine(hblk.out _ hb9).mono ?_;intro en w10 hq;rcases hq.par with⟨pv,rfl,hbd⟩|⟨x,l6,r6,D6,vv,hx6,rfl,hS6,hK6,hn6,rfl⟩;(exact⟨rfl,hbad.out _ _ _ hb9 hbd⟩);refine Hid.out ?_))
   obtain⟨hgo,hms⟩:=hnext.out _ _ _ _ _ _ hb9 hx6 hS6 hK6 hn6
   rw[<- hm4.out]at hms
   replace hgo:Hid _:=hgo
   replace hms:Hid _:=hms
   clear hx6 hS6 hK6 hn6 hnext hbad hblk hbody m0 m1 m2 m3 m4
   refine Lib.hid ?_
   go_wp2
   go_roundw
   case rel=>exact hgo.out
   case measure=>exact hms.out
end
end
end Go.Proofs.YtfbpdbndejefdaaGreatDoor.V
