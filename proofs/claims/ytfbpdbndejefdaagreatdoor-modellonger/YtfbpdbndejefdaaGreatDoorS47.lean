/- A run of the model: blocks. -/
import Derived.Test.YtfbpdbndejefdaaGreatDoorS44
namespace Go.Proofs.YtfbpdbndejefdaaGreatDoor.V
open Go.RowKit Go
set_option maxRecDepth 100000
set_option maxHeartbeats 8000000
set_option linter.all false
section
variable [DecidableEq Vl]
section
variable {F:Int->Vl->Vl->Vl×Int} {e:En} {D:Nat->Prop} {C:Nat} {l:List Vl} {r:Rn Tb} {W:World}
def blkX (g:Pt->List Vl->Rn Tb->Res Vl Tb Vl):List Pt->List Vl->Rn Tb->Res Vl Tb Unit
 | [],l,r=>Res.ok () l r
 | p::ps,l,r=>(g p l r).bind fun _ l r=>blkX g ps l r
theorem a8j{α:Type}(g:Pt->List Vl->Rn Tb->Res Vl Tb Vl)(f:List Vl->Rn Tb->Res Vl Tb α):∀(z:List Pt) (l:List Vl) (r:Rn Tb),((allX g z l r).bind fun _ l r=>f l r)=(blkX g z l r).bind fun _ l r=>f l r
 | [],_,_=>rfl
 | p::z,l,r=>by
  rw[allX,blkX,a2i,a2i]
  congr 1
  funext a l r
  rw[a2i]
  exact a8j g f z l r
theorem c8j(O:Vals Vl Tb)(g:Pt->List Vl->Rn Tb->Res Vl Tb Vl)(l0:List Vl)(ps:List Pt)(l:List Vl)(r:Rn Tb):a3c O l0 (allX g ps l r)=a3c O l0 (blkX g ps l r):=by
 have h:=a8j g (fun l r=>(Res.ok () l r:Res Vl Tb Unit)) ps l r
 have y:a3c O l0 (allX g ps l r)=a3c O l0 ((allX g ps l r).bind fun _ l r=>(Res.ok () l r:Res Vl Tb Unit)):=by
  match allX g ps l r with
  | .inl _=>rfl
  | .inr (.inl _)=>rfl
  | .inr (.inr _)=>rfl
 have z:(blkX g ps l r).bind (fun _ l r=>(Res.ok () l r:Res Vl Tb Unit))=blkX g ps l r:=by
  match blkX g ps l r with
  | .inl _=>rfl
  | .inr (.inl _)=>rfl
  | .inr (.inr (_,_,_))=>rfl
 rw[y,h,z]
theorem b8e{F:Int->Vl->Vl->Vl×Int}{e:En}{ps:List Pt}{l l':List Vl}{r r':Rn Tb}(h:blkX (zS F e) ps l r=Res.ok () l' r'):r.st<=r'.st:=by
 have z:Gr e.lim r ((allX (zS F e) ps l r).bind fun _ l r=>(Res.ok () l r:Res Vl Tb Unit)):=(Gr.all (fun p l r=>grow (O:=Oz F) (prog:=e.u.kids) (lim:=e.lim) (2*e.lim+3) 1 p 0 0 l r) ps l r).bind fun _ _ _=>Gr.ok rfl (List.prefix_refl _)
 rw[a8j,h]at z
 exact z.1
def BK (F:Int->Vl->Vl->Vl×Int) (e:En) (n:Nat):Prop:=∀(q:Pt) (b:Option Addr) (cap C:Nat) (l:List Vl) (r:Rn Tb) (D:Nat->Prop) (W:World),e.lim<n+r.st->Wf (nf e) q->q.k=4->PK tt e.w1 q.kids b cap->St e D C l r W->Cl 20 #[pC C,ptv q b cap] W (XQ g0 e D C W r.tb.length (blkX (zS F e) q.kids l r))
def BI (F:Int->Vl->Vl->Vl×Int) (e:En) (n C:Nat) (D:Nat->Prop) (W:World) (B:Nat) (o:Obj) (nt:Nat) (R:Res Vl Tb Unit) (ks:List Pt) (j:Nat) (wr:World):Prop :=
 ∃D' l' r',Ac e C D W [(B,o)] D' l' r' wr/\blkX (zS F e) (ks.drop j) l' r'=R/\e.lim<n+r'.st/\nt<=r'.tb.length
theorem block_of{n:Nat}(hS:SC F e n):BK F e n:=by
 intro q b cap C l r D W hn hw hk4 hk h
 obtain⟨R,hR⟩:=exq (blkX (zS F e) q.kids l r)
 rw[hR]
 obtain⟨nt,hnt⟩:=exq (r.tb.length)
 rw[hnt]
 have hb0:=ext_alloc (Below.refl W.heap.size W) (pbx q b cap)
 have hA:=Ac.begin (os:=[(W.heap.size,pbx q b cap)]) h hb0 (fun p hp=>by simp at hp;subst hp;exact⟨new1 _ _,Nat.le_refl _⟩)
 have hfit:∀(j:Nat) (y:Pt),q.kids[j]?=some y->b4x y.k/\Wf (nf e) y:=fun j y hy=>by
  have:=hw.kid hy
  unfold a0z at this
  rw[hk4]at this
  simpa using this
 have hks:=hk.1
 obtain⟨ks,hkse⟩:=exq (q.kids)
 obtain⟨L,hL⟩:=exq (ks.length)
 have hI:BI F e n C D W W.heap.size (pbx q b cap) nt R ks 0 (W.alloc (pbx q b cap)):=⟨D,l,r,hA,by rw[List.drop_zero,<- hkse];exact hR,hn,by omega⟩
 have hp4:Ce (W.alloc (pbx q b cap)) W.heap.size 4 (.slice b L cap):=by
  have:=(in5 (new1 W (pbx q b cap))).c4
  rw[hkse,hL]at this
  exact this
 rw[hkse]at hk hfit hks
 rw[hL]at hks
 have hLc:(L:Int)<=(cap:Int):=by omega
 have hLm:L<=9223372036854775807:=by unfold maxLen at hks;omega
 show Cl 20 #[pC C,.agg #[vi q.k,.string q.t,vi q.n,vi q.sl,.slice b q.kids.length cap]] W _
 rw[hkse,hL]
 have hobj:pbx q b cap=.cells #[vi q.k,.string q.t,vi q.n,vi q.sl,.slice b L cap] 34:=by unfold pbx;rw[hkse,hL]
 rw[hobj]at hI hp4
 replace hk:Hid _:=hk
 replace hfit:Hid _:=hfit
 replace hL:Hid _:=hL
 replace hS:Hid (SC F e n):=hS
 clear hA hR hw hk4 h hkse hobj hb0 hnt hn
 go_enter Tryz.func20,Tryz.ntmps20
 go_wp2
 go_loopw [9] (fun ix wr=>∃j:Nat,j<=L/\ix=vi (j:Nat)/\BI F e n C D W W.heap.size (.cells #[vi q.k,.string q.t,vi q.n,vi q.sl,.slice b L cap] 34) nt R ks j wr) (fun ix _=>L-(intOf ix).toNat)
 case atStart=>exact⟨0,Nat.zero_le _,rfl,hI⟩
 case round =>
  obtain⟨j,hj,rfl,D1,l1,r1,hA1,hgo,hst,hn1⟩:=hrel
  clear hI
  by_cases hlt:j<L
  ·have hlt':(j:Int)<(L:Int):=by omega
   have hge:(0:Int)<=(j:Int):=by omega
   have hjk:j<ks.length:=by have:=hL.out;omega
   obtain⟨y,hy⟩:∃y,ks[j]?=some y:=⟨_,List.getElem?_eq_getElem hjk⟩
   obtain⟨g,off,b',cap',rfl,hpy,hcy⟩:=PK.kid hk.out hy
   obtain⟨hgl,v0,v1,v2,v3,v4⟩:=hcy wr hA1.st.rq.bl
   obtain⟨hsy,hwy⟩:=hfit.out j y hy
   have hdr:ks.drop j=y::ks.drop (j+1):=by rw[List.drop_eq_getElem_cons hjk];congr 1;exact(List.getElem?_eq_some_iff.1 hy).2
   rw[hdr,blkX]at hgo
   have hb1:=ext_alloc (Below.refl wr.heap.size wr) (pbx y b' cap')
   have hA2:=hA1.below hb1
   have hcall:=hS.out y b' cap' C l1 r1 D1 _ hst hwy hsy hpy hA2.st
   replace hcall:Cl 33 #[pC C,.agg #[vi y.k,.string y.t,vi y.n,vi y.sl,.slice b' y.kids.length cap']] (wr.alloc (.cells #[vi y.k,.string y.t,vi y.n,vi y.sl,.slice b' y.kids.length cap'] 34)) (XQ g0 e D1 C (wr.alloc (.cells #[vi y.k,.string y.t,vi y.n,vi y.sl,.slice b' y.kids.length cap'] 34)) r1.tb.length (ZX F e 1 y 0 0 l1 r1)):=hcall
   replace hA2:Ac e C D W [(W.heap.size,.cells #[vi q.k,.string q.t,vi q.n,vi q.sl,.slice (some (Ad g off)) L cap] 34)] D1 l1 r1 (wr.alloc (.cells #[vi y.k,.string y.t,vi y.n,vi y.sl,.slice b' y.kids.length cap'] 34)):=hA2
   have hj1:Hid (j+1<=L):=hlt
   replace hgo:Hid _:=hgo
   replace hA2:Hid _:=hA2
   clear hy hdr hA1 hcy
   go_wp2_with (go_at_call 33;refine hcall.mono ?_;intro en w2 hq;rcases hq.par with⟨pv,rfl,hbd⟩|⟨a,l2,r2,D2,vv,hx2,rfl,hS2,hK2,hn2,rfl⟩;(exact⟨rfl,.inl ⟨pv,rfl,((hA2.out.bad hbd).bind _).eq hgo.out.symm⟩⟩))
   go_roundw
   case rel =>
    have hg2:=hgo.out
    have hst2:=a5b hx2
    have hj2:=hj1.out
    rw[show zS F e y l1 r1=Res.ok a l2 r2 from hx2]at hg2
    exact⟨j+1,by omega,by go_num,D2,l2,r2,hA2.out.step hS2 hK2,hg2,by omega,by omega⟩
   case measure =>
    have hj2:=hj1.out
    simp[intOf];omega
  ·have hlt':¬(j:Int)<(L:Int):=by omega
   have hRo:R=Res.ok () l1 r1:=by rw[<- hgo,List.drop_eq_nil_of_le (by have:=hL.out;omega),blkX]
   subst hRo
   go_wp2
   go_end0
   exact .inr ⟨(),l1,r1,D1,_,rfl,rfl,hA1.st,hA1.ck,hn1,rfl⟩
end
section
variable {F:Int->Vl->Vl->Vl×Int} {e:En} {D:Nat->Prop} {C:Nat} {l:List Vl} {r:Rn Tb} {W:World}
theorem d9q{tm:Array Value}{W:World}{B:Nat}{a b c d x:Value}(h:tm[2]?.getD undef=Po B 0)(hx:W.heap[B]?=some (.cells #[a,b,c,d,x] 34)):(results Tryz.f21 tm).run Tryz.prog W=.ok (.agg #[a,b,c,d,x]) W:=by
 obtain⟨c0,c1,c2,c3,c4,_,_,_,_,_⟩:=in5 hx
 simp[results,Tryz.results21,go_sem,h,c0,c1,c2,c3,c4]
theorem body_any(q:Pt)(g off cap:Nat)(m:Nat)(hm:q.kids.length=m+1)(hmm:m+1<=9223372036854775807)(y:Pt)(b':Option Addr)(cap':Nat)(W:World)(hc:KC e W y g (off+m*5) b' cap')(hg:g<W.heap.size):Cl 21 #[ptv q (some (Ad g off)) cap] W fun en W'=>en=.returned (ptv y b' cap')/\Bw W W':=by
 obtain⟨w0,o⟩:=exq ((W.alloc (.cells #[vi q.k,.string q.t,vi q.n,vi q.sl,.slice (some (Ad g off)) (m+1) cap] 34)).alloc (.cells #[vi 0,.string ⟨#[]⟩,vi 0,vi 0,.slice none 0 0] 34))
 have v:Bw W w0:=by rw[<- o];exact ext_alloc (ext_alloc (Below.refl _ _) _) _
 have g1:w0.heap[W.heap.size]?=some (.cells #[vi q.k,.string q.t,vi q.n,vi q.sl,.slice (some (Ad g off)) (m+1) cap] 34):=by rw[<- o];exact block_alloc _ (new1 _ _)
 have g2:w0.heap[W.heap.size+1]?=some zpx:=by rw[<- o];exact new2 _ _ _
 obtain⟨_,_,_,_,p4,_,_,_,_,_⟩:=in5 g1
 obtain⟨d0,d1,d2,d3,d4,f0,f1,f2,f3,f4⟩:=in5 g2
 obtain⟨z9,c0,c1,c2,c3,c4⟩:=hc
 have k0:=(v.cell (p:=(Ad g _)) hg).trans c0
 have k1:=(v.cell (p:=(Ad g _)) hg).trans c1
 have k2:=(v.cell (p:=(Ad g _)) hg).trans c2
 have h:=(v.cell (p:=(Ad g _)) hg).trans c3
 have k4:=(v.cell (p:=(Ad g _)) hg).trans c4
 have z:=(a0b.of_below (S:=fun _=>False) v).then (put5_self w0 (W.heap.size+1) (vi y.k) (.string y.t) (vi y.n) (vi y.sl) (.slice b' y.kids.length cap')) (fun j hj ee=>by omega)
 have i:=put5_same (vi y.k) (.string y.t) (vi y.n) (vi y.sl) (.slice b' y.kids.length cap') g2
 have s:=z.below (Nat.le_refl _) (fun _ _=>id)
 show Cl 21 #[.agg #[vi q.k,.string q.t,vi q.n,vi q.sl,.slice (some (Ad g off)) q.kids.length cap]] W _
 rw[hm]
 have f:IntKind.i64.wrap (((m+1:Nat):Int)-1)=(m:Int):=by rw[IntKind.wrap_i64];omega
 have a:(0:Int)<=(m:Int):=by omega
 have d:(m:Int)<((m+1:Nat):Int):=by omega
 obtain⟨X,u⟩:=exq (put5 w0 (W.heap.size+1) (vi y.k) (.string y.t) (vi y.n) (vi y.sl) (.slice b' y.kids.length cap'))
 rw[u]at i s
 replace u:((((w0.setCell (Ad (W.heap.size+1) 0) (vi y.k)).setCell (Ad (W.heap.size+1) 1) (.string y.t)).setCell (Ad (W.heap.size+1) 2) (vi y.n)).setCell (Ad (W.heap.size+1) 3) (vi y.sl)).setCell (Ad (W.heap.size+1) 4) (.slice b' y.kids.length cap')=X:=u
 replace u:Hid _:=u
 clear v z g1 g2 c0 c1 c2 c3 c4 hm
 go_enter Tryz.func21,Tryz.ntmps21
 go_wp2
 rw[u.out]
 exact bodyPost_ret (d9q (B:=W.heap.size+1) rfl i) rfl ⟨rfl,s⟩
end
end
end Go.Proofs.YtfbpdbndejefdaaGreatDoor.V
