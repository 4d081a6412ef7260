import Derived.Test.YtomniogfpfbolaaGreatDoorS42
namespace Go.Proofs.YtomniogfpfbolaaGreatDoor
open Go.RowKit Go
set_option maxRecDepth 100000
set_option maxHeartbeats 8000000
set_option linter.all false
variable {W:World} {B:Nat}
theorem b8j{tm:Array Value}{a b c d:Value}(h:tm[2]?.getD undef=Po B 0)(hx:W.heap[B]?=some (.cells #[a,b,c,d] 34)):(results Tryz.f98 tm).run Tryz.prog W=.ok (.agg #[a,b,c,d]) W:=by
 obtain⟨c0,c1,c2,c3,_,_,_,_⟩:=in4 hx
 simp[results,Tryz.results98,go_sem,h,c0,c1,c2,c3]
theorem c5f{w:World}{t:Nat}{ts:List Tok}{x:Nd}{b:Option Addr}{cap j:Nat}{bad:Bool}{Fin:Nat->Prop}{r:PRes}{g:Nd->List PT->PR}(h:NT w B t ts W x b cap j bad)(k:Int)(hFl:Fl ts Fin r j bad (g (nd k [x]))):NA no w B ts Fin r g (.returned (ndv (nd k [x]) (some (Ad W.heap.size 0)) 1)) (put4 (W.alloc (nbx x b cap)) w.heap.size (vi k) (sk []) (vi 0) (.slice (some (Ad W.heap.size 0)) 1 1)):=by
 have h1:=h.lt
 have h3:=q5z h.g
 have y:=q1z (Below.refl W.heap.size W) (nbx x b cap)
 have z:=Row.one (S:=fun q=>t<q) (W:=W.alloc (nbx x b cap)) (g:=W.heap.size) h3 ((h.nd.weak (fun q hq v=>⟨hq,by omega⟩)).below y) (a0a W _)
 exact a1a (x:=nd k [x]) ((z.node k [] 0).weak (fun q hq _=>⟨.inr (by omega),by omega⟩)) (h.R.below y) (h.K.trans (a0b.of_below y)) (Nat.le_refl _) h.hB hFl
def SiI (f t:Nat) (w:World) (B:Nat) (ts:List Tok) (Fin:Nat->Prop) (r:PRes) (g:Nd->List PT->PR) (k:Nat) (cv:Value) (wr:World):Prop :=
 ∃(x:Nd) (b:Option Addr) (cap j:Nat) (bad:Bool) (a:Nat),cv=vi (a:Nat)/\NT w B t ts wr x b cap j bad/\k<=f/\a+k<=f/\Fl ts Fin r j bad (fun l=>(P k 9 x a l).on g)
theorem d3l(f:Nat)(hf:f<=90000)(hX:∀k,k<f->DBeh k)(hE:∀k,k<f->DRow k):DSim f:=by
 intro r Fin g B ts i w hF hR hP
 have hBw:=hR.lt
 have hb0:Bw w (w.alloc zbx):=q1z bz0 _
 have h2:=a0a w zbx
 have hN:=b2o hF (.inr ⟨rfl,hP⟩) _ (hR.below hb0)
 clear hP
 go_enter Tryz.func98,Tryz.ntmps98
 go_wp2_with (go_at_call 43;refine hN.mono ?_;rintro e w1 ⟨s,j,bad,rfl,hR1,hk1,hFl⟩;refine Hid.out ?_)
 have z1:=hk1.box h2 (by omega)
 have hz1:=q5z z1
 have hb2:=q1z (Below.refl w1.heap.size w1) (nbx ⟨18,s,0,[]⟩ none 0)
 have hT0:NT w B w1.heap.size ts (w1.alloc (nbx ⟨18,s,0,[]⟩ none 0)) ⟨18,s,0,[]⟩ none 0 j bad:=⟨a0a _ _,q0z hb2 z1,(Row.nil _ _).node 18 s 0,hR1.below hb2,((a0b.of_below hb0).trans hk1).trans (a0b.of_below hb2),hz1,hBw⟩
 have hI:SiI f w1.heap.size w B ts Fin r g f (vi 0) (w1.alloc (nbx ⟨18,s,0,[]⟩ none 0)):=⟨_,_,_,j,bad,0,rfl,hT0,Nat.le_refl _,by omega,hFl⟩
 obtain⟨t,ht⟩:=exq (w1.heap.size)
 rw[ht]at hI hz1
 clear hN hT0 hFl hb2 hk1 hR1 z1 hb0 h2 hR
 refine Lib.hid ?_
 go_wp2
 clear ht
 go_loopg [4] f (fun k cv wr=>SiI f t w B ts Fin r g k cv wr)
 case atStart=>exact hI
 case round =>
  obtain⟨x,b,cap,j,bad,a,rfl,hT1,hgf,hle,hFl⟩:=hrel
  clear hI
  have p3:=hT1.g
  have p2:=hT1.z
  have hR1:=hT1.R
  have hz3:=q5z p3
  obtain⟨c0,c1,c2,c3,f0,f1,f2,f3⟩:=in4 p3
  obtain⟨d0,d1,d2,d3,e0,e1,e2,e3⟩:=in4 p2
  obtain⟨b',cap',s0,s1,s2,v1,v2⟩:=hR1.cells
  rcases hFl with⟨rfl,hFi⟩|⟨rfl,hP⟩
  ·obtain⟨x0,x1,x2,x3,y0,y1,y2,y3⟩:=in4a p2
   go_wp2
   refine bodyPost_ret (b8j rfl (a0c _ _ _ _ (q4z _ p2))) rfl ?_
   exact c5f hT1 7 (.inl ⟨rfl,hFi⟩)
  have hT:=fun u (h:Dr u B ts j false)=>a4g B ts j false u h
  rw[show txd ts j false=tx (rest ts j) from rfl]at hT
  cases gk with
  | zero=>cases hP
  | succ k =>
  dsimp only at hP
  rw[P,a2f]at hP
  by_cases hlb:tx (rest ts j)=S.lb
  ·rw[if_pos hlb,a4h]at hP
   rw[hlb]at hT
   have hcall:=fun u (hb:Bw wr u)=>hX k (by omega) x b cap (fun q=>t<q) r Fin _ B ts j u hF (hR1.below hb) (hT1.nd.below hb) (fun q hq=>by omega) hP
   clear hP hlb
   go_wp2_with (first|(go_at_call 44;refine(hT wr hR1).mono ?_;rintro e w2 ⟨rfl,hb2⟩;have q3:=q0z hb2 p3;have q2:=q0z hb2 p2;obtain⟨c0,c1,c2,c3,f0,f1,f2,f3⟩:=in4 q3)|(go_at_call 118;refine(hcall _ hb2).mono ?_;rintro e w4 ⟨x2,b2,cap2,j2,bad2,rfl,hN2,hR2,hk2,hFl2⟩;have r3:=hk2.box q3 (by omega);have r2:=hk2.box q2 (by omega);obtain⟨c0,c1,c2,c3,f0,f1,f2,f3⟩:=in4 r3))
   have hz4:=hb2.size
   have hkw:=(hT1.K.trans (a0b.of_below hb2)).trans hk2
   go_roundg k
   case measure=>omega
   case rel=>exact⟨x2,b2,cap2,j2,bad2,a,rfl,NT.put r3 r2 (hN2.weak (fun q hq _=>by rcases hq with hq|hq;exact hq;omega)) hR2 hkw hz1 hBw,by omega,by omega,hFl2⟩
  rw[if_neg hlb,a2f]at hP
  have n1:(tx (rest ts j) == [91])=false:=by simpa using hlb
  by_cases hlp:tx (rest ts j)=S.lp
  ·rw[if_pos hlp,a4h]at hP
   rw[hlp]at hT
   have hcall:=fun u (hb:Bw wr u)=>hX k (by omega) x b cap (fun q=>t<q) r Fin _ B ts j u hF (hR1.below hb) (hT1.nd.below hb) (fun q hq=>by omega) hP
   clear hP hlp hlb n1
   go_wp2_with (first|(go_at_call 44;refine(hT wr hR1).mono ?_;rintro e w2 ⟨rfl,hb2⟩;have q3:=q0z hb2 p3;have q2:=q0z hb2 p2)|(go_at_call 44;refine(hT w2 (hR1.below hb2)).mono ?_;rintro e w3 ⟨rfl,hb3⟩;have hb23:=q3z hb2 hb3;have q33:=q0z hb3 q3;have q23:=q0z hb3 q2;obtain⟨c0,c1,c2,c3,f0,f1,f2,f3⟩:=in4 q33)|(go_at_call 118;refine(hcall _ hb23).mono ?_;rintro e w4 ⟨x2,b2,cap2,j2,bad2,rfl,hN2,hR2,hk2,hFl2⟩;have r3:=hk2.box q33 (by omega);have r2:=hk2.box q23 (by omega);obtain⟨c0,c1,c2,c3,f0,f1,f2,f3⟩:=in4 r3))
   have hz4:=hb23.size
   have hkw:=(hT1.K.trans (a0b.of_below hb23)).trans hk2
   go_roundg k
   case measure=>omega
   case rel=>exact⟨x2,b2,cap2,j2,bad2,a+1,by simp,NT.put r3 r2 (hN2.weak (fun q hq _=>by rcases hq with hq|hq;exact hq;omega)) hR2 hkw hz1 hBw,by omega,by omega,hFl2⟩
  rw[if_neg hlp]at hP
  have n2:(tx (rest ts j) == [40])=false:=by simpa using hlp
  by_cases ha:a=0
  ·subst ha
   rw[if_pos rfl,a3c]at hP
   have hM:=fun u (h:Dr u B ts j false)=>a2o (s:=S.eq) (by decide) hF (.inr ⟨rfl,hP⟩) u h
   obtain⟨tt,htt⟩:=exq (tx (rest ts j))
   rw[htt]at hT n1 n2
   clear hP htt hlb hlp hX
   go_wp2_with (first|(go_at_call 44;refine(hT wr hR1).mono ?_;rintro e w2 ⟨rfl,hb2⟩;have q3:=q0z hb2 p3;have q2:=q0z hb2 p2)|(go_at_call 44;refine(hT w2 (hR1.below hb2)).mono ?_;rintro e w3 ⟨rfl,hb3⟩;have hb23:=q3z hb2 hb3)|(go_at_call 42;refine(hM _ (hR1.below hb23)).mono ?_;rintro e w4 ⟨rfl,j2,bad2,hR4,hk4,hFl4⟩;refine Hid.out ?_))
   have hT4:=(hT1.on (a0b.of_below hb23) (hR1.below hb23)).on hk4 hR4
   have hz4:=q5z hT4.g
   have hb5:=q1z (Below.refl w4.heap.size w4) (nbx x b cap)
   have hRow:=Row.one (S:=fun q=>t<q) (W:=w4.alloc (nbx x b cap)) (g:=w4.heap.size) hz4 ((hT4.nd.weak (fun q hq hlt=>⟨hq,by omega⟩)).below hb5) (a0a w4 _)
   have z5:=q0z hb5 hT4.z
   have hk5:=hT4.K.trans (a0b.of_below (S:=fun q=>q=B) hb5)
   have hx:=a5j k (hE k (by omega)) [x] (some (Ad w4.heap.size 0)) 1 (fun q=>t<q) r Fin (fun y l=>(PR.ok (nd 6 [x,y]) l).on g) B ts j2 bad2 (w4.alloc (nbx x b cap)) hF (hR4.below hb5) hRow (fun q hq=>by omega) (fun q e=>by have:=a4y e;omega) (by simp) (by simpa only[a4h]using hFl4)
   obtain⟨c0,c1,c2,c3,f0,f1,f2,f3⟩:=in4 hT4.g
   clear hM hT hE hR4 hk4 hFl4 d0 d1 d2 d3 e0 e1 e2 e3
   refine Lib.hid ?_
   go_wp2_with (go_at_call 96;refine hx.mono ?_;rintro e wa ⟨⟨ks1,b1,cap1,j3,bad3,rfl,hRow1,hRa,hlen1,hown1,hFx1⟩,hka⟩;refine Hid.out ?_)
   have hzw:=hk5.size
   have za:=hka.box z5 (by rintro(e|e);omega;have:=a4y e.symm;omega)
   have hkw:=hk5.then hka (fun q hq e=>by rcases e with e|e;exact e;have:=a4y e.symm;omega)
   have hFl:=c0h (G:=fun ks l=>g (nd 6 ks) l) hFx1
   obtain⟨d0,d1,d2,d3,e0,e1,e2,e3⟩:=in4 za
   refine Lib.hid ?_
   go_wp2
   refine bodyPost_ret (b8j rfl (a0c _ _ _ _ za)) rfl ?_
   refine a1a (x:=nd 6 ks1) ((hRow1.node 6 [] 0).weak (fun q hq _=>?_)) hRa hkw (Nat.le_refl _) hBw hFl
   rw[World.size_alloc]at hq
   rcases hq with hq|hq
   ·exact⟨.inr (by omega),by omega⟩
   ·exact⟨.inr (by omega),by omega⟩
  rw[if_neg ha,a2f]at hP
  obtain⟨tt,htt⟩:=exq (tx (rest ts j))
  rw[htt]at hT n1 n2
  have ha':(a == 0)=false:=by simpa using ha
  have ha2:((a:Int) == 0)=false:=by simpa using ha
  obtain⟨kx,tx1,nx,kids⟩:=x
  by_cases hk:kx=21
  ·subst hk
   rw[if_pos rfl]at hP
   clear htt hlb hlp hX hE
   go_wp2_with (first|(go_at_call 44;refine(hT wr hR1).mono ?_;rintro e w2 ⟨rfl,hb2⟩;have q3:=q0z hb2 p3;have q2:=q0z hb2 p2)|(go_at_call 44;refine(hT w2 (hR1.below hb2)).mono ?_;rintro e w3 ⟨rfl,hb3⟩;have hb23:=q3z hb2 hb3;refine Hid.out ?_))
   have hT3:=hT1.on (a0b.of_below hb23) (hR1.below hb23)
   have hR3:=hT3.R
   have hT4:=hT3.on ((a0b.refl _ _).set B 2 (.bool false) (fun _=>rfl)) (hR3.fail false)
   obtain⟨c0,c1,c2,c3,f0,f1,f2,f3⟩:=in4 hT3.g
   obtain⟨b',cap',s0,s1,s2,v1,v2⟩:=hR3.cells
   obtain⟨V,hV⟩:=exq (w3.setCell (Ad B 2) (.bool false))
   rw[hV]at hT4
   obtain⟨k0,k1,k2,k3,l0,l1,l2,l3⟩:=in4 hT4.g
   obtain⟨x0,x1,x2,x3,y0,y1,y2,y3⟩:=in4a hT4.z
   clear d0 d1 d2 d3 e0 e1 e2 e3 hT3 hR3
   refine Lib.hid ?_
   go_wp2
   refine bodyPost_ret (b8j rfl (a0c _ _ _ _ (q4z _ hT4.z))) rfl ?_
   exact c5f hT4 7 (.inr ⟨rfl,hP⟩)
  ·rw[if_neg (show ¬(⟨kx,tx1,nx,kids⟩:Nd).k=21 from hk)]at hP
   have hk':(kx != 21)=true:=by simpa using hk
   have hk2:(kx == 21)=false:=by simpa using hk
   clear htt hlb hlp hX hE
   go_wp2_with (first|(go_at_call 44;refine(hT wr hR1).mono ?_;rintro e w2 ⟨rfl,hb2⟩;have q3:=q0z hb2 p3;have q2:=q0z hb2 p2)|(go_at_call 44;refine(hT w2 (hR1.below hb2)).mono ?_;rintro e w3 ⟨rfl,hb3⟩;have hb23:=q3z hb2 hb3;refine Hid.out ?_))
   have hT3:=hT1.on (a0b.of_below hb23) (hR1.below hb23)
   have hR3:=hT3.R
   have hT4:=hT3.on ((a0b.refl _ _).set B 2 (.bool true) (fun _=>rfl)) (hR3.fail true)
   obtain⟨c0,c1,c2,c3,f0,f1,f2,f3⟩:=in4 hT3.g
   obtain⟨b',cap',s0,s1,s2,v1,v2⟩:=hR3.cells
   obtain⟨V,hV⟩:=exq (w3.setCell (Ad B 2) (.bool true))
   rw[hV]at hT4
   obtain⟨k0,k1,k2,k3,l0,l1,l2,l3⟩:=in4 hT4.g
   obtain⟨x0,x1,x2,x3,y0,y1,y2,y3⟩:=in4a hT4.z
   clear d0 d1 d2 d3 e0 e1 e2 e3 hT3 hR3
   refine Lib.hid ?_
   go_wp2
   refine bodyPost_ret (b8j rfl (a0c _ _ _ _ (q4z _ hT4.z))) rfl ?_
   exact c5f hT4 7 (.inl ⟨rfl,(hF.2 j hR1.le (Option.some.inj hP).symm)⟩)
end Go.Proofs.YtomniogfpfbolaaGreatDoor
