import Derived.Test.YtomniogfpfbolaaGreatDoorS27
import Derived.Deep.RegionHeld2
import Derived.Deep.DeepCutAuto
namespace Go.Proofs.YtomniogfpfbolaaGreatDoor
open Go.RowKit Go
set_option maxRecDepth 100000
set_option maxHeartbeats 8000000
set_option linter.all false
variable {a b c d:Value} {r:PRes} {B i:Nat} {ts:List Tok} {w:World} {tm:Array Value}
theorem b9y{x:Int}(h1:0<=x)(h2:x<=100000):IntKind.i64.wrap x=x:=by
 rw[IntWalk.i64_left]
 unfold wrap64
 omega
def RowI (f t a:Nat) (w:World) (B:Nat) (ts:List Tok) (r:PRes) (k:Nat) (wr:World):Prop :=
 ∃(n:Nd) (j:Nat) (b:Option Addr) (cap:Nat),wr.heap[t]?=some (nbx n b cap)/\wr.heap[w.heap.size]?=some zbx/\NdV (fun g=>w.heap.size<=g/\g≠w.heap.size/\g≠t) wr n (ndv n b cap)/\Rd wr B ts j/\a0b (fun k=>k=B) w wr/\k<=f/\P k 2 n a (rest ts j)=some r
theorem d2r(f:Nat)(hG:∀g,g<=f->RowC g)(a:Nat)(ha:a<=5)(r:PRes)(B:Nat)(ts:List Tok)(i:Nat)(w:World)(hC:Ctx w B ts i)(hP:(P f 0 nil0 (a+1) (rest ts i)).on (fun n l=>P f 2 n a l)=some r)(A:Int)(hA:A=((a+1:Nat):Int)):Cl 178 #[Po B 0,vi A] w (PAns no w B ts r):=by
 obtain⟨r0,hr0,hr1⟩:=a4d hP
 have hEE:=hG f (Nat.le_refl _) (a+1) r0 B ts i _ (by omega) (hC.below (q1z bz0 zbx)) hr0
 rw[show((a+1+1:Nat):Int)=A+1 from by omega]at hEE
 have h2:=a0a w zbx
 have hBw:=hC.R.lt
 have hk0:a0b (fun k=>k=B) w (w.alloc zbx):=a0b.of_below (q1z bz0 _)
 have hA7:¬A=7:=by omega
 have hAl:1<=A:=by omega
 have hAh:A<=6:=by omega
 replace hr1:Hid _:=hr1
 replace hA:Hid _:=hA
 replace ha:Hid _:=ha
 clear hP hr0
 go_enter Tryz.func178,Tryz.ntmps178
 go_wp2_with (go_at_call 178;refine hEE.mono ?_;intro e w1 hA;rcases r0 with l1|⟨n1,l1⟩;(obtain⟨j,hj,hle,rfl,hk1⟩:=hA;rcases hr1.out with⟨l,e1,e2⟩|⟨n,l,e1,_⟩;(cases e1;subst e2;exact⟨rfl,a0e hj hle (hk0.trans hk1)⟩);cases e1);obtain⟨j,b1,cap1,hj,rfl,hN1,hR1,hk1⟩:=hA)
 rcases hr1.out with⟨l,e1,_⟩|⟨n,l,e1,hr2⟩
 ·cases e1
 cases e1
 have g2:=hk1.box h2 (by omega)
 have hz:=q5z g2
 have hb1:Bw w1 (w1.alloc (nbx n1 b1 cap1)):=q1z bz0 _
 have hI:RowI f w1.heap.size a w B ts r f (w1.alloc (nbx n1 b1 cap1)):=⟨n1,j,b1,cap1,a0a _ _,q0z hb1 g2,(hN1.weak (fun g hg hlt=>by simp at hg;exact⟨by omega,by omega,by omega⟩)).below hb1,hR1.below hb1,(hk0.trans hk1).trans (a0b.of_below hb1),Nat.le_refl _,by rw[hj];exact hr2⟩
 obtain⟨t,ht⟩:=exq (w1.heap.size)
 obtain⟨W1,hW1⟩:=exq (w1.alloc (nbx n1 b1 cap1))
 rw[hW1]at hI
 dsimp only[nbx]at hW1
 rw[hW1]
 rw[ht]at hI hz⊢
 clear hW1 ht hr1 hr2 hN1 hR1 hk1 g2 h2 hk0 hb1 hEE
 go_loopg [6] f (fun k _ wr=>RowI f t a w B ts r k wr)
 case atStart=>exact hI
 case round =>
  clear hI
  obtain⟨n,j,b,cap,g3,g2,hN,hR,hk,hgf,hr⟩:=hrel
  have hCr:=hC.on hR
  cases gk with
  | zero=>cases hr
  | succ g =>
   rw[P,<- d2f hCr]at hr
   obtain⟨m1,m2,m3,m4,m5,b',cap',h1,_,hW,_⟩:=hR.box
   obtain⟨c0,c1,c2,c3,c4,c5,c6,f6⟩:=rdC h1
   have hWd:=fun u (hb:Bw wr u)=>a4w B ts j u (hR.below hb)
   have q0:LkM m2 (a0f sk a0d) wr:=hW.h2
   have hL:=fun u h=>d2d (u:=u) (m:=m2) h (wd ts j)
   rw[d2e]at hL
   have hrn:∃o K,((opAt (wd ts j)).map fun p=>Value.agg #[vi p.1,vi ((p.2+1:Nat):Int)]).getD (.agg #[vi 0,vi 0])=.agg #[vi o,vi K]/\((¬K=A/\r=.inr (n,rest ts j))\/(K=A/\j<ts.length/\(P g 0 nil0 (a+1) (rest ts j).tail).on (fun y l=>if a=2 then .ok ⟨22,[],o,[n,y]⟩ l else P g 2 ⟨22,[],o,[n,y]⟩ a l)=some r)):=by
    cases ho:opAt (wd ts j) with
    | none =>
     rw[ho]at hr
     exact⟨0,0,rfl,.inl ⟨by omega,(Option.some.inj hr).symm⟩⟩
    | some p =>
     obtain⟨o,k⟩:=p
     rw[ho]at hr
     simp only at hr
     refine⟨o,((k+1:Nat):Int),rfl,?_⟩
     split at hr
     ·rename_i hka
      have:=b2a ho
      refine .inr ⟨by rw[hA.out,hka],?_,hr⟩
      rcases Nat.lt_or_ge j ts.length with h'|h'
      ·exact h'
      ·exact absurd (by rw[c2y,a3v h'];rfl) this.2
     ·rename_i hka
      exact .inl ⟨by rw[hA.out];omega,(Option.some.inj hr).symm⟩
   obtain⟨o,K,hoK,hrr⟩:=hrn
   rw[hoK]at hL
   obtain⟨s,hs⟩:=exq (wd ts j)
   rw[hs]at hL hWd
   replace hrr:Hid _:=hrr
   clear hoK hs hr hW h1 c0 c2 c3 c4 c5
   go_wp2
   go_cut [6] (fun s6 wx=>∃t6,s6=Po t6 0/\wr.heap.size<=t6/\Bw wr wx/\wx.heap[t6]?=some (.cells #[vi o,vi K] 154))
   case first =>
    have q1:=LkM.drew (m:=m2) (o:=a0f sk a0d)
    have q2:=LkM.alloc (m:=m2) (o:=a0f sk a0d)
    have k1:=fun u o (h:Bw wr u)=>q1z h o
    have k2:=fun u (h:Bw wr u)=>Below.drew h
    have hBlt:=hR.lt
    have hBr:¬B=wr.heap.size:=by omega
    have hBr2:¬wr.heap.size=B:=by omega
    have hm2:m2<wr.heap.size:=q5z q0
    have k3:=fun u i v (h:Bw wr u)=>Below.setCell (p:=(Ad wr.heap.size i)) h (Nat.le_refl _) v
    have k4:=fun u i v (h:LkM m2 (a0f sk a0d) u)=>show LkM m2 (a0f sk a0d) (u.setCell (Ad wr.heap.size i) v) from(q8z u v (by omega)).trans h
    have k0:Bw wr wr:=bz0
    go_region_held3 (fun u=>u.cell? (Ad B 1)=some (.map (some m2))/\LkM m2 (a0f sk a0d) u/\Bw wr u) (go_keep) (first
     | (go_at_call 143;refine(hWd _ (bz0.drew)).mono ?_;rintro e w4 ⟨rfl,hb4⟩;have hBl:Bw wr w4:=q3z ((Below.refl wr.heap.size wr).drew) hb4;have q3:LkM m2 (a0f sk a0d) w4:=LkM.below q0 hBl;have c1:=cellB hBl c1;have hBr4:¬B=w4.heap.size:=by(have:=hBl.size;omega))
     | (go_at_call 143;refine(hWd _ ((q1z bz0 (.cells #[vi 0,vi 0] 154)).drew)).mono ?_;rintro e w4 ⟨rfl,hb4⟩;have hBl:Bw wr w4:=q3z ((q1z (Below.refl wr.heap.size wr) (.cells #[vi 0,vi 0] 154)).drew) hb4;have q3:LkM m2 (a0f sk a0d) w4:=LkM.below q0 hBl;have c1:=cellB hBl c1;have p6:=q0z (W:=(wr.alloc (.cells #[vi 0,vi 0] 154)).drew) hb4 (a0a wr _);have z0:=q2z (i:=0) p6 rfl;have z1:=q2z (i:=1) p6 rfl;have y0:=q6z (i:=0) p6;have y1:=q6z (i:=1) p6))
    all_goals
     go_wp2
     go_meet
     case rel=>first
      | exact⟨_,rfl,hBl.size,q1z hBl _,a0a _ _⟩
      | exact⟨_,rfl,Nat.le_refl _,Below.setCell (p:=(Ad wr.heap.size 1)) (Below.setCell (p:=(Ad wr.heap.size 0)) hBl (Nat.le_refl _) _) (Nat.le_refl _) _,q7z _ (q7z _ p6)⟩
   case rest =>
    obtain⟨t6,rfl,ht6,hb5,p6⟩:=hcut
    clear q0 hL hWd c1
    have q3':=q0z hb5 g3
    have q2':=q0z hb5 g2
    have z0:wc.cell? (Ad t6 0)=some (vi o):=q2z p6 rfl
    have z1:wc.cell? (Ad t6 1)=some (vi K):=q2z p6 rfl
    have hR5:=hR.below hb5
    have hk5:=hk.trans (a0b.of_below hb5)
    have hN5:=hN.below hb5
    have hg3:=q5z g3
    have hg2:=q5z g2
    clear hR g3 g2 hN
    refine Lib.hid ?_
    rcases hrr.out with⟨hKA,hre⟩|⟨hKA,hjl,hrr2⟩
    ·subst hre
     clear hrr
     obtain⟨c0,c1,c2,c3,f0,f1,f2,f3⟩:=in4 q3'
     obtain⟨d0,d1,d2,d3,e0,e1,e2,e3⟩:=in4 q2'
     go_wp2
     refine bodyPost_ret (c3x rfl (a0c _ _ _ _ q2')) rfl ?_
     exact a0m rfl (hN5.weak (fun g hg _=>⟨.inr hg.1,hg.2.1⟩)) hR5 hk5 (Nat.le_refl _) hBw
    ·subst hKA
     clear hrr
     rw[a0g]at hrr2
     obtain⟨r1,hr1,hr2⟩:=a4d hrr2
     have hEE:=fun u h=>hG g (by omega) (a+1) r1 B ts (j+1) u (by have:=ha.out;omega) h hr1
     rw[show((a+1+1:Nat):Int)=IntKind.i64.wrap (K+1) from(by rw[b9y (by omega) (by omega)];have:=hA.out;omega)]at hEE
     obtain⟨n1,n2,n3,n4,n5,b',cap',h1',_⟩:=hR5.box
     obtain⟨_,_,_,_,_,_,d6,e6⟩:=rdC h1'
     have hsh:=hR5.short
     have hR6:=hR5.go (j:=j+1) hjl
     have hk6:a0b (fun k=>k=B) w (wc.setCell (Ad B 6) (vi ((j:Nat)+1))):=hk5.set B 6 _ (fun _=>rfl)
     have q36:(wc.setCell (Ad B 6) (vi ((j:Nat)+1))).heap[t]?=some (nbx n b cap):=(q8z _ _ (by omega)).trans q3'
     have q26:(wc.setCell (Ad B 6) (vi ((j:Nat)+1))).heap[w.heap.size]?=some zbx:=(q8z _ _ (by omega)).trans q2'
     have q66:(wc.setCell (Ad B 6) (vi ((j:Nat)+1))).heap[t6]?=some (.cells #[vi o,vi K] 154):=(q8z _ _ (by omega)).trans p6
     have hN6:=hN5.keep ((a0b.refl (fun k=>k=B) wc).set B 6 (vi ((j:Nat)+1)) (fun _=>rfl)) (fun g hg _=>by omega)
     have hg6:=q5z p6
     obtain⟨W6,hW6⟩:=exq (wc.setCell (Ad B 6) (vi ((j:Nat)+1)))
     have hs6:W6.heap.size=wc.heap.size:=by rw[<- hW6];simp
     rw[hW6]at hk6 q36 q26 q66 hN6
     replace hR6:Rd W6 B ts (j+1):=hW6▸hR6
     replace hr2:Hid _:=hr2
     clear hrr2 hr1 hN5 hR5 hk5 q3' q2' p6 h1'
     go_wp2
     clear hW6 z0 z1 d6 e6
     obtain⟨c0,c1,c2,c3,f0,f1,f2,f3⟩:=in4 q36
     have y0:W6.cell? (Ad t6 0)=some (vi o):=q2z q66 rfl
     have hC6:=hC.on hR6
     go_cut [1] (fun s1 wx=>s1=vi K/\∃y j2 b2 cap2,wx.heap[t]?=some (nbx ⟨22,[],o,[n,y]⟩ b2 cap2)/\wx.heap[w.heap.size]?=some zbx/\NdV (fun g=>w.heap.size<=g/\g≠w.heap.size/\g≠t) wx ⟨22,[],o,[n,y]⟩ (ndv ⟨22,[],o,[n,y]⟩ b2 cap2)/\Rd wx B ts j2/\a0b (fun k=>k=B) w wx/\(if a=2 then PR.ok ⟨22,[],o,[n,y]⟩ (rest ts j2) else P g 2 ⟨22,[],o,[n,y]⟩ a (rest ts j2))=some r)
     case first =>
      go_region_with ((go_at_call 178;refine(hEE _ (hC6.below (bz0.drew))).mono ?_;intro e w7 hA7;rcases r1 with l1|⟨y1,l1⟩;(obtain⟨j2,hj2,hle,rfl,hk7⟩:=hA7;rcases hr2.out with⟨l,e1,e2⟩|⟨n,l,e1,_⟩;(cases e1;subst e2;exact⟨rfl,a0e hj2 hle ((hk6.drew).trans hk7)⟩);cases e1);obtain⟨j2,b2,cap2,hj2,rfl,hN7,hR7,hk7⟩:=hA7;have q37:=hk7.box q36 (by omega);have q27:=hk7.box q26 (by omega);have q67:=hk7.box q66 (by omega);obtain⟨c0,c1,c2,c3,f0,f1,f2,f3⟩:=in4 q37;have y0:w7.cell? (Ad t6 0)=some (vi o):=q2z q67 rfl;obtain⟨x0,x1,x2,x3,y4,y5,y6,y7⟩:=in4a q37;have y0a:=fun o'=>cellB (q1z (Below.refl _ w7) o') y0))
      all_goals
       go_wp2
       go_meet
       case rel =>
        rcases hr2.out with⟨l,e1,_⟩|⟨n',l,e1,hr3⟩
        ·cases e1
        cases e1
        obtain⟨h1,h2,h3⟩:=a9f (D:=fun g=>w.heap.size<=g/\g≠w.heap.size/\g≠t) 22 o ((hN6.below (bz0.drew)).keep hk7 (fun g hg _=>by omega)) (hN7.weak (fun g hg _=>by simp at hg;exact⟨by omega,by omega,by omega⟩)) (fun g hg=>hg.2.2) ⟨by have:=hk7.size;simp at this;omega,by have:=q5z q27;omega,by have:=q5z q37;omega⟩ q37 rfl
        exact⟨rfl,y1,j2,_,_,h2,h3.box q27 (by omega),h1,hR7.keep h3 (fun g hg=>by omega),((hk6.drew).trans hk7).then h3 (fun q hq e=>by omega),by rw[hj2];exact hr3⟩
     case rest =>
      obtain⟨rfl,y,j2,b2,cap2,p3,p2,hN8,hR8,hk8,hr8⟩:=hcut
      clear c0 c1 c2 c3 f0 f1 f2 f3 y0 hEE hr2 q36 q26 q66 hN6 hk6 hR6
      obtain⟨c0,c1,c2,c3,f0,f1,f2,f3⟩:=in4 p3
      obtain⟨d0,d1,d2,d3,e0,e1,e2,e3⟩:=in4 p2
      replace hr8:Hid _:=hr8
      by_cases ha2:a=2
      ·have hK3:K=3:=by have:=hA.out;omega
       subst hK3
       go_wp2
       refine bodyPost_ret (c3x rfl (a0c _ _ _ _ p2)) rfl ?_
       have hr9:=hr8.out
       rw[if_pos ha2]at hr9
       obtain rfl:=Option.some.inj hr9
       exact a0m rfl (hN8.weak (fun g hg _=>⟨.inr hg.1,hg.2.1⟩)) hR8 hk8 (Nat.le_refl _) hBw
      ·have hK3:¬K=3:=by have:=hA.out;omega
       go_wp2
       go_roundg g
       case measure=>omega
       case rel =>
        have hr9:=hr8.out
        rw[if_neg ha2]at hr9
        exact⟨_,j2,b2,cap2,p3,p2,hN8,hR8,hk8,by omega,hr9⟩
theorem d5y(f:Nat)(hG:∀g,g<=f->RowC g)(hS:SgnC f):RowC (f+1):=by
 intro a r B ts i w x y z
 rw[P]at z
 split at z
 ·have:a=6:=by omega
  subst this
  exact c7z f hS r B ts i w y z
 ·exact d2r f hG a (by omega) r B ts i w y z _ rfl
def EU (u:World) (B:Nat) (ts:List Tok) (g:Nd->List PT->PR) (r:PRes) (e:Ending) (w':World):Prop :=
 (∃j,r=.inl (rest ts j)/\j<=ts.length/\e=.panicked (pan (gv ts j))/\a0b (fun k=>k=B) u w') \/
 (∃n j b cap,g n (rest ts j)=some r/\e=.returned (ndv n b cap)/\NdV (fun q=>u.heap.size<=q) w' n (ndv n b cap)/\Rd w' B ts j/\a0b (fun k=>k=B) u w')
theorem a8e{F:Nat}{args:Array Value}{f tag:Nat}{x:Nd}{a:Nat}{l:List PT}{g:Nd->List PT->PR}{u:World}(hP:(P f tag x a l).on g=some r)(hc:∀r0,P f tag x a l=some r0->Cl F args u (PAns no u B ts r0)):Cl F args u (EU u B ts g r):=by
 obtain⟨r0,s,h1⟩:=a4d hP
 refine(hc r0 s).mono ?_
 intro e p w
 rcases h1 with⟨l,rfl,rfl⟩|⟨n,l,rfl,h1⟩
 ·obtain⟨j,rfl,z,rfl,y⟩:=w
  exact .inl ⟨j,rfl,z,rfl,y⟩
 ·obtain⟨j,b,cap,rfl,rfl,t,v,y⟩:=w
  exact .inr ⟨n,j,b,cap,h1,rfl,t.weak (fun q hq _=>hq.resolve_left id),v,y⟩
def WU (u:World) (B:Nat) (ts:List Tok) (i:Nat) (g:List PT->PR) (r:PRes) (e:Ending) (w':World):Prop :=
 (r=.inl (rest ts i)/\i<=ts.length/\e=.panicked (pan (gv ts i))/\a0b (fun k=>k=B) u w') \/
 (g (rest ts (i+1))=some r/\e=.returned (.tuple #[])/\Rd w' B ts (i+1)/\a0b (fun k=>k=B) u w')
theorem Ctx.wantsU(h:Ctx w B ts i){s:List UInt8}(hs:a1h s){g:List PT->PR}(hP:need s (rest ts i) g=some r)(u:World)(hb:Bw w u):Cl 127 #[Po B 0,.slice (some (Ad u.heap.size 0)) 1 1] (u.alloc (.cells #[sk s] 9)) (WU u B ts i g r):=by
 rcases need_some hP with⟨z,h2⟩|⟨z,rfl⟩
 ·rw[a0g]at h2
  refine(h.wants_yes hs z u hb).mono ?_
  rintro e w1 ⟨rfl,v,x⟩
  exact .inr ⟨h2,rfl,v,x⟩
 ·refine(h.wants_no hs z u hb).mono ?_
  rintro e w1 ⟨rfl,y⟩
  exact .inl ⟨rfl,h.R.le,rfl,a0b.of_below y⟩
def NU (u:World) (B:Nat) (ts:List Tok) (i:Nat) (g:List UInt8->List PT->PR) (r:PRes) (e:Ending) (w':World):Prop :=
 (r=.inl (rest ts i)/\i<=ts.length/\e=.panicked (pan (gv ts i))/\a0b (fun k=>k=B) u w') \/
 (∃s,g s (rest ts (i+1))=some r/\e=.returned (sk s)/\Rd w' B ts (i+1)/\a0b (fun k=>k=B) u w')
theorem Ctx.nameU(h:Ctx w B ts i){g:List UInt8->List PT->PR}(hP:a0n (rest ts i) g=some r)(u:World)(hb:Bw w u):Cl 128 #[Po B 0] u (NU u B ts i g r):=by
 have p:=h.R.below hb
 cases hx:ts[i]? with
 | none =>
  have z:=a3v (List.getElem?_eq_none_iff.1 hx)
  have:r=.inl (rest ts i):=by
   unfold a0n at hP
   rw[z]at hP⊢
   rw[if_neg (by decide)]at hP
   exact(Option.some.inj hP).symm
  refine(c9y B ts i 0 [] 0 (b3n hx) (.inr (by decide)) u p).mono ?_
  rintro e w1 ⟨rfl,y⟩
  exact .inl ⟨this,h.R.le,rfl,a0b.of_below y⟩
 | some x =>
  have z:=a6e hx
  have o:a7i (pt x):=h.V (pt x) (List.mem_map.2 ⟨x,List.mem_of_getElem? hx,rfl⟩)
  have hn:=d1i (k:=x.k) (t:=x.t) (l:=rest ts (i+1)) o
  unfold a0n at hP
  by_cases hy:a4s (tx (rest ts i))=true
  ·rw[if_pos hy,a0g]at hP
   rw[z]at hy
   obtain⟨h1,h2⟩:=hn.1 hy
   have n:tx (rest ts i)=x.t:=by
    rw[z]
    unfold tx
    simp only
    rw[if_neg (by omega)]
   rw[n]at hP
   refine(d1c B ts i x.t (x.a:Nat) (by rw[a9z hx,h1]) h2 (List.getElem?_eq_some_iff.1 hx).1 u p).mono ?_
   rintro e w1 ⟨rfl,q,s⟩
   exact .inr ⟨x.t,hP,rfl,q,s⟩
  ·rw[if_neg hy]at hP
   have v:a0j.contains x.t=true\/¬x.k=1:=by
    by_cases h1:x.k=1
    ·refine .inl ?_
     cases hc:a0j.contains x.t with
     | true=>rfl
     | false=>exact absurd (by rw[z];exact hn.2 ⟨h1,hc⟩) hy
    ·exact .inr h1
   refine(c9y B ts i x.k x.t (x.a:Nat) (a9z hx) v u p).mono ?_
   rintro e w1 ⟨rfl,y⟩
   exact .inl ⟨(Option.some.inj hP).symm,h.R.le,rfl,a0b.of_below y⟩
theorem d8g:a1h W.do_:=⟨_,_,rfl,rfl⟩
theorem b4j:a1h W.end_:=⟨_,_,rfl,rfl⟩
theorem d5z:a1h S.sc:=⟨_,_,rfl,rfl⟩
theorem c8g:a1h S.eq:=⟨_,_,rfl,rfl⟩
theorem d2s:a1h W.then_:=⟨_,_,rfl,rfl⟩
theorem b6k:a1h W.else_:=⟨_,_,rfl,rfl⟩
theorem c8h:a1h S.lc:=⟨_,_,rfl,rfl⟩
theorem d8h:a1h S.rc:=⟨_,_,rfl,rfl⟩
theorem b6l:a1h W.next_:=⟨_,_,rfl,rfl⟩
def BlkC (f:Nat):Prop:=∀(r:PRes) (B:Nat) (ts:List Tok) (i:Nat) (w:World),Ctx w B ts i->P f 7 (nd 4 []) 0 (rest ts i)=some r->Cl 131 #[Po B 0] w (PAns no w B ts r)
theorem d6a{W:World}(h:tm[2]?.getD undef=Po B 0)(hx:W.heap[B]?=some (.cells #[a,b,c,d] 34)):(results Tryz.f174 tm).run Tryz.prog W=.ok (.agg #[a,b,c,d]) W:=by
 obtain⟨c0,c1,c2,c3,_,_,_,_⟩:=in4 hx
 simp[results,Tryz.results174,go_sem,h,c0,c1,c2,c3]
theorem c4o(f:Nat)(hB:BlkC f)(r:PRes)(B:Nat)(ts:List Tok)(i:Nat)(w:World)(hC:Ctx w B ts i)(g:Nd->List PT->PR)(hP:need W.do_ (rest ts i) (fun l=>(P f 7 (nd 4 []) 0 l).on fun b l=>need W.end_ l fun l=>g b l)=some r):Cl 174 #[Po B 0] w (EU w B ts g r):=by
 have z3:=hC.R.lt
 have a:Bw w (w.alloc zbx):=q1z bz0 _
 have h2:=a0a w zbx
 have c:a0b (fun k=>k=B) w (w.alloc zbx):=a0b.of_below a
 have o:=hC.wantsU d8g hP _ a
 rw[World.size_alloc]at o
 clear hP
 go_enter Tryz.func174,Tryz.ntmps174
 go_wp2_with (first
  | (go_at_call 127;refine o.mono ?_;rintro e w1 (⟨rfl,x,rfl,y⟩|⟨d,rfl,z8,y⟩);(exact⟨rfl,.inl ⟨i,rfl,x,rfl,c.trans y⟩⟩);have u:=c.trans y;(try dsimp only at d))
  | (go_at_call 131;refine(a8e d (fun r0 h=>hB r0 B ts (i+1) _ (hC.on z8) h)).mono ?_;rintro e w2 (⟨j,rfl,x,rfl,v⟩|⟨n2,j,b2,s,n,rfl,z4,z6,v⟩);(exact⟨rfl,.inl ⟨j,rfl,x,rfl,u.trans v⟩⟩);have p:=u.trans v;(try dsimp only at n);refine Hid.out ?_))
 have g2:=v.box (y.box h2 (by omega)) (by omega)
 have z0:w.heap.size<w1.heap.size:=q5z (y.box h2 (by omega))
 have t:Bw w2 (w2.alloc (nbx n2 b2 s)):=q1z bz0 _
 have z9:=(hC.on z6).wantsU b4j n _ t
 rw[World.size_alloc]at z9
 have g3:=a0a w2 (nbx n2 b2 s)
 have z2:=q0z t g2
 have z1:=v.size
 clear d n o z8 y u h2
 refine Lib.hid ?_
 go_wp2_with (go_at_call 127;refine z9.mono ?_;rintro e w3 (⟨rfl,x,rfl,z⟩|⟨z5,rfl,z7,z⟩);(exact⟨rfl,.inl ⟨j,rfl,x,rfl,(p.trans (a0b.of_below t)).trans z⟩⟩);have p3:=z.box g3 (by omega);have p2:=z.box z2 (by omega);obtain⟨c0,c1,c2,c3,f0,f1,f2,f3⟩:=in4 p3;obtain⟨d0,d1,d2,d3,e0,e1,e2,e3⟩:=in4 p2)
 refine bodyPost_ret (d6a rfl (a0c _ _ _ _ p2)) rfl ?_
 refine .inr ⟨n2,j+1,b2,s,z5,rfl,?_,z7.put4 _ _ _ _ _ z3,a1f ((p.trans (a0b.of_below t)).trans z) _ _ _ _ _ (Nat.le_refl _)⟩
 exact(((z4.below t).keep z (fun q hq _=>by omega)).put4 _ _ _ _ _ (fun q hq=>by omega)).weak (fun q hq _=>by omega)
theorem b7z{W:World}{x:Value}(h:tm[2]?.getD undef=Po B 0)(h3:tm[3]?.getD undef=x)(hx:W.heap[B]?=some (.cells #[a,b,c,d] 34)):(results Tryz.f195 tm).run Tryz.prog W=.ok (.tuple #[.agg #[a,b,c,d],x]) W:=by
 obtain⟨c0,c1,c2,c3,_,_,_,_⟩:=in4 hx
 simp[results,Tryz.results195,go_sem,h,h3,c0,c1,c2,c3]
def LU (w:World) (B:Nat) (ts:List Tok) (N:Nd) (ok:Bool) (i':Nat) (e:Ending) (w':World):Prop:=e=.returned (.tuple #[ndv N none 0,.bool ok])/\Rd w' B ts i'/\a0b (fun k=>k=B) w w'
theorem d2t(B:Nat)(ts:List Tok)(i:Nat)(t:List UInt8)(a:Int)(w:World)(hC:Ctx w B ts i)(hV:tokH ts i=tokv 2 ⟨t.toArray⟩ a)(hi:i<ts.length)(hl:t.length<=4000)(v:Int)(hv:Lib.parseIntB 64 t=.ok v)(q:Int)(ok:Bool)(hq:(a0s.lookup (wd ts i)).getD (ik 0)=ik q)(hok:(a0s.lookup (wd ts i)).isSome=ok):Cl 195 #[Po B 0] w (LU w B ts ⟨13,[],v,[]⟩ true (i+1)):=by
 have v8:=hC.R.lt
 have t3:=hC.R.short
 have x5:Bw w (w.alloc zbx):=q1z bz0 _
 have y9:=a3z B ts i _ (hC.R.below x5)
 rw[hV]at y9
 have z3:=fun u (hb:Bw w u)=>a4w B ts i u (hC.R.below hb)
 have x4:=fun u=>b7f ⟨t.toArray⟩ (show t.toArray.size<=4000 by simpa using hl) v (by simpa using hv) u
 have hL:=fun m u h=>a6x (u:=u) (m:=m) (kv:=a0s) (by decide) h (wd ts i)
 rw[hq,hok]at hL
 obtain⟨s,hs⟩:=exq (wd ts i)
 rw[hs]at hL z3
 have z0:=a0a w zbx
 clear hV hs hq hok
 go_enter Tryz.func195,Tryz.ntmps195
 go_wp2_with (go_at_call 141;refine y9.mono ?_;rintro e w1 ⟨rfl,z4⟩)
 have z:Bw w (w1.alloc (tbx 2 ⟨t.toArray⟩ a)):=q1z (q3z x5 z4) _
 obtain⟨m1,m2,m3,m4,m5,b,cap,h1,_,hW,_⟩:=(hC.R.below z).box
 obtain⟨c0,c1,c2,c3,c4,c5,c6,f6⟩:=rdC h1
 have q0:LkM m5 (a0f sk a0s) (w1.alloc (tbx 2 ⟨t.toArray⟩ a)):=hW.h5
 obtain⟨t0,t1⟩:=a6f (a0a w1 (tbx 2 ⟨t.toArray⟩ a))
 have z1:=q4z (tbx 2 ⟨t.toArray⟩ a) (q0z z4 z0)
 obtain⟨t4,z8⟩:=exq (w1.heap.size)
 obtain⟨W1,l⟩:=exq (w1.alloc (tbx 2 ⟨t.toArray⟩ a))
 rw[l]at z c4 q0 t0 t1 z1
 dsimp only[tbx]at l
 rw[z8]at t0 t1
 rw[l,z8]
 have v9:=hL m5
 clear hW h1 c0 c1 c2 c3 c5 c6 f6 l z8 z4 y9 z0 hL
 go_region_with ((go_at_call 143;refine(z3 _ (z.drew)).mono ?_;rintro e w2 ⟨rfl,y⟩;have q3:=LkM.below (LkM.drew _ q0) y;have c4:=cellB (W:=W1.drew) y c4))
 all_goals
  have y5:=cellB (W:=W1.drew) y t0
  have y6:=cellB (W:=W1.drew) y t1
  have z2:=q0z (W:=W1.drew) y z1
  have r:=q3z (z.drew) y
  have w7:=fun o=>cellB (q1z (Below.refl _ w2) o) y5
  have w8:=fun o=>cellB (q1z (Below.refl _ w2) o) y6
  clear q0 q3 c4 v9 z3 t0 t1 z1
  go_wp2_with (go_at_call 123;refine Hid.out ?_)
  have z6:Bw w2 (w2.alloc (nbx (nd q []) none 0)):=q1z bz0 _
  have g7:=a0a w2 (nbx (nd q []) none 0)
  have z7:=q0z z6 z2
  have d:=q3z r z6
  have w5:=r.size
  have g:=q5z z2
  obtain⟨x,z9⟩:=exq (w2.heap.size)
  rw[z9]at g7 w5 g
  clear y5 y6 w7 w8 z2
  refine Lib.hid ?_
  go_wp2_with (go_at_call 123;refine(x4 _).mono ?_;rintro e w3 ⟨rfl,z5⟩;refine Hid.out ?_)
  have p7:=q0z z5 g7
  have p2:=q0z z5 z7
  have f:=q3z d z5
  have y7:=hC.R.below f
  obtain⟨t5,t6,t8,t9,v0,bb,v1,w9,_⟩:=y7.box
  obtain⟨_,_,_,_,_,_,a6,x6⟩:=rdC w9
  obtain⟨c0,c1,c2,c3,f0,f1,f2,f3⟩:=in4 p7
  obtain⟨d0,d1,d2,d3,e0,e1,e2,e3⟩:=in4 p2
  have n1:¬B=x:=by omega
  have n2:¬x=B:=by omega
  have n3:¬w.heap.size=x:=by omega
  have n4:¬x=w.heap.size:=by omega
  have n5:¬B=w.heap.size:=by omega
  have n6:¬w.heap.size=B:=by omega
  (try rw[z9])
  clear z9
  refine Lib.hid ?_
  obtain⟨W4,n⟩:=exq (put4 w3 x (vi 13) (sk []) (vi v) (.slice none 0 0))
  have y4:W4.heap[x]?=some (nbx ⟨13,[],v,[]⟩ none 0):=n▸a0c _ _ _ _ p7
  have x8:W4.heap[w.heap.size]?=some zbx:=n▸(a2e _ _ _ _ (by omega)).trans p2
  have y8:Rd W4 B ts i:=n▸y7.put4 x _ _ _ _ (by omega)
  have x7:a0b (fun k=>k=B) w W4:=n▸a1f (a0b.of_below f) x _ _ _ _ (by omega)
  clear a6 x6 w9 d0 d1 d2 d3 e0 e1 e2 e3
  obtain⟨v2,v3,v4,v5,v6,t2,v7,c,_⟩:=y8.box
  obtain⟨_,_,_,_,_,_,a6,x6⟩:=rdC c
  obtain⟨W5,p⟩:=exq (W4.setCell (Ad B 6) (vi ((i:Nat)+1)))
  have w6:W5.heap[x]?=some (nbx ⟨13,[],v,[]⟩ none 0):=p▸(q8z _ _ (by omega)).trans y4
  have x9:W5.heap[w.heap.size]?=some zbx:=p▸(q8z _ _ (by omega)).trans x8
  have w0:Rd W5 B ts (i+1):=p▸y8.go (j:=i+1) hi
  have w4:a0b (fun k=>k=B) w W5:=p▸x7.set B 6 _ (fun _=>rfl)
  obtain⟨x0,x1,x2,x3,y0,y1,y2,y3⟩:=in4 w6
  obtain⟨d0,d1,d2,d3,e0,e1,e2,e3⟩:=in4 x9
  clear c p7 p2 y4 x8 y7 y8 x7 n1 n2 n3 n4 n5 n6 x4 g g7 z7 z6 d r y z
  go_wp2
  refine bodyPost_ret (b7z rfl rfl (a0c _ _ _ _ x9)) rfl ?_
  exact⟨rfl,w0.put4 _ _ _ _ _ v8,a1f w4 _ _ _ _ _ (Nat.le_refl _)⟩
end Go.Proofs.YtomniogfpfbolaaGreatDoor
