import Derived.Test.YtomniogfpfbolaaGreatDoorS33
import Derived.Test.YtomniogfpfbolaaGreatDoorS41
namespace Go.Proofs.YtomniogfpfbolaaGreatDoor
open Go.RowKit Go
set_option maxRecDepth 100000
set_option maxHeartbeats 8000000
set_option linter.all false
variable {tm:Array Value} {B j t cap j' cap1 f:Nat} {a c d:Value} {b b1:Option Addr} {ts:List Tok} {Fin:Nat->Prop} {r:PRes} {bad bad':Bool} {ks:List Nd} {G:List PT->PR} {w W' wa:World} {x:Nd} {s:List UInt8} {k:Int} {g:Nd->List PT->PR}
theorem ok_on{n:Nd}{l:List PT}{g:Nd->List PT->PR}:(PR.ok n l).on g=g n l:=rfl
theorem b4t{W:World}{b:Value}(h:tm[4]?.getD undef=Po B 0)(hx:W.heap[B]?=some (.cells #[a,b,c,d] 34)):(results Tryz.f118 tm).run Tryz.prog W=.ok (.agg #[a,b,c,d]) W:=by
 obtain⟨c0,c1,c2,c3,_,_,_,_⟩:=in4 hx
 simp[results,Tryz.results118,go_sem,h,c0,c1,c2,c3]
theorem c0h{ks':List Nd}{G:List Nd->List PT->PR}(h:(bad=true/\Fin j)\/(bad=false/\∃x,ks'=ks++[x]/\G (ks++[x]) (rest ts j)=some r)):Fl ts Fin r j bad (fun l=>G ks' l):=by
 rcases h with h|⟨h1,x,rfl,h2⟩
 ·exact .inl h
 ·exact .inr ⟨h1,h2⟩
theorem d6n(f:Nat)(hE:DRow f)(x:Nd)(b:Option Addr)(cap:Nat)(D:Nat->Prop)(r:PRes)(Fin:Nat->Prop)(g:Nd->List PT->PR)(B:Nat)(ts:List Tok)(i:Nat)(w:World)(hF:a1y ts Fin r)(hR:Dr w B ts i false)(hx:NdV D w x (ndv x b cap))(hD:∀q,D q->q≠B)(hy:tx (rest ts i)=S.lb)(hP:(P f 0 nil0 0 (rest ts (i+1))).on (fun y l=>need S.rb l fun l=>g (nd 20 ([x]++[y])) l)=some r):Cl 118 #[Po B 0,ndv x b cap] w (NA D w B ts Fin r g):=by
 obtain⟨h3,h4⟩:=new2 w (nbx x b cap) zbx
 have s:=a6g w (nbx x b cap) zbx
 have z0:=hR.lt
 have a:=a2k B ts i false S.lb hy (a5a hy (by decide)) _ (hR.below s)
 go_enter Tryz.func118,Tryz.ntmps118
 go_wp2_with (first|(go_at_call 45;refine a.mono ?_;rintro e w1 ⟨rfl,z4,z⟩;have p3:=z.box h3 (by omega);obtain⟨c0,c1,c2,c3,f0,f1,f2,f3⟩:=in4 p3)|(go_at_call 96;refine Hid.out ?_))
 have v:=q1z (Below.refl w1.heap.size w1) (nbx x b cap)
 have p4:=z.box h4 (by omega)
 have z7:=q5z p4
 have n:NdV (fun q=>D q/\q<w.heap.size) w1 x (ndv x b cap):=((hx.weak (S':=fun q=>D q/\q<w.heap.size) (fun q hq h=>⟨hq,h⟩)).below s).keep z (fun q hq _=>hD q hq.1)
 have u:=Row.one (S:=fun q=>(D q/\q<w.heap.size)\/w.heap.size+1<q) (W:=w1.alloc (nbx x b cap)) (g:=w1.heap.size) (.inr z7) ((n.weak (fun q hq h=>⟨.inl hq,by omega⟩)).below v) (a0a w1 _)
 have hX:Cl 96 #[Po B 0,.slice (some (Ad w1.heap.size 0)) 1 1] (w1.alloc (nbx x b cap)) (EX _ _ B ts Fin r _ [x] (.slice (some (Ad w1.heap.size 0)) 1 1)):=a5j f hE [x] (some (Ad w1.heap.size 0)) 1 (fun q=>(D q/\q<w.heap.size)\/w.heap.size+1<q) r Fin _ B ts (i+1) false _ hF (z4.below v) u (fun q hq=>by rcases hq with hq|hq;exact hD q hq.1;omega) (fun q e=>by have:=a4y e;omega) (by simp) (.inr ⟨rfl,hP⟩)
 have q4:=q0z v p4
 have c:=((a0b.of_below (S:=fun q=>q=B) s).trans z).trans (a0b.of_below v)
 clear hP a hx n u h3 h4 p3 p4 c0 c1 c2 c3 f0 f1 f2 f3
 refine Lib.hid ?_
 go_wp2_with (first|(go_at_call 96;refine hX.mono ?_;rintro e w3 ⟨⟨ks,b3,y7,j,y3,rfl,p,z5,y8,y9,z2⟩,d⟩;have z1:=c0h (G:=fun ks l=>need S.rb l fun l=>g (nd 20 ks) l) z2;have z8:=d.box q4 (by rintro(e|e);omega;have:=a4y e.symm;omega))|(go_at_call 42;refine(a2o (by decide) hF z1 _ z5).mono ?_;rintro e w4 ⟨rfl,j2,y6,z6,t,z9⟩;have o:=t.box z8 (by omega);obtain⟨d0,d1,d2,d3,e0,e1,e2,e3⟩:=in4 o))
 have y4:=c.size
 have y5:=q5z q4
 have z3:=(p.keep t (fun q hq _ e=>by subst e;rcases hq with(hq|hq)|hq;exact hD q hq.1 rfl;omega;omega)).node 20 [] 0
 refine bodyPost_ret (b4t rfl (a0c _ _ _ _ o)) rfl ?_
 refine a1a (x:=nd 20 ks) (z3.weak (fun q hq _=>?_)) z6 ((c.then d (fun q hq e=>?_)).trans t) (by omega) z0 z9
 ·rcases hq with(hq|hq)|hq
  ·exact⟨.inl hq.1,by omega⟩
  ·exact⟨.inr (by omega),by omega⟩
  ·exact⟨.inr (by omega),by omega⟩
 ·rcases e with e|e
  ·exact e
  ·have:=a4y e.symm;have:=z.size;omega
def EatU (w:World) (B:Nat) (ts:List Tok) (i:Nat) (bad:Bool) (s:List UInt8) (e:Ending) (w':World):Prop :=
 ∃y j,e=.returned (.bool y)/\Dr w' B ts j bad/\a0b (fun k=>k=B) w w'/\((y=true/\bad=false/\tx (rest ts i)=s/\j=i+1)\/(y=false/\¬txd ts i bad=s/\j=i))
theorem b6v(B:Nat)(ts:List Tok)(i:Nat)(bad:Bool)(s:List UInt8)(hs:s≠[])(w:World)(hR:Dr w B ts i bad):Cl 45 #[Po B 0,sk s] w (EatU w B ts i bad s):=by
 by_cases h:txd ts i bad=s
 ·obtain⟨rfl,v⟩:=b7u h hs
  refine(a2k B ts i false s h v w hR).mono ?_
  rintro e w1 ⟨rfl,y,z⟩
  exact⟨true,i+1,rfl,y,z,.inl ⟨rfl,rfl,h,rfl⟩⟩
 ·refine(a0o B ts i bad s h w hR).mono ?_
  rintro e w1 ⟨rfl,x⟩
  exact⟨false,i,rfl,hR.below x,a0b.of_below x,.inr ⟨rfl,h,rfl⟩⟩
def AI (D:Nat->Prop) (f:Nat) (w:World) (B:Nat) (ts:List Tok) (Fin:Nat->Prop) (r:PRes) (g:Nd->List PT->PR) (k:Nat) (lv mv:Value) (wr:World):Prop :=
 ∃(ks:List Nd) (b:Option Addr) (cap j:Nat) (bad more:Bool),lv=.slice b ks.length cap/\mv=.bool more/\Row (fun q=>(D q/\q<w.heap.size)\/w.heap.size+1<q) wr (.slice b ks.length cap) ks/\(∀q,Value.ownBlock (.slice b ks.length cap)=some q->w.heap.size+1<q)/\wr.heap[w.heap.size+1]?=some zbx/\Dr wr B ts j bad/\a0b (fun k=>k=B) w wr/\k<=f/\ks.length+k<=f+1 /\
  ((bad=true/\Fin j)\/(bad=false/\if more then (P k 6 (nd 21 ks) 0 (rest ts j)).on g=some r else need S.rp (rest ts j) (fun l=>g (nd 21 ks) l)=some r))
theorem c8u(f:Nat)(hf:f<=90000)(hE:∀k,k<=f->DRow k)(x:Nd)(b:Option Addr)(cap:Nat)(D:Nat->Prop)(r:PRes)(Fin:Nat->Prop)(g:Nd->List PT->PR)(B:Nat)(ts:List Tok)(i:Nat)(w:World)(hF:a1y ts Fin r)(hR:Dr w B ts i false)(hx:NdV D w x (ndv x b cap))(hD:∀q,D q->q≠B)(hn:¬tx (rest ts i)=S.lb)(hP:need S.lp (rest ts i) (fun l=>if tx l=S.rp then g (nd 21 [x]) l.tail else (P f 6 (nd 21 [x]) 0 l).on g)=some r):Cl 118 #[Po B 0,ndv x b cap] w (NA D w B ts Fin r g):=by
 obtain⟨h3,h4⟩:=new2 w (nbx x b cap) zbx
 have hb0:=a6g w (nbx x b cap) zbx
 have hBw:=hR.lt
 have hTn:=a0o B ts i false S.lb hn _ (hR.below hb0)
 have hM:=fun u (h:Dr u B ts i false)=>a2o (s:=S.lp) (by decide) hF (.inr ⟨rfl,hP⟩) u h
 go_enter Tryz.func118,Tryz.ntmps118
 go_wp2_with (first|(go_at_call 45;refine hTn.mono ?_;rintro e w1 ⟨rfl,hb1⟩;have hR1:=(hR.below hb0).below hb1)|(go_at_call 42;refine(hM _ hR1).mono ?_;rintro e w2 ⟨rfl,j,bad,hR2,hk2,hFl⟩;refine Hid.out ?_))
 have p3:=hk2.box (q0z hb1 h3) (by omega)
 have p4:=hk2.box (q0z hb1 h4) (by omega)
 have hz2:=q5z p4
 have hkw:=((a0b.of_below (S:=fun q=>q=B) hb0).trans (a0b.of_below hb1)).trans hk2
 have hx2:NdV (fun q=>D q/\q<w.heap.size) w2 x (ndv x b cap):=(((hx.weak (S':=fun q=>D q/\q<w.heap.size) (fun q hq hlt=>⟨hq,hlt⟩)).below hb0).below hb1).keep hk2 (fun q hq _=>hD q hq.1)
 have hb3:=q1z (Below.refl w2.heap.size w2) (nbx x b cap)
 have hRow:=Row.one (S:=fun q=>(D q/\q<w.heap.size)\/w.heap.size+1<q) (W:=w2.alloc (nbx x b cap)) (g:=w2.heap.size) (.inr hz2) ((hx2.weak (fun q hq hlt=>⟨.inl hq,by omega⟩)).below hb3) (a0a w2 _)
 have hR3:=hR2.below hb3
 have q4:=q0z hb3 p4
 have hkw3:=hkw.trans (a0b.of_below hb3)
 have hEt:=b6v B ts j bad S.rp (by decide) _ hR3
 obtain⟨c0,c1,c2,c3,f0,f1,f2,f3⟩:=in4 p3
 have hown0:∀q,Value.ownBlock (.slice (some (Ad w2.heap.size 0)) 1 1)=some q->w.heap.size+1<q:=fun q e=>by have:=a4y e;omega
 clear hM hTn hP hx hx2 hR2 hk2 h3 h4 hR1 hb1 hn
 refine Lib.hid ?_
 go_wp2_with (go_at_call 45;refine Hid.out ?_)
 obtain⟨W3,hW3⟩:=exq (w2.alloc (nbx x b cap))
 obtain⟨g1,hg1⟩:=exq (w2.heap.size)
 rw[hW3]at hRow hR3 q4 hkw3 hEt
 rw[hg1]at hRow hown0 hz2
 replace hW3:w2.alloc (.cells #[vi x.k,sk x.t,vi x.n,.slice b x.kids.length cap] 34)=W3:=hW3
 rw[hW3,hg1]
 clear hW3 hg1 hkw hb3 p3 p4 c0 c1 c2 c3 f0 f1 f2 f3
 replace hFl:Hid _:=hFl
 refine Lib.hid ?_
 refine hEt.mono ?_
 rintro e w4 ⟨y,j4,rfl,hR4,hk4,hY⟩
 have q44:=hk4.box q4 (by omega)
 have hRow4:=hRow.keep hk4 (fun q hq _ e=>by subst e;rcases hq with hq|hq;exact hD q hq.1 rfl;omega)
 have hkw4:=hkw3.trans hk4
 obtain⟨d0,d1,d2,d3,e0,e1,e2,e3⟩:=in4 q44
 clear hEt hRow hR3 q4 hkw3 hk4
 cases y with
 | true =>
  have hFl4:Hid (Fl ts Fin r j4 bad (g (nd 21 [x]))):=by
   rcases hY with⟨_,h1,h2,rfl⟩|⟨h,_⟩
   ·rcases hFl.out with⟨h0,_⟩|⟨_,h3⟩
    ·rw[h1]at h0;cases h0
    ·dsimp only at h3
     rw[if_pos h2,a0g]at h3
     exact .inr ⟨h1,h3⟩
   ·cases h
  clear hFl hY hE
  go_wp2
  refine bodyPost_ret (b4t rfl (a0c _ _ _ _ q44)) rfl ?_
  refine a1a (x:=nd 21 [x]) ((hRow4.node 21 [] 0).weak (fun q hq _=>?_)) hR4 hkw4 (by omega) hBw hFl4.out
  rcases hq with hq|hq
  ·exact⟨.inl hq.1,by omega⟩
  ·exact⟨.inr (by omega),by omega⟩
 | false =>
  have hI:AI D f w B ts Fin r g f (.slice (some (Ad g1 0)) 1 1) (.bool true) w4:=by
   refine⟨[x],_,1,j4,bad,true,rfl,rfl,hRow4,hown0,q44,hR4,hkw4,Nat.le_refl _,by simp;omega,?_⟩
   rcases hY with⟨h,_⟩|⟨_,h2,rfl⟩
   ·cases h
   ·rcases hFl.out with h0|⟨h1,h3⟩
    ·exact .inl h0
    ·dsimp only at h3
     rw[if_neg (by subst h1;exact h2)]at h3
     exact .inr ⟨h1,by rw[if_pos rfl];exact h3⟩
  clear hFl hY hRow4 hown0 q44 hR4 hkw4 d0 d1 d2 d3 e0 e1 e2 e3
  go_wp2
  go_loopg [6,7] f (fun k lv mv wr=>AI D f w B ts Fin r g k lv mv wr)
  case atStart=>exact hI
  case round =>
   obtain⟨ks,b1,cap1,j,bad,more,rfl,rfl,hRow,hown,p4,hR1,hk,hgf,hle,hst⟩:=hrel
   clear hI
   have hz2:=q5z p4
   obtain⟨d0,d1,d2,d3,e0,e1,e2,e3⟩:=in4 p4
   obtain⟨b',cap',s0,s1,s2,v1,v2⟩:=hR1.cells
   have close:∀(hFl:Fl ts Fin r j bad (fun l=>need S.rp l fun l=>g (nd 21 ks) l)),Cl 42 #[Po B 0,sk S.rp] wr (DU wr B ts Fin r (g (nd 21 ks))):=fun hFl=>a2o (s:=S.rp) (by decide) hF hFl wr hR1
   by_cases hgo:bad=false/\more=true
   ·obtain⟨rfl,rfl⟩:=hgo
    rcases hst with⟨h,_⟩|⟨_,hst⟩
    ·cases h
    rw[if_pos rfl]at hst
    cases gk with
    | zero=>cases hst
    | succ k =>
    rw[P,a4h]at hst
    have hX:=a5j k (hE k (by omega)) ks b1 cap1 (fun q=>(D q/\q<w.heap.size)\/w.heap.size+1<q) r Fin (fun y l=>(if tx l=S.cm then P k 6 (nd 21 (ks++[y])) 0 l.tail else need S.rp l fun l=>.ok (nd 21 (ks++[y])) l).on g) B ts j false wr hF hR1 hRow (fun q hq=>by rcases hq with hq|hq;exact hD q hq.1;omega) (fun q e=>by have:=hown q e;omega) (by omega) (.inr ⟨rfl,hst⟩)
    have hzw:=hk.size
    clear hst close hE
    go_wp2_with (first|(go_at_call 96;refine hX.mono ?_;rintro e w3 ⟨⟨ks3,b3,cap3,j3,bad3,rfl,hRow3,hR3,hlen3,hown3,hFx⟩,hk3⟩)|(go_at_call 45;refine(b6v B ts j3 bad3 S.cm (by decide) _ hR3).mono ?_;rintro e w5 ⟨y,j5,rfl,hR5,hk5,hY⟩))
    have hFl:=c0h (G:=fun ks l=>(if tx l=S.cm then P k 6 (nd 21 ks) 0 l.tail else need S.rp l fun l=>.ok (nd 21 ks) l).on g) hFx
    have q4:=hk5.box (hk3.box p4 (by rintro(e|e);omega;have:=hown _ e.symm;omega)) (by omega)
    have hRow5:Row (fun q=>(D q/\q<w.heap.size)\/w.heap.size+1<q) w5 (.slice b3 ks3.length cap3) ks3:=(hRow3.keep hk5 (fun q hq _ e=>by subst e;rcases hq with(hq|hq)|hq;exact hD q hq.1 rfl;omega;omega)).weak (fun q hq _=>by rcases hq with hq|hq;exact hq;exact .inr (by omega))
    have hkw5:=(hk.then hk3 (fun q hq e=>by rcases e with e|e;exact e;have:=hown q e.symm;omega)).trans hk5
    go_roundg k
    case measure=>omega
    case rel =>
     refine⟨ks3,b3,cap3,j5,bad3,y,rfl,rfl,hRow5,fun q e=>?_,q4,hR5,hkw5,by omega,by omega,?_⟩
     ·rcases hown3 q e with e|e
      ·exact hown q e.symm
      ·omega
     ·rcases hFl with⟨rfl,h⟩|⟨rfl,h⟩
      ·rcases hY with⟨_,h1,_⟩|⟨_,_,rfl⟩
       ·cases h1
       ·exact .inl ⟨rfl,h⟩
      ·refine .inr ⟨rfl,?_⟩
       dsimp only at h
       rcases hY with⟨rfl,_,h2,rfl⟩|⟨rfl,h2,rfl⟩
       ·rw[if_pos h2,a0g]at h
        rw[if_pos rfl]
        exact h
       ·rw[if_neg (show ¬tx (rest ts j5)=S.cm from h2),a3c]at h
        rw[if_neg (by decide)]
        exact h
   ·have hFl:Fl ts Fin r j bad (fun l=>need S.rp l fun l=>g (nd 21 ks) l):=by
     rcases hst with h|⟨h1,h2⟩
     ·exact .inl h
     ·have:more=false:=by cases more with|false=>rfl|true=>exact absurd ⟨h1,rfl⟩ hgo
      subst this
      rw[if_neg (by decide)]at h2
      exact .inr ⟨h1,h2⟩
    have hc:=close hFl
    have hNk:=hRow.node 21 [] 0
    have hcl:∀(w5:World) (h:DU wr B ts Fin r (g (nd 21 ks)) (.returned (.tuple #[])) w5),NA D w B ts Fin r g (.returned (ndv (nd 21 ks) b1 cap1)) (put4 w5 (w.heap.size+1) (vi 21) (sk []) (vi 0) (.slice b1 ks.length cap1)):=by
     rintro w5 ⟨_,j2,bad2,hR5,hk5,hFl5⟩
     refine a1a (x:=nd 21 ks) ((hNk.keep hk5 (fun q hq _ e=>by subst e;rcases hq with hq|hq;exact hD q hq.1 rfl;omega)).weak (fun q hq _=>?_)) hR5 (hk.trans hk5) (by omega) hBw hFl5
     rcases hq with hq|hq
     ·exact⟨.inl hq.1,by omega⟩
     ·exact⟨.inr (by omega),by omega⟩
    cases bad with
    | true =>
     cases more with
     | true =>
      go_wp2_with (go_at_call 42;refine hc.mono ?_;rintro e w5 hDU;have he:=hDU.1;subst he;have q4:w5.heap[w.heap.size+1]?=some zbx:=(by obtain⟨_,_,_,_,hk5,_⟩:=hDU;exact hk5.box p4 (by omega));obtain⟨d0,d1,d2,d3,e0,e1,e2,e3⟩:=in4 q4)
      exact bodyPost_ret (b4t rfl (a0c _ _ _ _ q4)) rfl (hcl w5 hDU)
     | false =>
      go_wp2_with (go_at_call 42;refine hc.mono ?_;rintro e w5 hDU;have he:=hDU.1;subst he;have q4:w5.heap[w.heap.size+1]?=some zbx:=(by obtain⟨_,_,_,_,hk5,_⟩:=hDU;exact hk5.box p4 (by omega));obtain⟨d0,d1,d2,d3,e0,e1,e2,e3⟩:=in4 q4)
      exact bodyPost_ret (b4t rfl (a0c _ _ _ _ q4)) rfl (hcl w5 hDU)
    | false =>
     cases more with
     | true=>exact absurd ⟨rfl,rfl⟩ hgo
     | false =>
      go_wp2_with (go_at_call 42;refine hc.mono ?_;rintro e w5 hDU;have he:=hDU.1;subst he;have q4:w5.heap[w.heap.size+1]?=some zbx:=(by obtain⟨_,_,_,_,hk5,_⟩:=hDU;exact hk5.box p4 (by omega));obtain⟨d0,d1,d2,d3,e0,e1,e2,e3⟩:=in4 q4)
      exact bodyPost_ret (b4t rfl (a0c _ _ _ _ q4)) rfl (hcl w5 hDU)
theorem c4w(f:Nat)(hf:f<=90000)(hE:∀k,k<=f->DRow k):DBeh (f+1):=by
 intro x b cap D r y g B ts i w t u v s z
 rw[P,a2f]at z
 split at z
 ·rename_i h
  rw[a4h,a0g]at z
  refine d6n f (hE f (Nat.le_refl _)) x b cap D r y g B ts i w t u v s h ?_
  simp only[a3c,ok_on]at z
  exact z
 ·rename_i h
  rw[a3c]at z
  refine c8u f hf hE x b cap D r y g B ts i w t u v s h ?_
  simp only[a2f,ok_on]at z
  exact z
structure NS (w:World) (B t:Nat) (ts:List Tok) (W:World) (x:Nd) (b:Option Addr) (cap j:Nat) (bad:Bool):Prop where
 g:W.heap[t]?=some (nbx x b cap)
 z:W.heap[w.heap.size]?=some zbx
 row:Row (fun q=>t<q) W (.slice b x.kids.length cap) x.kids
 R:Dr W B ts j bad
 K:a0b (fun q=>q=B) w W
 lt:w.heap.size<t
 hB:B<w.heap.size
theorem NS.own{W:World}(h:NS w B t ts W x b cap j bad):∀q,Value.ownBlock (.slice b x.kids.length cap)=some q->t<q/\q<W.heap.size:=by
 obtain⟨_,_,_,z⟩:=h.row.form
 exact z
theorem NS.on{W:World}(h:NS w B t ts W x b cap j bad)(hk:a0b (fun q=>q=B) W W')(hR:Dr W' B ts j' bad'):NS w B t ts W' x b cap j' bad':=by
 have h1:=h.lt
 have h2:=h.hB
 exact⟨hk.box h.g (by omega),hk.box h.z (by omega),h.row.keep hk (fun q hq _ e=>by omega),hR,h.K.trans hk,h1,h2⟩
theorem NS.below{W:World}(h:NS w B t ts W x b cap j bad)(hb:Bw W W'):NS w B t ts W' x b cap j bad:=h.on (a0b.of_below hb) (h.R.below hb)
theorem NS.new{i:Nat}(x:Nd)(hx:x.kids=[])(hR:Dr w B ts i bad):NS w B (w.heap.size+1) ts ((w.alloc zbx).alloc (nbx x none 0)) x none 0 i bad:=by
 obtain⟨h1,h2⟩:=new2 w zbx (nbx x none 0)
 refine⟨h2,h1,by rw[hx];exact Row.nil _ _,hR.below (a6g _ _ _),a0b.of_below (a6g _ _ _),by omega,hR.lt⟩
theorem NS.kind{W:World}{k0 n:Int}(h:NS w B t ts W ⟨k0,s,n,ks⟩ b cap j bad)(k:Int):NS w B t ts (W.setCell (Ad t 0) (vi k)) ⟨k,s,n,ks⟩ b cap j bad:=by
 have h1:=h.lt
 have h2:=h.hB
 have y:a0b (fun q=>q=t) W (W.setCell (Ad t 0) (vi k)):=(a0b.refl _ _).set t 0 _ (fun _=>rfl)
 exact⟨q7z _ h.g,y.box h.z (by omega),h.row.keep y (fun q hq _ e=>by omega),h.R.keep y (fun q hq e=>by omega),h.K.then y (fun q hq e=>by omega),h1,h2⟩
theorem NS.put{W:World}(h:NS w B t ts W x b cap j bad)(k n:Int)(s:List UInt8):NS w B t ts (put4 W t (vi k) (sk s) (vi n) (.slice none 0 0)) ⟨k,s,n,[]⟩ none 0 j bad:=by
 have h1:=h.lt
 have h2:=h.hB
 have y:=a1o W t (vi k) (sk s) (vi n) (.slice none 0 0)
 exact⟨a0c _ _ _ _ h.g,y.box h.z (by omega),Row.nil _ _,h.R.keep y (fun q hq e=>by omega),h.K.then y (fun q hq e=>by omega),h1,h2⟩
theorem NS.mid{W:World}(h:NS w B t ts W x b cap j bad)(hk:a0b (fun q=>q=B\/some q=Value.ownBlock (.slice b x.kids.length cap)) W wa):wa.heap[t]?=some (nbx x b cap):=by
 have h1:=h.lt
 have h2:=h.hB
 exact hk.box h.g (by rintro(e|e);omega;have:=(h.own _ e.symm).1;omega)
theorem NS.grow{W:World}{n:Int}(h:NS w B t ts W ⟨k,s,n,ks⟩ b cap j bad){ks1:List Nd}{j1:Nat}{bad1:Bool}(hRow:Row (fun q=>t<q\/W.heap.size<=q) wa (.slice b1 ks1.length cap1) ks1)(hR:Dr wa B ts j1 bad1)(hk:a0b (fun q=>q=B\/some q=Value.ownBlock (.slice b ks.length cap)) W wa):NS w B t ts (wa.setCell (Ad t 3) (.slice b1 ks1.length cap1)) ⟨k,s,n,ks1⟩ b1 cap1 j1 bad1:=by
 have h1:=h.lt
 have h2:=h.hB
 have h3:=q5z h.g
 have h4:=h.K.size
 have y:a0b (fun q=>q=t) wa (wa.setCell (Ad t 3) (.slice b1 ks1.length cap1)):=(a0b.refl _ _).set t 3 _ (fun _=>rfl)
 have x:=hk.box h.z (by rintro(e|e);omega;have:=(h.own _ e.symm).1;omega)
 refine⟨q7z _ (h.mid hk),y.box x (by omega),(hRow.weak (fun q hq _=>by rcases hq with hq|hq;exact hq;omega)).keep y (fun q hq _ e=>by omega),hR.keep y (fun q hq e=>by omega),?_,h1,h2⟩
 exact(h.K.then hk (fun q hq e=>by rcases e with e|e;exact e;have:=(h.own q e.symm).1;omega)).then y (fun q hq e=>by omega)
theorem NS.close{W:World}(h:NS w B t ts W x b cap j bad)(hFl:Fl ts Fin r j bad (g x)):NA no w B ts Fin r g (.returned (ndv x b cap)) (put4 W w.heap.size (vi x.k) (sk x.t) (vi x.n) (.slice b x.kids.length cap)):=by
 have h1:=h.lt
 have z:NdV (fun q=>t<q) W x (ndv x b cap):=by
  obtain⟨k,s,n,ks⟩:=x
  exact h.row.node k s n
 exact a1a (z.weak (fun q hq _=>⟨.inr (by omega),by omega⟩)) h.R h.K (Nat.le_refl _) h.hB hFl
theorem NS.app{W w3 W4:World}{n:Int}(h:NS w B t ts W ⟨k,s,n,ks⟩ b cap j bad){y:Nd}{xs:List Value}{g cap3:Nat}(ho:W.ownsRow 0 34 4 (.slice b ks.length cap) ks.length xs)(hn:∀j y,ks[j]?=some y->NdAt (fun g=>(t<g)/\some g≠Value.ownBlock (.slice b ks.length cap)) W y (fun i=>if i<4 then xs[j*4+i]? else none))(hy:NdV (fun q=>t<q/\some q≠Value.ownBlock (.slice b ks.length cap)) W y (ndv y b1 cap1))(hown:w3.ownsRow 0 34 4 (.slice (some (Ad g 0)) (ks.length+1) cap3) (ks.length+1) (xs++[vi y.k,sk y.t,vi y.n,.slice b1 y.kids.length cap1]))(hgrow:W.grownBy w3 (Value.ownBlock (.slice b ks.length cap)))(hat:Value.ownBlock (.slice b ks.length cap)=some g\/g=W.heap.size)(hW4:w3.setCell (Ad t 3) (.slice (some (Ad g 0)) (ks.length+1) cap3)=W4):NS w B t ts W4 ⟨k,s,n,ks++[y]⟩ (some (Ad g 0)) cap3 j bad:=by
 have h1:=h.lt
 have h2:=h.hB
 have h3:=q5z h.g
 have h4:=h.K.size
 obtain⟨v,u,x,_⟩:=a2y (lo:=0) ho (fun q e=>(h.own q e).1) hn hy (fun q hq=>by omega) (fun q hq=>by omega) (fun q e=>Nat.zero_le _) (Nat.zero_le _) h.g hown hgrow hat hW4
 refine⟨u,x.box h.z ?_,v,h.R.keep x ?_,h.K.then x ?_,h1,h2⟩
 ·rintro(e|e)
  ·omega
  ·have:=(h.own _ e.symm).1;omega
 ·intro q hq e
  rcases e with e|e
  ·omega
  ·have:=(h.own _ e.symm).1;omega
 ·intro q hq e
  rcases e with e|e
  ·omega
  ·have:=(h.own _ e.symm).1;omega
theorem NS.ready{W:World}(h:NS w B t ts W x b cap j bad):∃z,W.ownsRow 0 34 4 (.slice b x.kids.length cap) x.kids.length z/\(∀j y,x.kids[j]?=some y->NdAt (fun g=>(t<g)/\some g≠Value.ownBlock (.slice b x.kids.length cap)) W y (fun i=>if i<4 then z[j*4+i]? else none)):=by
 obtain⟨z,v,_,hn⟩:=h.row.own
 exact⟨z,v,hn⟩
theorem NS.must{W:World}(h:NS w B t ts W x b cap j bad)(hs:s≠[])(hF:a1y ts Fin r)(hP:Fl ts Fin r j bad (fun l=>need s l G)):Cl 42 #[Po B 0,sk s] W (fun e W'=>e=.returned (.tuple #[])/\∃y z,NS w B t ts W' x b cap y z/\Fl ts Fin r y z G):=by
 refine(a2o hs hF hP W h.R).mono ?_
 rintro e W' ⟨rfl,y,z,q,u,v⟩
 exact⟨rfl,y,z,h.on u q,v⟩
theorem NS.name{W:World}(h:NS w B t ts W x b cap j bad)(hF:a1y ts Fin r){G:List UInt8->List PT->PR}(hP:Fl ts Fin r j bad (fun l=>a0n l G)):Cl 43 #[Po B 0] W (fun e W'=>∃s y z,e=.returned (sk s)/\NS w B t ts W' x b cap y z/\Fl ts Fin r y z (G s)):=by
 refine(b2o hF hP W h.R).mono ?_
 rintro e W' ⟨s,y,z,rfl,q,u,v⟩
 exact⟨s,y,z,rfl,h.on u q,v⟩
theorem NS.eat{W:World}(h:NS w B t ts W x b cap j bad)(s:List UInt8)(hs:s≠[]):Cl 45 #[Po B 0,sk s] W (fun e W'=>∃y z,e=.returned (.bool y)/\NS w B t ts W' x b cap z bad/\((y=true/\bad=false/\tx (rest ts j)=s/\z=j+1)\/(y=false/\¬txd ts j bad=s/\z=j))):=by
 refine(b6v B ts j bad s hs W h.R).mono ?_
 rintro e W' ⟨y,z,rfl,r,v,u⟩
 exact⟨y,z,rfl,h.on v r,u⟩
theorem NS.exprs{W:World}{n:Int}(h:NS w B t ts W ⟨k,s,n,ks⟩ b cap j bad)(hE:DRow f)(hF:a1y ts Fin r)(hlen:ks.length<=100000)(G:List Nd->List PT->PR)(hP:Fl ts Fin r j bad (fun l=>(P f 0 nil0 0 l).on (fun x l=>G (ks++[x]) l))):Cl 96 #[Po B 0,.slice b ks.length cap] W (fun e wa=>∃y p z j1 v,e=.returned (.slice p y.length z)/\y.length<=ks.length+1/\wa.heap[t]?=some (nbx ⟨k,s,n,ks⟩ b cap)/\NS w B t ts (wa.setCell (Ad t 3) (.slice p y.length z)) ⟨k,s,n,y⟩ p z j1 v/\Fl ts Fin r j1 v (fun l=>G y l)):=by
 have h1:=h.lt
 have h2:=h.hB
 refine(a5j f hE ks b cap (fun q=>t<q) r Fin _ B ts j bad W hF h.R h.row (fun q hq=>by omega) (fun q e=>by have:=(h.own q e).1;omega) hlen hP).mono ?_
 rintro e wa ⟨⟨y,p,z,j1,v,rfl,u,d,g,_,o⟩,i⟩
 exact⟨y,p,z,j1,v,rfl,g,h.mid i,h.grow u d i,c0h o⟩
theorem NS.block{W:World}(h:NS w B t ts W x b cap j bad)(hK:DBlk f)(hF:a1y ts Fin r)(G:Nd->List PT->PR)(hP:Fl ts Fin r j bad (fun l=>(P f 7 (nd 4 []) 0 l).on G)):Cl 46 #[Po B 0] W (fun e W'=>∃y u z j1 v,e=.returned (ndv y u z)/\NS w B t ts W' x b cap j1 v/\NdV (fun q=>t<q/\some q≠Value.ownBlock (.slice b x.kids.length cap)) W' y (ndv y u z)/\Fl ts Fin r j1 v (G y)):=by
 have h3:=q5z h.g
 refine(hK r Fin G B ts j bad W hF h.R hP).mono ?_
 rintro e W' ⟨y,u,z,j1,v,rfl,n,o,p,s⟩
 refine⟨y,u,z,j1,v,rfl,h.on p o,n.weak (fun q hq _=>?_),s⟩
 have:=hq.resolve_left id
 exact⟨by omega,fun e=>by have:=(h.own q e.symm).2;omega⟩
structure NT (w:World) (B t:Nat) (ts:List Tok) (W:World) (x:Nd) (b:Option Addr) (cap j:Nat) (bad:Bool):Prop where
 g:W.heap[t]?=some (nbx x b cap)
 z:W.heap[w.heap.size]?=some zbx
 nd:NdV (fun q=>t<q) W x (ndv x b cap)
 R:Dr W B ts j bad
 K:a0b (fun q=>q=B) w W
 lt:w.heap.size<t
 hB:B<w.heap.size
theorem NT.on{W:World}(h:NT w B t ts W x b cap j bad)(hk:a0b (fun q=>q=B) W W')(hR:Dr W' B ts j' bad'):NT w B t ts W' x b cap j' bad':=by
 have h1:=h.lt
 have h2:=h.hB
 exact⟨hk.box h.g (by omega),hk.box h.z (by omega),h.nd.keep hk (fun q hq _ e=>by omega),hR,h.K.trans hk,h1,h2⟩
theorem NT.close{W:World}(h:NT w B t ts W x b cap j bad)(hFl:Fl ts Fin r j bad (g x)):NA no w B ts Fin r g (.returned (ndv x b cap)) (put4 W w.heap.size (vi x.k) (sk x.t) (vi x.n) (.slice b x.kids.length cap)):=by
 have h1:=h.lt
 exact a1a (h.nd.weak (fun q hq _=>⟨.inr (by omega),by omega⟩)) h.R h.K (Nat.le_refl _) h.hB hFl
theorem NT.must{W:World}(h:NT w B t ts W x b cap j bad)(hs:s≠[])(hF:a1y ts Fin r)(hP:Fl ts Fin r j bad (fun l=>need s l G)):Cl 42 #[Po B 0,sk s] W (fun e W'=>e=.returned (.tuple #[])/\∃y z,NT w B t ts W' x b cap y z/\Fl ts Fin r y z G):=by
 refine(a2o hs hF hP W h.R).mono ?_
 rintro e W' ⟨rfl,y,z,q,u,v⟩
 exact⟨rfl,y,z,h.on u q,v⟩
theorem NT.put{W:World}{A0 A1 A2 A3:Value}(hg:W.heap[t]?=some (.cells #[A0,A1,A2,A3] 34))(hz:W.heap[w.heap.size]?=some zbx)(hN:NdV (fun q=>t<q) W x (ndv x b cap))(hR:Dr W B ts j bad)(hK:a0b (fun q=>q=B) w W)(h1:w.heap.size<t)(h2:B<w.heap.size):NT w B t ts (put4 W t (vi x.k) (sk x.t) (vi x.n) (.slice b x.kids.length cap)) x b cap j bad:=by
 have z:=a1o W t (vi x.k) (sk x.t) (vi x.n) (.slice b x.kids.length cap)
 exact⟨a0c _ _ _ _ hg,z.box hz (by omega),hN.keep z (fun q hq _ e=>by omega),hR.keep z (fun q hq e=>by omega),hK.then z (fun q hq e=>by omega),h1,h2⟩
theorem NS.loop{V:World}(h:NS w B t ts V ⟨k,s,0,ks⟩ b cap j bad)(hK:DBlk f)(hF:a1y ts Fin r)(hlen:ks.length<=100000)(G:List Nd->List PT->PR)(hP:Fl ts Fin r j bad (fun l=>need W.do_ l fun l=>(P f 7 (nd 4 []) 0 l).on fun bk l=>need W.end_ l fun l=>G (ks++[bk]) l)):Cl 97 #[Po B 0,ndv ⟨k,s,0,ks⟩ b cap] V (fun e wa=>∃x u y j1 v,e=.returned (ndv ⟨k,s,0,x⟩ u y)/\wa.heap[t]?=some (nbx ⟨k,s,0,ks⟩ b cap)/\NT w B t ts (put4 wa t (vi k) (sk s) (vi 0) (.slice u x.length y)) ⟨k,s,0,x⟩ u y j1 v/\Fl ts Fin r j1 v (G x)):=by
 have h1:=h.lt
 have h2:=h.hB
 have h3:=q5z h.g
 refine(c8t f hK k s ks b cap (fun q=>t<q) r Fin G B ts j bad V hF h.R h.row (fun q hq=>by omega) (fun q e=>by have:=(h.own q e).1;omega) hlen hP).mono ?_
 rintro e wa ⟨x,u,y,j1,v,rfl,hN,hR,o,i⟩
 have c:=o.box h.z (by rintro(e|e);omega;have:=(h.own _ e.symm).1;omega)
 have p:=h.K.then o (fun q hq e=>by rcases e with e|e;exact e;have:=(h.own q e.symm).1;omega)
 have d:=h.mid o
 have n:NdV (fun q=>t<q) wa ⟨k,s,0,x⟩ (ndv ⟨k,s,0,x⟩ u y):=hN.weak (fun q hq _=>by rcases hq with hq|hq;exact hq;omega)
 have a:=NT.put d c n hR p h1 h2
 exact⟨x,u,y,j1,v,rfl,d,a,i⟩
def DSim (f:Nat):Prop:=∀(r:PRes) (Fin:Nat->Prop) (g:Nd->List PT->PR) (B:Nat) (ts:List Tok) (i:Nat) (w:World),a1y ts Fin r->Dr w B ts i false->a0n (rest ts i) (fun s l=>(P f 9 ⟨18,s,0,[]⟩ 0 l).on g)=some r->Cl 98 #[Po B 0] w (NA no w B ts Fin r g)
theorem b4u{W:World}{b:Value}(h:tm[2]?.getD undef=Po B 0)(hx:W.heap[B]?=some (.cells #[a,b,c,d] 34)):(results Tryz.f73 tm).run Tryz.prog W=.ok (.agg #[a,b,c,d]) W:=by
 obtain⟨c0,c1,c2,c3,_,_,_,_⟩:=in4 hx
 simp[results,Tryz.results73,go_sem,h,c0,c1,c2,c3]
theorem c8v(f:Nat)(hE:DRow f)(r:PRes)(Fin:Nat->Prop)(g:Nd->List PT->PR)(B:Nat)(ts:List Tok)(i:Nat)(w:World)(hF:a1y ts Fin r)(hR:Dr w B ts i false)(hy:tx (rest ts i)=W.local_)(hP:(a0n (rest ts (i+1)) (fun s l=>need S.eq l fun l=>(P f 0 nil0 0 l).on fun x l=>need S.sc l fun l=>g ⟨5,s,0,[]++[x]⟩ l))=some r):Cl 73 #[Po B 0] w (NA no w B ts Fin r g):=by
 have y:=NS.new nil0 rfl hR
 have z0:=hR.lt
 obtain⟨U,hU⟩:=exq ((w.alloc zbx).alloc (nbx nil0 none 0))
 rw[hU]at y
 replace hU:(w.alloc (.cells #[vi 0,.string ⟨#[]⟩,vi 0,.slice none 0 0] 34)).alloc (.cells #[vi 0,.string ⟨#[]⟩,vi 0,.slice none 0 0] 34)=U:=hU
 obtain⟨c0,c1,c2,c3,f0,f1,f2,f3⟩:=in4 y.g
 replace y:=y.put 0 0 []
 obtain⟨V,o⟩:=exq (put4 U (w.heap.size+1) (vi 0) (sk []) (vi 0) (.slice none 0 0))
 rw[o]at y
 replace o:(((U.setCell (Ad (w.heap.size+1) 0) (vi 0)).setCell (Ad (w.heap.size+1) 1) (.string ⟨#[]⟩)).setCell (Ad (w.heap.size+1) 2) (vi 0)).setCell (Ad (w.heap.size+1) 3) (.slice none 0 0)=V:=o
 have z5:=fun u h=>a2k B ts i false W.local_ hy (a5a hy (by decide)) u h
 go_enter Tryz.func73,Tryz.ntmps73
 go_wp2_with (go_at_call 45;refine Hid.out ?_)
 try rw[o]
 obtain⟨t,ht⟩:=exq (w.heap.size+1)
 rw[ht]at y⊢
 clear hU o ht c0 c1 c2 c3 f0 f1 f2 f3
 refine Lib.hid ?_
 refine(z5 _ y.R).mono ?_
 rintro e w1 ⟨rfl,z4,z6⟩
 replace y:=y.on z6 z4
 obtain⟨c0,c1,c2,c3,f0,f1,f2,f3⟩:=in4 y.g
 go_wp2_with (first|(go_at_call 43;refine(y.name hF (.inr ⟨rfl,hP⟩)).mono ?_;rintro e w2 ⟨s,j0,z9,rfl,d,p⟩;refine Hid.out ?_))
 clear hP
 replace y:=d.put 5 0 s
 obtain⟨c0,c1,c2,c3,f0,f1,f2,f3⟩:=in4 d.g
 obtain⟨wp,v⟩:=exq (put4 w2 t (vi 5) (sk s) (vi 0) (.slice none 0 0))
 rw[v]at y
 replace v:(((w2.setCell (Ad t 0) (vi 5)).setCell (Ad t 1) (.string ⟨s.toArray⟩)).setCell (Ad t 2) (vi 0)).setCell (Ad t 3) (.slice none 0 0)=wp:=v
 refine Lib.hid ?_
 go_wp2_with (first|(go_at_call 42;refine Hid.out ?_))
 try rw[v]
 refine Lib.hid ?_
 clear v
 refine(y.must (s:=S.eq) (by decide) hF p).mono ?_
 rintro e w3 ⟨rfl,j0,z9,y,p⟩
 obtain⟨c0,c1,c2,c3,f0,f1,f2,f3⟩:=in4 y.g
 go_wp2_with (first|(go_at_call 96;refine(y.exprs hE hF (by simp) (fun ks l=>need S.sc l fun l=>g ⟨5,s,0,ks⟩ l) p).mono ?_;rintro e wa ⟨z8,b1,a,j1,z2,rfl,z1,ga,n,b⟩;refine Hid.out ?_))
 obtain⟨wb,z7⟩:=exq (wa.setCell (Ad t 3) (.slice b1 z8.length a))
 rw[z7]at n
 obtain⟨c0,c1,c2,c3,f0,f1,f2,f3⟩:=in4 ga
 refine Lib.hid ?_
 go_wp2_with (first|(go_at_call 42;refine(n.must (s:=S.sc) (by decide) hF b).mono ?_;rintro e w9 ⟨rfl,j2,z3,q,c⟩;obtain⟨c0,c1,c2,c3,f0,f1,f2,f3⟩:=in4 q.g;obtain⟨d0,d1,d2,d3,e0,e1,e2,e3⟩:=in4 q.z))
 refine bodyPost_ret (b4u rfl (a0c _ _ _ _ q.z)) rfl ?_
 exact q.close c
theorem c4x(f:Nat)(hE:DRow f)(r:PRes)(Fin:Nat->Prop)(g:Nd->List PT->PR)(B:Nat)(ts:List Tok)(i:Nat)(w:World)(hF:a1y ts Fin r)(hR:Dr w B ts i false)(hn0:¬tx (rest ts i)=W.local_)(hn1:¬tx (rest ts i)=W.if_)(hn2:¬tx (rest ts i)=W.while_)(hn3:¬tx (rest ts i)=W.for_)(hy:tx (rest ts i)=W.return_)(hP:((P f 0 nil0 0 (rest ts (i+1))).on fun x l=>need S.sc l fun l=>g (nd 11 ([]++[x])) l)=some r):Cl 73 #[Po B 0] w (NA no w B ts Fin r g):=by
 have y:=NS.new nil0 rfl hR
 have y6:=hR.lt
 obtain⟨U,a⟩:=exq ((w.alloc zbx).alloc (nbx nil0 none 0))
 rw[a]at y
 replace a:(w.alloc (.cells #[vi 0,.string ⟨#[]⟩,vi 0,.slice none 0 0] 34)).alloc (.cells #[vi 0,.string ⟨#[]⟩,vi 0,.slice none 0 0] 34)=U:=a
 obtain⟨c0,c1,c2,c3,f0,f1,f2,f3⟩:=in4 y.g
 replace y:=y.put 0 0 []
 obtain⟨V,o⟩:=exq (put4 U (w.heap.size+1) (vi 0) (sk []) (vi 0) (.slice none 0 0))
 rw[o]at y
 replace o:(((U.setCell (Ad (w.heap.size+1) 0) (vi 0)).setCell (Ad (w.heap.size+1) 1) (.string ⟨#[]⟩)).setCell (Ad (w.heap.size+1) 2) (vi 0)).setCell (Ad (w.heap.size+1) 3) (.slice none 0 0)=V:=o
 have z2:=fun u h=>a0o B ts i false W.local_ hn0 u h
 have z3:=fun u h=>a0o B ts i false W.if_ hn1 u h
 have z4:=fun u h=>a0o B ts i false W.while_ hn2 u h
 have z5:=fun u h=>a0o B ts i false W.for_ hn3 u h
 have z6:=fun u h=>a2k B ts i false W.return_ hy (a5a hy (by decide)) u h
 go_enter Tryz.func73,Tryz.ntmps73
 go_wp2_with (go_at_call 45;refine Hid.out ?_)
 try rw[o]
 obtain⟨t,ht⟩:=exq (w.heap.size+1)
 rw[ht]at y⊢
 clear a o ht c0 c1 c2 c3 f0 f1 f2 f3
 refine Lib.hid ?_
 refine(z2 _ y.R).mono ?_
 rintro e w1 ⟨rfl,q⟩
 replace y:=y.below q
 clear q
 go_wp2_with (first|(go_at_call_of 45 (Value.string ⟨#[105,102]⟩);refine(z3 _ y.R).mono ?_;rintro e w1 ⟨rfl,q⟩;replace y:=y.below q)|(go_at_call_of 45 (Value.string ⟨#[119,104,105,108,101]⟩);refine(z4 _ y.R).mono ?_;rintro e w1 ⟨rfl,q⟩;replace y:=y.below q)|(go_at_call_of 45 (Value.string ⟨#[102,111,114]⟩);refine(z5 _ y.R).mono ?_;rintro e w1 ⟨rfl,q⟩;replace y:=y.below q)|(go_at_call_of 45 (Value.string ⟨#[114,101,116,117,114,110]⟩);refine(z6 _ y.R).mono ?_;rintro e w1 ⟨rfl,z1,z7⟩;replace y:=y.on z7 z1;obtain⟨c0,c1,c2,c3,f0,f1,f2,f3⟩:=in4 y.g)|(go_at_call 96;refine Hid.out ?_))
 replace y:=y.kind 11
 obtain⟨wk,p⟩:=exq (w1.setCell (Ad t 0) (vi 11))
 rw[p]at y⊢
 clear p
 refine Lib.hid ?_
 have z0:Fl ts Fin r (i+1) false (fun l=>(P f 0 nil0 0 l).on (fun x l=>(fun ks l=>need S.sc l fun l=>g (nd 11 ks) l) ([]++[x]) l)):=.inr ⟨rfl,hP⟩
 clear hP
 refine(y.exprs hE hF (by simp) (fun ks l=>need S.sc l fun l=>g (nd 11 ks) l) z0).mono ?_
 rintro e wa ⟨z9,b1,b,j1,y8,rfl,y7,ga,n,c⟩
 obtain⟨wb,z8⟩:=exq (wa.setCell (Ad t 3) (.slice b1 z9.length b))
 rw[z8]at n
 obtain⟨c0,c1,c2,c3,f0,f1,f2,f3⟩:=in4 ga
 go_wp2_with (first|(go_at_call 42;refine(n.must (s:=S.sc) (by decide) hF c).mono ?_;rintro e w9 ⟨rfl,j2,y9,v,d⟩;obtain⟨c0,c1,c2,c3,f0,f1,f2,f3⟩:=in4 v.g;obtain⟨d0,d1,d2,d3,e0,e1,e2,e3⟩:=in4 v.z))
 refine bodyPost_ret (b4u rfl (a0c _ _ _ _ v.z)) rfl ?_
 exact v.close d
theorem d3e(f:Nat)(hE:DRow f)(r:PRes)(Fin:Nat->Prop)(g:Nd->List PT->PR)(B:Nat)(ts:List Tok)(i:Nat)(w:World)(hF:a1y ts Fin r)(hR:Dr w B ts i false)(hn0:¬tx (rest ts i)=W.local_)(hn1:¬tx (rest ts i)=W.if_)(hn2:¬tx (rest ts i)=W.while_)(hn3:¬tx (rest ts i)=W.for_)(hn4:¬tx (rest ts i)=W.return_)(hy:tx (rest ts i)=W.emit_)(hP:((P f 0 nil0 0 (rest ts (i+1))).on fun x l=>need S.sc l fun l=>g (nd 12 ([]++[x])) l)=some r):Cl 73 #[Po B 0] w (NA no w B ts Fin r g):=by
 have y:=NS.new nil0 rfl hR
 have y5:=hR.lt
 obtain⟨U,a⟩:=exq ((w.alloc zbx).alloc (nbx nil0 none 0))
 rw[a]at y
 replace a:(w.alloc (.cells #[vi 0,.string ⟨#[]⟩,vi 0,.slice none 0 0] 34)).alloc (.cells #[vi 0,.string ⟨#[]⟩,vi 0,.slice none 0 0] 34)=U:=a
 obtain⟨c0,c1,c2,c3,f0,f1,f2,f3⟩:=in4 y.g
 replace y:=y.put 0 0 []
 obtain⟨V,o⟩:=exq (put4 U (w.heap.size+1) (vi 0) (sk []) (vi 0) (.slice none 0 0))
 rw[o]at y
 replace o:(((U.setCell (Ad (w.heap.size+1) 0) (vi 0)).setCell (Ad (w.heap.size+1) 1) (.string ⟨#[]⟩)).setCell (Ad (w.heap.size+1) 2) (vi 0)).setCell (Ad (w.heap.size+1) 3) (.slice none 0 0)=V:=o
 have z1:=fun u h=>a0o B ts i false W.local_ hn0 u h
 have z2:=fun u h=>a0o B ts i false W.if_ hn1 u h
 have z3:=fun u h=>a0o B ts i false W.while_ hn2 u h
 have z4:=fun u h=>a0o B ts i false W.for_ hn3 u h
 have z5:=fun u h=>a0o B ts i false W.return_ hn4 u h
 have z6:=fun u h=>a2k B ts i false W.emit_ hy (a5a hy (by decide)) u h
 go_enter Tryz.func73,Tryz.ntmps73
 go_wp2_with (go_at_call 45;refine Hid.out ?_)
 try rw[o]
 obtain⟨t,ht⟩:=exq (w.heap.size+1)
 rw[ht]at y⊢
 clear a o ht c0 c1 c2 c3 f0 f1 f2 f3
 refine Lib.hid ?_
 refine(z1 _ y.R).mono ?_
 rintro e w1 ⟨rfl,v⟩
 replace y:=y.below v
 clear v
 go_wp2_with (first|(go_at_call_of 45 (Value.string ⟨#[105,102]⟩);refine(z2 _ y.R).mono ?_;rintro e w1 ⟨rfl,v⟩;replace y:=y.below v)|(go_at_call_of 45 (Value.string ⟨#[119,104,105,108,101]⟩);refine(z3 _ y.R).mono ?_;rintro e w1 ⟨rfl,v⟩;replace y:=y.below v)|(go_at_call_of 45 (Value.string ⟨#[102,111,114]⟩);refine(z4 _ y.R).mono ?_;rintro e w1 ⟨rfl,v⟩;replace y:=y.below v)|(go_at_call_of 45 (Value.string ⟨#[114,101,116,117,114,110]⟩);refine(z5 _ y.R).mono ?_;rintro e w1 ⟨rfl,v⟩;replace y:=y.below v)|(go_at_call_of 45 (Value.string ⟨#[101,109,105,116]⟩);refine(z6 _ y.R).mono ?_;rintro e w1 ⟨rfl,z0,z7⟩;replace y:=y.on z7 z0;obtain⟨c0,c1,c2,c3,f0,f1,f2,f3⟩:=in4 y.g)|(go_at_call 96;refine Hid.out ?_))
 replace y:=y.kind 12
 obtain⟨wk,p⟩:=exq (w1.setCell (Ad t 0) (vi 12))
 rw[p]at y⊢
 clear p
 refine Lib.hid ?_
 have y9:Fl ts Fin r (i+1) false (fun l=>(P f 0 nil0 0 l).on (fun x l=>(fun ks l=>need S.sc l fun l=>g (nd 12 ks) l) ([]++[x]) l)):=.inr ⟨rfl,hP⟩
 clear hP
 refine(y.exprs hE hF (by simp) (fun ks l=>need S.sc l fun l=>g (nd 12 ks) l) y9).mono ?_
 rintro e wa ⟨z9,b1,b,j1,y7,rfl,y6,ga,n,c⟩
 obtain⟨wb,z8⟩:=exq (wa.setCell (Ad t 3) (.slice b1 z9.length b))
 rw[z8]at n
 obtain⟨c0,c1,c2,c3,f0,f1,f2,f3⟩:=in4 ga
 go_wp2_with (first|(go_at_call 42;refine(n.must (s:=S.sc) (by decide) hF c).mono ?_;rintro e w9 ⟨rfl,j2,y8,q,d⟩;obtain⟨c0,c1,c2,c3,f0,f1,f2,f3⟩:=in4 q.g;obtain⟨d0,d1,d2,d3,e0,e1,e2,e3⟩:=in4 q.z))
 refine bodyPost_ret (b4u rfl (a0c _ _ _ _ q.z)) rfl ?_
 exact q.close d
theorem c8w(f:Nat)(hE:DRow f)(hK:DBlk f)(r:PRes)(Fin:Nat->Prop)(g:Nd->List PT->PR)(B:Nat)(ts:List Tok)(i:Nat)(w:World)(hF:a1y ts Fin r)(hR:Dr w B ts i false)(hn0:¬tx (rest ts i)=W.local_)(hn1:¬tx (rest ts i)=W.if_)(hy:tx (rest ts i)=W.while_)(hP:((P f 0 nil0 0 (rest ts (i+1))).on fun x l=>need W.do_ l fun l=>(P f 7 (nd 4 []) 0 l).on fun b l=>need W.end_ l fun l=>g (nd 9 ([]++[x]++[b])) l)=some r):Cl 73 #[Po B 0] w (NA no w B ts Fin r g):=by
 have y:=NS.new nil0 rfl hR
 have y7:=hR.lt
 obtain⟨U,hU⟩:=exq ((w.alloc zbx).alloc (nbx nil0 none 0))
 rw[hU]at y
 replace hU:(w.alloc (.cells #[vi 0,.string ⟨#[]⟩,vi 0,.slice none 0 0] 34)).alloc (.cells #[vi 0,.string ⟨#[]⟩,vi 0,.slice none 0 0] 34)=U:=hU
 obtain⟨c0,c1,c2,c3,f0,f1,f2,f3⟩:=in4 y.g
 replace y:=y.put 0 0 []
 obtain⟨V,d⟩:=exq (put4 U (w.heap.size+1) (vi 0) (sk []) (vi 0) (.slice none 0 0))
 rw[d]at y
 replace d:(((U.setCell (Ad (w.heap.size+1) 0) (vi 0)).setCell (Ad (w.heap.size+1) 1) (.string ⟨#[]⟩)).setCell (Ad (w.heap.size+1) 2) (vi 0)).setCell (Ad (w.heap.size+1) 3) (.slice none 0 0)=V:=d
 have z2:=fun u h=>a0o B ts i false W.local_ hn0 u h
 have z3:=fun u h=>a0o B ts i false W.if_ hn1 u h
 have z4:=fun u h=>a2k B ts i false W.while_ hy (a5a hy (by decide)) u h
 go_enter Tryz.func73,Tryz.ntmps73
 go_wp2_with (go_at_call 45;refine Hid.out ?_)
 try rw[d]
 obtain⟨t,ht⟩:=exq (w.heap.size+1)
 rw[ht]at y⊢
 clear hU d ht c0 c1 c2 c3 f0 f1 f2 f3
 refine Lib.hid ?_
 refine(z2 _ y.R).mono ?_
 rintro e w1 ⟨rfl,hb⟩
 replace y:=y.below hb
 clear hb
 go_wp2_with (first|(go_at_call_of 45 (Value.string ⟨#[105,102]⟩);refine(z3 _ y.R).mono ?_;rintro e w1 ⟨rfl,hb⟩;replace y:=y.below hb)|(go_at_call_of 45 (Value.string ⟨#[119,104,105,108,101]⟩);refine(z4 _ y.R).mono ?_;rintro e w1 ⟨rfl,z1,z5⟩;replace y:=y.on z5 z1;obtain⟨c0,c1,c2,c3,f0,f1,f2,f3⟩:=in4 y.g)|(go_at_call 96;refine Hid.out ?_))
 replace y:=y.kind 9
 obtain⟨wk,n⟩:=exq (w1.setCell (Ad t 0) (vi 9))
 rw[n]at y⊢
 clear n
 refine Lib.hid ?_
 have z0:Fl ts Fin r (i+1) false (fun l=>(P f 0 nil0 0 l).on (fun x l=>(fun ks l=>need W.do_ l fun l=>(P f 7 (nd 4 []) 0 l).on fun b l=>need W.end_ l fun l=>g (nd 9 (ks++[b])) l) ([]++[x]) l)):=.inr ⟨rfl,hP⟩
 clear hP
 refine(y.exprs hE hF (by simp) (fun ks l=>need W.do_ l fun l=>(P f 7 (nd 4 []) 0 l).on fun b l=>need W.end_ l fun l=>g (nd 9 (ks++[b])) l) z0).mono ?_
 rintro e wa ⟨z8,b1,z9,j1,y8,rfl,z6,ga,p,a⟩
 obtain⟨wb,z7⟩:=exq (wa.setCell (Ad t 3) (.slice b1 z8.length z9))
 rw[z7]at p
 obtain⟨c0,c1,c2,c3,f0,f1,f2,f3⟩:=in4 ga
 obtain⟨x0,x1,x2,x3,y0,y1,y2,y3⟩:=in4 p.g
 simp at z6
 go_wp2_with (first|(go_at_call 97;refine(p.loop hK hF (by omega) (fun ks l=>g (nd 9 ks) l) a).mono ?_;rintro e wl ⟨o,b3,s,j2,y9,rfl,gl,v,c⟩;refine Hid.out ?_))
 obtain⟨c0,c1,c2,c3,f0,f1,f2,f3⟩:=in4 gl
 obtain⟨wm,q⟩:=exq (put4 wl t (vi 9) (sk []) (vi 0) (.slice b3 o.length s))
 rw[q]at v
 replace q:(((wl.setCell (Ad t 0) (vi 9)).setCell (Ad t 1) (sk [])).setCell (Ad t 2) (vi 0)).setCell (Ad t 3) (.slice b3 o.length s)=wm:=q
 obtain⟨x0,x1,x2,x3,y0,y1,y2,y3⟩:=in4 v.g
 obtain⟨d0,d1,d2,d3,e0,e1,e2,e3⟩:=in4 v.z
 refine Lib.hid ?_
 go_wp2
 refine bodyPost_ret (b4u rfl (a0c _ _ _ _ v.z)) rfl ?_
 exact v.close c
theorem d6o(f:Nat)(hE:DRow f)(hK:DBlk f)(r:PRes)(Fin:Nat->Prop)(g:Nd->List PT->PR)(B:Nat)(ts:List Tok)(i:Nat)(w:World)(hF:a1y ts Fin r)(hR:Dr w B ts i false)(hn0:¬tx (rest ts i)=W.local_)(hn1:¬tx (rest ts i)=W.if_)(hn2:¬tx (rest ts i)=W.while_)(hy:tx (rest ts i)=W.for_)(hP:(a0n (rest ts (i+1)) (fun s l=>need S.eq l fun l=>(P f 0 nil0 0 l).on fun x l=>need S.cm l fun l=>(P f 0 nil0 0 l).on fun y l=>need W.do_ l fun l=>(P f 7 (nd 4 []) 0 l).on fun b l=>need W.end_ l fun l=>g ⟨10,s,0,[]++[x]++[y]++[b]⟩ l))=some r):Cl 73 #[Po B 0] w (NA no w B ts Fin r g):=by
 have v:=NS.new nil0 rfl hR
 have w9:=hR.lt
 obtain⟨U,hU⟩:=exq ((w.alloc zbx).alloc (nbx nil0 none 0))
 rw[hU]at v
 replace hU:(w.alloc (.cells #[vi 0,.string ⟨#[]⟩,vi 0,.slice none 0 0] 34)).alloc (.cells #[vi 0,.string ⟨#[]⟩,vi 0,.slice none 0 0] 34)=U:=hU
 obtain⟨c0,c1,c2,c3,f0,f1,f2,f3⟩:=in4 v.g
 replace v:=v.put 0 0 []
 obtain⟨V,hV⟩:=exq (put4 U (w.heap.size+1) (vi 0) (sk []) (vi 0) (.slice none 0 0))
 rw[hV]at v
 replace hV:(((U.setCell (Ad (w.heap.size+1) 0) (vi 0)).setCell (Ad (w.heap.size+1) 1) (.string ⟨#[]⟩)).setCell (Ad (w.heap.size+1) 2) (vi 0)).setCell (Ad (w.heap.size+1) 3) (.slice none 0 0)=V:=hV
 have x6:=fun u h=>a0o B ts i false W.local_ hn0 u h
 have x7:=fun u h=>a0o B ts i false W.if_ hn1 u h
 have x8:=fun u h=>a0o B ts i false W.while_ hn2 u h
 have x9:=fun u h=>a2k B ts i false W.for_ hy (a5a hy (by decide)) u h
 go_enter Tryz.func73,Tryz.ntmps73
 go_wp2_with (go_at_call 45;refine Hid.out ?_)
 try rw[hV]
 obtain⟨t,ht⟩:=exq (w.heap.size+1)
 rw[ht]at v⊢
 clear hU hV ht c0 c1 c2 c3 f0 f1 f2 f3
 refine Lib.hid ?_
 refine(x6 _ v.R).mono ?_
 rintro e w1 ⟨rfl,hb⟩
 replace v:=v.below hb
 clear hb
 go_wp2_with (first|(go_at_call_of 45 (Value.string ⟨#[105,102]⟩);refine(x7 _ v.R).mono ?_;rintro e w1 ⟨rfl,hb⟩;replace v:=v.below hb)|(go_at_call_of 45 (Value.string ⟨#[119,104,105,108,101]⟩);refine(x8 _ v.R).mono ?_;rintro e w1 ⟨rfl,hb⟩;replace v:=v.below hb)|(go_at_call_of 45 (Value.string ⟨#[102,111,114]⟩);refine(x9 _ v.R).mono ?_;rintro e w1 ⟨rfl,x5,y4⟩;replace v:=v.on y4 x5;obtain⟨c0,c1,c2,c3,f0,f1,f2,f3⟩:=in4 v.g)|(go_at_call 43;refine(v.name hF (.inr ⟨rfl,hP⟩)).mono ?_;rintro e w2 ⟨s,j0,y7,rfl,z5,o⟩;refine Hid.out ?_))
 clear hP
 replace v:=z5.put 10 0 s
 obtain⟨c0,c1,c2,c3,f0,f1,f2,f3⟩:=in4 z5.g
 obtain⟨wp,q⟩:=exq (put4 w2 t (vi 10) (sk s) (vi 0) (.slice none 0 0))
 rw[q]at v
 replace q:(((w2.setCell (Ad t 0) (vi 10)).setCell (Ad t 1) (.string ⟨s.toArray⟩)).setCell (Ad t 2) (vi 0)).setCell (Ad t 3) (.slice none 0 0)=wp:=q
 refine Lib.hid ?_
 go_wp2_with (first|(go_at_call 42;refine Hid.out ?_))
 try rw[q]
 refine Lib.hid ?_
 clear q
 refine(v.must (s:=S.eq) (by decide) hF o).mono ?_
 rintro e w3 ⟨rfl,j0,y7,v,o⟩
 obtain⟨c0,c1,c2,c3,f0,f1,f2,f3⟩:=in4 v.g
 go_wp2_with (first|(go_at_call 96;refine(v.exprs hE hF (by simp) (fun ks l=>need S.cm l fun l=>(P f 0 nil0 0 l).on fun y l=>(fun ks l=>need W.do_ l fun l=>(P f 7 (nd 4 []) 0 l).on fun b l=>need W.end_ l fun l=>g ⟨10,s,0,ks++[b]⟩ l) (ks++[y]) l) o).mono ?_;rintro e wa ⟨y6,b1,z0,j1,y8,rfl,c,ga,z6,z2⟩;refine Hid.out ?_))
 obtain⟨wb,z7⟩:=exq (wa.setCell (Ad t 3) (.slice b1 y6.length z0))
 rw[z7]at z6
 obtain⟨c0,c1,c2,c3,f0,f1,f2,f3⟩:=in4 ga
 refine Lib.hid ?_
 go_wp2_with (first|(go_at_call 42;refine(z6.must (s:=S.cm) (by decide) hF z2).mono ?_;rintro e w5 ⟨rfl,j2,y9,v,o⟩;refine Hid.out ?_))
 obtain⟨c0,c1,c2,c3,f0,f1,f2,f3⟩:=in4 v.g
 clear z7 ga
 refine Lib.hid ?_
 go_wp2_with (first|(go_at_call 96;refine(v.exprs hE hF (by simp at c;omega) (fun ks l=>need W.do_ l fun l=>(P f 7 (nd 4 []) 0 l).on fun b l=>need W.end_ l fun l=>g ⟨10,s,0,ks++[b]⟩ l) o).mono ?_;rintro e wc ⟨z8,b2,z1,j1,y8,rfl,x4,gc,a,z4⟩;refine Hid.out ?_))
 obtain⟨wd,y5⟩:=exq (wc.setCell (Ad t 3) (.slice b2 z8.length z1))
 rw[y5]at a
 obtain⟨c0,c1,c2,c3,f0,f1,f2,f3⟩:=in4 gc
 obtain⟨x0,x1,x2,x3,y0,y1,y2,y3⟩:=in4 a.g
 replace c:z8.length<=5:=by simp at c;omega
 refine Lib.hid ?_
 go_wp2_with (first|(go_at_call 97;refine(a.loop hK hF (by omega) (fun ks l=>g ⟨10,s,0,ks⟩ l) z4).mono ?_;rintro e wl ⟨z9,b3,n,j2,y9,rfl,gl,p,z3⟩;refine Hid.out ?_))
 obtain⟨c0,c1,c2,c3,f0,f1,f2,f3⟩:=in4 gl
 obtain⟨wm,d⟩:=exq (put4 wl t (vi 10) (sk s) (vi 0) (.slice b3 z9.length n))
 rw[d]at p
 replace d:(((wl.setCell (Ad t 0) (vi 10)).setCell (Ad t 1) (sk s)).setCell (Ad t 2) (vi 0)).setCell (Ad t 3) (.slice b3 z9.length n)=wm:=d
 obtain⟨x0,x1,x2,x3,y0,y1,y2,y3⟩:=in4 p.g
 obtain⟨d0,d1,d2,d3,e0,e1,e2,e3⟩:=in4 p.z
 refine Lib.hid ?_
 go_wp2
 refine bodyPost_ret (b4u rfl (a0c _ _ _ _ p.z)) rfl ?_
 exact p.close z3
theorem d8u(f:Nat)(hE:DRow f)(hK:DBlk f)(r:PRes)(Fin:Nat->Prop)(g:Nd->List PT->PR)(B:Nat)(ts:List Tok)(i:Nat)(w:World)(hF:a1y ts Fin r)(hR:Dr w B ts i false)(hn0:¬tx (rest ts i)=W.local_)(hy:tx (rest ts i)=W.if_)(hP:((P f 0 nil0 0 (rest ts (i+1))).on fun x l=>(fun ks l=>need W.then_ l fun l=>(P f 7 (nd 4 []) 0 l).on fun b l=>if tx l=W.else_ then (P f 7 (nd 4 []) 0 l.tail).on fun c l=>need W.end_ l fun l=>g (nd 8 (ks++[b]++[c])) l else need W.end_ l fun l=>g (nd 8 (ks++[b])) l) ([]++[x]) l)=some r):Cl 73 #[Po B 0] w (NA no w B ts Fin r g):=by
 have hS:=NS.new nil0 rfl hR
 have s1:=hR.lt
 obtain⟨U,hU⟩:=exq ((w.alloc zbx).alloc (nbx nil0 none 0))
 rw[hU]at hS
 replace hU:(w.alloc (.cells #[vi 0,.string ⟨#[]⟩,vi 0,.slice none 0 0] 34)).alloc (.cells #[vi 0,.string ⟨#[]⟩,vi 0,.slice none 0 0] 34)=U:=hU
 obtain⟨c0,c1,c2,c3,f0,f1,f2,f3⟩:=in4 hS.g
 replace hS:=hS.put 0 0 []
 obtain⟨V,hV⟩:=exq (put4 U (w.heap.size+1) (vi 0) (sk []) (vi 0) (.slice none 0 0))
 rw[hV]at hS
 replace hV:(((U.setCell (Ad (w.heap.size+1) 0) (vi 0)).setCell (Ad (w.heap.size+1) 1) (.string ⟨#[]⟩)).setCell (Ad (w.heap.size+1) 2) (vi 0)).setCell (Ad (w.heap.size+1) 3) (.slice none 0 0)=V:=hV
 have t7:=fun u h=>a0o B ts i false W.local_ hn0 u h
 have t8:=fun u h=>a2k B ts i false W.if_ hy (a5a hy (by decide)) u h
 go_enter Tryz.func73,Tryz.ntmps73
 go_wp2_with (go_at_call 45;refine Hid.out ?_)
 try rw[hV]
 obtain⟨t,ht⟩:=exq (w.heap.size+1)
 rw[ht]at hS⊢
 clear hU hV ht c0 c1 c2 c3 f0 f1 f2 f3
 refine Lib.hid ?_
 refine(t7 _ hS.R).mono ?_
 rintro e w1 ⟨rfl,hb⟩
 replace hS:=hS.below hb
 clear hb
 go_wp2_with (first|(go_at_call_of 45 (Value.string ⟨#[105,102]⟩);refine(t8 _ hS.R).mono ?_;rintro e w1 ⟨rfl,s6,s8⟩;replace hS:=hS.on s8 s6;obtain⟨c0,c1,c2,c3,f0,f1,f2,f3⟩:=in4 hS.g)|(go_at_call 96;refine Hid.out ?_))
 replace hS:=hS.kind 8
 obtain⟨wk,v1⟩:=exq (w1.setCell (Ad t 0) (vi 8))
 rw[v1]at hS⊢
 clear v1
 refine Lib.hid ?_
 have s5:Fl ts Fin r (i+1) false (fun l=>(P f 0 nil0 0 l).on (fun x l=>(fun ks l=>need W.then_ l fun l=>(P f 7 (nd 4 []) 0 l).on fun b l=>if tx l=W.else_ then (P f 7 (nd 4 []) 0 l.tail).on fun c l=>need W.end_ l fun l=>g (nd 8 (ks++[b]++[c])) l else need W.end_ l fun l=>g (nd 8 (ks++[b])) l) ([]++[x]) l)):=.inr ⟨rfl,hP⟩
 clear hP
 refine(hS.exprs hE hF (by simp) (fun ks l=>need W.then_ l fun l=>(P f 7 (nd 4 []) 0 l).on fun b l=>if tx l=W.else_ then (P f 7 (nd 4 []) 0 l.tail).on fun c l=>need W.end_ l fun l=>g (nd 8 (ks++[b]++[c])) l else need W.end_ l fun l=>g (nd 8 (ks++[b])) l) s5).mono ?_
 rintro e wa ⟨o,b1,x9,j1,s2,rfl,s9,ga,v6,x5⟩
 obtain⟨wb,v0⟩:=exq (wa.setCell (Ad t 3) (.slice b1 o.length x9))
 rw[v0]at v6
 obtain⟨c0,c1,c2,c3,f0,f1,f2,f3⟩:=in4 ga
 go_wp2_with (first|(go_at_call 42;refine(v6.must (s:=W.then_) (by decide) hF x5).mono ?_;rintro e w3 ⟨rfl,j3,s3,t5,x6⟩)|(go_at_call 46;refine(t5.block hK hF _ x6).mono ?_;rintro e w4 ⟨y,z5,cy,j4,x4,rfl,x8,v2,y8⟩;refine Hid.out ?_))
 simp at s9
 clear v0 ga v6 t5 hS x6 x5 t8 t7
 obtain⟨i0,t9,v3,v4,v5⟩:=info_parts a5w
 have z0:=q1z (q1z (Below.refl w4.heap.size w4) (nbx y z5 cy)) (nbx y z5 cy)
 have p:=a0a (w4.alloc (nbx y z5 cy)) (nbx y z5 cy)
 rw[World.size_alloc]at p
 have q:=x8.below z0
 have z9:=v2.below z0
 obtain⟨c0,c1,c2,c3,f0,f1,f2,f3⟩:=in4 x8.g
 obtain⟨x0,x1,x2,x3,y0,y1,y2,y3⟩:=in4a x8.g
 refine Lib.hid ?_
 go_wp2_with (at_builtin;refine Hid.out ?_)
 obtain⟨Wq,a⟩:=exq ((w4.alloc (nbx y z5 cy)).alloc (nbx y z5 cy))
 rw[a]at p q z9
 replace a:(w4.alloc (.cells #[vi y.k,.string ⟨y.t.toArray⟩,vi y.n,.slice z5 y.kids.length cy] 34)).alloc (.cells #[vi y.k,.string ⟨y.t.toArray⟩,vi y.n,.slice z5 y.kids.length cy] 34)=Wq:=a
 rw[a]
 obtain⟨xs,ho,hn⟩:=q.ready
 dsimp only at ho hn z9
 have z1:=q.g
 have t1:=q.lt
 have y6:some t≠Value.ownBlock (.slice b1 o.length x9):=fun e=>by have:=(q.own _ e.symm).1;omega
 have w7:o.length+1<=maxLen:=by unfold maxLen;omega
 have w2:(o.length+1)*56<=140737488355328:=by omega
 clear a z0 c0 c1 c2 c3 f0 f1 f2 f3 x0 x1 x2 x3 y0 y1 y2 y3
 refine Lib.hid ?_
 go_wp2_with (first|(at_builtin;refine wpList_append_lies _ (by rfl) _ _ _ (by rfl) 0 34 i0 _ 4 56 Tryz.underlying32 t9 v3 v4 v5 rfl (by omega) (.slice b1 o.length x9) o.length _ (by rfl) ho (Ad (w4.heap.size+1) 0) 1 1 _ (by rfl) (by rfl) (a2c y z5 cy p) (by simp[Value.oneCell']) (by omega) w7 w2 (Nat.zero_le _) _ rfl ?_;intro g3 z2 w5 d v z3 y5;have y7:=(v.block _ (q5z z1) y6).trans z1;obtain⟨c0,c1,c2,c3,f0,f1,f2,f3⟩:=in4 y7)|(go_at_call 45;refine Hid.out ?_))
 obtain⟨W6,v9⟩:=exq (w5.setCell (Ad t 3) (.slice (some (Ad g3 0)) (o.length+1) z2))
 have t6:=q.app ho hn z9 d v z3 v9
 rw[v9]
 clear v9 d v z3 y5 ho hn z9 q z1 p c0 c1 c2 c3 f0 f1 f2 f3 y7
 refine Lib.hid ?_
 refine(t6.eat W.else_ (by decide)).mono ?_
 rintro e w6 ⟨ye,j6,rfl,v7,hY⟩
 have t0:(o++[y]).length<=5:=by simp;omega
 clear x8 v2 t6
 cases ye with
 | false =>
  have y9:Fl ts Fin r j6 x4 (fun l=>need W.end_ l fun l=>g (nd 8 (o++[y])) l):=by
   rcases hY with⟨h,_⟩|⟨_,h2,rfl⟩
   ·cases h
   ·rcases y8 with h0|⟨h1,h3⟩
    ·exact .inl h0
    ·subst h1
     dsimp only at h3
     rw[if_neg (show ¬tx (rest ts j6)=W.else_ from h2)]at h3
     exact .inr ⟨rfl,h3⟩
  clear hY y8
  go_wp2_with ((go_at_call 42;refine(v7.must (s:=W.end_) (by decide) hF y9).mono ?_;rintro e w9 ⟨rfl,j2,t3,z8,y4⟩;obtain⟨c0,c1,c2,c3,f0,f1,f2,f3⟩:=in4 z8.g;obtain⟨d0,d1,d2,d3,e0,e1,e2,e3⟩:=in4 z8.z))
  refine bodyPost_ret (b4u rfl (a0c _ _ _ _ z8.z)) rfl ?_
  rw[show o.length+1=(o++[y]).length by simp]
  exact z8.close y4
 | true =>
  obtain⟨rfl,y9⟩:x4=false/\Fl ts Fin r j6 false (fun l=>(P f 7 (nd 4 []) 0 l).on fun c l=>need W.end_ l fun l=>g (nd 8 (o++[y]++[c])) l):=by
   rcases hY with⟨_,rfl,h2,rfl⟩|⟨h,_⟩
   ·rcases y8 with⟨h0,_⟩|⟨_,h3⟩
    ·cases h0
    ·dsimp only at h3
     rw[if_pos h2,a0g]at h3
     exact⟨rfl,.inr ⟨rfl,h3⟩⟩
   ·cases h
  clear hY y8
  obtain⟨z4,x7⟩:=exq (o++[y])
  rw[x7]at v7 t0 y9
  clear x7
  go_wp2_with (go_at_call 46;refine(v7.block hK hF _ y9).mono ?_;rintro e w8 ⟨yb,z6,z7,j8,s4,rfl,v8,t2,t4⟩;refine Hid.out ?_)
  have z0:=q1z (q1z (Below.refl w8.heap.size w8) (nbx yb z6 z7)) (nbx yb z6 z7)
  have p:=a0a (w8.alloc (nbx yb z6 z7)) (nbx yb z6 z7)
  rw[World.size_alloc]at p
  have q:=v8.below z0
  have z9:=t2.below z0
  obtain⟨c0,c1,c2,c3,f0,f1,f2,f3⟩:=in4 v8.g
  obtain⟨x0,x1,x2,x3,y0,y1,y2,y3⟩:=in4a v8.g
  refine Lib.hid ?_
  go_wp2_with (at_builtin;refine Hid.out ?_)
  obtain⟨Wq,a⟩:=exq ((w8.alloc (nbx yb z6 z7)).alloc (nbx yb z6 z7))
  rw[a]at p q z9
  replace a:(w8.alloc (.cells #[vi yb.k,.string ⟨yb.t.toArray⟩,vi yb.n,.slice z6 yb.kids.length z7] 34)).alloc (.cells #[vi yb.k,.string ⟨yb.t.toArray⟩,vi yb.n,.slice z6 yb.kids.length z7] 34)=Wq:=a
  rw[a]
  obtain⟨xs,ho,hn⟩:=q.ready
  dsimp only at ho hn z9
  have z1:=q.g
  have t1:=q.lt
  have y6:some t≠Value.ownBlock (.slice (some (Ad g3 0)) z4.length z2):=fun e=>by have:=(q.own _ e.symm).1;omega
  have w7:z4.length+1<=maxLen:=by unfold maxLen;omega
  have w2:(z4.length+1)*56<=140737488355328:=by omega
  clear a z0 c0 c1 c2 c3 f0 f1 f2 f3 x0 x1 x2 x3 y0 y1 y2 y3
  refine Lib.hid ?_
  go_wp2_with (first|(at_builtin;refine wpList_append_lies _ (by rfl) _ _ _ (by rfl) 0 34 i0 _ 4 56 Tryz.underlying32 t9 v3 v4 v5 rfl (by omega) (.slice (some (Ad g3 0)) z4.length z2) z4.length _ (by rfl) ho (Ad (w8.heap.size+1) 0) 1 1 _ (by rfl) (by rfl) (a2c yb z6 z7 p) (by simp[Value.oneCell']) (by omega) w7 w2 (Nat.zero_le _) _ rfl ?_;intro g3 z2 w5 d v z3 y5;have y7:=(v.block _ (q5z z1) y6).trans z1;obtain⟨c0,c1,c2,c3,f0,f1,f2,f3⟩:=in4 y7)|(go_at_call 42;refine Hid.out ?_))
  obtain⟨W9,w0⟩:=exq (w5.setCell (Ad t 3) (.slice (some (Ad g3 0)) (z4.length+1) z2))
  have s7:=q.app ho hn z9 d v z3 w0
  rw[w0]
  clear w0 d v z3 y5 ho hn z9 q z1 p c0 c1 c2 c3 f0 f1 f2 f3 y7
  refine Lib.hid ?_
  refine(s7.must (s:=W.end_) (by decide) hF t4).mono ?_
  rintro e w9 ⟨rfl,j2,t3,z8,y4⟩
  obtain⟨c0,c1,c2,c3,f0,f1,f2,f3⟩:=in4 z8.g
  obtain⟨d0,d1,d2,d3,e0,e1,e2,e3⟩:=in4 z8.z
  go_wp2
  refine bodyPost_ret (b4u rfl (a0c _ _ _ _ z8.z)) rfl ?_
  rw[show z4.length+1=(z4++[yb]).length by simp]
  exact z8.close y4
theorem c4y(f:Nat)(hX:DSim f)(r:PRes)(Fin:Nat->Prop)(g:Nd->List PT->PR)(B:Nat)(ts:List Tok)(i:Nat)(w:World)(hF:a1y ts Fin r)(hR:Dr w B ts i false)(hn0:¬tx (rest ts i)=W.local_)(hn1:¬tx (rest ts i)=W.if_)(hn2:¬tx (rest ts i)=W.while_)(hn3:¬tx (rest ts i)=W.for_)(hn4:¬tx (rest ts i)=W.return_)(hn5:¬tx (rest ts i)=W.emit_)(hP:(a0n (rest ts i) (fun s l=>(P f 9 ⟨18,s,0,[]⟩ 0 l).on fun n l=>need S.sc l fun l=>g n l))=some r):Cl 73 #[Po B 0] w (NA no w B ts Fin r g):=by
 have y:=NS.new nil0 rfl hR
 have z1:=hR.lt
 obtain⟨U,hU⟩:=exq ((w.alloc zbx).alloc (nbx nil0 none 0))
 rw[hU]at y
 replace hU:(w.alloc (.cells #[vi 0,.string ⟨#[]⟩,vi 0,.slice none 0 0] 34)).alloc (.cells #[vi 0,.string ⟨#[]⟩,vi 0,.slice none 0 0] 34)=U:=hU
 obtain⟨c0,c1,c2,c3,f0,f1,f2,f3⟩:=in4 y.g
 replace y:=y.put 0 0 []
 obtain⟨V,c⟩:=exq (put4 U (w.heap.size+1) (vi 0) (sk []) (vi 0) (.slice none 0 0))
 rw[c]at y
 replace c:(((U.setCell (Ad (w.heap.size+1) 0) (vi 0)).setCell (Ad (w.heap.size+1) 1) (.string ⟨#[]⟩)).setCell (Ad (w.heap.size+1) 2) (vi 0)).setCell (Ad (w.heap.size+1) 3) (.slice none 0 0)=V:=c
 have z3:=fun u h=>a0o B ts i false W.local_ hn0 u h
 have z4:=fun u h=>a0o B ts i false W.if_ hn1 u h
 have z5:=fun u h=>a0o B ts i false W.while_ hn2 u h
 have z6:=fun u h=>a0o B ts i false W.for_ hn3 u h
 have z7:=fun u h=>a0o B ts i false W.return_ hn4 u h
 have z8:=fun u h=>a0o B ts i false W.emit_ hn5 u h
 go_enter Tryz.func73,Tryz.ntmps73
 go_wp2_with (go_at_call 45;refine Hid.out ?_)
 try rw[c]
 obtain⟨t,ht⟩:=exq (w.heap.size+1)
 rw[ht]at y⊢
 clear hU c ht c0 c1 c2 c3 f0 f1 f2 f3
 refine Lib.hid ?_
 refine(z3 _ y.R).mono ?_
 rintro e w1 ⟨rfl,v⟩
 replace y:=y.below v
 clear v
 go_wp2_with (first|(go_at_call_of 45 (Value.string ⟨#[105,102]⟩);refine(z4 _ y.R).mono ?_;rintro e w1 ⟨rfl,v⟩;replace y:=y.below v)|(go_at_call_of 45 (Value.string ⟨#[119,104,105,108,101]⟩);refine(z5 _ y.R).mono ?_;rintro e w1 ⟨rfl,v⟩;replace y:=y.below v)|(go_at_call_of 45 (Value.string ⟨#[102,111,114]⟩);refine(z6 _ y.R).mono ?_;rintro e w1 ⟨rfl,v⟩;replace y:=y.below v)|(go_at_call_of 45 (Value.string ⟨#[114,101,116,117,114,110]⟩);refine(z7 _ y.R).mono ?_;rintro e w1 ⟨rfl,v⟩;replace y:=y.below v)|(go_at_call_of 45 (Value.string ⟨#[101,109,105,116]⟩);refine(z8 _ y.R).mono ?_;rintro e w1 ⟨rfl,v⟩;replace y:=y.below v)|(go_at_call 98;refine(hX r Fin _ B ts i _ hF y.R hP).mono ?_;rintro e w2 ⟨x,bx,cx,j1,y9,rfl,hN,z2,d,z9⟩;refine Hid.out ?_))
 have h1:=y.lt
 have h3:=q5z y.g
 have g2:=d.box y.g (by omega)
 have b:=NT.put g2 (d.box y.z (by omega)) (hN.weak (fun q hq _=>by have:=hq.resolve_left id;omega)) z2 (y.K.trans d) h1 z1
 obtain⟨wm,o⟩:=exq (put4 w2 t (vi x.k) (sk x.t) (vi x.n) (.slice bx x.kids.length cx))
 rw[o]at b
 replace o:(((w2.setCell (Ad t 0) (vi x.k)).setCell (Ad t 1) (sk x.t)).setCell (Ad t 2) (vi x.n)).setCell (Ad t 3) (.slice bx x.kids.length cx)=wm:=o
 obtain⟨c0,c1,c2,c3,f0,f1,f2,f3⟩:=in4 g2
 refine Lib.hid ?_
 go_wp2_with (first|(go_at_call 42;refine(b.must (s:=S.sc) (by decide) hF z9).mono ?_;rintro e w9 ⟨rfl,j2,z0,p,a⟩;obtain⟨c0,c1,c2,c3,f0,f1,f2,f3⟩:=in4 p.g;obtain⟨d0,d1,d2,d3,e0,e1,e2,e3⟩:=in4 p.z))
 refine bodyPost_ret (b4u rfl (a0c _ _ _ _ p.z)) rfl ?_
 exact p.close a
end Go.Proofs.YtomniogfpfbolaaGreatDoor
