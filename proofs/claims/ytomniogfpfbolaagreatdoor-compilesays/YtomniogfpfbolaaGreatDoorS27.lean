import Derived.Test.YtomniogfpfbolaaGreatDoorS22
namespace Go.Proofs.YtomniogfpfbolaaGreatDoor
open Go.RowKit Go
set_option maxRecDepth 100000
set_option maxHeartbeats 8000000
set_option linter.all false
variable {tm:Array Value} {B m:Nat} {a b c d:Value} {o:Obj} {u w:World} {ts:List Tok}
theorem d5m(f:Nat)(hE:∀g,g<=f->a6z g):SufC (f+1):=by
 intro x b cap D r B ts i w u y v z
 rw[P]at z
 split at z
 ·rename_i h
  exact c2z f (hE f (Nat.le_refl _)) x b cap D r B ts i w u y v h z
 ·rename_i h
  exact c7e f hE x b cap D r B ts i w u y v h z
def SimC (f:Nat):Prop:=∀(r:PRes) (B:Nat) (ts:List Tok) (i:Nat) (w:World),Ctx w B ts i->P f 3 nil0 0 (rest ts i)=some r->Cl 192 #[Po B 0] w (PAns no w B ts r)
theorem d5n{W:World}(h:tm[2]?.getD undef=Po B 0)(hx:W.heap[B]?=some (.cells #[a,b,c,d] 34)):(results Tryz.f186 tm).run Tryz.prog W=.ok (.agg #[a,b,c,d]) W:=by
 obtain⟨c0,c1,c2,c3,_,_,_,_⟩:=in4 hx
 simp[results,Tryz.results186,go_sem,h,c0,c1,c2,c3]
def SufI (f t:Nat) (w:World) (B:Nat) (ts:List Tok) (r:PRes) (k:Nat) (wr:World):Prop :=
 ∃(n:Nd) (j:Nat) (b:Option Addr) (cap:Nat),wr.heap[t]?=some (nbx n b cap)/\wr.heap[w.heap.size]?=some zbx/\NdV (fun g=>w.heap.size<=g/\g≠w.heap.size/\g≠t) wr n (ndv n b cap)/\Rd wr B ts j/\a0b (fun k=>k=B) w wr/\k<=f/\P k 4 n 0 (rest ts j)=some r
theorem d2c(f:Nat)(hM:SimC f)(hF:∀g,g<f->SufC g)(r:PRes)(B:Nat)(ts:List Tok)(i:Nat)(w:World)(hC:Ctx w B ts i)(hP:(P f 3 nil0 0 (rest ts i)).on (fun n l=>P f 4 n 0 l)=some r):Cl 186 #[Po B 0] w (PAns no w B ts r):=by
 obtain⟨r0,hr0,hr1⟩:=a4d hP
 have hEE:=hM r0 B ts i _ (hC.below (q1z bz0 zbx)) hr0
 have h2:=a0a w zbx
 have hBw:=hC.R.lt
 have hk0:a0b (fun k=>k=B) w (w.alloc zbx):=a0b.of_below (q1z bz0 _)
 replace hr1:Hid _:=hr1
 clear hP hr0 hM
 go_enter Tryz.func186,Tryz.ntmps186
 go_wp2_with (go_at_call 192;refine hEE.mono ?_;intro e w1 hA;rcases r0 with l1|⟨n1,l1⟩;(obtain⟨j,hj,hle,rfl,hk1⟩:=hA;rcases hr1.out with⟨l,e1,e2⟩|⟨n,l,e1,_⟩;(cases e1;subst e2;exact⟨rfl,a0e hj hle (hk0.trans hk1)⟩);cases e1);obtain⟨j,b1,cap1,hj,rfl,hN1,hR1,hk1⟩:=hA)
 rcases hr1.out with⟨l,e1,_⟩|⟨n,l,e1,hr2⟩
 ·cases e1
 cases e1
 have g2:=hk1.box h2 (by omega)
 have hz:=q5z g2
 have hb1:Bw w1 (w1.alloc (nbx n1 b1 cap1)):=q1z bz0 _
 have hI:SufI f w1.heap.size w B ts r f (w1.alloc (nbx n1 b1 cap1)):=⟨n1,j,b1,cap1,a0a _ _,q0z hb1 g2,(hN1.weak (fun g hg hlt=>by simp at hg;exact⟨by omega,by omega,by omega⟩)).below hb1,hR1.below hb1,(hk0.trans hk1).trans (a0b.of_below hb1),Nat.le_refl _,by rw[hj];exact hr2⟩
 obtain⟨t,ht⟩:=exq (w1.heap.size)
 obtain⟨W1,hW1⟩:=exq (w1.alloc (nbx n1 b1 cap1))
 rw[hW1]at hI
 dsimp only[nbx]at hW1
 rw[hW1]
 rw[ht]at hI hz⊢
 clear hW1 ht hr1 hr2 hN1 hR1 hk1 g2 h2 hk0 hb1 hEE
 go_loopg [8] f (fun k _ wr=>SufI f t w B ts r k wr)
 case atStart=>exact hI
 case round =>
  clear hI
  obtain⟨n,j,b,cap,g3,g2,hN,hR,hk,hgf,hr⟩:=hrel
  have hCr:=hC.on hR
  cases gk with
  | zero=>cases hr
  | succ g =>
   rw[P]at hr
   have hSee:=hCr.sees2 c7d b3u wr bz0
   by_cases hy:tx (rest ts j)=S.lb\/tx (rest ts j)=S.lp
   ·rw[decide_eq_true hy]at hSee
    rw[if_pos hy]at hr
    obtain⟨r1,hr1,hr2⟩:=a4d hr
    have hFF:=fun u (hb:Bw wr u)=>hF g (by omega) n b cap _ r1 B ts j u (hCr.below hb) (hN.below hb) (fun g hg=>by omega) hr1
    replace hr2:Hid _:=hr2
    clear hr hr1 hF
    go_wp2_with (first|(go_at_call 129;refine hSee.mono ?_;rintro e w4 ⟨rfl,hb4⟩;have q3:=q0z hb4 g3;obtain⟨c0,c1,c2,c3,f0,f1,f2,f3⟩:=in4 q3)|(go_at_call 175;refine(hFF _ hb4).mono ?_;intro e w5 hA;rcases r1 with l1|⟨n2,l2⟩;(obtain⟨j2,hj2,hle,rfl,hk5⟩:=hA;rcases hr2.out with⟨l,e1,e2⟩|⟨n,l,e1,_⟩;(cases e1;subst e2;exact⟨rfl,a0e hj2 hle ((hk.trans (a0b.of_below hb4)).trans hk5)⟩);cases e1);obtain⟨j2,b2,cap2,hj2,rfl,hN5,hR5,hk5⟩:=hA;have q3:=hk5.box q3 (by omega);obtain⟨c0,c1,c2,c3,f0,f1,f2,f3⟩:=in4 q3))
    rcases hr2.out with⟨l,e1,_⟩|⟨n',l,e1,hr3⟩
    ·cases e1
    cases e1
    have hz5:=hb4.size
    have hzt:=q5z g3
    go_roundg g
    case measure=>omega
    case rel=>exact⟨n2,j2,b2,cap2,a0c _ _ _ _ q3,(a2e _ _ _ _ (by omega)).trans (hk5.box (q0z hb4 g2) (by omega)),(hN5.weak (fun g hg hlt=>by rcases hg with hg|hg;exact hg;exact⟨by omega,by omega,by omega⟩)).put4 _ _ _ _ _ (fun g hg=>hg.2.2),hR5.put4 _ _ _ _ _ (by omega),a1f ((hk.trans (a0b.of_below hb4)).trans hk5) _ _ _ _ _ (by omega),by omega,by rw[hj2];exact hr3⟩
   ·rw[decide_eq_false hy]at hSee
    rw[if_neg hy]at hr
    replace hr:Hid _:=hr
    go_wp2_with (go_at_call 129;refine hSee.mono ?_;rintro e w4 ⟨rfl,hb4⟩;have q3:=q0z hb4 g3;have q2:=q0z hb4 g2;obtain⟨c0,c1,c2,c3,f0,f1,f2,f3⟩:=in4 q3;obtain⟨d0,d1,d2,d3,e0,e1,e2,e3⟩:=in4 q2)
    refine bodyPost_ret (d5n rfl (a0c _ _ _ _ q2)) rfl ?_
    obtain rfl:=Option.some.inj hr.out
    exact a0m rfl ((hN.below hb4).weak (fun g hg _=>⟨.inr hg.1,hg.2.1⟩)) (hR.below hb4) (hk.trans (a0b.of_below hb4)) (Nat.le_refl _) hBw
def LkM (m:Nat) (o:Obj) (u:World):Prop:=u.heap[m]?=some o
theorem LkM.alloc(u:World)(o':Obj)(h:LkM m o u):LkM m o (u.alloc o'):=q4z o' h
theorem LkM.drew(u:World)(h:LkM m o u):LkM m o u.drew:=h
theorem LkM.below{w':World}(h:LkM m o u)(hb:Bw u w'):LkM m o w':=q0z hb h
theorem a6x{kv:List (List UInt8×Value)}(hd:(kv.map (·.1)).Nodup)(h:LkM m (a0f sk kv) u)(s:List UInt8):(Instr.lookup 108 (.map (some m)) (sk s) true).run Tryz.prog u=.ok (.tuple #[(kv.lookup s).getD (ik 0),.bool (kv.lookup s).isSome]) u:=by
 have:=a5m (P:=Tryz.prog) (w:=u) (T:=108) (K:=9) (E:=3) (kf:=sk) (kv:=kv) (B:=m) Tryz.underlying108 Tryz.underlying9 a1j h hd (z:=ik 0) (by kernel_rfl) s true
 rw[if_pos rfl]at this
 exact this
def SgnC (f:Nat):Prop:=∀(r:PRes) (B:Nat) (ts:List Tok) (i:Nat) (w:World),Ctx w B ts i->P f 1 nil0 0 (rest ts i)=some r->Cl 181 #[Po B 0] w (PAns no w B ts r)
theorem d0e{W:World}(h:tm[2]?.getD undef=Po B 0)(hx:W.heap[B]?=some (.cells #[a,b,c,d] 34)):(results Tryz.f181 tm).run Tryz.prog W=.ok (.agg #[a,b,c,d]) W:=by
 obtain⟨c0,c1,c2,c3,_,_,_,_⟩:=in4 hx
 simp[results,Tryz.results181,go_sem,h,c0,c1,c2,c3]
theorem d5o:a1h S.mi:=⟨_,_,rfl,rfl⟩
theorem d5p:a1h S.hs:=⟨_,_,rfl,rfl⟩
theorem d0f:a1h W.not_:=⟨_,_,rfl,rfl⟩
theorem b4f{x:Nd}{b:Option Addr}{cap:Nat}{l:List PT}{j:Nat}{W:World}{t:Nat}{a0 a1 a2 a3:Value}(k:Int)(hj:rest ts j=l)(hN:NdV (fun g=>w.heap.size<=g/\g≠t) W x (ndv x b cap))(hR:Rd W B ts j)(hk:a0b (fun k=>k=B) w W)(ht:w.heap.size<=t)(hB:B<w.heap.size)(g:W.heap[t]?=some (.cells #[a0,a1,a2,a3] 34)) :
  PAns no w B ts (.inr (nd k [x],l)) (.returned (ndv (nd k [x]) (some (Ad W.heap.size 0)) 1)) (put4 (W.alloc (nbx x b cap)) t (vi k) (sk []) (vi 0) (.slice (some (Ad W.heap.size 0)) 1 1)):=by
 have v:=q5z g
 have y:=hk.size
 obtain⟨h1,h2,h3⟩:=b0e (D:=fun g=>w.heap.size<=g/\g≠t) k 0 hN (fun g z=>z.2) ⟨y,by omega⟩ g rfl
 refine⟨j,_,1,hj,rfl,(h1.node k [] 0).weak (fun g z _=>.inr z.1),hR.keep h3 (fun g z=>by omega),hk.then h3 (fun q hq e=>by omega)⟩
theorem b2p(f:Nat)(s:List UInt8)(hs:a1h s)(k:Int)(hkv:a1n.lookup s=some (ik k))(hG:SgnC f)(r:PRes)(B:Nat)(ts:List Tok)(i:Nat)(w:World)(hC:Ctx w B ts i)(htx:tx (rest ts i)=s)(hP:(P f 1 nil0 0 (rest ts i).tail).on (fun x l=>.ok (nd k [x]) l)=some r):Cl 181 #[Po B 0] w (PAns no w B ts r):=by
 rw[a0g]at hP
 obtain⟨r0,z9,y⟩:=a4d hP
 have z1:=fun u h=>hG r0 B ts (i+1) u h z9
 have h2:=a0a w zbx
 have z0:=hC.R.lt
 have z5:=a5a htx (b2g hs)
 have y8:=hC.R.short
 have q:Bw w (w.alloc zbx):=q1z bz0 _
 obtain⟨m1,m2,m3,m4,m5,b,cap,h1,_,hW,_⟩:=(hC.R.below q).box
 obtain⟨c0,c1,c2,c3,c4,c5,c6,f6⟩:=rdC h1
 have p:=fun u (hb:Bw w u)=>a4w B ts i u (hC.R.below hb)
 rw[(hC.is hs).2 htx]at p
 have q0:LkM m4 (a0f sk a1n) (w.alloc zbx):=hW.h4
 have hL:=fun u h=>a6x (u:=u) (m:=m4) (kv:=a1n) (by decide) h s
 rw[hkv]at hL
 simp only[Option.getD_some,Option.isSome_some]at hL
 replace y:Hid _:=y
 replace h1:Hid _:=h1
 clear hP z9 hG hkv hW
 go_enter Tryz.func181,Tryz.ntmps181
 go_wp2
 have q1:=LkM.drew (m:=m4) (o:=a0f sk a1n)
 go_region_with ((go_at_call 143;refine(p _ (q.drew)).mono ?_;rintro e w1 ⟨rfl,z⟩;have c:=(hC.R.below (q.drew)).below z;have q3:=LkM.below (LkM.drew _ q0) z;have c3:=cellB (W:=(w.alloc zbx).drew) z c3))
 all_goals
  obtain⟨n1,n2,n3,n4,n5,b',cap',z7,_⟩:=c.box
  obtain⟨d0,d1,d2,d3,d4,d5,d6,e6⟩:=rdC z7
  have g2:=q0z z (W:=(w.alloc zbx).drew) h2
  have t:a0b (fun k=>k=B) w (w1.setCell (Ad B 6) (vi ((i:Nat)+1))):=(a0b.of_below (q3z (q.drew) z)).set B 6 _ (fun _=>rfl)
  have d:=c.go (j:=i+1) z5
  have a:(w1.setCell (Ad B 6) (vi ((i:Nat)+1))).heap[w.heap.size]?=some zbx:=(q8z _ _ (by omega)).trans g2
  obtain⟨W2,z8⟩:=exq (w1.setCell (Ad B 6) (vi ((i:Nat)+1)))
  rw[z8]at t a
  have d:Rd W2 B ts (i+1):=z8▸d
  clear hL q0 q1 q3 c0 c1 c2 c3 c4 c5 c6 f6 c z7 g2 p
  go_wp2_with (go_at_call 181;refine(z1 _ (hC.on d)).mono ?_;intro e w3 hA;rcases r0 with l1|⟨n1,l1⟩;(obtain⟨j,hj,z4,rfl,v⟩:=hA;rcases y.out with⟨l,e1,e2⟩|⟨n,l,e1,_⟩;(cases e1;subst e2;exact⟨rfl,a0e hj z4 (t.trans v)⟩);cases e1);obtain⟨j,b1,y9,hj,rfl,z2,z3,v⟩:=hA;have g3:=v.box a (by omega);obtain⟨u0,u1,u2,u3,v0,v1,v2,v3⟩:=in4a g3)
  rcases y.out with⟨l,e1,_⟩|⟨n,l,e1,z6⟩
  ·cases e1
  cases e1
  obtain rfl:=Option.some.inj z6
  refine bodyPost_ret (d0e rfl (a0c _ _ _ _ (q4z _ g3))) rfl ?_
  exact b4f k hj (z2.weak (fun g hg _=>by have:=t.size;have:=q5z a;rcases hg with hg|hg;exact hg.elim;exact⟨by omega,by omega⟩)) z3 (t.trans v) (Nat.le_refl _) z0 g3
theorem c7y(r:PRes)(B:Nat)(ts:List Tok)(i:Nat)(w:World)(hC:Ctx w B ts i)(hn:a1n.lookup (wd ts i)=none)(hX:∀u,Ctx u B ts i->Cl 186 #[Po B 0] u (PAns no u B ts r)):Cl 181 #[Po B 0] w (PAns no w B ts r):=by
 have h2:=a0a w zbx
 have a:=hC.R.lt
 have x:Bw w (w.alloc zbx):=q1z bz0 _
 obtain⟨m1,m2,m3,m4,m5,b,cap,h1,_,hW,_⟩:=(hC.R.below x).box
 obtain⟨c0,c1,c2,c3,c4,c5,c6,f6⟩:=rdC h1
 have t:=fun u (hb:Bw w u)=>a4w B ts i u (hC.R.below hb)
 have q0:LkM m4 (a0f sk a1n) (w.alloc zbx):=hW.h4
 have o:=fun u h=>a6x (u:=u) (m:=m4) (kv:=a1n) (by decide) h (wd ts i)
 rw[hn]at o
 simp only[Option.getD_none,Option.isSome_none]at o
 obtain⟨s,hs⟩:=exq (wd ts i)
 rw[hs]at o t
 clear hW h1 hn hs
 go_enter Tryz.func181,Tryz.ntmps181
 go_wp2
 go_region_with ((go_at_call 143;refine(t _ (x.drew)).mono ?_;rintro e w1 ⟨rfl,z⟩;have c:=hC.below (q3z (x.drew) z);have q3:=LkM.below (LkM.drew _ q0) z;have c3:=cellB (W:=(w.alloc zbx).drew) z c3))
 all_goals
  have q:=hX _ c
  have g2:=q0z z (W:=(w.alloc zbx).drew) h2
  have v:a0b (fun k=>k=B) w w1:=a0b.of_below (q3z (x.drew) z)
  clear o q0 q3 c0 c1 c2 c3 c4 c5 c6 f6 t hX
  rcases r with l1|⟨n1,l1⟩
  ·go_wp2_with (go_at_call 186;refine q.mono ?_;rintro e w3 ⟨j,l,n,rfl,y⟩)
   exact⟨rfl,a0e l n (v.trans y)⟩
  ·go_wp2_with (go_at_call 186;refine q.mono ?_;rintro e w3 ⟨j,b1,z9,l,rfl,d,f,y⟩;have g3:=y.box g2 (by omega);obtain⟨u0,u1,u2,u3,v0,v1,v2,v3⟩:=in4 g3)
   refine bodyPost_ret (d0e rfl (a0c _ _ _ _ g3)) rfl ?_
   exact a0m l (d.weak (fun g p _=>by have:=v.size;have:=q5z g2;rcases p with p|p;exact p.elim;exact⟨.inr (by omega),by omega⟩)) f (v.trans y) (Nat.le_refl _) a
theorem d5q(f:Nat)(hM:SimC f)(hF:∀g,g<f->SufC g)(hG:SgnC f):SgnC (f+1):=by
 intro r B ts i w y z
 rw[P]at z
 split at z
 ·rename_i h;exact b2p f _ d5o 24 rfl hG r B ts i w y h z
 split at z
 ·rename_i h;exact b2p f _ d0f 23 rfl hG r B ts i w y h z
 split at z
 ·rename_i h;exact b2p f _ d5p 25 rfl hG r B ts i w y h z
 rename_i a1 a2 a3
 refine c7y r B ts i w y (a6b ?_) (fun u h=>d2c f hM hF r B ts i u h z)
 intro p x
 simp only[a1n,List.mem_cons,List.not_mem_nil,or_false]at x
 rcases x with rfl|rfl|rfl
 ·exact fun e=>a1 ((y.is d5o).1 e.symm)
 ·exact fun e=>a2 ((y.is d0f).1 e.symm)
 ·exact fun e=>a3 ((y.is d5p).1 e.symm)
theorem d2d(h:LkM m (a0f sk a0d) u)(s:List UInt8):(Instr.lookup 127 (.map (some m)) (sk s) false).run Tryz.prog u=.ok ((a0d.lookup s).getD (.agg #[vi 0,vi 0])) u:=by
 have:=a5m (P:=Tryz.prog) (w:=u) (T:=127) (K:=9) (E:=154) (kf:=sk) (kv:=a0d) (B:=m) Tryz.underlying127 Tryz.underlying9 a1j h (by decide) (z:=.agg #[vi 0,vi 0]) (by kernel_rfl) s false
 rw[if_neg (by decide)]at this
 exact this
theorem d2e(s:List UInt8):a0d.lookup s=(opAt s).map fun p=>.agg #[vi p.1,vi ((p.2+1:Nat):Int)]:=by
 unfold a0d opAt
 have e:∀l:List (List UInt8×Int×Nat),(l.map fun p=>(p.1,Value.agg #[vi p.2.1,vi ((p.2.2+1:Nat):Int)])).lookup s=((l.find? (fun p=>p.1 == s)).map (fun p=>p.2)).map fun p=>.agg #[vi p.1,vi ((p.2+1:Nat):Int)]:=fun l=>by
  induction l with
  | nil=>rfl
  | cons a l ih =>
   simp only[List.map_cons,List.lookup_cons,List.find?_cons]
   by_cases hs:a.1=s
   ·subst hs;simp
   ·have h1:(s == a.1)=false:=by simpa using fun e=>hs e.symm
    have h2:(a.1 == s)=false:=by simpa using hs
    rw[h1,h2]
    exact ih
 exact e opsL
theorem d2f{i:Nat}(hC:Ctx w B ts i):opAt (wd ts i)=opAt (tx (rest ts i)):=by
 have y:∀p∈opsL,a1h p.1:=by
  intro p z
  simp only[opsL,List.mem_cons,List.not_mem_nil,or_false]at z
  rcases z with rfl|rfl|rfl|rfl|rfl|rfl|rfl|rfl|rfl|rfl|rfl <;> exact⟨_,_,rfl,rfl⟩
 have e:∀l:List (List UInt8×Int×Nat),(∀p∈l,a1h p.1)->l.find? (fun p=>p.1 == wd ts i)=l.find? (fun p=>p.1 == tx (rest ts i)):=fun l=>by
  induction l with
  | nil=>intro _;rfl
  | cons a l ih =>
   intro h
   have h1:(a.1 == wd ts i)=(a.1 == tx (rest ts i)):=by
    have:=hC.is (h a (by simp))
    by_cases hs:wd ts i=a.1
    ·rw[hs,this.1 hs]
    ·have h2:¬tx (rest ts i)=a.1:=fun e=>hs (this.2 e)
     rw[beq_false_of_ne (fun e=>hs e.symm),beq_false_of_ne (fun e=>h2 e.symm)]
   simp only[List.find?_cons,h1]
   rw[ih (fun p z=>h p (by simp[z]))]
 unfold opAt
 rw[e opsL y]
theorem c3x{W:World}(h:tm[4]?.getD undef=Po B 0)(hx:W.heap[B]?=some (.cells #[a,b,c,d] 34)):(results Tryz.f178 tm).run Tryz.prog W=.ok (.agg #[a,b,c,d]) W:=by
 obtain⟨c0,c1,c2,c3,_,_,_,_⟩:=in4 hx
 simp[results,Tryz.results178,go_sem,h,c0,c1,c2,c3]
theorem c7z(f:Nat)(hG:SgnC f)(r:PRes)(B:Nat)(ts:List Tok)(i:Nat)(w:World)(hC:Ctx w B ts i)(hP:P f 1 nil0 0 (rest ts i)=some r):Cl 178 #[Po B 0,vi 7] w (PAns no w B ts r):=by
 have u:=hG r B ts i (w.alloc zbx) (hC.below (q1z bz0 _)) hP
 have o:=a0a w zbx
 have v:=hC.R.lt
 clear hG hP
 cases r with
 | inl l =>
  go_enter Tryz.func178,Tryz.ntmps178
  go_wp2_with (go_at_call 181;refine u.mono ?_;rintro e w1 ⟨j,x,y,rfl,z⟩)
  exact⟨rfl,a0e x y ((a0b.of_below (q1z bz0 _)).trans z)⟩
 | inr p =>
  obtain⟨n,l⟩:=p
  go_enter Tryz.func178,Tryz.ntmps178
  go_wp2_with (go_at_call 181;refine u.mono ?_;rintro e w1 ⟨j,b,cap,x,rfl,q,s,z⟩;have h1:=z.box o (by omega);obtain⟨c0,c1,c2,c3,f0,f1,f2,f3⟩:=in4 h1)
  refine bodyPost_ret (c3x rfl (a0c _ _ _ _ h1)) rfl ?_
  exact a0m x (q.weak (fun g t _=>by simp at t;exact⟨.inr (by omega),by omega⟩)) s ((a0b.of_below (q1z bz0 _)).trans z) (Nat.le_refl _) v
end Go.Proofs.YtomniogfpfbolaaGreatDoor
