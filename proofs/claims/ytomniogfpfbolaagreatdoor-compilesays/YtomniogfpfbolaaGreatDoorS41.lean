import Derived.Test.YtomniogfpfbolaaGreatDoorS25
import Derived.Test.YtomniogfpfbolaaGreatDoorS40
namespace Go.Proofs.YtomniogfpfbolaaGreatDoor
open Go.RowKit Go
set_option maxRecDepth 100000
set_option maxHeartbeats 8000000
set_option linter.all false
variable {tm:Array Value} {B:Nat} {a b c d:Value}
def DSt (f:Nat):Prop:=∀(r:PRes) (Fin:Nat->Prop) (g:Nd->List PT->PR) (B:Nat) (ts:List Tok) (i:Nat) (w:World),a1y ts Fin r->Dr w B ts i false->(P f 8 nil0 0 (rest ts i)).on g=some r->Cl 73 #[Po B 0] w (NA no w B ts Fin r g)
def DBlk (f:Nat):Prop:=∀(r:PRes) (Fin:Nat->Prop) (g:Nd->List PT->PR) (B:Nat) (ts:List Tok) (i:Nat) (bad:Bool) (w:World),a1y ts Fin r->Dr w B ts i bad->Fl ts Fin r i bad (fun l=>(P f 7 (nd 4 []) 0 l).on g)->Cl 46 #[Po B 0] w (NA no w B ts Fin r g)
theorem d3d{W:World}(h:tm[2]?.getD undef=Po B 0)(hx:W.heap[B]?=some (.cells #[a,b,c,d] 34)):(results Tryz.f46 tm).run Tryz.prog W=.ok (.agg #[a,b,c,d]) W:=by
 obtain⟨c0,c1,c2,c3,_,_,_,_⟩:=in4 hx
 simp[results,Tryz.results46,go_sem,h,c0,c1,c2,c3]
def BlI (f t:Nat) (w:World) (B:Nat) (ts:List Tok) (Fin:Nat->Prop) (r:PRes) (g:Nd->List PT->PR) (k:Nat) (wr:World):Prop :=
 ∃(ks:List Nd) (b:Option Addr) (cap j:Nat) (bad:Bool),wr.heap[t]?=some (nbx (nd 4 ks) b cap)/\wr.heap[w.heap.size]?=some zbx/\Row (fun q=>w.heap.size<q/\q≠t) wr (.slice b ks.length cap) ks/\(∀q,Value.ownBlock (.slice b ks.length cap)=some q->w.heap.size<q)/\Dr wr B ts j bad/\a0b (fun k=>k=B) w wr/\k<=f/\ks.length+k<=f/\Fl ts Fin r j bad (fun l=>(P k 7 (nd 4 ks) 0 l).on g)
theorem b4s(f:Nat)(hf:f<=90000)(hS:∀k,k<f->DSt k):DBlk f:=by
 intro r Fin g B ts i bad w hF hR hP
 obtain⟨i0,hi0,hz0,hz1,hz2⟩:=info_parts a5w
 have hBw:=hR.lt
 have hb0:Bw w (w.alloc zbx):=q1z bz0 _
 have h2:=a0a w zbx
 have hb1:=q1z (Below.refl (w.alloc zbx).heap.size (w.alloc zbx)) (nbx (nd 4 []) none 0)
 have gt:=a0a (w.alloc zbx) (nbx (nd 4 []) none 0)
 rw[World.size_alloc]at gt
 have hI:BlI f (w.heap.size+1) w B ts Fin r g f ((w.alloc zbx).alloc (nbx (nd 4 []) none 0)):=⟨[],none,0,i,bad,gt,q0z hb1 h2,Row.nil _ _,fun q e=>by simp[Value.ownBlock]at e,(hR.below hb0).below hb1,(a0b.of_below hb0).trans (a0b.of_below hb1),Nat.le_refl _,by simp,hP⟩
 obtain⟨t,ht⟩:=exq (w.heap.size+1)
 rw[ht]at hI
 have htw:w.heap.size<t:=by omega
 clear hP hb1 gt
 go_enter Tryz.func46,Tryz.ntmps46
 go_wp2
 clear ht
 go_loopg [6] f (fun k _ wr=>BlI f t w B ts Fin r g k wr)
 case atStart=>exact hI
 case round =>
  obtain⟨ks,b,cap,j,bad,p3,p2,hRow,hown,hR1,hk,hgf,hle,hFl⟩:=hrel
  clear hI
  have hz3:=q5z p3
  have hz2':=q5z p2
  obtain⟨c0,c1,c2,c3,f0,f1,f2,f3⟩:=in4 p3
  obtain⟨d0,d1,d2,d3,e0,e1,e2,e3⟩:=in4 p2
  obtain⟨b',cap',s0,s1,s2,v1,v2⟩:=hR1.cells
  have hNw:NdV (fun q=>(no q\/w.heap.size<=q)/\q≠w.heap.size) wr (nd 4 ks) (ndv (nd 4 ks) b cap):=(hRow.node 4 [] 0).weak (fun q hq _=>⟨.inr (by omega),by omega⟩)
  rcases hFl with⟨rfl,hFi⟩|⟨rfl,hP⟩
  ·go_wp2
   refine bodyPost_ret (d3d rfl (a0c _ _ _ _ p2)) rfl ?_
   exact a1a hNw hR1 hk (Nat.le_refl _) hBw (.inl ⟨rfl,hFi⟩)
  have hT:=fun u (h:Dr u B ts j false)=>a4g B ts j false u h
  rw[show txd ts j false=tx (rest ts j) from rfl]at hT
  cases gk with
  | zero=>cases hP
  | succ k =>
  dsimp only at hP
  rw[P,a2f]at hP
  by_cases he1:tx (rest ts j)=W.end_
  ·rw[if_pos (.inl he1)]at hP
   rw[he1]at hT
   clear he1
   go_wp2_with (go_at_call 44;refine(hT wr hR1).mono ?_;rintro e w2 ⟨rfl,hb2⟩;have q3:=q0z hb2 p3;have q2:=q0z hb2 p2;obtain⟨c0,c1,c2,c3,f0,f1,f2,f3⟩:=in4 q3;obtain⟨d0,d1,d2,d3,e0,e1,e2,e3⟩:=in4 q2)
   refine bodyPost_ret (d3d rfl (a0c _ _ _ _ q2)) rfl ?_
   exact a1a (hNw.below hb2) (hR1.below hb2) (hk.trans (a0b.of_below hb2)) (Nat.le_refl _) hBw (.inr ⟨rfl,hP⟩)
  have n1:(tx (rest ts j) == [101,110,100])=false:=by simpa using he1
  by_cases he2:tx (rest ts j)=W.else_
  ·rw[if_pos (.inr he2)]at hP
   rw[he2]at hT
   clear he1 he2 n1
   go_wp2_with (first|(go_at_call 44;refine(hT wr hR1).mono ?_;rintro e w2 ⟨rfl,hb2⟩;have q3:=q0z hb2 p3;have q2:=q0z hb2 p2)|(go_at_call 44;refine(hT w2 (hR1.below hb2)).mono ?_;rintro e w3 ⟨rfl,hb3⟩;have hb23:=q3z hb2 hb3;have q33:=q0z hb3 q3;have q23:=q0z hb3 q2;obtain⟨c0,c1,c2,c3,f0,f1,f2,f3⟩:=in4 q33;obtain⟨d0,d1,d2,d3,e0,e1,e2,e3⟩:=in4 q23))
   refine bodyPost_ret (d3d rfl (a0c _ _ _ _ q23)) rfl ?_
   exact a1a (hNw.below hb23) (hR1.below hb23) (hk.trans (a0b.of_below hb23)) (Nat.le_refl _) hBw (.inr ⟨rfl,hP⟩)
  have n2:(tx (rest ts j) == [101,108,115,101])=false:=by simpa using he2
  rw[if_neg (by rintro(h|h);exact he1 h;exact he2 h),a4h]at hP
  obtain⟨tt,htt⟩:=exq (tx (rest ts j))
  rw[htt]at hT n1 n2
  have hcall:=fun u (hb:Bw wr u)=>hS k (by omega) r Fin _ B ts j u hF (hR1.below hb) hP
  have hn1:ks.length+1<=maxLen:=by unfold maxLen;omega
  have hb1:(ks.length+1)*56<=140737488355328:=by omega
  clear htt he1 he2 hP hS
  go_wp2_with (first|(go_at_call 44;refine(hT wr hR1).mono ?_;rintro e w2 ⟨rfl,hb2⟩)|(go_at_call 44;refine(hT w2 (hR1.below hb2)).mono ?_;rintro e w3 ⟨rfl,hb3⟩;have hb23:=q3z hb2 hb3)|(go_at_call 73;refine(hcall _ hb23).mono ?_;rintro e w4 ⟨x,bx,cx,j2,bad2,rfl,hN,hR4,hk4,hFl4⟩;refine Hid.out ?_))
  have hkA:=(a0b.of_below (S:=fun q=>q=B) hb23).trans hk4
  have q3:=hkA.box p3 (by omega)
  have q2:=hkA.box p2 (by omega)
  have hRow4:=hRow.keep hkA (fun q hq _ e=>by omega)
  have hzA:=hkA.size
  have hz3b:=hb23.size
  have hb5:=q1z (q1z (Below.refl w4.heap.size w4) (nbx x bx cx)) (nbx x bx cx)
  have hnew:=a0a (w4.alloc (nbx x bx cx)) (nbx x bx cx)
  rw[World.size_alloc]at hnew
  have q35:=q0z hb5 q3
  have q25:=q0z hb5 q2
  have hRow5:=hRow4.below hb5
  have hR5:=hR4.below hb5
  have hN5:=hN.below hb5
  have hk5:=(hk.trans hkA).trans (a0b.of_below hb5)
  obtain⟨_,_,_,hlt9⟩:=hRow.form
  obtain⟨c0,c1,c2,c3,f0,f1,f2,f3⟩:=in4 q3
  obtain⟨x0,x1,x2,x3,y0,y1,y2,y3⟩:=in4a q3
  clear hT hcall hRow4 hR4 hkA hk4 d0 d1 d2 d3 e0 e1 e2 e3 s0 s1 s2 v1 v2 hNw
  refine Lib.hid ?_
  go_wp2_with (at_builtin;refine Hid.out ?_)
  obtain⟨W,hW⟩:=exq ((w4.alloc (nbx x bx cx)).alloc (nbx x bx cx))
  rw[hW]at hnew q35 q25 hRow5 hR5 hN5 hk5
  replace hW:(w4.alloc (.cells #[vi x.k,.string ⟨x.t.toArray⟩,vi x.n,.slice bx x.kids.length cx] 34)).alloc (.cells #[vi x.k,.string ⟨x.t.toArray⟩,vi x.n,.slice bx x.kids.length cx] 34)=W:=hW
  rw[hW]
  obtain⟨xs,ho,hs,hn⟩:=hRow5.own
  have hne3:some t≠Value.ownBlock (.slice b ks.length cap):=fun e=>(hs _ e.symm).2 rfl
  have hzW:=q5z hnew
  have hy:NdV (fun q=>(w.heap.size<q/\q≠t)/\some q≠Value.ownBlock (.slice b ks.length cap)) W x (ndv x bx cx):=hN5.weak (fun q hq _=>by have:=hq.resolve_left id;exact⟨⟨by omega,by omega⟩,fun e=>by have:=(hlt9 q e.symm).2;omega⟩)
  clear hW hRow5 hN5 hN hRow c0 c1 c2 c3 f0 f1 f2 f3 x0 x1 x2 x3 y0 y1 y2 y3 q3 q2 hb5
  refine Lib.hid ?_
  go_wp2_with (at_builtin;refine wpList_append_lies _ (by rfl) _ _ _ (by rfl) 0 34 i0 _ 4 56 Tryz.underlying32 hi0 hz0 hz1 hz2 rfl (by omega) (.slice b ks.length cap) ks.length _ (by rfl) ho (Ad (w4.heap.size+1) 0) 1 1 _ (by rfl) (by rfl) (a2c x bx cx hnew) (by simp[Value.oneCell']) (by omega) hn1 hb1 (Nat.zero_le _) _ rfl ?_;intro g3 cap3 w5 hown1 hgrow hat1 hlt1;have p3w:=(hgrow.block _ (q5z q35) hne3).trans q35;obtain⟨c0,c1,c2,c3,f0,f1,f2,f3⟩:=in4 p3w)
  obtain⟨hRow6,g6,hk6,hown6⟩:=a2y (lo:=w.heap.size+1) ho hs hn hy (fun q hq=>hq.2) (fun q hq=>⟨by omega,by omega⟩) (fun q e=>hown q e) (by omega) q35 hown1 hgrow hat1 rfl
  have z6:=hk6.box q25 (fun e=>by rcases e with e|e;omega;have:=(hs _ e.symm).1;omega)
  have hR6:=hR5.keep hk6 (fun q hq e=>by rcases e with e|e;omega;have:=hown q e.symm;omega)
  have hkw6:=hk5.then hk6 (fun q hq e=>by rcases e with e|e;omega;have:=hown q e.symm;omega)
  go_roundg k
  case measure=>omega
  case rel=>exact⟨ks++[x],_,_,j2,bad2,g6,z6,hRow6,hown6,hR6,hkw6,by omega,by simp;omega,hFl4⟩
theorem d8t{W:World}(h:tm[4]?.getD undef=Po B 0)(hx:W.heap[B]?=some (.cells #[a,b,c,d] 34)):(results Tryz.f97 tm).run Tryz.prog W=.ok (.agg #[a,b,c,d]) W:=by
 obtain⟨c0,c1,c2,c3,_,_,_,_⟩:=in4 hx
 simp[results,Tryz.results97,go_sem,h,c0,c1,c2,c3]
def LpA (D:Nat->Prop) (w:World) (B:Nat) (ts:List Tok) (Fin:Nat->Prop) (r:PRes) (k:Int) (s:List UInt8) (g:List Nd->List PT->PR) (v:Value) (e:Ending) (w':World):Prop :=
 ∃ks b cap j bad,e=.returned (ndv ⟨k,s,0,ks⟩ b cap)/\NdV (fun q=>D q\/w.heap.size<=q) w' ⟨k,s,0,ks⟩ (ndv ⟨k,s,0,ks⟩ b cap)/\Dr w' B ts j bad/\a0b (fun q=>q=B\/some q=v.ownBlock) w w'/\Fl ts Fin r j bad (g ks)
theorem c8t(f:Nat)(hK:DBlk f)(k:Int)(s:List UInt8)(ks:List Nd)(b:Option Addr)(cap:Nat)(D:Nat->Prop)(r:PRes)(Fin:Nat->Prop)(g:List Nd->List PT->PR)(B:Nat)(ts:List Tok)(i:Nat)(bad:Bool)(w:World)(hF:a1y ts Fin r)(hR:Dr w B ts i bad)(hRow:Row D w (.slice b ks.length cap) ks)(hD:∀q,D q->q≠B)(hO:∀q,Value.ownBlock (.slice b ks.length cap)=some q->B<q)(hks:ks.length<=100000)(hP:Fl ts Fin r i bad (fun l=>need W.do_ l fun l=>(P f 7 (nd 4 []) 0 l).on fun bk l=>need W.end_ l fun l=>g (ks++[bk]) l)):Cl 97 #[Po B 0,ndv ⟨k,s,0,ks⟩ b cap] w (LpA D w B ts Fin r k s g (.slice b ks.length cap)):=by
 obtain⟨i0,v6,w0,w2,w3⟩:=info_parts a5w
 obtain⟨h3,h4⟩:=new2 w (nbx ⟨k,s,0,ks⟩ b cap) zbx
 have y9:=a6g w (nbx ⟨k,s,0,ks⟩ b cap) zbx
 have t6:=hR.lt
 have hM:=a2o (s:=W.do_) (by decide) hF hP _ (hR.below y9)
 have v8:ks.length+1<=maxLen:=by unfold maxLen;omega
 have v5:(ks.length+1)*56<=140737488355328:=by omega
 clear hP
 go_enter Tryz.func97,Tryz.ntmps97
 go_wp2_with (first|(go_at_call 42;refine hM.mono ?_;rintro e w1 ⟨rfl,j1,w6,x4,z0,z5⟩)|(go_at_call 46;refine(hK r Fin _ B ts j1 w6 _ hF x4 z5).mono ?_;rintro e w4 ⟨x,bx,a,j2,v0,rfl,hN,x5,z1,w8⟩;refine Hid.out ?_))
 have d:=z0.trans z1
 have q3:=d.box h3 (by omega)
 have q2:=d.box h4 (by omega)
 have v1:=z0.size
 have t7:=z1.size
 have t9:=q5z h4
 obtain⟨_,_,_,h⟩:=hRow.form
 have c:Row (fun q=>(D q/\q<w.heap.size)\/w.heap.size+1<q) w4 (.slice b ks.length cap) ks:=(((hRow.weak (S':=fun q=>D q/\q<w.heap.size) (fun q hq v7=>⟨hq,v7⟩)).below y9).keep d (fun q hq _ e=>hD q hq.1 e)).weak (fun q hq _=>.inl hq)
 have y:=q1z (q1z (Below.refl w4.heap.size w4) (nbx x bx a)) (nbx x bx a)
 have u:=a0a (w4.alloc (nbx x bx a)) (nbx x bx a)
 rw[World.size_alloc]at u
 have p:=q0z y q3
 have z3:=q0z y q2
 have v:=c.below y
 have y6:=x5.below y
 have y5:=hN.below y
 have z2:=((a0b.of_below (S:=fun q=>q=B) y9).trans d).trans (a0b.of_below y)
 obtain⟨c0,c1,c2,c3,f0,f1,f2,f3⟩:=in4 q3
 obtain⟨x0,x1,x2,x3,y0,y1,y2,y3⟩:=in4a q3
 clear hM hK c x5 d z1 z5 x4 z0 h3 h4
 refine Lib.hid ?_
 go_wp2_with (at_builtin;refine Hid.out ?_)
 obtain⟨W,hW⟩:=exq ((w4.alloc (nbx x bx a)).alloc (nbx x bx a))
 rw[hW]at u p z3 v y6 y5 z2
 replace hW:(w4.alloc (.cells #[vi x.k,.string ⟨x.t.toArray⟩,vi x.n,.slice bx x.kids.length a] 34)).alloc (.cells #[vi x.k,.string ⟨x.t.toArray⟩,vi x.n,.slice bx x.kids.length a] 34)=W:=hW
 rw[hW]
 obtain⟨xs,ho,hs,hn⟩:=v.own
 have x9:some w.heap.size≠Value.ownBlock (.slice b ks.length cap):=fun e=>by have:=(h _ e.symm).2;omega
 have t8:=q5z u
 have hy:NdV (fun q=>((D q/\q<w.heap.size)\/w.heap.size+1<q)/\some q≠Value.ownBlock (.slice b ks.length cap)) W x (ndv x bx a):=y5.weak (fun q hq _=>by have:=hq.resolve_left id;exact⟨.inr (by omega),fun e=>by have:=(h q e.symm).2;omega⟩)
 clear hW v y5 hN hRow c0 c1 c2 c3 f0 f1 f2 f3 x0 x1 x2 x3 y0 y1 y2 y3 q3 q2 y
 refine Lib.hid ?_
 go_wp2_with (first|(at_builtin;refine wpList_append_lies _ (by rfl) _ _ _ (by rfl) 0 34 i0 _ 4 56 Tryz.underlying32 v6 w0 w2 w3 rfl (by omega) (.slice b ks.length cap) ks.length _ (by rfl) ho (Ad (w4.heap.size+1) 0) 1 1 _ (by rfl) (by rfl) (a2c x bx a u) (by simp[Value.oneCell']) (by omega) v8 v5 (Nat.zero_le _) _ rfl ?_;intro g3 z4 w5 o z z7 x8;have y4:=(z.block _ (q5z p) x9).trans p;obtain⟨c0,c1,c2,c3,f0,f1,f2,f3⟩:=in4 y4)|(go_at_call 42;refine Hid.out ?_))
 obtain⟨W4,y8⟩:=exq (w5.setCell (Ad w.heap.size 3) (.slice (some (Ad g3 0)) (ks.length+1) z4))
 obtain⟨y7,g6,z8,v9⟩:=a2y (lo:=0) ho hs hn hy (fun q hq=>by omega) (fun q hq=>.inr (by omega)) (fun q e=>Nat.zero_le _) (Nat.zero_le _) p o z z7 y8
 have z6:=z8.box z3 (fun e=>by rcases e with e|e;omega;have:=(h _ e.symm).2;omega)
 have x6:=y6.keep z8 (fun q hq e=>by rcases e with e|e;omega;have:=hO q e.symm;omega)
 have x7:a0b (fun q=>q=B\/some q=Value.ownBlock (.slice b ks.length cap)) w W4:=(z2.mono (fun q _ e=>.inl e)).then z8 (fun q hq e=>by rcases e with e|e;omega;exact .inr e)
 have v2:=a2o (s:=[101,110,100]) (by decide) hF w8 W4 x6
 rw[y8]
 clear y8 o z z7 x8 ho hs hn hy z8 y6 z2 p z3 c0 c1 c2 c3 f0 f1 f2 f3 y4 x6
 refine Lib.hid ?_
 refine v2.mono ?_
 rintro e wf ⟨rfl,j5,w7,v4,z9,w9⟩
 have gf:=z9.box g6 (by omega)
 have zf:=z9.box z6 (by omega)
 obtain⟨c0,c1,c2,c3,f0,f1,f2,f3⟩:=in4 gf
 obtain⟨d0,d1,d2,d3,e0,e1,e2,e3⟩:=in4 zf
 have v3:=(y7.keep z9 (fun q hq _ e=>by subst e;rcases hq with hq|hq;exact hD q hq.1 rfl;omega)).node k s 0
 go_wp2
 refine bodyPost_ret (d8t rfl (a0c _ _ _ _ zf)) rfl ?_
 rw[show ks.length+1=(ks++[x]).length by simp]
 refine⟨ks++[x],_,z4,j5,w7,rfl,(v3.put4 _ _ _ _ _ (fun q hq=>by omega)).weak (fun q hq _=>by rcases hq with hq|hq;exact .inl hq.1;exact .inr (by omega)),v4.put4 _ _ _ _ _ (by omega),?_,w9⟩
 exact a1f (x7.then z9 (fun q hq e=>.inl e)) _ _ _ _ _ (by omega)
end Go.Proofs.YtomniogfpfbolaaGreatDoor
