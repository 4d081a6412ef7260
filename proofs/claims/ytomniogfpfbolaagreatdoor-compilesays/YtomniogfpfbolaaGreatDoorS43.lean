import Derived.Test.YtomniogfpfbolaaGreatDoorS40
namespace Go.Proofs.YtomniogfpfbolaaGreatDoor
open Go.RowKit Go
set_option maxRecDepth 100000
set_option maxHeartbeats 8000000
set_option linter.all false
variable {tm:Array Value} {B:Nat} {a b c d:Value}
theorem d0h{W:World}(h:tm[2]?.getD undef=Po B 0)(hx:W.heap[B]?=some (.cells #[a,b,c,d] 34)):(results Tryz.f163 tm).run Tryz.prog W=.ok (.agg #[a,b,c,d]) W:=by
 obtain⟨c0,c1,c2,c3,_,_,_,_⟩:=in4 hx
 simp[results,Tryz.results163,go_sem,h,c0,c1,c2,c3]
theorem c4z(f:Nat)(hE:a6z f)(hB:BlkC f)(r:PRes)(B:Nat)(ts:List Tok)(i:Nat)(w:World)(hC:Ctx w B ts i)(hP:(P f 0 nil0 0 (rest ts i)).on (fun x l=>need W.then_ l fun l=>(P f 7 (nd 4 []) 0 l).on fun b l=>if tx l=W.else_ then (P f 7 (nd 4 []) 0 l.tail).on fun c l=>need W.end_ l fun l=>.ok (nd 8 [x,b,c]) l else need W.end_ l fun l=>.ok (nd 8 [x,b]) l)=some r):Cl 163 #[Po B 0] w (PAns no w B ts r):=by
 obtain⟨i0,r6,r7,r8,r9⟩:=info_parts a5w
 have t5:=hC.R.lt
 have s7:Bw w (w.alloc zbx):=q1z bz0 _
 have h2:=a0a w zbx
 have t0:a0b (fun k=>k=B) w (w.alloc zbx):=a0b.of_below s7
 have s8:=a8e hP (fun r0 h=>hE r0 B ts _ _ (hC.below s7) h)
 clear hP
 go_enter Tryz.func163,Tryz.ntmps163
 go_wp2_with (go_at_call 173;refine s8.mono ?_;rintro e w3 (⟨j,rfl,s,rfl,z2⟩|⟨n,j1,b1,o,v4,rfl,s5,s6,z2⟩);(exact⟨rfl,a0e rfl s (t0.trans z2)⟩);(try dsimp only at v4);have w2:=t0.trans z2;have g3:=z2.box h2 (by omega);refine Hid.out ?_)
 have s0:=q5z g3
 have y9:Bw w3 (w3.alloc (nbx n b1 o)):=q1z bz0 _
 have q4:=a0a w3 (nbx n b1 o)
 have s2:=q0z y9 g3
 have w1:NdV (fun q=>w.heap.size<q) (w3.alloc (nbx n b1 o)) n (ndv n b1 o):=(s5.weak (fun q hq _=>by simp at hq;omega)).below y9
 have v8:=w2.trans (a0b.of_below y9)
 have x9:=(hC.on s6).wantsU d2s v4 _ y9
 rw[World.size_alloc]at x9
 obtain⟨t3,t2⟩:=exq (w3.heap.size)
 clear s8 v4 h2 z2 w2 s5
 rw[t2]at x9 q4 s0
 refine Lib.hid ?_
 go_wp2_with (go_at_call 127;refine x9.mono ?_;rintro e w5 (⟨rfl,s,rfl,a⟩|⟨v5,rfl,q9,a⟩);(exact⟨rfl,a0e rfl s (v8.trans a)⟩);(try dsimp only at v5);have d:=v8.trans a;have p3:=a.box q4 (by omega);have p2:=a.box s2 (by omega);have t7:=w1.keep a (fun q hq _=>by omega))
 have q0:=q5z p3
 have s3:=hC.on q9
 have v7:=fun u (h:Ctx u B ts (j1+1))=>a8e v5 (fun r0 h0=>hB r0 B ts (j1+1) u h h0)
 clear t2 x9 v5 a v8 q4 s2 w1 g3 s6 y9
 go_cut [4] (fun s4 wx=>∃t4 p j2,s4=Po t4 0/\PB w wx B ts 8 n p t4 j2/\(if tx (rest ts j2)=W.else_ then (P f 7 (nd 4 []) 0 (rest ts j2).tail).on fun c l=>need W.end_ l fun l=>.ok (nd 8 [n,p,c]) l else need W.end_ (rest ts j2) fun l=>.ok (nd 8 [n,p]) l)=some r)
 case first =>
  obtain⟨c0,c1,c2,c3,f0,f1,f2,f3⟩:=in4 p3
  obtain⟨x0,x1,x2,x3,y0,y1,y2,y3⟩:=in4a p3
  go_region_with (first
   | (go_at_call 131;refine(v7 _ (s3.below (bz0.drew))).mono ?_;rintro e w6 (⟨j,rfl,s,rfl,v⟩|⟨p,j2,b2,y4,x7,rfl,t8,x8,v⟩);(exact⟨rfl,a0e rfl s ((d.drew).trans v)⟩);have g3:=v.box p3 (by omega);have g2:=v.box p2 (by omega);obtain⟨c0,c1,c2,c3,f0,f1,f2,f3⟩:=in4 g3;obtain⟨x0,x1,x2,x3,y0,y1,y2,y3⟩:=in4a g3;have x5:NdV (fun q=>w.heap.size<q) w6 n (ndv n b1 o):=(t7.below (bz0.drew)).keep v (fun q hq _=>by omega);have x6:NdV (fun q=>w.heap.size<q) w6 p (ndv p b2 y4):=t8.weak (fun q hq _=>by simp at hq;omega);have z6:=(d.drew).trans v)
   | (go_at_call 131;refine(v7 _ (s3.below ((q1z bz0 zbx).drew))).mono ?_;rintro e w6 (⟨j,rfl,s,rfl,v⟩|⟨p,j2,b2,y4,x7,rfl,t8,x8,v⟩);(exact⟨rfl,a0e rfl s (((d.alloc zbx).drew).trans v)⟩);have g3:=v.box (W:=(w5.alloc zbx).drew) (q4z zbx p3) (by omega);have g2:=v.box (W:=(w5.alloc zbx).drew) (q4z zbx p2) (by omega);have g4:=v.box (W:=(w5.alloc zbx).drew) (a0a w5 zbx) (by omega);obtain⟨c0,c1,c2,c3,f0,f1,f2,f3⟩:=in4 g3;obtain⟨x0,x1,x2,x3,y0,y1,y2,y3⟩:=in4a g3;obtain⟨u0,u1,u2,u3,v0,v1,v2,v3⟩:=in4a g4;have x5:NdV (fun q=>w.heap.size<q/\q≠w5.heap.size) w6 n (ndv n b1 o):=((t7.weak (S':=fun q=>w.heap.size<q/\q≠w5.heap.size) (fun q hq p8=>⟨hq,by omega⟩)).below ((q1z bz0 zbx).drew)).keep v (fun q hq _=>by omega);have x6:NdV (fun q=>w.heap.size<q/\q≠w5.heap.size) w6 p (ndv p b2 y4):=t8.weak (fun q hq _=>by simp at hq;omega);have z6:=((d.alloc zbx).drew).trans v))
  all_goals
   go_wp2
   go_meet
   case rel=>first
    | exact⟨_,p,j2,rfl,pb_A 8 x5 x6 g2 x8 z6,x7⟩
    | exact⟨_,p,j2,rfl,pb_C 8 x5 x6 g2 x8 z6,x7⟩
    | exact⟨_,p,j2,rfl,pb_B 8 x5 x6 g2 g4 (by omega) t5 x8 z6,x7⟩
 case rest =>
  obtain⟨t4,p,j2,rfl,z7,hr⟩:=hcut
  obtain⟨b4,y5,q4,z8,t⟩:=z7.box
  have q2:=z7.ans
  have p9:=z7.lt
  have t6:=hC.on z7.R
  clear v7 p3 p2 t7 d
  by_cases hel:tx (rest ts j2)=W.else_
  ·rw[if_pos hel,a0g]at hr
   have hT:=t6.takes_yes b6k hel wc bz0
   have s9:=fun u (h:Ctx u B ts (j2+1))=>a8e hr (fun r0 h0=>hB r0 B ts (j2+1) u h h0)
   clear hr
   go_wp2_with (go_at_call 130;refine hT.mono ?_;rintro e w7 ⟨rfl,r1,z3⟩)
   have p4:=z3.box q4 (by omega)
   have p2:=z3.box q2 (by omega)
   have y8:=z8.keep z3 (fun q hq _=>by omega)
   have q7:=hC.on r1
   have x4:=z7.K.trans z3
   have q1:=q5z p4
   obtain⟨_,_,_,z9⟩:=y8.form
   replace z9:Hid _:=z9
   replace t:Hid _:=t
   clear hT q4 q2 z8 z3
   go_cut [4] (fun s4 wx=>s4=Po t4 0/\∃g j3 b3 y,wx.heap[t4]?=some (nbx (nd 8 [n,p,g]) b3 y)/\NdV (fun q=>w.heap.size<q/\q≠t4) wx (nd 8 [n,p,g]) (ndv (nd 8 [n,p,g]) b3 y)/\wx.heap[w.heap.size]?=some zbx/\Rd wx B ts j3/\a0b (fun k=>k=B) w wx/\need W.end_ (rest ts j3) (fun l=>.ok (nd 8 [n,p,g]) l)=some r)
   case first =>
    obtain⟨c0,c1,c2,c3,f0,f1,f2,f3⟩:=in4 p4
    go_region_law (first
     | (refine step_append_lies _ (by rfl) _ _ _ (by rfl) 0 34 i0 _ 4 56 Tryz.underlying32 r6 r7 r8 r9 rfl (by omega) (.slice b4 2 y5) 2 _ (by rfl) ho (Ad w8.heap.size 0) 1 1 _ (by rfl) (by rfl) (a2c g b3 y (a0a w8 (nbx g b3 y))) (by simp[Value.oneCell']) (by omega) (by decide) (by decide) (Nat.zero_le _) _ rfl ?_;intro g5 q5 w9 v9 z1 r5 q6;have s1:=(z1.block _ (q5z g4) t1).trans g4;obtain⟨c0,c1,c2,c3,f0,f1,f2,f3⟩:=in4 s1)
     | (go_simp;go_at_call 131;refine(s9 _ (q7.below (bz0.drew))).mono ?_;rintro e w8 (⟨j,rfl,s,rfl,z⟩|⟨g,j3,b3,y,y6,rfl,q8,y7,w4⟩);(exact⟨rfl,a0e rfl s ((x4.drew).trans z)⟩);have z:=((a0b.refl (fun k=>k=B) w7).drew).trans w4;clear w4;have w0:=z.box p4 (by omega);have g4:=q4z (nbx g b3 y) w0;have g2:=q4z (nbx g b3 y) (z.box p2 (by omega));obtain⟨c0,c1,c2,c3,f0,f1,f2,f3⟩:=in4 w0;obtain⟨d0,d1,d2,d3,e0,e1,e2,e3⟩:=in4a w0;obtain⟨xs,ho,hs,hn⟩:=((y8.keep z (fun q hq _=>by omega)).below (q1z bz0 (nbx g b3 y))).own;have t1:some t4≠Value.ownBlock (.slice b4 2 y5):=fun e=>(hs _ e.symm).2 rfl))
    all_goals
     go_wp2
     go_meet
     case rel =>
      have z0:=q1z (Below.refl w8.heap.size w8) (nbx g b3 y)
      have q3:=z.size
      have hy:NdV (fun q=>(w.heap.size<q/\q≠t4)/\some q≠Value.ownBlock (.slice b4 2 y5)) (w8.alloc (nbx g b3 y)) g (ndv g b3 y):=(q8.weak (fun q hq _=>by simp at hq;exact⟨⟨by omega,by omega⟩,fun e=>by have:=(z9.out q e.symm).2;omega⟩)).below z0
      obtain⟨v6,q4,z5,_⟩:=a2y (ks:=[n,p]) (lo:=w.heap.size+1) ho hs hn hy (fun q hq=>hq.2) (fun q hq=>by simp at hq;exact⟨by omega,by omega⟩) (fun q e=>t.out q e) (by simp;omega) g4 v9 z1 r5 rfl
      exact⟨rfl,g,j3,_,_,q4,v6.node 8 [] 0,z5.box g2 (fun e=>by rcases e with e|e;omega;have:=t.out _ e.symm;omega),(y7.below z0).keep z5 (fun q hq e=>by rcases e with e|e;omega;have:=t.out q e.symm;omega),((x4.trans z).trans (a0b.of_below z0)).then z5 (fun q hq e=>by rcases e with e|e;omega;have:=t.out q e.symm;omega),y6⟩
   case rest =>
    obtain⟨rfl,g,j3,b3,y,q4,t9,q2,r2,z5,hr⟩:=hcut
    have r4:=(hC.on r2).wantsU b4j hr _ bz0
    clear hr s9
    go_wp2_with (go_at_call 127;refine r4.mono ?_;rintro e w8 (⟨rfl,s,rfl,z⟩|⟨y6,rfl,y7,z⟩);(exact⟨rfl,a0e rfl s (z5.trans z)⟩);have g4:=z.box q4 (by omega);have g2:=z.box q2 (by omega);obtain⟨c0,c1,c2,c3,f0,f1,f2,f3⟩:=in4 g4;obtain⟨d0,d1,d2,d3,e0,e1,e2,e3⟩:=in4 g2)
    refine bodyPost_ret (d0h rfl (a0c _ _ _ _ g2)) rfl ?_
    obtain rfl:=Option.some.inj y6
    exact a0m (N:=nd 8 [n,p,g]) rfl ((t9.keep z (fun q hq _=>by omega)).weak (fun q hq _=>⟨.inr (by omega),by omega⟩)) y7 (z5.trans z) (Nat.le_refl _) t5
  ·rw[if_neg hel]at hr
   have hT:=t6.takes_no b6k hel wc bz0
   have t9:=z8.node 8 [] 0
   have r3:=fun u hb=>t6.wantsU b4j hr u hb
   clear hr
   go_wp2_with (first
    | (go_at_call 130;refine hT.mono ?_;rintro e w7 ⟨rfl,z4⟩)
    | (go_at_call 127;refine(r3 _ z4).mono ?_;rintro e w8 (⟨rfl,s,rfl,z⟩|⟨y6,rfl,y7,z⟩);(exact⟨rfl,a0e rfl s ((z7.K.trans (a0b.of_below z4)).trans z)⟩);have g4:=z.box (q0z z4 q4) (by omega);have g2:=z.box (q0z z4 q2) (by omega);obtain⟨c0,c1,c2,c3,f0,f1,f2,f3⟩:=in4 g4;obtain⟨d0,d1,d2,d3,e0,e1,e2,e3⟩:=in4 g2))
   refine bodyPost_ret (d0h rfl (a0c _ _ _ _ g2)) rfl ?_
   obtain rfl:=Option.some.inj y6
   exact a0m (N:=nd 8 [n,p]) rfl (((t9.below z4).keep z (fun q hq _=>by omega)).weak (fun q hq _=>⟨.inr (by omega),by omega⟩)) y7 ((z7.K.trans (a0b.of_below z4)).trans z) (Nat.le_refl _) t5
def d3f (f:Nat):Prop:=∀(r:PRes) (B:Nat) (ts:List Tok) (i:Nat) (w:World),Ctx w B ts i->P f 8 nil0 0 (rest ts i)=some r->Cl 144 #[Po B 0] w (PAns no w B ts r)
def BlkI (f:Nat) (w:World) (B:Nat) (ts:List Tok) (r:PRes) (k:Nat) (wr:World):Prop :=
 ∃(ks:List Nd) (j:Nat) (b:Option Addr) (cap:Nat),wr.heap[w.heap.size+1]?=some (nbx (nd 4 ks) b cap)/\wr.heap[w.heap.size]?=some zbx /\
  Row (fun g=>w.heap.size<=g/\g≠w.heap.size/\g≠w.heap.size+1) wr (.slice b ks.length cap) ks/\(∀q,Value.ownBlock (.slice b ks.length cap)=some q->w.heap.size<=q)/\Rd wr B ts j/\a0b (fun k=>k=B) w wr/\ks.length+k<=f/\P k 7 (nd 4 ks) 0 (rest ts j)=some r
theorem d8v{W:World}(h:tm[2]?.getD undef=Po B 0)(hx:W.heap[B]?=some (.cells #[a,b,c,d] 34)):(results Tryz.f131 tm).run Tryz.prog W=.ok (.agg #[a,b,c,d]) W:=by
 obtain⟨c0,c1,c2,c3,_,_,_,_⟩:=in4 hx
 simp[results,Tryz.results131,go_sem,h,c0,c1,c2,c3]
theorem c8x(f:Nat)(hf:f<=100000)(hE:∀g,g<f->d3f g)(r:PRes)(B:Nat)(ts:List Tok)(i:Nat)(w:World)(hC:Ctx w B ts i)(hP:P f 7 (nd 4 []) 0 (rest ts i)=some r):Cl 131 #[Po B 0] w (PAns no w B ts r):=by
 obtain⟨i0,hi0,hz0,hz1,hz2⟩:=info_parts a5w
 obtain⟨h4,h3⟩:=new2 w zbx (nbx (nd 4 []) none 0)
 have hBw:=hC.R.lt
 have hb0:=a6g w zbx (nbx (nd 4 []) none 0)
 have hI:BlkI f w B ts r f ((w.alloc zbx).alloc (nbx (nd 4 []) none 0)):=⟨[],i,none,0,h3,h4,Row.nil _ _,fun q e=>by simp[Value.ownBlock]at e,hC.R.below hb0,a0b.of_below hb0,by simp,hP⟩
 clear hP h4 h3 hb0
 go_enter Tryz.func131,Tryz.ntmps131
 go_wp2
 go_loopg [8] f (fun k _ wr=>BlkI f w B ts r k wr)
 case atStart=>exact hI
 case round =>
  clear hI
  obtain⟨ks,j,b',cap',p3,p4,hRow,hown,hR,hk,hgf,hr⟩:=hrel
  have hCr:=hC.on hR
  have hz4:=q5z p3
  cases gk with
  | zero=>cases hr
  | succ g =>
   rw[P]at hr
   have hSee:=hCr.sees2 b4j b6k wr bz0
   by_cases hy:tx (rest ts j)=W.end_\/tx (rest ts j)=W.else_
   ·-- the end
    rw[if_pos hy]at hr
    replace hr:Hid _:=hr
    have hN:=hRow.node 4 [] 0
    rw[decide_eq_true hy]at hSee
    go_wp2_with (go_at_call 129;refine hSee.mono ?_;rintro e w4 ⟨rfl,hb4⟩;have q3:=q0z hb4 p3;have q4:=q0z hb4 p4;obtain⟨c0,c1,c2,c3,f0,f1,f2,f3⟩:=in4 q3;obtain⟨d0,d1,d2,d3,e0,e1,e2,e3⟩:=in4 q4)
    refine bodyPost_ret (d8v rfl (a0c _ _ _ _ q4)) rfl ?_
    obtain rfl:=Option.some.inj hr.out
    exact a0m (N:=nd 4 ks) rfl ((hN.below hb4).weak (fun g hg _=>⟨.inr hg.1,hg.2.1⟩)) (hR.below hb4) (hk.trans (a0b.of_below hb4)) (Nat.le_refl _) hBw
   ·rw[if_neg hy]at hr
    have hc1:=fun u (h:Ctx u B ts j)=>a8e hr (fun r0 h0=>hE g (by omega) r0 B ts j u h h0)
    have hn1:ks.length+1<=maxLen:=by unfold maxLen;omega
    have hb1:(ks.length+1)*56<=140737488355328:=by omega
    clear hr hE
    rw[decide_eq_false hy]at hSee
    go_wp2_with (go_at_call 129;refine hSee.mono ?_;rintro e w4 ⟨rfl,hb4⟩)
    have p3':=q0z hb4 p3
    have p4':=q0z hb4 p4
    have hRow4:=hRow.below hb4
    have hC4:=hCr.below hb4
    have hk4:=hk.trans (a0b.of_below hb4)
    have hz5:=q5z p3'
    obtain⟨_,_,_,hform⟩:=hRow4.form
    replace hform:Hid _:=hform
    replace hown:Hid _:=hown
    clear hRow p3 p4 hR hk
    obtain⟨c0,c1,c2,c3,f0,f1,f2,f3⟩:=in4 p3'
    go_region_law (first
     | (refine step_append_lies _ (by rfl) _ _ _ (by rfl) 0 34 i0 _ 4 56 Tryz.underlying32 hi0 hz0 hz1 hz2 rfl (by omega) (.slice b' ks.length cap') ks.length _ (by rfl) ho (Ad w2.heap.size 0) 1 1 _ (by rfl) (by rfl) (a2c n1 b1 cap1 (a0a w2 (nbx n1 b1 cap1))) (by simp[Value.oneCell']) (by omega) hn1 hb1 (Nat.zero_le _) _ rfl ?_;intro g3 cap3 w3 hown3 hgrow hat hlt3;have p3w:=(hgrow.block _ (q5z q3) hne3).trans q3;obtain⟨c0,c1,c2,c3,f0,f1,f2,f3⟩:=in4 p3w)
     | (go_simp;go_at_call 144;refine(hc1 _ (hC4.below (bz0.drew))).mono ?_;rintro e w2 (⟨j2,rfl,hle,rfl,hk2⟩|⟨n1,j2,b1,cap1,hP2,rfl,hN1,hR2,hk2'⟩);(exact⟨rfl,a0e rfl hle ((hk4.drew).trans hk2)⟩);have hk2:=((a0b.refl (fun k=>k=B) w4).drew).trans hk2';clear hk2';have pw3:=hk2.box p3' (by omega);have q3:=q4z (nbx n1 b1 cap1) pw3;have q4:=q4z (nbx n1 b1 cap1) (hk2.box p4' (by omega));obtain⟨c0,c1,c2,c3,f0,f1,f2,f3⟩:=in4 pw3;obtain⟨d0,d1,d2,d3,e0,e1,e2,e3⟩:=in4a pw3;obtain⟨xs,ho,hs,hn⟩:=((hRow4.keep hk2 (fun g hg _=>by omega)).below (q1z bz0 (nbx n1 b1 cap1))).own;have hne3:some (w.heap.size+1)≠Value.ownBlock (.slice b' ks.length cap'):=fun e=>(hs _ e.symm).2.2 rfl))
    all_goals
     go_wp2
     go_roundg g
     case measure=>omega
     case rel =>
      have hb2a:=q1z (Below.refl w2.heap.size w2) (nbx n1 b1 cap1)
      have hz2:=hk2.size
      have hy2:NdV (fun q=>(w.heap.size<=q/\q≠w.heap.size/\q≠w.heap.size+1)/\some q≠Value.ownBlock (.slice b' ks.length cap')) (w2.alloc (nbx n1 b1 cap1)) n1 (ndv n1 b1 cap1):=(hN1.weak (fun q hq _=>by simp at hq;exact⟨⟨by omega,by omega,by omega⟩,fun e=>by have:=(hform.out q e.symm).2;omega⟩)).below hb2a
      obtain⟨hRow5,r3,hk5,hown5⟩:=a2y (lo:=w.heap.size) ho hs hn hy2 (fun q hq=>hq.2.2) (fun q hq=>by simp at hq;exact⟨by omega,by omega,by omega⟩) hown.out (by simp;omega) q3 hown3 hgrow hat rfl
      exact⟨ks++[n1],j2,_,_,r3,hk5.box q4 (fun e=>by rcases e with e|e;omega;exact(hs _ e.symm).2.1 rfl),hRow5,hown5,(hR2.below hb2a).keep hk5 (fun q hq e=>by rcases e with e|e;omega;have:=hown.out q e.symm;omega),((hk4.trans hk2).trans (a0b.of_below hb2a)).then hk5 (fun q hq e=>by rcases e with e|e;omega;have:=hown.out q e.symm;omega),by simp;omega,hP2⟩
theorem c5b(x:PR)(g h:Nd->List PT->PR):(x.on g).on h=x.on fun n l=>(g n l).on h:=by
 cases x with
 | none=>rfl
 | some r=>rcases r with l|⟨n,l⟩ <;> rfl
theorem c8y(s:List UInt8)(l:List PT)(g:List PT->PR)(h:Nd->List PT->PR):(need s l g).on h=need s l fun l=>(g l).on h:=by
 unfold need
 split <;> rfl
theorem c5c:∀(f:Nat) (x:Nd) (a:Nat) (l:List PT) (n:Nd) (l1:List PT),P f 6 x a l=some (.inr (n,l1))->n.k=21
 | 0,_,_,_,_,_,h=>by cases h
 | f+1,x,a,l,n,l1,h=>by
  rw[P]at h
  obtain⟨r0,_,h1⟩:=a4d h
  rcases h1 with⟨_,_,e⟩|⟨y,l2,_,h1⟩
  ·cases e
  ·split at h1
   ·exact c5c f _ _ _ _ _ h1
   ·rcases need_some h1 with⟨_,h2⟩|⟨_,e⟩
    ·cases h2;rfl
    ·cases e
theorem d3g{f:Nat}{x:Nd}{a:Nat}{l:List PT}{n:Nd}{l1:List PT}(h:P f 5 x a l=some (.inr (n,l1))):n.k=if tx l=S.lb then 20 else 21:=by
 cases f with
 | zero=>cases h
 | succ f =>
  rw[P]at h
  split at h
  ·rename_i hl
   rw[if_pos hl]
   obtain⟨r0,_,h1⟩:=a4d h
   rcases h1 with⟨_,_,e⟩|⟨y,l2,_,h1⟩
   ·cases e
   ·rcases need_some h1 with⟨_,h2⟩|⟨_,e⟩
    ·cases h2;rfl
    ·cases e
  ·rename_i hl
   rw[if_neg hl]
   rcases need_some h with⟨_,h2⟩|⟨_,e⟩
   ·split at h2
    ·cases h2;rfl
    ·exact c5c f _ _ _ _ _ h2
   ·cases e
theorem d0i{W:World}(h:tm[2]?.getD undef=Po B 0)(hx:W.heap[B]?=some (.cells #[a,b,c,d] 34)):(results Tryz.f167 tm).run Tryz.prog W=.ok (.agg #[a,b,c,d]) W:=by
 obtain⟨c0,c1,c2,c3,_,_,_,_⟩:=in4 hx
 simp[results,Tryz.results167,go_sem,h,c0,c1,c2,c3]
abbrev endS:Nd->List PT->PR:=fun n l=>need S.sc l fun l=>.ok n l
def SocI (f t:Nat) (w:World) (B:Nat) (ts:List Tok) (r:PRes) (k:Nat) (s4:Value) (wr:World):Prop :=
 ∃(n:Nd) (a j:Nat) (b:Option Addr) (cap:Nat),s4=.bool (decide (a=0))/\wr.heap[t]?=some (nbx n b cap)/\wr.heap[w.heap.size]?=some zbx/\NdV (fun g=>w.heap.size<=g/\g≠w.heap.size/\g≠t) wr n (ndv n b cap)/\Rd wr B ts j/\a0b (fun k=>k=B) w wr/\k<=f/\(a=0->n.k≠21)/\(P k 9 n a (rest ts j)).on endS=some r
theorem d6p(f:Nat)(hE:∀g,g<=f->a6z g)(hF:∀g,g<=f->SufC g)(r:PRes)(B:Nat)(ts:List Tok)(i:Nat)(w:World)(hC:Ctx w B ts i)(hP:a0n (rest ts i) (fun s l=>(P f 9 ⟨18,s,0,[]⟩ 0 l).on endS)=some r):Cl 167 #[Po B 0] w (PAns no w B ts r):=by
 have hBw:=hC.R.lt
 have hb0:Bw w (w.alloc zbx):=q1z bz0 _
 have h2:=a0a w zbx
 have hk0:a0b (fun k=>k=B) w (w.alloc zbx):=a0b.of_below hb0
 have hc1:=hC.nameU hP _ hb0
 clear hP
 go_enter Tryz.func167,Tryz.ntmps167
 go_wp2_with (go_at_call 128;refine hc1.mono ?_;rintro e w1 (⟨rfl,hle,rfl,hk1⟩|⟨s,hP1,rfl,hR1,hk1⟩);(exact⟨rfl,a0e rfl hle (hk0.trans hk1)⟩);(try dsimp only at hP1);have hk1':=hk0.trans hk1;have g1:=hk1.box h2 (by omega))
 have hz:=q5z g1
 have hb1:Bw w1 (w1.alloc (nbx ⟨18,s,0,[]⟩ none 0)):=q1z bz0 _
 have hI:SocI f w1.heap.size w B ts r f (.bool true) (w1.alloc (nbx ⟨18,s,0,[]⟩ none 0)):=⟨⟨18,s,0,[]⟩,0,i+1,none,0,rfl,a0a _ _,q0z hb1 g1,a2a _ _ _ _ _,hR1.below hb1,hk1'.trans (a0b.of_below hb1),Nat.le_refl _,fun _=>by show(18:Int)≠21;decide,hP1⟩
 obtain⟨t,ht⟩:=exq (w1.heap.size)
 obtain⟨W1,hW1⟩:=exq (w1.alloc (nbx ⟨18,s,0,[]⟩ none 0))
 rw[hW1]at hI
 dsimp only[nbx,List.length_nil]at hW1
 rw[hW1]
 rw[ht]at hI hz⊢
 clear hW1 ht hP1 hR1 hk1 hk1' g1 h2 hk0 hb1 hc1
 go_loopg [4] f (fun k s4 wr=>SocI f t w B ts r k s4 wr)
 case atStart=>exact hI
 case round =>
  clear hI
  obtain⟨n,a,j,b,cap,rfl,g3,g2,hN,hR,hk,hgf,ha,hr⟩:=hrel
  have hCr:=hC.on hR
  have hzt:=q5z g3
  cases gk with
  | zero=>cases hr
  | succ g =>
   have hSee:=hCr.sees2 c7d b3u wr bz0
   by_cases hy:tx (rest ts j)=S.lb\/tx (rest ts j)=S.lp
   ·rw[decide_eq_true hy]at hSee
    have hr':∃a',(a'=0↔a=0/\tx (rest ts j)=S.lb)/\(P g 5 n 0 (rest ts j)).on (fun n l=>(P g 9 n a' l).on endS)=some r:=by
     rw[P]at hr
     split at hr
     ·rename_i hl
      rw[c5b]at hr
      exact⟨a,⟨fun h=>⟨h,hl⟩,fun h=>h.1⟩,hr⟩
     ·rename_i hl
      rw[if_pos (hy.resolve_left hl),c5b]at hr
      exact⟨a+1,⟨fun h=>by omega,fun h=>absurd h.2 hl⟩,hr⟩
    obtain⟨a',ha',hr⟩:=hr'
    obtain⟨r1,hr1,hr2⟩:=a4d hr
    have hFF:=fun u (hb:Bw wr u)=>hF g (by omega) n b cap _ r1 B ts j u (hCr.below hb) (hN.below hb) (fun g hg=>by omega) hr1
    have hkd:∀n' l',r1=.inr (n',l')->(a'=0↔a=0/\n'.k=20)/\(n'.k=20\/n'.k=21):=fun n' l' e=>by
     subst e
     have:=d3g hr1
     by_cases hl:tx (rest ts j)=S.lb
     ·rw[if_pos hl]at this
      exact⟨by rw[ha'];exact⟨fun h=>⟨h.1,this⟩,fun h=>⟨h.1,hl⟩⟩,.inl this⟩
     ·rw[if_neg hl]at this
      exact⟨by rw[ha'];exact⟨fun h=>absurd h.2 hl,fun h=>by omega⟩,.inr this⟩
    replace hr2:Hid _:=hr2
    replace hkd:Hid _:=hkd
    obtain⟨p,hp⟩:∃p:Bool,decide (a=0)=p:=⟨_,rfl⟩
    rw[hp]
    replace hp:Hid _:=hp
    clear hr hr1 hF hE ha ha'
    go_wp2_with (first|(go_at_call 129;refine hSee.mono ?_;rintro e w4 ⟨rfl,hb4⟩;have q3:=q0z hb4 g3;obtain⟨c0,c1,c2,c3,f0,f1,f2,f3⟩:=in4 q3)|(go_at_call 175;refine(hFF _ hb4).mono ?_;intro e w5 hA;rcases r1 with l1|⟨n2,l2⟩;(obtain⟨j2,hj2,hle,rfl,hk5⟩:=hA;rcases hr2.out with⟨l,e1,e2⟩|⟨n,l,e1,_⟩;(cases e1;subst e2;exact⟨rfl,a0e hj2 hle ((hk.trans (a0b.of_below hb4)).trans hk5)⟩);cases e1);obtain⟨j2,b2,cap2,hj2,rfl,hN5,hR5,hk5⟩:=hA;have q3:=hk5.box q3 (by omega);obtain⟨c0,c1,c2,c3,f0,f1,f2,f3⟩:=in4 q3;refine Hid.out ?_))
    rcases hr2.out with⟨l,e1,_⟩|⟨n',l,e1,hr3⟩
    ·cases e1
    cases e1
    obtain⟨hk1,hk2⟩:=hkd.out n2 l2 rfl
    have hz5:=hb4.size
    refine Lib.hid ?_
    have hrel2:∀p':Bool,p'=(p&&decide (n2.k=20))->SocI f t w B ts r g (.bool p') (put4 w5 t (vi n2.k) (sk n2.t) (vi n2.n) (.slice b2 n2.kids.length cap2)):=fun p' hp'=>⟨n2,a',j2,b2,cap2,by
     rw[hp',<- hp.out]
     congr 1
     rw[Bool.eq_iff_iff]
     simp[hk1],a0c _ _ _ _ q3,(a2e _ _ _ _ (by omega)).trans (hk5.box (q0z hb4 g2) (by omega)),(hN5.weak (fun g hg hlt=>by rcases hg with hg|hg;exact hg;exact⟨by omega,by omega,by omega⟩)).put4 _ _ _ _ _ (fun g hg=>hg.2.2),hR5.put4 _ _ _ _ _ (by omega),a1f ((hk.trans (a0b.of_below hb4)).trans hk5) _ _ _ _ _ (by omega),by omega,fun h0=>by have:=(hk1.1 h0).2;omega,by rw[hj2];exact hr3⟩
    replace hrel2:Hid _:=hrel2
    clear hr2 hkd hk1 hp hFF hN5 hN
    cases p with
    | false =>
     go_wp2
     go_roundg g
     case measure=>omega
     case rel=>exact hrel2.out _ rfl
    | true =>
     rcases hk2 with hk2|hk2
     ·rw[hk2]at hrel2
      go_wp2
      go_roundg g
      case measure=>omega
      case rel=>exact hrel2.out _ rfl
     ·rw[hk2]at hrel2
      go_wp2
      go_roundg g
      case measure=>omega
      case rel=>exact hrel2.out _ rfl
   ·rw[decide_eq_false hy]at hSee
    have hnl:¬tx (rest ts j)=S.lb:=fun h=>hy (.inl h)
    have hnp:¬tx (rest ts j)=S.lp:=fun h=>hy (.inr h)
    rw[P,if_neg hnl,if_neg hnp]at hr
    clear hF
    by_cases ha0:a=0
    ·subst ha0
     rw[if_pos rfl,c8y]at hr
     have hk21:¬n.k=21:=ha rfl
     by_cases heq:tx (rest ts j)=S.eq
     ·have hr2:(P g 0 nil0 0 (rest ts (j+1))).on (fun x l=>need S.sc l fun l=>.ok ⟨6,[],0,[n]++[x]⟩ l)=some r:=by
       unfold need at hr
       rw[if_pos heq,a0g]at hr
       dsimp only at hr
       rw[c5b]at hr
       exact hr
      have hT:=fun u hb=>hCr.takes_yes c8g heq u hb
      clear hr
      go_wp2_with (first
       | (go_at_call 129;refine hSee.mono ?_;rintro e w4 ⟨rfl,hb4⟩)
       | (go_at_call 130;refine(hT _ hb4).mono ?_;rintro e w5 ⟨rfl,hR5,hk5⟩;have q3:=hk5.box (q0z hb4 g3) (by omega);have q2:=hk5.box (q0z hb4 g2) (by omega);obtain⟨c0,c1,c2,c3,f0,f1,f2,f3⟩:=in4 q3)
       | (go_at_call 166;refine Hid.out ?_))
      have hk5':=(hk.trans (a0b.of_below hb4)).trans hk5
      have hb5:Bw w5 (w5.alloc (nbx n b cap)):=q1z bz0 _
      have hN5:NdV (fun q=>(w.heap.size<=q/\q≠w.heap.size)/\q≠w5.heap.size) (w5.alloc (nbx n b cap)) n (ndv n b cap):=((((hN.below hb4).keep hk5 (fun q hq _=>by omega)).weak (S':=fun q=>(w.heap.size<=q/\q≠w.heap.size)/\q≠w5.heap.size) (fun q hq hlt=>⟨⟨hq.1,hq.2.1⟩,by omega⟩))).below hb5
      have hz5:wr.heap.size<=w5.heap.size:=Nat.le_trans hb4.size hk5.size
      have hRow5:=Row.one (S:=fun q=>w.heap.size<=q/\q≠w.heap.size) ⟨by omega,by omega⟩ hN5 (a0a w5 (nbx n b cap))
      have hg:=b8g g (hE g (by omega)) 6 _ [n] _ 1 r B ts (j+1) _ ((hC.on hR5).below hb5) hRow5 (fun q hq=>by omega) (fun q e=>by have:=a4y e;omega) (by simp) hr2
      have q2':=q0z hb5 q2
      have hs5:(w5.alloc (nbx n b cap)).heap.size=w5.heap.size+1:=World.size_alloc _ _
      clear hT hr2 hE hN hN5
      refine Lib.hid ?_
      go_wp2_with (go_at_call 166;refine hg.mono ?_;rintro e w6 (⟨j6,rfl,hle,rfl,hk6⟩|⟨N,j6,b6,cap6,rfl,rfl,hN6,hR6,hk6⟩);(exact⟨rfl,a0e rfl hle ((hk5'.trans (a0b.of_below hb5)).then hk6 (fun q hq e=>by rcases e with e|e;exact e;have:=a4y e.symm;omega))⟩);have p2:=hk6.box q2' (fun e=>by rcases e with e|e;omega;have:=a4y e.symm;omega);obtain⟨d0,d1,d2,d3,e0,e1,e2,e3⟩:=in4 p2)
      refine bodyPost_ret (d0i rfl (a0c _ _ _ _ p2)) rfl ?_
      exact a0m rfl (hN6.weak (fun q hq _=>by rcases hq with hq|hq;exact⟨.inr hq.1,hq.2⟩;exact⟨.inr (by omega),by omega⟩)) hR6 ((hk5'.trans (a0b.of_below hb5)).then hk6 (fun q hq e=>by rcases e with e|e;exact e;have:=a4y e.symm;omega)) (Nat.le_refl _) hBw
     ·have hre:r=.inl (rest ts j):=by
       unfold need at hr
       rw[if_neg heq]at hr
       exact(Option.some.inj hr).symm
      subst hre
      have hT:=fun u hb=>hCr.takes_no c8g heq u hb
      have hG:=fun u (hb:Bw wr u)=>a6t B ts j u (hR.below hb)
      clear hr
      go_wp2_with (first
       | (go_at_call 129;refine hSee.mono ?_;rintro e w4 ⟨rfl,hb4⟩)
       | (go_at_call 130;refine(hT _ hb4).mono ?_;rintro e w5 ⟨rfl,hb5⟩;have hb45:=q3z hb4 hb5;have q3:=q0z hb45 g3;obtain⟨c0,c1,c2,c3,f0,f1,f2,f3⟩:=in4 q3)
       | (go_at_call 140;refine(hG _ hb45).mono ?_;rintro e w6 ⟨rfl,hb6⟩))
      exact⟨rfl,a0e rfl hR.le ((hk.trans (a0b.of_below hb45)).trans (a0b.of_below hb6))⟩
    ·rw[if_neg ha0]at hr
     rw[decide_eq_false ha0]
     by_cases hk21:n.k=21
     ·rw[if_pos hk21]at hr
      have hr2:need S.sc (rest ts j) (fun l=>.ok (nd 7 [n]) l)=some r:=hr
      obtain⟨kk,tt,nn,kks⟩:=n
      simp only at hk21
      subst hk21
      have hW:=fun u hb=>hCr.wantsU d5z hr2 u hb
      clear hr hr2
      go_wp2_with (first
       | (go_at_call 129;refine hSee.mono ?_;rintro e w4 ⟨rfl,hb4⟩;have q3:=q0z hb4 g3;obtain⟨c0,c1,c2,c3,f0,f1,f2,f3⟩:=in4 q3)
       | (go_at_call 127;refine(hW _ hb4).mono ?_;rintro e w5 (⟨rfl,hle,rfl,hk5⟩|⟨hP5,rfl,hR5,hk5⟩);(exact⟨rfl,a0e rfl hle ((hk.trans (a0b.of_below hb4)).trans hk5)⟩);have q3:=hk5.box (q0z hb4 g3) (by omega);have q2:=hk5.box (q0z hb4 g2) (by omega);obtain⟨c0,c1,c2,c3,f0,f1,f2,f3⟩:=in4 q3;obtain⟨u0,u1,u2,u3,v0,v1,v2,v3⟩:=in4a q2))
      refine bodyPost_ret (d0i rfl (a0c _ _ _ _ (q4z _ q2))) rfl ?_
      obtain rfl:=Option.some.inj hP5
      exact b4f (w:=w) (B:=B) (ts:=ts) 7 rfl (((hN.below hb4).keep hk5 (fun q hq _=>by omega)).weak (fun q hq _=>⟨hq.1,hq.2.1⟩)) hR5 ((hk.trans (a0b.of_below hb4)).trans hk5) (Nat.le_refl _) hBw q2
     ·rw[if_neg hk21]at hr
      have hre:r=.inl (rest ts j):=(Option.some.inj hr).symm
      subst hre
      have hG:=fun u (hb:Bw wr u)=>a6t B ts j u (hR.below hb)
      clear hr
      go_wp2_with (first
       | (go_at_call 129;refine hSee.mono ?_;rintro e w4 ⟨rfl,hb4⟩;have q3:=q0z hb4 g3;obtain⟨c0,c1,c2,c3,f0,f1,f2,f3⟩:=in4 q3)
       | (go_at_call 140;refine(hG _ hb4).mono ?_;rintro e w6 ⟨rfl,hb6⟩))
      exact⟨rfl,a0e rfl hR.le ((hk.trans (a0b.of_below hb4)).trans (a0b.of_below hb6))⟩
theorem b0n{W:World}(h:tm[2]?.getD undef=Po B 0)(hx:W.heap[B]?=some (.cells #[a,b,c,d] 34)):(results Tryz.f144 tm).run Tryz.prog W=.ok (.agg #[a,b,c,d]) W:=by
 obtain⟨c0,c1,c2,c3,_,_,_,_⟩:=in4 hx
 simp[results,Tryz.results144,go_sem,h,c0,c1,c2,c3]
theorem a5r:a1h W.local_:=⟨_,_,rfl,rfl⟩
theorem c0i:a1h W.if_:=⟨_,_,rfl,rfl⟩
theorem a8h:a1h W.while_:=⟨_,_,rfl,rfl⟩
theorem b8i:a1h W.for_:=⟨_,_,rfl,rfl⟩
theorem b0o:a1h W.return_:=⟨_,_,rfl,rfl⟩
theorem c5d:a1h W.emit_:=⟨_,_,rfl,rfl⟩
theorem d6q(r:PRes)(B:Nat)(ts:List Tok)(i:Nat)(w:World)(hC:Ctx w B ts i)(hy:tx (rest ts i)=W.local_)(hX:∀u,Ctx u B ts (i+1)->Cl 162 #[Po B 0] u (PAns no u B ts r)):Cl 144 #[Po B 0] w (PAns no w B ts r):=by
 have f:=hC.R.lt
 have x:Bw w (w.alloc zbx):=q1z bz0 _
 have d:=a0a w zbx
 have o:=fun u hb=>hC.takes_yes a5r hy u hb
 cases r with
 | inl l =>
  go_enter Tryz.func144,Tryz.ntmps144
  go_wp2_with (first
  | (go_at_call_of 130 (Value.string ⟨#[108,111,99,97,108]⟩);refine(o _ x).mono ?_;rintro e wy ⟨rfl,t,z⟩;have v:=(a0b.of_below (S:=fun k=>k=B) x).trans z;have g2:=z.box d (by omega);have s:=hC.on t)
  | (go_at_call 162;refine(hX _ s).mono ?_;rintro e a ⟨j,g,h,rfl,y⟩))
  exact⟨rfl,a0e g h (v.trans y)⟩
 | inr p =>
  obtain⟨n,l⟩:=p
  go_enter Tryz.func144,Tryz.ntmps144
  go_wp2_with (first
  | (go_at_call_of 130 (Value.string ⟨#[108,111,99,97,108]⟩);refine(o _ x).mono ?_;rintro e wy ⟨rfl,t,z⟩;have v:=(a0b.of_below (S:=fun k=>k=B) x).trans z;have g2:=z.box d (by omega);have s:=hC.on t)
  | (go_at_call 162;refine(hX _ s).mono ?_;rintro e a ⟨j,b,cap,g,rfl,hN,hR,y⟩;have c:=y.box g2 (by omega);obtain⟨d0,d1,d2,d3,e0,e1,e2,e3⟩:=in4 c))
  refine bodyPost_ret (b0n rfl (a0c _ _ _ _ c)) rfl ?_
  exact a0m g (hN.weak (fun q hq _=>by have:=q5z g2;rcases hq with hq|hq;exact hq.elim;exact⟨.inr (by omega),by omega⟩)) hR (v.trans y) (Nat.le_refl _) f
theorem d6r(r:PRes)(B:Nat)(ts:List Tok)(i:Nat)(w:World)(hC:Ctx w B ts i)(hn0:¬tx (rest ts i)=W.local_)(hy:tx (rest ts i)=W.if_)(hX:∀u,Ctx u B ts (i+1)->Cl 163 #[Po B 0] u (PAns no u B ts r)):Cl 144 #[Po B 0] w (PAns no w B ts r):=by
 have z9:=hC.R.lt
 have t:Bw w (w.alloc zbx):=q1z bz0 _
 have z0:=a0a w zbx
 have f:=fun u hb=>hC.takes_no a5r hn0 u hb
 have g:=fun u hb=>hC.takes_yes c0i hy u hb
 cases r with
 | inl l =>
  go_enter Tryz.func144,Tryz.ntmps144
  go_wp2_with (first
  | (go_at_call_of 130 (Value.string ⟨#[108,111,99,97,108]⟩);refine(f _ t).mono ?_;rintro e w1 ⟨rfl,z⟩;have x:=q3z t z;have d:=q0z z z0)
  | (go_at_call_of 130 (Value.string ⟨#[105,102]⟩);refine(g _ x).mono ?_;rintro e wy ⟨rfl,o,y⟩;have s:=(a0b.of_below (S:=fun k=>k=B) x).trans y;have g2:=y.box d (by omega);have h:=hC.on o)
  | (go_at_call 163;refine(hX _ h).mono ?_;rintro e wz ⟨j,a,c,rfl,v⟩))
  exact⟨rfl,a0e a c (s.trans v)⟩
 | inr p =>
  obtain⟨n,l⟩:=p
  go_enter Tryz.func144,Tryz.ntmps144
  go_wp2_with (first
  | (go_at_call_of 130 (Value.string ⟨#[108,111,99,97,108]⟩);refine(f _ t).mono ?_;rintro e w1 ⟨rfl,z⟩;have x:=q3z t z;have d:=q0z z z0)
  | (go_at_call_of 130 (Value.string ⟨#[105,102]⟩);refine(g _ x).mono ?_;rintro e wy ⟨rfl,o,y⟩;have s:=(a0b.of_below (S:=fun k=>k=B) x).trans y;have g2:=y.box d (by omega);have h:=hC.on o)
  | (go_at_call 163;refine(hX _ h).mono ?_;rintro e wz ⟨j,b,cap,a,rfl,hN,hR,v⟩;have q2:=v.box g2 (by omega);obtain⟨d0,d1,d2,d3,e0,e1,e2,e3⟩:=in4 q2))
  refine bodyPost_ret (b0n rfl (a0c _ _ _ _ q2)) rfl ?_
  exact a0m a (hN.weak (fun q hq _=>by have:=q5z g2;rcases hq with hq|hq;exact hq.elim;exact⟨.inr (by omega),by omega⟩)) hR (s.trans v) (Nat.le_refl _) z9
theorem d6s(r:PRes)(B:Nat)(ts:List Tok)(i:Nat)(w:World)(hC:Ctx w B ts i)(hn0:¬tx (rest ts i)=W.local_)(hn1:¬tx (rest ts i)=W.if_)(hy:tx (rest ts i)=W.while_)(hX:∀u,Ctx u B ts (i+1)->Cl 164 #[Po B 0] u (PAns no u B ts r)):Cl 144 #[Po B 0] w (PAns no w B ts r):=by
 have z7:=hC.R.lt
 have o:Bw w (w.alloc zbx):=q1z bz0 _
 have z0:=a0a w zbx
 have z9:=fun u d=>hC.takes_no a5r hn0 u d
 have a:=fun u d=>hC.takes_no c0i hn1 u d
 have c:=fun u d=>hC.takes_yes a8h hy u d
 cases r with
 | inl l =>
  go_enter Tryz.func144,Tryz.ntmps144
  go_wp2_with (first
  | (go_at_call_of 130 (Value.string ⟨#[108,111,99,97,108]⟩);refine(z9 _ o).mono ?_;rintro e w1 ⟨rfl,y⟩;have t:=q3z o y;have z1:=q0z y z0)
  | (go_at_call_of 130 (Value.string ⟨#[105,102]⟩);refine(a _ t).mono ?_;rintro e w2 ⟨rfl,z⟩;have v:=q3z t z;have z2:=q0z z z1)
  | (go_at_call_of 130 (Value.string ⟨#[119,104,105,108,101]⟩);refine(c _ v).mono ?_;rintro e wy ⟨rfl,g,x⟩;have h:=(a0b.of_below (S:=fun k=>k=B) v).trans x;have g2:=x.box z2 (by omega);have f:=hC.on g)
  | (go_at_call 164;refine(hX _ f).mono ?_;rintro e wz ⟨j,hj,z8,rfl,s⟩))
  exact⟨rfl,a0e hj z8 (h.trans s)⟩
 | inr p =>
  obtain⟨n,l⟩:=p
  go_enter Tryz.func144,Tryz.ntmps144
  go_wp2_with (first
  | (go_at_call_of 130 (Value.string ⟨#[108,111,99,97,108]⟩);refine(z9 _ o).mono ?_;rintro e w1 ⟨rfl,y⟩;have t:=q3z o y;have z1:=q0z y z0)
  | (go_at_call_of 130 (Value.string ⟨#[105,102]⟩);refine(a _ t).mono ?_;rintro e w2 ⟨rfl,z⟩;have v:=q3z t z;have z2:=q0z z z1)
  | (go_at_call_of 130 (Value.string ⟨#[119,104,105,108,101]⟩);refine(c _ v).mono ?_;rintro e wy ⟨rfl,g,x⟩;have h:=(a0b.of_below (S:=fun k=>k=B) v).trans x;have g2:=x.box z2 (by omega);have f:=hC.on g)
  | (go_at_call 164;refine(hX _ f).mono ?_;rintro e wz ⟨j,b,cap,hj,rfl,hN,hR,s⟩;have q2:=s.box g2 (by omega);obtain⟨d0,d1,d2,d3,e0,e1,e2,e3⟩:=in4 q2))
  refine bodyPost_ret (b0n rfl (a0c _ _ _ _ q2)) rfl ?_
  exact a0m hj (hN.weak (fun q hq _=>by have:=q5z g2;rcases hq with hq|hq;exact hq.elim;exact⟨.inr (by omega),by omega⟩)) hR (h.trans s) (Nat.le_refl _) z7
theorem d6t(r:PRes)(B:Nat)(ts:List Tok)(i:Nat)(w:World)(hC:Ctx w B ts i)(hn0:¬tx (rest ts i)=W.local_)(hn1:¬tx (rest ts i)=W.if_)(hn2:¬tx (rest ts i)=W.while_)(hy:tx (rest ts i)=W.for_)(hX:∀u,Ctx u B ts (i+1)->Cl 165 #[Po B 0] u (PAns no u B ts r)):Cl 144 #[Po B 0] w (PAns no w B ts r):=by
 have z4:=hC.R.lt
 have g:Bw w (w.alloc zbx):=q1z bz0 _
 have z0:=a0a w zbx
 have z6:=fun u d=>hC.takes_no a5r hn0 u d
 have z7:=fun u d=>hC.takes_no c0i hn1 u d
 have z8:=fun u d=>hC.takes_no a8h hn2 u d
 have z9:=fun u d=>hC.takes_yes b8i hy u d
 cases r with
 | inl l =>
  go_enter Tryz.func144,Tryz.ntmps144
  go_wp2_with (first
  | (go_at_call_of 130 (Value.string ⟨#[108,111,99,97,108]⟩);refine(z6 _ g).mono ?_;rintro e w1 ⟨rfl,x⟩;have o:=q3z g x;have z1:=q0z x z0)
  | (go_at_call_of 130 (Value.string ⟨#[105,102]⟩);refine(z7 _ o).mono ?_;rintro e w2 ⟨rfl,y⟩;have s:=q3z o y;have z2:=q0z y z1)
  | (go_at_call_of 130 (Value.string ⟨#[119,104,105,108,101]⟩);refine(z8 _ s).mono ?_;rintro e w3 ⟨rfl,z⟩;have t:=q3z s z;have z3:=q0z z z2)
  | (go_at_call_of 130 (Value.string ⟨#[102,111,114]⟩);refine(z9 _ t).mono ?_;rintro e wy ⟨rfl,c,v⟩;have f:=(a0b.of_below (S:=fun k=>k=B) t).trans v;have g2:=v.box z3 (by omega);have a:=hC.on c)
  | (go_at_call 165;refine(hX _ a).mono ?_;rintro e wz ⟨j,hj,z5,rfl,h⟩))
  exact⟨rfl,a0e hj z5 (f.trans h)⟩
 | inr p =>
  obtain⟨n,l⟩:=p
  go_enter Tryz.func144,Tryz.ntmps144
  go_wp2_with (first
  | (go_at_call_of 130 (Value.string ⟨#[108,111,99,97,108]⟩);refine(z6 _ g).mono ?_;rintro e w1 ⟨rfl,x⟩;have o:=q3z g x;have z1:=q0z x z0)
  | (go_at_call_of 130 (Value.string ⟨#[105,102]⟩);refine(z7 _ o).mono ?_;rintro e w2 ⟨rfl,y⟩;have s:=q3z o y;have z2:=q0z y z1)
  | (go_at_call_of 130 (Value.string ⟨#[119,104,105,108,101]⟩);refine(z8 _ s).mono ?_;rintro e w3 ⟨rfl,z⟩;have t:=q3z s z;have z3:=q0z z z2)
  | (go_at_call_of 130 (Value.string ⟨#[102,111,114]⟩);refine(z9 _ t).mono ?_;rintro e wy ⟨rfl,c,v⟩;have f:=(a0b.of_below (S:=fun k=>k=B) t).trans v;have g2:=v.box z3 (by omega);have a:=hC.on c)
  | (go_at_call 165;refine(hX _ a).mono ?_;rintro e wz ⟨j,b,cap,hj,rfl,hN,hR,h⟩;have q2:=h.box g2 (by omega);obtain⟨d0,d1,d2,d3,e0,e1,e2,e3⟩:=in4 q2))
  refine bodyPost_ret (b0n rfl (a0c _ _ _ _ q2)) rfl ?_
  exact a0m hj (hN.weak (fun q hq _=>by have:=q5z g2;rcases hq with hq|hq;exact hq.elim;exact⟨.inr (by omega),by omega⟩)) hR (f.trans h) (Nat.le_refl _) z4
theorem d6u(r:PRes)(B:Nat)(ts:List Tok)(i:Nat)(w:World)(hC:Ctx w B ts i)(hn0:¬tx (rest ts i)=W.local_)(hn1:¬tx (rest ts i)=W.if_)(hn2:¬tx (rest ts i)=W.while_)(hn3:¬tx (rest ts i)=W.for_)(hy:tx (rest ts i)=W.return_)(hX:∀u,Ctx u B ts (i+1)->Cl 166 #[Po B 0,vi 11,.slice none 0 0] u (PAns no u B ts r)):Cl 144 #[Po B 0] w (PAns no w B ts r):=by
 have y6:=hC.R.lt
 have d:Bw w (w.alloc zbx):=q1z bz0 _
 have z0:=a0a w zbx
 have y8:=fun u c=>hC.takes_no a5r hn0 u c
 have y9:=fun u c=>hC.takes_no c0i hn1 u c
 have z5:=fun u c=>hC.takes_no a8h hn2 u c
 have z6:=fun u c=>hC.takes_no b8i hn3 u c
 have z7:=fun u c=>hC.takes_yes b0o hy u c
 cases r with
 | inl l =>
  go_enter Tryz.func144,Tryz.ntmps144
  go_wp2_with (first
  | (go_at_call_of 130 (Value.string ⟨#[108,111,99,97,108]⟩);refine(y8 _ d).mono ?_;rintro e w1 ⟨rfl,v⟩;have g:=q3z d v;have z1:=q0z v z0)
  | (go_at_call_of 130 (Value.string ⟨#[105,102]⟩);refine(y9 _ g).mono ?_;rintro e w2 ⟨rfl,x⟩;have h:=q3z g x;have z2:=q0z x z1)
  | (go_at_call_of 130 (Value.string ⟨#[119,104,105,108,101]⟩);refine(z5 _ h).mono ?_;rintro e w3 ⟨rfl,y⟩;have o:=q3z h y;have z3:=q0z y z2)
  | (go_at_call_of 130 (Value.string ⟨#[102,111,114]⟩);refine(z6 _ o).mono ?_;rintro e w4 ⟨rfl,z⟩;have s:=q3z o z;have z4:=q0z z z3)
  | (go_at_call_of 130 (Value.string ⟨#[114,101,116,117,114,110]⟩);refine(z7 _ s).mono ?_;rintro e wy ⟨rfl,z9,t⟩;have a:=(a0b.of_below (S:=fun k=>k=B) s).trans t;have g2:=t.box z4 (by omega);have z8:=hC.on z9)
  | (go_at_call 166;refine(hX _ z8).mono ?_;rintro e wz ⟨j,hj,y7,rfl,f⟩))
  exact⟨rfl,a0e hj y7 (a.trans f)⟩
 | inr p =>
  obtain⟨n,l⟩:=p
  go_enter Tryz.func144,Tryz.ntmps144
  go_wp2_with (first
  | (go_at_call_of 130 (Value.string ⟨#[108,111,99,97,108]⟩);refine(y8 _ d).mono ?_;rintro e w1 ⟨rfl,v⟩;have g:=q3z d v;have z1:=q0z v z0)
  | (go_at_call_of 130 (Value.string ⟨#[105,102]⟩);refine(y9 _ g).mono ?_;rintro e w2 ⟨rfl,x⟩;have h:=q3z g x;have z2:=q0z x z1)
  | (go_at_call_of 130 (Value.string ⟨#[119,104,105,108,101]⟩);refine(z5 _ h).mono ?_;rintro e w3 ⟨rfl,y⟩;have o:=q3z h y;have z3:=q0z y z2)
  | (go_at_call_of 130 (Value.string ⟨#[102,111,114]⟩);refine(z6 _ o).mono ?_;rintro e w4 ⟨rfl,z⟩;have s:=q3z o z;have z4:=q0z z z3)
  | (go_at_call_of 130 (Value.string ⟨#[114,101,116,117,114,110]⟩);refine(z7 _ s).mono ?_;rintro e wy ⟨rfl,z9,t⟩;have a:=(a0b.of_below (S:=fun k=>k=B) s).trans t;have g2:=t.box z4 (by omega);have z8:=hC.on z9)
  | (go_at_call 166;refine(hX _ z8).mono ?_;rintro e wz ⟨j,b,cap,hj,rfl,hN,hR,f⟩;have q2:=f.box g2 (by omega);obtain⟨d0,d1,d2,d3,e0,e1,e2,e3⟩:=in4 q2))
  refine bodyPost_ret (b0n rfl (a0c _ _ _ _ q2)) rfl ?_
  exact a0m hj (hN.weak (fun q hq _=>by have:=q5z g2;rcases hq with hq|hq;exact hq.elim;exact⟨.inr (by omega),by omega⟩)) hR (a.trans f) (Nat.le_refl _) y6
theorem d6v(r:PRes)(B:Nat)(ts:List Tok)(i:Nat)(w:World)(hC:Ctx w B ts i)(hn0:¬tx (rest ts i)=W.local_)(hn1:¬tx (rest ts i)=W.if_)(hn2:¬tx (rest ts i)=W.while_)(hn3:¬tx (rest ts i)=W.for_)(hn4:¬tx (rest ts i)=W.return_)(hy:tx (rest ts i)=W.emit_)(hX:∀u,Ctx u B ts (i+1)->Cl 166 #[Po B 0,vi 12,.slice none 0 0] u (PAns no u B ts r)):Cl 144 #[Po B 0] w (PAns no w B ts r):=by
 have y2:=hC.R.lt
 have z9:Bw w (w.alloc zbx):=q1z bz0 _
 have z0:=a0a w zbx
 have y4:=fun u c=>hC.takes_no a5r hn0 u c
 have y5:=fun u c=>hC.takes_no c0i hn1 u c
 have y6:=fun u c=>hC.takes_no a8h hn2 u c
 have y7:=fun u c=>hC.takes_no b8i hn3 u c
 have y8:=fun u c=>hC.takes_no b0o hn4 u c
 have y9:=fun u c=>hC.takes_yes c5d hy u c
 cases r with
 | inl l =>
  go_enter Tryz.func144,Tryz.ntmps144
  go_wp2_with (first
  | (go_at_call_of 130 (Value.string ⟨#[108,111,99,97,108]⟩);refine(y4 _ z9).mono ?_;rintro e w1 ⟨rfl,t⟩;have d:=q3z z9 t;have z1:=q0z t z0)
  | (go_at_call_of 130 (Value.string ⟨#[105,102]⟩);refine(y5 _ d).mono ?_;rintro e w2 ⟨rfl,v⟩;have f:=q3z d v;have z2:=q0z v z1)
  | (go_at_call_of 130 (Value.string ⟨#[119,104,105,108,101]⟩);refine(y6 _ f).mono ?_;rintro e w3 ⟨rfl,x⟩;have g:=q3z f x;have z3:=q0z x z2)
  | (go_at_call_of 130 (Value.string ⟨#[102,111,114]⟩);refine(y7 _ g).mono ?_;rintro e w4 ⟨rfl,y⟩;have h:=q3z g y;have z4:=q0z y z3)
  | (go_at_call_of 130 (Value.string ⟨#[114,101,116,117,114,110]⟩);refine(y8 _ h).mono ?_;rintro e w5 ⟨rfl,z⟩;have o:=q3z h z;have z5:=q0z z z4)
  | (go_at_call_of 130 (Value.string ⟨#[101,109,105,116]⟩);refine(y9 _ o).mono ?_;rintro e wy ⟨rfl,z7,s⟩;have z8:=(a0b.of_below (S:=fun k=>k=B) o).trans s;have g2:=s.box z5 (by omega);have z6:=hC.on z7)
  | (go_at_call 166;refine(hX _ z6).mono ?_;rintro e wz ⟨j,hj,y3,rfl,a⟩))
  exact⟨rfl,a0e hj y3 (z8.trans a)⟩
 | inr p =>
  obtain⟨n,l⟩:=p
  go_enter Tryz.func144,Tryz.ntmps144
  go_wp2_with (first
  | (go_at_call_of 130 (Value.string ⟨#[108,111,99,97,108]⟩);refine(y4 _ z9).mono ?_;rintro e w1 ⟨rfl,t⟩;have d:=q3z z9 t;have z1:=q0z t z0)
  | (go_at_call_of 130 (Value.string ⟨#[105,102]⟩);refine(y5 _ d).mono ?_;rintro e w2 ⟨rfl,v⟩;have f:=q3z d v;have z2:=q0z v z1)
  | (go_at_call_of 130 (Value.string ⟨#[119,104,105,108,101]⟩);refine(y6 _ f).mono ?_;rintro e w3 ⟨rfl,x⟩;have g:=q3z f x;have z3:=q0z x z2)
  | (go_at_call_of 130 (Value.string ⟨#[102,111,114]⟩);refine(y7 _ g).mono ?_;rintro e w4 ⟨rfl,y⟩;have h:=q3z g y;have z4:=q0z y z3)
  | (go_at_call_of 130 (Value.string ⟨#[114,101,116,117,114,110]⟩);refine(y8 _ h).mono ?_;rintro e w5 ⟨rfl,z⟩;have o:=q3z h z;have z5:=q0z z z4)
  | (go_at_call_of 130 (Value.string ⟨#[101,109,105,116]⟩);refine(y9 _ o).mono ?_;rintro e wy ⟨rfl,z7,s⟩;have z8:=(a0b.of_below (S:=fun k=>k=B) o).trans s;have g2:=s.box z5 (by omega);have z6:=hC.on z7)
  | (go_at_call 166;refine(hX _ z6).mono ?_;rintro e wz ⟨j,b,cap,hj,rfl,hN,hR,a⟩;have q2:=a.box g2 (by omega);obtain⟨d0,d1,d2,d3,e0,e1,e2,e3⟩:=in4 q2))
  refine bodyPost_ret (b0n rfl (a0c _ _ _ _ q2)) rfl ?_
  exact a0m hj (hN.weak (fun q hq _=>by have:=q5z g2;rcases hq with hq|hq;exact hq.elim;exact⟨.inr (by omega),by omega⟩)) hR (z8.trans a) (Nat.le_refl _) y2
theorem d6w(r:PRes)(B:Nat)(ts:List Tok)(i:Nat)(w:World)(hC:Ctx w B ts i)(hn0:¬tx (rest ts i)=W.local_)(hn1:¬tx (rest ts i)=W.if_)(hn2:¬tx (rest ts i)=W.while_)(hn3:¬tx (rest ts i)=W.for_)(hn4:¬tx (rest ts i)=W.return_)(hn5:¬tx (rest ts i)=W.emit_)(hX:∀u,Ctx u B ts i->Cl 167 #[Po B 0] u (PAns no u B ts r)):Cl 144 #[Po B 0] w (PAns no w B ts r):=by
 have y3:=hC.R.lt
 have z8:Bw w (w.alloc zbx):=q1z bz0 _
 have z0:=a0a w zbx
 have y5:=fun u a=>hC.takes_no a5r hn0 u a
 have y6:=fun u a=>hC.takes_no c0i hn1 u a
 have y7:=fun u a=>hC.takes_no a8h hn2 u a
 have y8:=fun u a=>hC.takes_no b8i hn3 u a
 have y9:=fun u a=>hC.takes_no b0o hn4 u a
 have z7:=fun u a=>hC.takes_no c5d hn5 u a
 cases r with
 | inl l =>
  go_enter Tryz.func144,Tryz.ntmps144
  go_wp2_with (first
  | (go_at_call_of 130 (Value.string ⟨#[108,111,99,97,108]⟩);refine(y5 _ z8).mono ?_;rintro e w1 ⟨rfl,s⟩;have c:=q3z z8 s;have z1:=q0z s z0)
  | (go_at_call_of 130 (Value.string ⟨#[105,102]⟩);refine(y6 _ c).mono ?_;rintro e w2 ⟨rfl,t⟩;have d:=q3z c t;have z2:=q0z t z1)
  | (go_at_call_of 130 (Value.string ⟨#[119,104,105,108,101]⟩);refine(y7 _ d).mono ?_;rintro e w3 ⟨rfl,v⟩;have f:=q3z d v;have z3:=q0z v z2)
  | (go_at_call_of 130 (Value.string ⟨#[102,111,114]⟩);refine(y8 _ f).mono ?_;rintro e w4 ⟨rfl,x⟩;have g:=q3z f x;have z4:=q0z x z3)
  | (go_at_call_of 130 (Value.string ⟨#[114,101,116,117,114,110]⟩);refine(y9 _ g).mono ?_;rintro e w5 ⟨rfl,y⟩;have h:=q3z g y;have z5:=q0z y z4)
  | (go_at_call_of 130 (Value.string ⟨#[101,109,105,116]⟩);refine(z7 _ h).mono ?_;rintro e w6 ⟨rfl,z⟩;have o:=q3z h z;have z6:=q0z z z5)
  | (go_at_call 167;refine(hX _ (hC.below o)).mono ?_;rintro e wz ⟨j,hj,y4,rfl,z9⟩))
  exact⟨rfl,a0e hj y4 ((a0b.of_below o).trans z9)⟩
 | inr p =>
  obtain⟨n,l⟩:=p
  go_enter Tryz.func144,Tryz.ntmps144
  go_wp2_with (first
  | (go_at_call_of 130 (Value.string ⟨#[108,111,99,97,108]⟩);refine(y5 _ z8).mono ?_;rintro e w1 ⟨rfl,s⟩;have c:=q3z z8 s;have z1:=q0z s z0)
  | (go_at_call_of 130 (Value.string ⟨#[105,102]⟩);refine(y6 _ c).mono ?_;rintro e w2 ⟨rfl,t⟩;have d:=q3z c t;have z2:=q0z t z1)
  | (go_at_call_of 130 (Value.string ⟨#[119,104,105,108,101]⟩);refine(y7 _ d).mono ?_;rintro e w3 ⟨rfl,v⟩;have f:=q3z d v;have z3:=q0z v z2)
  | (go_at_call_of 130 (Value.string ⟨#[102,111,114]⟩);refine(y8 _ f).mono ?_;rintro e w4 ⟨rfl,x⟩;have g:=q3z f x;have z4:=q0z x z3)
  | (go_at_call_of 130 (Value.string ⟨#[114,101,116,117,114,110]⟩);refine(y9 _ g).mono ?_;rintro e w5 ⟨rfl,y⟩;have h:=q3z g y;have z5:=q0z y z4)
  | (go_at_call_of 130 (Value.string ⟨#[101,109,105,116]⟩);refine(z7 _ h).mono ?_;rintro e w6 ⟨rfl,z⟩;have o:=q3z h z;have z6:=q0z z z5)
  | (go_at_call 167;refine(hX _ (hC.below o)).mono ?_;rintro e wz ⟨j,b,cap,hj,rfl,hN,hR,z9⟩;have q2:=z9.box z6 (by omega);obtain⟨d0,d1,d2,d3,e0,e1,e2,e3⟩:=in4 q2))
  refine bodyPost_ret (b0n rfl (a0c _ _ _ _ q2)) rfl ?_
  exact a0m hj (hN.weak (fun q hq _=>by have:=q5z z6;rcases hq with hq|hq;exact hq.elim;exact⟨.inr (by omega),by omega⟩)) hR ((a0b.of_below o).trans z9) (Nat.le_refl _) y3
theorem d3h(f:Nat)(hE:∀g,g<=f->a6z g)(hF:∀g,g<=f->SufC g)(hB:BlkC f):d3f (f+1):=by
 intro r B ts i w x z
 have y:=hE f (Nat.le_refl _)
 rw[P]at z
 split at z
 ·rename_i h0
  rw[a0g]at z
  exact d6q r B ts i w x h0 (fun u h=>c8m f y r B ts (i+1) u h z)
 rename_i h0
 split at z
 ·rename_i h1
  rw[a0g]at z
  exact d6r r B ts i w x h0 h1 (fun u h=>c4z f y hB r B ts (i+1) u h z)
 rename_i h1
 split at z
 ·rename_i h2
  rw[a0g]at z
  exact d6s r B ts i w x h0 h1 h2 (fun u h=>d3a f y hB r B ts (i+1) u h z)
 rename_i h2
 split at z
 ·rename_i h3
  rw[a0g]at z
  exact d6t r B ts i w x h0 h1 h2 h3 (fun u h=>c8n f y hB r B ts (i+1) u h z)
 rename_i h3
 split at z
 ·rename_i h4
  rw[a0g]at z
  exact d6u r B ts i w x h0 h1 h2 h3 h4 (fun u h=>b0l f y 11 r B ts (i+1) u h z)
 rename_i h4
 split at z
 ·rename_i h5
  rw[a0g]at z
  exact d6v r B ts i w x h0 h1 h2 h3 h4 h5 (fun u h=>b0l f y 12 r B ts (i+1) u h z)
 rename_i h5
 exact d6w r B ts i w x h0 h1 h2 h3 h4 h5 (fun u h=>d6p f hE hF r B ts i u h z)
def FunC (f:Nat):Prop:=∀(r:PRes) (B:Nat) (ts:List Tok) (i:Nat) (w:World),Ctx w B ts i->P f 10 nil0 0 (rest ts i)=some r->Cl 108 #[Po B 0] w (PAns no w B ts r)
def UniI (f:Nat) (w:World) (B:Nat) (ts:List Tok) (r:PRes) (k:Nat) (wr:World):Prop :=
 ∃(ks:List Nd) (j:Nat) (b:Option Addr) (cap:Nat),wr.heap[w.heap.size+1]?=some (nbx (nd 1 ks) b cap)/\wr.heap[w.heap.size]?=some zbx /\
  Row (fun g=>w.heap.size<=g/\g≠w.heap.size/\g≠w.heap.size+1) wr (.slice b ks.length cap) ks/\(∀q,Value.ownBlock (.slice b ks.length cap)=some q->w.heap.size<=q)/\Rd wr B ts j/\a0b (fun k=>k=B) w wr/\ks.length+k<=f/\P k 12 (nd 1 ks) 0 (rest ts j)=some r
theorem d8w{W:World}(h:tm[2]?.getD undef=Po B 0)(hx:W.heap[B]?=some (.cells #[a,b,c,d] 34)):(results Tryz.f79 tm).run Tryz.prog W=.ok (.agg #[a,b,c,d]) W:=by
 obtain⟨c0,c1,c2,c3,_,_,_,_⟩:=in4 hx
 simp[results,Tryz.results79,go_sem,h,c0,c1,c2,c3]
theorem d3i(f:Nat)(hf:f<=100000)(hE:∀g,g<f->FunC g)(r:PRes)(B:Nat)(ts:List Tok)(i:Nat)(w:World)(hC:Ctx w B ts i)(hP:P f 12 (nd 1 []) 0 (rest ts i)=some r):Cl 79 #[Po B 0] w (PAns no w B ts r):=by
 obtain⟨i0,hi0,hz0,hz1,hz2⟩:=info_parts a5w
 obtain⟨h4,h3⟩:=new2 w zbx (nbx (nd 1 []) none 0)
 have hBw:=hC.R.lt
 have hb0:=a6g w zbx (nbx (nd 1 []) none 0)
 have hI:UniI f w B ts r f ((w.alloc zbx).alloc (nbx (nd 1 []) none 0)):=⟨[],i,none,0,h3,h4,Row.nil _ _,fun q e=>by simp[Value.ownBlock]at e,hC.R.below hb0,a0b.of_below hb0,by simp,hP⟩
 clear hP h4 h3 hb0
 go_enter Tryz.func79,Tryz.ntmps79
 go_wp2
 go_loopg [14] f (fun k _ wr=>UniI f w B ts r k wr)
 case atStart=>exact hI
 case round =>
  clear hI
  obtain⟨ks,j,b',cap',p3,p4,hRow,hown,hR,hk,hgf,hr⟩:=hrel
  have hCr:=hC.on hR
  have hz4:=q5z p3
  cases gk with
  | zero=>cases hr
  | succ g =>
   rw[P]at hr
   obtain⟨m1,m2,m3,m4,m5,bb,capb,h1,_⟩:=hR.box
   obtain⟨_,_,_,_,_,a5,a6,_⟩:=rdC h1
   clear h1
   have hjle:=hR.le
   have hshort:=hR.short
   obtain⟨N,hNl⟩:=exq (ts.length)
   rw[hNl]at a5
   by_cases hy:rest ts j=[]
   ·-- the end
    rw[if_pos hy]at hr
    replace hr:Hid _:=hr
    have hN:=hRow.node 1 [] 0
    have hlt:¬(j:Int)<(N:Int):=by
     have:=a6s ts j
     rw[hy]at this
     simp at this
     omega
    obtain⟨c0,c1,c2,c3,f0,f1,f2,f3⟩:=in4 p3
    obtain⟨d0,d1,d2,d3,e0,e1,e2,e3⟩:=in4 p4
    go_wp2
    go_quiet (fail)
    go_wp2
    have hb4:Bw wr (wr.drewN nq):=q9z bz0
    have q4:=a8n (n:=nq) p4
    refine bodyPost_ret (d8w rfl (a0c _ _ _ _ q4)) rfl ?_
    obtain rfl:=Option.some.inj hr.out
    exact a0m (N:=nd 1 ks) rfl ((hN.below hb4).weak (fun g hg _=>⟨.inr hg.1,hg.2.1⟩)) (hR.below hb4) (hk.trans (a0b.of_below hb4)) (Nat.le_refl _) hBw
   ·rw[if_neg hy]at hr
    have hc1:=fun u (h:Ctx u B ts j)=>a8e hr (fun r0 h0=>hE g (by omega) r0 B ts j u h h0)
    have hn1:ks.length+1<=maxLen:=by unfold maxLen;omega
    have hb1:(ks.length+1)*56<=140737488355328:=by omega
    clear hr hE
    have hlt:(j:Int)<(N:Int):=by
     have:=a6s ts j
     rcases Nat.lt_or_ge j ts.length with h'|h'
     ·omega
     ·exact absurd (a3v h') hy
    go_wp2
    go_quiet (fail)
    have hb4:Bw wr (wr.drewN nq):=q9z bz0
    obtain⟨w4,hw4⟩:=exq (wr.drewN nq)
    rw[hw4]at hb4⊢
    clear hw4 a5 a6
    refine Lib.hid ?_
    go_wp2
    have p3':=q0z hb4 p3
    have p4':=q0z hb4 p4
    have hRow4:=hRow.below hb4
    have hC4:=hCr.below hb4
    have hk4:=hk.trans (a0b.of_below hb4)
    have hz5:=q5z p3'
    obtain⟨_,_,_,hform⟩:=hRow4.form
    replace hform:Hid _:=hform
    replace hown:Hid _:=hown
    clear hRow p3 p4 hR hk
    obtain⟨c0,c1,c2,c3,f0,f1,f2,f3⟩:=in4 p3'
    go_region_law (first
     | (refine step_append_lies _ (by rfl) _ _ _ (by rfl) 0 34 i0 _ 4 56 Tryz.underlying32 hi0 hz0 hz1 hz2 rfl (by omega) (.slice b' ks.length cap') ks.length _ (by rfl) ho (Ad w2.heap.size 0) 1 1 _ (by rfl) (by rfl) (a2c n1 b1 cap1 (a0a w2 (nbx n1 b1 cap1))) (by simp[Value.oneCell']) (by omega) hn1 hb1 (Nat.zero_le _) _ rfl ?_;intro g3 cap3 w3 hown3 hgrow hat hlt3;have p3w:=(hgrow.block _ (q5z q3) hne3).trans q3;obtain⟨c0,c1,c2,c3,f0,f1,f2,f3⟩:=in4 p3w)
     | (go_simp;go_at_call 108;refine(hc1 _ (hC4.below (bz0.drew))).mono ?_;rintro e w2 (⟨j2,rfl,hle,rfl,hk2⟩|⟨n1,j2,b1,cap1,hP2,rfl,hN1,hR2,hk2'⟩);(exact⟨rfl,a0e rfl hle ((hk4.drew).trans hk2)⟩);have hk2:=((a0b.refl (fun k=>k=B) w4).drew).trans hk2';clear hk2';have pw3:=hk2.box p3' (by omega);have q3:=q4z (nbx n1 b1 cap1) pw3;have q4:=q4z (nbx n1 b1 cap1) (hk2.box p4' (by omega));obtain⟨c0,c1,c2,c3,f0,f1,f2,f3⟩:=in4 pw3;obtain⟨d0,d1,d2,d3,e0,e1,e2,e3⟩:=in4a pw3;obtain⟨xs,ho,hs,hn⟩:=((hRow4.keep hk2 (fun g hg _=>by omega)).below (q1z bz0 (nbx n1 b1 cap1))).own;have hne3:some (w.heap.size+1)≠Value.ownBlock (.slice b' ks.length cap'):=fun e=>(hs _ e.symm).2.2 rfl))
    all_goals
     go_wp2
     go_roundg g
     case measure=>omega
     case rel =>
      have hb2a:=q1z (Below.refl w2.heap.size w2) (nbx n1 b1 cap1)
      have hz2:=hk2.size
      have hy2:NdV (fun q=>(w.heap.size<=q/\q≠w.heap.size/\q≠w.heap.size+1)/\some q≠Value.ownBlock (.slice b' ks.length cap')) (w2.alloc (nbx n1 b1 cap1)) n1 (ndv n1 b1 cap1):=(hN1.weak (fun q hq _=>by simp at hq;exact⟨⟨by omega,by omega,by omega⟩,fun e=>by have:=(hform.out q e.symm).2;omega⟩)).below hb2a
      obtain⟨hRow5,r3,hk5,hown5⟩:=a2y (lo:=w.heap.size) ho hs hn hy2 (fun q hq=>hq.2.2) (fun q hq=>by simp at hq;exact⟨by omega,by omega,by omega⟩) hown.out (by simp;omega) q3 hown3 hgrow hat rfl
      exact⟨ks++[n1],j2,_,_,r3,hk5.box q4 (fun e=>by rcases e with e|e;omega;exact(hs _ e.symm).2.1 rfl),hRow5,hown5,(hR2.below hb2a).keep hk5 (fun q hq e=>by rcases e with e|e;omega;have:=hown.out q e.symm;omega),((hk4.trans hk2).trans (a0b.of_below hb2a)).then hk5 (fun q hq e=>by rcases e with e|e;omega;have:=hown.out q e.symm;omega),by simp;omega,hP2⟩
end Go.Proofs.YtomniogfpfbolaaGreatDoor
