/- The program's reader: if. -/
import Derived.Test.YtfbpdbndejefdaaGreatDoorS34
namespace Go.Proofs.YtfbpdbndejefdaaGreatDoor
open Go.RowKit Go
set_option maxRecDepth 100000
set_option maxHeartbeats 8000000
set_option linter.all false
variable {tm:Array Value} {B:Nat} {a b c d:Value}
theorem d0a{W:World}(h:tm[2]?.getD undef=Po B 0)(hx:W.heap[B]?=some (.cells #[a,b,c,d] 43)):(results Tryz.f150 tm).run Tryz.prog W=.ok (.agg #[a,b,c,d]) W:=by
 obtain⟨c0,c1,c2,c3,_,_,_,_⟩:=in4 hx
 simp[results,Tryz.results150,go_sem,h,c0,c1,c2,c3]
theorem c3z(f:Nat)(hE:a6g f)(hB:BlkC f)(r:PRes)(B:Nat)(ts:List Tok)(i:Nat)(w:World)(hC:Ctx w B ts i)(hP:(P f 0 nil0 0 (rest ts i)).on (fun x l=>need W.then_ l fun l=>(P f 7 (nd 4 []) 0 l).on fun b l=>if tx l=W.else_ then (P f 7 (nd 4 []) 0 l.tail).on fun c l=>need W.end_ l fun l=>.ok (nd 8 [x,b,c]) l else need W.end_ l fun l=>.ok (nd 8 [x,b]) l)=some r):Cl 150 #[Po B 0] w (PAns no w B ts r):=by
 obtain⟨i0,s5,s6,s7,s8⟩:=info_parts b1e
 have p7p:=hC.R.lt
 have t7:Bw w (w.alloc zbx):=ext_alloc (Below.refl _ _) _
 have h2:=a0a w zbx
 have p4p:a0b (fun k=>k=B) w (w.alloc zbx):=a0b.of_below t7
 have t8:=a7o hP (fun r0 h=>hE r0 B ts _ _ (hC.below t7) h)
 clear hP
 go_enter Tryz.func150,Tryz.ntmps150
 go_wp2_with (go_at_call 163;refine t8.mono ?_;rintro e w3 (⟨j,rfl,p,rfl,z4⟩|⟨n1,j1,b1,o,v6,rfl,t5,t6,z4⟩);(exact⟨rfl,a0d rfl p (p4p.trans z4)⟩);(try dsimp only at v6);have x4:=p4p.trans z4;have g3:=z4.box h2 (by omega);refine Hid.out ?_)
 have s9:=block_lt g3
 have z1:Bw w3 (w3.alloc (nbx n1 b1 o)):=ext_alloc (Below.refl _ _) _
 have q4:=a0a w3 (nbx n1 b1 o)
 have t1:=block_below z1 g3
 have w4:NdV (fun q=>w.heap.size<q) (w3.alloc (nbx n1 b1 o)) n1 (ndv n1 b1 o):=(t5.weak (fun q hq _=>by simp at hq;omega)).below z1
 have w0:=x4.trans (a0b.of_below z1)
 have y5:=(hC.on t6).wantsU d2y v6 _ z1
 rw[World.size_alloc]at y5
 obtain⟨t3,p6p⟩:∃t3,w3.heap.size=t3:=⟨_,rfl⟩
 clear t8 v6 h2 z4 x4 t5
 rw[p6p]at y5 q4 s9
 refine Lib.hid ?_
 go_wp2_with (go_at_call 99;refine y5.mono ?_;rintro e w5 (⟨rfl,p,rfl,g⟩|⟨v7,rfl,r8,g⟩);(exact⟨rfl,a0d rfl p (w0.trans g)⟩);(try dsimp only at v7);have m:=w0.trans g;have p3:=g.box q4 (by omega);have p2:=g.box t1 (by omega);have p9p:=w4.keep g (fun q hq _=>by omega))
 have r1:=block_lt p3
 have t2:=hC.on r8
 have v9:=fun u (h:Ctx u B ts (j1+1))=>a7o v7 (fun r0 h0=>hB r0 B ts (j1+1) u h h0)
 clear p6p y5 v7 g w0 q4 t1 w4 g3 t6 z1
 go_cut [4] (fun s4 wx=>∃t4 n2 j2,s4=Po t4 0/\PB w wx B ts 8 n1 n2 t4 j2/\(if tx (rest ts j2)=W.else_ then (P f 7 (nd 4 []) 0 (rest ts j2).tail).on fun c l=>need W.end_ l fun l=>.ok (nd 8 [n1,n2,c]) l else need W.end_ (rest ts j2) fun l=>.ok (nd 8 [n1,n2]) l)=some r)
 case first =>
  obtain⟨c0,c1,c2,c3,f0,f1,f2,f3⟩:=in4 p3
  obtain⟨x0,x1,x2,x3,y0,y1,y2,y3⟩:=in4a p3
  go_region_with (first
   | (go_at_call 103;refine(v9 _ (t2.below ((Below.refl _ _).drew))).mono ?_;rintro e w6 (⟨j,rfl,p,rfl,v⟩|⟨n2,j2,b2,y6,x9,rfl,v4,y4,v⟩);(exact⟨rfl,a0d rfl p ((m.drew).trans v)⟩);have g3:=v.box p3 (by omega);have g2:=v.box p2 (by omega);obtain⟨c0,c1,c2,c3,f0,f1,f2,f3⟩:=in4 g3;obtain⟨x0,x1,x2,x3,y0,y1,y2,y3⟩:=in4a g3;have x7:NdV (fun q=>w.heap.size<q) w6 n1 (ndv n1 b1 o):=(p9p.below ((Below.refl _ _).drew)).keep v (fun q hq _=>by omega);have x8:NdV (fun q=>w.heap.size<q) w6 n2 (ndv n2 b2 y6):=v4.weak (fun q hq _=>by simp at hq;omega);have z8:=(m.drew).trans v)
   | (go_at_call 103;refine(v9 _ (t2.below ((ext_alloc (Below.refl _ _) zbx).drew))).mono ?_;rintro e w6 (⟨j,rfl,p,rfl,v⟩|⟨n2,j2,b2,y6,x9,rfl,v4,y4,v⟩);(exact⟨rfl,a0d rfl p (((m.alloc zbx).drew).trans v)⟩);have g3:=v.box (W:=(w5.alloc zbx).drew) (block_alloc zbx p3) (by omega);have g2:=v.box (W:=(w5.alloc zbx).drew) (block_alloc zbx p2) (by omega);have g4:=v.box (W:=(w5.alloc zbx).drew) (a0a w5 zbx) (by omega);obtain⟨c0,c1,c2,c3,f0,f1,f2,f3⟩:=in4 g3;obtain⟨x0,x1,x2,x3,y0,y1,y2,y3⟩:=in4a g3;obtain⟨p0p,p1p,p2p,p3p,v0,v1,v2,v3⟩:=in4a g4;have x7:NdV (fun q=>w.heap.size<q/\q≠w5.heap.size) w6 n1 (ndv n1 b1 o):=((p9p.weak (S':=fun q=>w.heap.size<q/\q≠w5.heap.size) (fun q hq q8=>⟨hq,by omega⟩)).below ((ext_alloc (Below.refl _ _) zbx).drew)).keep v (fun q hq _=>by omega);have x8:NdV (fun q=>w.heap.size<q/\q≠w5.heap.size) w6 n2 (ndv n2 b2 y6):=v4.weak (fun q hq _=>by simp at hq;omega);have z8:=((m.alloc zbx).drew).trans v))
  all_goals
   go_wp2
   go_meet
   case rel=>first
    | exact⟨_,n2,j2,rfl,pb_A 8 x7 x8 g2 y4 z8,x9⟩
    | exact⟨_,n2,j2,rfl,pb_C 8 x7 x8 g2 y4 z8,x9⟩
    | exact⟨_,n2,j2,rfl,pb_B 8 x7 x8 g2 g4 (by omega) p7p y4 z8,x9⟩
 case rest =>
  obtain⟨t4,n2,j2,rfl,z9,hr⟩:=hcut
  obtain⟨b4,y7,q4,a,s⟩:=z9.box
  have q2:=z9.ans
  have q9:=z9.lt
  have p8p:=hC.on z9.R
  clear v9 p3 p2 p9p m
  by_cases hel:tx (rest ts j2)=W.else_
  ·rw[if_pos hel,a0x]at hr
   have hT:=p8p.takes_yes b5r hel wc (Below.refl _ _)
   have t9:=fun u (h:Ctx u B ts (j2+1))=>a7o hr (fun r0 h0=>hB r0 B ts (j2+1) u h h0)
   clear hr
   go_wp2_with (go_at_call 102;refine hT.mono ?_;rintro e w7 ⟨rfl,r9,z5⟩)
   have p4:=z5.box q4 (by omega)
   have p2:=z5.box q2 (by omega)
   have z0:=a.keep z5 (fun q hq _=>by omega)
   have r6:=hC.on r9
   have x6:=z9.K.trans z5
   have r2:=block_lt p4
   obtain⟨_,_,_,d⟩:=z0.form
   replace d:Hid _:=d
   replace s:Hid _:=s
   clear hT q4 q2 a z5
   go_cut [4] (fun s4 wx=>s4=Po t4 0/\∃n j3 b3 y,wx.heap[t4]?=some (nbx (nd 8 [n1,n2,n]) b3 y)/\NdV (fun q=>w.heap.size<q/\q≠t4) wx (nd 8 [n1,n2,n]) (ndv (nd 8 [n1,n2,n]) b3 y)/\wx.heap[w.heap.size]?=some zbx/\Rd wx B ts j3/\a0b (fun k=>k=B) w wx/\need W.end_ (rest ts j3) (fun l=>.ok (nd 8 [n1,n2,n]) l)=some r)
   case first =>
    obtain⟨c0,c1,c2,c3,f0,f1,f2,f3⟩:=in4 p4
    go_region_law (first
     | (refine step_append_lies _ (by rfl) _ _ _ (by rfl) 0 43 i0 _ 4 56 Tryz.underlying41 s5 s6 s7 s8 rfl (by omega) (.slice b4 2 y7) 2 _ (by rfl) ho (Ad w8.heap.size 0) 1 1 _ (by rfl) (by rfl) (a4x n b3 y (a0a w8 (nbx n b3 y))) (by simp[Value.oneCell']) (by omega) (by decide) (by decide) (Nat.zero_le _) _ rfl ?_;intro g5 r4 w9 w1 z3 s3 r5;have t0:=(z3.block _ (block_lt g4) p5p).trans g4;obtain⟨c0,c1,c2,c3,f0,f1,f2,f3⟩:=in4 t0)
     | (go_simp;go_at_call 103;refine(t9 _ (r6.below ((Below.refl _ _).drew))).mono ?_;rintro e w8 (⟨j,rfl,p,rfl,z⟩|⟨n,j3,b3,y,y8,rfl,r7,y9,x5⟩);(exact⟨rfl,a0d rfl p ((x6.drew).trans z)⟩);have z:=((a0b.refl (fun k=>k=B) w7).drew).trans x5;clear x5;have w2:=z.box p4 (by omega);have g4:=block_alloc (nbx n b3 y) w2;have g2:=block_alloc (nbx n b3 y) (z.box p2 (by omega));obtain⟨c0,c1,c2,c3,f0,f1,f2,f3⟩:=in4 w2;obtain⟨d0,d1,d2,d3,e0,e1,e2,e3⟩:=in4a w2;obtain⟨xs,ho,hs,hn⟩:=((z0.keep z (fun q hq _=>by omega)).below (ext_alloc (Below.refl _ _) (nbx n b3 y))).own;have p5p:some t4≠Value.ownBlock (.slice b4 2 y7):=fun e=>(hs _ e.symm).2 rfl))
    all_goals
     go_wp2
     go_meet
     case rel =>
      have z2:=ext_alloc (Below.refl w8.heap.size w8) (nbx n b3 y)
      have r3:=z.size
      have hy:NdV (fun q=>(w.heap.size<q/\q≠t4)/\some q≠Value.ownBlock (.slice b4 2 y7)) (w8.alloc (nbx n b3 y)) n (ndv n b3 y):=(r7.weak (fun q hq _=>by simp at hq;exact⟨⟨by omega,by omega⟩,fun e=>by have:=(d.out q e.symm).2;omega⟩)).below z2
      obtain⟨v8,q4,z7,_⟩:=a4p (ks:=[n1,n2]) (lo:=w.heap.size+1) ho hs hn hy (fun q hq=>hq.2) (fun q hq=>by simp at hq;exact⟨by omega,by omega⟩) (fun q e=>s.out q e) (by simp;omega) g4 w1 z3 s3 rfl
      exact⟨rfl,n,j3,_,_,q4,v8.node 8 [] 0,z7.box g2 (fun e=>by rcases e with e|e;omega;have:=s.out _ e.symm;omega),(y9.below z2).keep z7 (fun q hq e=>by rcases e with e|e;omega;have:=s.out q e.symm;omega),((x6.trans z).trans (a0b.of_below z2)).then z7 (fun q hq e=>by rcases e with e|e;omega;have:=s.out q e.symm;omega),y8⟩
   case rest =>
    obtain⟨rfl,n,j3,b3,y,q4,v5,q2,s0,z7,hr⟩:=hcut
    have s2:=(hC.on s0).wantsU b4d hr _ (Below.refl _ _)
    clear hr t9
    go_wp2_with (go_at_call 99;refine s2.mono ?_;rintro e w8 (⟨rfl,p,rfl,z⟩|⟨y8,rfl,y9,z⟩);(exact⟨rfl,a0d rfl p (z7.trans z)⟩);have g4:=z.box q4 (by omega);have g2:=z.box q2 (by omega);obtain⟨c0,c1,c2,c3,f0,f1,f2,f3⟩:=in4 g4;obtain⟨d0,d1,d2,d3,e0,e1,e2,e3⟩:=in4 g2)
    refine bodyPost_ret (d0a rfl (a0f _ _ _ _ g2)) rfl ?_
    obtain rfl:=Option.some.inj y8
    exact a0j (N:=nd 8 [n1,n2,n]) rfl ((v5.keep z (fun q hq _=>by omega)).weak (fun q hq _=>⟨.inr (by omega),by omega⟩)) y9 (z7.trans z) (Nat.le_refl _) p7p
  ·rw[if_neg hel]at hr
   have hT:=p8p.takes_no b5r hel wc (Below.refl _ _)
   have v5:=a.node 8 [] 0
   have s1:=fun u hb=>p8p.wantsU b4d hr u hb
   clear hr
   go_wp2_with (first
    | (go_at_call 102;refine hT.mono ?_;rintro e w7 ⟨rfl,z6⟩)
    | (go_at_call 99;refine(s1 _ z6).mono ?_;rintro e w8 (⟨rfl,p,rfl,z⟩|⟨y8,rfl,y9,z⟩);(exact⟨rfl,a0d rfl p ((z9.K.trans (a0b.of_below z6)).trans z)⟩);have g4:=z.box (block_below z6 q4) (by omega);have g2:=z.box (block_below z6 q2) (by omega);obtain⟨c0,c1,c2,c3,f0,f1,f2,f3⟩:=in4 g4;obtain⟨d0,d1,d2,d3,e0,e1,e2,e3⟩:=in4 g2))
   refine bodyPost_ret (d0a rfl (a0f _ _ _ _ g2)) rfl ?_
   obtain rfl:=Option.some.inj y8
   exact a0j (N:=nd 8 [n1,n2]) rfl (((v5.below z6).keep z (fun q hq _=>by omega)).weak (fun q hq _=>⟨.inr (by omega),by omega⟩)) y9 ((z9.K.trans (a0b.of_below z6)).trans z) (Nat.le_refl _) p7p
def d3j (f:Nat):Prop:=∀(r:PRes) (B:Nat) (ts:List Tok) (i:Nat) (w:World),Ctx w B ts i->P f 8 nil0 0 (rest ts i)=some r->Cl 129 #[Po B 0] w (PAns no w B ts r)
def BlkI (f:Nat) (w:World) (B:Nat) (ts:List Tok) (r:PRes) (k:Nat) (wr:World):Prop :=
 ∃(ks:List Nd) (j:Nat) (b:Option Addr) (cap:Nat),wr.heap[w.heap.size+1]?=some (nbx (nd 4 ks) b cap)/\wr.heap[w.heap.size]?=some zbx /\
  Row (fun g=>w.heap.size<=g/\g≠w.heap.size/\g≠w.heap.size+1) wr (.slice b ks.length cap) ks/\(∀q,Value.ownBlock (.slice b ks.length cap)=some q->w.heap.size<=q)/\Rd wr B ts j/\a0b (fun k=>k=B) w wr/\ks.length+k<=f/\P k 7 (nd 4 ks) 0 (rest ts j)=some r
theorem d9k{W:World}(h:tm[2]?.getD undef=Po B 0)(hx:W.heap[B]?=some (.cells #[a,b,c,d] 43)):(results Tryz.f103 tm).run Tryz.prog W=.ok (.agg #[a,b,c,d]) W:=by
 obtain⟨c0,c1,c2,c3,_,_,_,_⟩:=in4 hx
 simp[results,Tryz.results103,go_sem,h,c0,c1,c2,c3]
theorem block_of(f:Nat)(hf:f<=100000)(hE:∀g,g<f->d3j g)(r:PRes)(B:Nat)(ts:List Tok)(i:Nat)(w:World)(hC:Ctx w B ts i)(hP:P f 7 (nd 4 []) 0 (rest ts i)=some r):Cl 103 #[Po B 0] w (PAns no w B ts r):=by
 obtain⟨i0,hi0,hz0,hz1,hz2⟩:=info_parts b1e
 obtain⟨h4,h3⟩:=new2 w zbx (nbx (nd 4 []) none 0)
 have hBw:=hC.R.lt
 have hb0:=b1d w zbx (nbx (nd 4 []) none 0)
 have hI:BlkI f w B ts r f ((w.alloc zbx).alloc (nbx (nd 4 []) none 0)):=⟨[],i,none,0,h3,h4,Row.nil _ _,fun q e=>by simp[Value.ownBlock]at e,hC.R.below hb0,a0b.of_below hb0,by simp,hP⟩
 clear hP h4 h3 hb0
 go_enter Tryz.func103,Tryz.ntmps103
 go_wp2
 go_loopg [8] f (fun k _ wr=>BlkI f w B ts r k wr)
 case atStart=>exact hI
 case round =>
  clear hI
  obtain⟨ks,j,b',cap',p3,p4,hRow,hown,hR,hk,hgf,hr⟩:=hrel
  have hCr:=hC.on hR
  have hz4:=block_lt p3
  cases gk with
  | zero=>cases hr
  | succ g =>
   rw[P]at hr
   have hSee:=hCr.sees2 b4d b5r wr (Below.refl _ _)
   by_cases hy:tx (rest ts j)=W.end_\/tx (rest ts j)=W.else_
   ·-- the end
    rw[if_pos hy]at hr
    replace hr:Hid _:=hr
    have hN:=hRow.node 4 [] 0
    rw[decide_eq_true hy]at hSee
    go_wp2_with (go_at_call 101;refine hSee.mono ?_;rintro e w4 ⟨rfl,hb4⟩;have q3:=block_below hb4 p3;have q4:=block_below hb4 p4;obtain⟨c0,c1,c2,c3,f0,f1,f2,f3⟩:=in4 q3;obtain⟨d0,d1,d2,d3,e0,e1,e2,e3⟩:=in4 q4)
    refine bodyPost_ret (d9k rfl (a0f _ _ _ _ q4)) rfl ?_
    obtain rfl:=Option.some.inj hr.out
    exact a0j (N:=nd 4 ks) rfl ((hN.below hb4).weak (fun g hg _=>⟨.inr hg.1,hg.2.1⟩)) (hR.below hb4) (hk.trans (a0b.of_below hb4)) (Nat.le_refl _) hBw
   ·rw[if_neg hy]at hr
    have hc1:=fun u (h:Ctx u B ts j)=>a7o hr (fun r0 h0=>hE g (by omega) r0 B ts j u h h0)
    have hn1:ks.length+1<=maxLen:=by unfold maxLen;omega
    have hb1:(ks.length+1)*56<=140737488355328:=by omega
    clear hr hE
    rw[decide_eq_false hy]at hSee
    go_wp2_with (go_at_call 101;refine hSee.mono ?_;rintro e w4 ⟨rfl,hb4⟩)
    have p3':=block_below hb4 p3
    have p4':=block_below hb4 p4
    have hRow4:=hRow.below hb4
    have hC4:=hCr.below hb4
    have hk4:=hk.trans (a0b.of_below hb4)
    have hz5:=block_lt p3'
    obtain⟨_,_,_,hform⟩:=hRow4.form
    replace hform:Hid _:=hform
    replace hown:Hid _:=hown
    clear hRow p3 p4 hR hk
    obtain⟨c0,c1,c2,c3,f0,f1,f2,f3⟩:=in4 p3'
    go_region_law (first
     | (refine step_append_lies _ (by rfl) _ _ _ (by rfl) 0 43 i0 _ 4 56 Tryz.underlying41 hi0 hz0 hz1 hz2 rfl (by omega) (.slice b' ks.length cap') ks.length _ (by rfl) ho (Ad w2.heap.size 0) 1 1 _ (by rfl) (by rfl) (a4x n1 b1 cap1 (a0a w2 (nbx n1 b1 cap1))) (by simp[Value.oneCell']) (by omega) hn1 hb1 (Nat.zero_le _) _ rfl ?_;intro g3 cap3 w3 hown3 hgrow hat hlt3;have p3w:=(hgrow.block _ (block_lt q3) hne3).trans q3;obtain⟨c0,c1,c2,c3,f0,f1,f2,f3⟩:=in4 p3w)
     | (go_simp;go_at_call 129;refine(hc1 _ (hC4.below ((Below.refl _ _).drew))).mono ?_;rintro e w2 (⟨j2,rfl,hle,rfl,hk2⟩|⟨n1,j2,b1,cap1,hP2,rfl,hN1,hR2,hk2'⟩);(exact⟨rfl,a0d rfl hle ((hk4.drew).trans hk2)⟩);have hk2:=((a0b.refl (fun k=>k=B) w4).drew).trans hk2';clear hk2';have pw3:=hk2.box p3' (by omega);have q3:=block_alloc (nbx n1 b1 cap1) pw3;have q4:=block_alloc (nbx n1 b1 cap1) (hk2.box p4' (by omega));obtain⟨c0,c1,c2,c3,f0,f1,f2,f3⟩:=in4 pw3;obtain⟨d0,d1,d2,d3,e0,e1,e2,e3⟩:=in4a pw3;obtain⟨xs,ho,hs,hn⟩:=((hRow4.keep hk2 (fun g hg _=>by omega)).below (ext_alloc (Below.refl _ _) (nbx n1 b1 cap1))).own;have hne3:some (w.heap.size+1)≠Value.ownBlock (.slice b' ks.length cap'):=fun e=>(hs _ e.symm).2.2 rfl))
    all_goals
     go_wp2
     go_roundg g
     case measure=>omega
     case rel =>
      have hb2a:=ext_alloc (Below.refl w2.heap.size w2) (nbx n1 b1 cap1)
      have hz2:=hk2.size
      have hy2:NdV (fun q=>(w.heap.size<=q/\q≠w.heap.size/\q≠w.heap.size+1)/\some q≠Value.ownBlock (.slice b' ks.length cap')) (w2.alloc (nbx n1 b1 cap1)) n1 (ndv n1 b1 cap1):=(hN1.weak (fun q hq _=>by simp at hq;exact⟨⟨by omega,by omega,by omega⟩,fun e=>by have:=(hform.out q e.symm).2;omega⟩)).below hb2a
      obtain⟨hRow5,r3,hk5,hown5⟩:=a4p (lo:=w.heap.size) ho hs hn hy2 (fun q hq=>hq.2.2) (fun q hq=>by simp at hq;exact⟨by omega,by omega,by omega⟩) hown.out (by simp;omega) q3 hown3 hgrow hat rfl
      exact⟨ks++[n1],j2,_,_,r3,hk5.box q4 (fun e=>by rcases e with e|e;omega;exact(hs _ e.symm).2.1 rfl),hRow5,hown5,(hR2.below hb2a).keep hk5 (fun q hq e=>by rcases e with e|e;omega;have:=hown.out q e.symm;omega),((hk4.trans hk2).trans (a0b.of_below hb2a)).then hk5 (fun q hq e=>by rcases e with e|e;omega;have:=hown.out q e.symm;omega),by simp;omega,hP2⟩
theorem c4a(x:PR)(g h:Nd->List PT->PR):(x.on g).on h=x.on fun n l=>(g n l).on h:=by
 cases x with
 | none=>rfl
 | some r=>rcases r with l|⟨n,l⟩ <;> rfl
theorem c7x(s:List UInt8)(l:List PT)(g:List PT->PR)(h:Nd->List PT->PR):(need s l g).on h=need s l fun l=>(g l).on h:=by
 unfold need
 split <;> rfl
theorem c4b:∀(f:Nat) (x:Nd) (a:Nat) (l:List PT) (n:Nd) (l1:List PT),P f 6 x a l=some (.inr (n,l1))->n.k=21
 | 0,_,_,_,_,_,h=>by cases h
 | f+1,x,a,l,n,l1,h=>by
  rw[P]at h
  obtain⟨r0,_,h1⟩:=a3o h
  rcases h1 with⟨_,_,e⟩|⟨y,l2,_,h1⟩
  ·cases e
  ·split at h1
   ·exact c4b f _ _ _ _ _ h1
   ·rcases need_some h1 with⟨_,h2⟩|⟨_,e⟩
    ·cases h2;rfl
    ·cases e
theorem d3k{f:Nat}{x:Nd}{a:Nat}{l:List PT}{n:Nd}{l1:List PT}(h:P f 5 x a l=some (.inr (n,l1))):n.k=if tx l=S.lb then 20 else 21:=by
 cases f with
 | zero=>cases h
 | succ f =>
  rw[P]at h
  split at h
  ·rename_i hl
   rw[if_pos hl]
   obtain⟨r0,_,h1⟩:=a3o h
   rcases h1 with⟨_,_,e⟩|⟨y,l2,_,h1⟩
   ·cases e
   ·rcases need_some h1 with⟨_,h2⟩|⟨_,e⟩
    ·cases h2;rfl
    ·cases e
  ·rename_i hl
   rw[if_neg hl]
   rcases need_some h with⟨_,h2⟩|⟨_,e⟩
   ·split at h2
    ·cases h2;rfl
    ·exact c4b f _ _ _ _ _ h2
   ·cases e
theorem d0b{W:World}(h:tm[2]?.getD undef=Po B 0)(hx:W.heap[B]?=some (.cells #[a,b,c,d] 43)):(results Tryz.f154 tm).run Tryz.prog W=.ok (.agg #[a,b,c,d]) W:=by
 obtain⟨c0,c1,c2,c3,_,_,_,_⟩:=in4 hx
 simp[results,Tryz.results154,go_sem,h,c0,c1,c2,c3]
abbrev endS:Nd->List PT->PR:=fun n l=>need S.sc l fun l=>.ok n l
def SocI (f t:Nat) (w:World) (B:Nat) (ts:List Tok) (r:PRes) (k:Nat) (s4:Value) (wr:World):Prop :=
 ∃(n:Nd) (a j:Nat) (b:Option Addr) (cap:Nat),s4=.bool (decide (a=0))/\wr.heap[t]?=some (nbx n b cap)/\wr.heap[w.heap.size]?=some zbx/\NdV (fun g=>w.heap.size<=g/\g≠w.heap.size/\g≠t) wr n (ndv n b cap)/\Rd wr B ts j/\a0b (fun k=>k=B) w wr/\k<=f/\(a=0->n.k≠21)/\(P k 9 n a (rest ts j)).on endS=some r
theorem d7l(f:Nat)(hE:∀g,g<=f->a6g g)(hF:∀g,g<=f->SufC g)(r:PRes)(B:Nat)(ts:List Tok)(i:Nat)(w:World)(hC:Ctx w B ts i)(hP:a0v (rest ts i) (fun s l=>(P f 9 ⟨18,s,0,[]⟩ 0 l).on endS)=some r):Cl 154 #[Po B 0] w (PAns no w B ts r):=by
 have hBw:=hC.R.lt
 have hb0:Bw w (w.alloc zbx):=ext_alloc (Below.refl _ _) _
 have h2:=a0a w zbx
 have hk0:a0b (fun k=>k=B) w (w.alloc zbx):=a0b.of_below hb0
 have hc1:=hC.nameU hP _ hb0
 clear hP
 go_enter Tryz.func154,Tryz.ntmps154
 go_wp2_with (go_at_call 100;refine hc1.mono ?_;rintro e w1 (⟨rfl,hle,rfl,hk1⟩|⟨s,hP1,rfl,hR1,hk1⟩);(exact⟨rfl,a0d rfl hle (hk0.trans hk1)⟩);(try dsimp only at hP1);have hk1':=hk0.trans hk1;have g1:=hk1.box h2 (by omega))
 have hz:=block_lt g1
 have hb1:Bw w1 (w1.alloc (nbx ⟨18,s,0,[]⟩ none 0)):=ext_alloc (Below.refl _ _) _
 have hI:SocI f w1.heap.size w B ts r f (.bool true) (w1.alloc (nbx ⟨18,s,0,[]⟩ none 0)):=⟨⟨18,s,0,[]⟩,0,i+1,none,0,rfl,a0a _ _,block_below hb1 g1,a5u _ _ _ _ _,hR1.below hb1,hk1'.trans (a0b.of_below hb1),Nat.le_refl _,fun _=>by show(18:Int)≠21;decide,hP1⟩
 obtain⟨t,ht⟩:∃t,w1.heap.size=t:=⟨_,rfl⟩
 obtain⟨W1,hW1⟩:∃W1,w1.alloc (nbx ⟨18,s,0,[]⟩ none 0)=W1:=⟨_,rfl⟩
 rw[hW1]at hI
 dsimp only[nbx,List.length_nil]at hW1
 rw[hW1]
 rw[ht]at hI hz⊢
 clear hW1 ht hP1 hR1 hk1 hk1' g1 h2 hk0 hb1 hc1
 go_loopg [4] f (fun k s4 wr=>SocI f t w B ts r k s4 wr)
 case atStart=>exact hI
 case round =>
  clear hI
  obtain⟨n,a,j,b,cap,rfl,g3,g2,hN,hR,hk,hgf,ha,hr⟩:=hrel
  have hCr:=hC.on hR
  have hzt:=block_lt g3
  cases gk with
  | zero=>cases hr
  | succ g =>
   have hSee:=hCr.sees2 c6i b3t wr (Below.refl _ _)
   by_cases hy:tx (rest ts j)=S.lb\/tx (rest ts j)=S.lp
   ·rw[decide_eq_true hy]at hSee
    have hr':∃a',(a'=0↔a=0/\tx (rest ts j)=S.lb)/\(P g 5 n 0 (rest ts j)).on (fun n l=>(P g 9 n a' l).on endS)=some r:=by
     rw[P]at hr
     split at hr
     ·rename_i hl
      rw[c4a]at hr
      exact⟨a,⟨fun h=>⟨h,hl⟩,fun h=>h.1⟩,hr⟩
     ·rename_i hl
      rw[if_pos (hy.resolve_left hl),c4a]at hr
      exact⟨a+1,⟨fun h=>by omega,fun h=>absurd h.2 hl⟩,hr⟩
    obtain⟨a',ha',hr⟩:=hr'
    obtain⟨r1,hr1,hr2⟩:=a3o hr
    have hFF:=fun u (hb:Bw wr u)=>hF g (by omega) n b cap _ r1 B ts j u (hCr.below hb) (hN.below hb) (fun g hg=>by omega) hr1
    have hkd:∀n' l',r1=.inr (n',l')->(a'=0↔a=0/\n'.k=20)/\(n'.k=20\/n'.k=21):=fun n' l' e=>by
     subst e
     have:=d3k hr1
     by_cases hl:tx (rest ts j)=S.lb
     ·rw[if_pos hl]at this
      exact⟨by rw[ha'];exact⟨fun h=>⟨h.1,this⟩,fun h=>⟨h.1,hl⟩⟩,.inl this⟩
     ·rw[if_neg hl]at this
      exact⟨by rw[ha'];exact⟨fun h=>absurd h.2 hl,fun h=>by omega⟩,.inr this⟩
    replace hr2:Hid _:=hr2
    replace hkd:Hid _:=hkd
    obtain⟨p,hp⟩:∃p:Bool,decide (a=0)=p:=⟨_,rfl⟩
    rw[hp]
    replace hp:Hid _:=hp
    clear hr hr1 hF hE ha ha'
    go_wp2_with (first|(go_at_call 101;refine hSee.mono ?_;rintro e w4 ⟨rfl,hb4⟩;have q3:=block_below hb4 g3;obtain⟨c0,c1,c2,c3,f0,f1,f2,f3⟩:=in4 q3)|(go_at_call 165;refine(hFF _ hb4).mono ?_;intro e w5 hA;rcases r1 with l1|⟨n2,l2⟩;(obtain⟨j2,hj2,hle,rfl,hk5⟩:=hA;rcases hr2.out with⟨l,e1,e2⟩|⟨n,l,e1,_⟩;(cases e1;subst e2;exact⟨rfl,a0d hj2 hle ((hk.trans (a0b.of_below hb4)).trans hk5)⟩);cases e1);obtain⟨j2,b2,cap2,hj2,rfl,hN5,hR5,hk5⟩:=hA;have q3:=hk5.box q3 (by omega);obtain⟨c0,c1,c2,c3,f0,f1,f2,f3⟩:=in4 q3;refine Hid.out ?_))
    rcases hr2.out with⟨l,e1,_⟩|⟨n',l,e1,hr3⟩
    ·cases e1
    cases e1
    obtain⟨hk1,hk2⟩:=hkd.out n2 l2 rfl
    have hz5:=hb4.size
    refine Lib.hid ?_
    have hrel2:∀p':Bool,p'=(p&&decide (n2.k=20))->SocI f t w B ts r g (.bool p') (put4 w5 t (vi n2.k) (sk n2.t) (vi n2.n) (.slice b2 n2.kids.length cap2)):=fun p' hp'=>⟨n2,a',j2,b2,cap2,by
     rw[hp',<- hp.out]
     congr 1
     rw[Bool.eq_iff_iff]
     simp[hk1],a0f _ _ _ _ q3,(a2w _ _ _ _ (by omega)).trans (hk5.box (block_below hb4 g2) (by omega)),(hN5.weak (fun g hg hlt=>by rcases hg with hg|hg;exact hg;exact⟨by omega,by omega,by omega⟩)).put4 _ _ _ _ _ (fun g hg=>hg.2.2),hR5.put4 _ _ _ _ _ (by omega),a1j ((hk.trans (a0b.of_below hb4)).trans hk5) _ _ _ _ _ (by omega),by omega,fun h0=>by have:=(hk1.1 h0).2;omega,by rw[hj2];exact hr3⟩
    replace hrel2:Hid _:=hrel2
    clear hr2 hkd hk1 hp hFF hN5 hN
    cases p with
    | false =>
     go_wp2
     go_roundg g
     case measure=>omega
     case rel=>exact hrel2.out _ rfl
    | true =>
     rcases hk2 with hk2|hk2
     ·rw[hk2]at hrel2
      go_wp2
      go_roundg g
      case measure=>omega
      case rel=>exact hrel2.out _ rfl
     ·rw[hk2]at hrel2
      go_wp2
      go_roundg g
      case measure=>omega
      case rel=>exact hrel2.out _ rfl
   ·rw[decide_eq_false hy]at hSee
    have hnl:¬tx (rest ts j)=S.lb:=fun h=>hy (.inl h)
    have hnp:¬tx (rest ts j)=S.lp:=fun h=>hy (.inr h)
    rw[P,if_neg hnl,if_neg hnp]at hr
    clear hF
    by_cases ha0:a=0
    ·subst ha0
     rw[if_pos rfl,c7x]at hr
     have hk21:¬n.k=21:=ha rfl
     by_cases heq:tx (rest ts j)=S.eq
     ·have hr2:(P g 0 nil0 0 (rest ts (j+1))).on (fun x l=>need S.sc l fun l=>.ok ⟨6,[],0,[n]++[x]⟩ l)=some r:=by
       unfold need at hr
       rw[if_pos heq,a0x]at hr
       dsimp only at hr
       rw[c4a]at hr
       exact hr
      have hT:=fun u hb=>hCr.takes_yes c7c heq u hb
      clear hr
      go_wp2_with (first
       | (go_at_call 101;refine hSee.mono ?_;rintro e w4 ⟨rfl,hb4⟩)
       | (go_at_call 102;refine(hT _ hb4).mono ?_;rintro e w5 ⟨rfl,hR5,hk5⟩;have q3:=hk5.box (block_below hb4 g3) (by omega);have q2:=hk5.box (block_below hb4 g2) (by omega);obtain⟨c0,c1,c2,c3,f0,f1,f2,f3⟩:=in4 q3)
       | (go_at_call 153;refine Hid.out ?_))
      have hk5':=(hk.trans (a0b.of_below hb4)).trans hk5
      have hb5:Bw w5 (w5.alloc (nbx n b cap)):=ext_alloc (Below.refl _ _) _
      have hN5:NdV (fun q=>(w.heap.size<=q/\q≠w.heap.size)/\q≠w5.heap.size) (w5.alloc (nbx n b cap)) n (ndv n b cap):=((((hN.below hb4).keep hk5 (fun q hq _=>by omega)).weak (S':=fun q=>(w.heap.size<=q/\q≠w.heap.size)/\q≠w5.heap.size) (fun q hq hlt=>⟨⟨hq.1,hq.2.1⟩,by omega⟩))).below hb5
      have hz5:wr.heap.size<=w5.heap.size:=Nat.le_trans hb4.size hk5.size
      have hRow5:=Row.one (S:=fun q=>w.heap.size<=q/\q≠w.heap.size) ⟨by omega,by omega⟩ hN5 (a0a w5 (nbx n b cap))
      have hg:=b7u g (hE g (by omega)) 6 _ [n] _ 1 r B ts (j+1) _ ((hC.on hR5).below hb5) hRow5 (fun q hq=>by omega) (fun q e=>by have:=b0g e;omega) (by simp) hr2
      have q2':=block_below hb5 q2
      have hs5:(w5.alloc (nbx n b cap)).heap.size=w5.heap.size+1:=World.size_alloc _ _
      clear hT hr2 hE hN hN5
      refine Lib.hid ?_
      go_wp2_with (go_at_call 153;refine hg.mono ?_;rintro e w6 (⟨j6,rfl,hle,rfl,hk6⟩|⟨N,j6,b6,cap6,rfl,rfl,hN6,hR6,hk6⟩);(exact⟨rfl,a0d rfl hle ((hk5'.trans (a0b.of_below hb5)).then hk6 (fun q hq e=>by rcases e with e|e;exact e;have:=b0g e.symm;omega))⟩);have p2:=hk6.box q2' (fun e=>by rcases e with e|e;omega;have:=b0g e.symm;omega);obtain⟨d0,d1,d2,d3,e0,e1,e2,e3⟩:=in4 p2)
      refine bodyPost_ret (d0b rfl (a0f _ _ _ _ p2)) rfl ?_
      exact a0j rfl (hN6.weak (fun q hq _=>by rcases hq with hq|hq;exact⟨.inr hq.1,hq.2⟩;exact⟨.inr (by omega),by omega⟩)) hR6 ((hk5'.trans (a0b.of_below hb5)).then hk6 (fun q hq e=>by rcases e with e|e;exact e;have:=b0g e.symm;omega)) (Nat.le_refl _) hBw
     ·have hre:r=.inl (rest ts j):=by
       unfold need at hr
       rw[if_neg heq]at hr
       exact(Option.some.inj hr).symm
      subst hre
      have hT:=fun u hb=>hCr.takes_no c7c heq u hb
      have hG:=fun u (hb:Bw wr u)=>a5x B ts j u (hR.below hb)
      clear hr
      go_wp2_with (first
       | (go_at_call 101;refine hSee.mono ?_;rintro e w4 ⟨rfl,hb4⟩)
       | (go_at_call 102;refine(hT _ hb4).mono ?_;rintro e w5 ⟨rfl,hb5⟩;have hb45:=ext_trans hb4 hb5;have q3:=block_below hb45 g3;obtain⟨c0,c1,c2,c3,f0,f1,f2,f3⟩:=in4 q3)
       | (go_at_call 125;refine(hG _ hb45).mono ?_;rintro e w6 ⟨rfl,hb6⟩))
      exact⟨rfl,a0d rfl hR.le ((hk.trans (a0b.of_below hb45)).trans (a0b.of_below hb6))⟩
    ·rw[if_neg ha0]at hr
     rw[decide_eq_false ha0]
     by_cases hk21:n.k=21
     ·rw[if_pos hk21]at hr
      have hr2:need S.sc (rest ts j) (fun l=>.ok (nd 7 [n]) l)=some r:=hr
      obtain⟨kk,tt,nn,kks⟩:=n
      simp only at hk21
      subst hk21
      have hW:=fun u hb=>hCr.wantsU d6t hr2 u hb
      clear hr hr2
      go_wp2_with (first
       | (go_at_call 101;refine hSee.mono ?_;rintro e w4 ⟨rfl,hb4⟩;have q3:=block_below hb4 g3;obtain⟨c0,c1,c2,c3,f0,f1,f2,f3⟩:=in4 q3)
       | (go_at_call 99;refine(hW _ hb4).mono ?_;rintro e w5 (⟨rfl,hle,rfl,hk5⟩|⟨hP5,rfl,hR5,hk5⟩);(exact⟨rfl,a0d rfl hle ((hk.trans (a0b.of_below hb4)).trans hk5)⟩);have q3:=hk5.box (block_below hb4 g3) (by omega);have q2:=hk5.box (block_below hb4 g2) (by omega);obtain⟨c0,c1,c2,c3,f0,f1,f2,f3⟩:=in4 q3;obtain⟨p0p,p1p,p2p,p3p,v0,v1,v2,v3⟩:=in4a q2))
      refine bodyPost_ret (d0b rfl (a0f _ _ _ _ (block_alloc _ q2))) rfl ?_
      obtain rfl:=Option.some.inj hP5
      exact b3u (w:=w) (B:=B) (ts:=ts) 7 rfl (((hN.below hb4).keep hk5 (fun q hq _=>by omega)).weak (fun q hq _=>⟨hq.1,hq.2.1⟩)) hR5 ((hk.trans (a0b.of_below hb4)).trans hk5) (Nat.le_refl _) hBw q2
     ·rw[if_neg hk21]at hr
      have hre:r=.inl (rest ts j):=(Option.some.inj hr).symm
      subst hre
      have hG:=fun u (hb:Bw wr u)=>a5x B ts j u (hR.below hb)
      clear hr
      go_wp2_with (first
       | (go_at_call 101;refine hSee.mono ?_;rintro e w4 ⟨rfl,hb4⟩;have q3:=block_below hb4 g3;obtain⟨c0,c1,c2,c3,f0,f1,f2,f3⟩:=in4 q3)
       | (go_at_call 125;refine(hG _ hb4).mono ?_;rintro e w6 ⟨rfl,hb6⟩))
      exact⟨rfl,a0d rfl hR.le ((hk.trans (a0b.of_below hb4)).trans (a0b.of_below hb6))⟩
theorem b0j{W:World}(h:tm[2]?.getD undef=Po B 0)(hx:W.heap[B]?=some (.cells #[a,b,c,d] 43)):(results Tryz.f129 tm).run Tryz.prog W=.ok (.agg #[a,b,c,d]) W:=by
 obtain⟨c0,c1,c2,c3,_,_,_,_⟩:=in4 hx
 simp[results,Tryz.results129,go_sem,h,c0,c1,c2,c3]
theorem a5a:a0y W.local_:=⟨_,_,rfl,rfl⟩
theorem b9y:a0y W.if_:=⟨_,_,rfl,rfl⟩
theorem a7s:a0y W.while_:=⟨_,_,rfl,rfl⟩
theorem b7w:a0y W.for_:=⟨_,_,rfl,rfl⟩
theorem b0k:a0y W.return_:=⟨_,_,rfl,rfl⟩
theorem c4c:a0y W.emit_:=⟨_,_,rfl,rfl⟩
theorem d7m(r:PRes)(B:Nat)(ts:List Tok)(i:Nat)(w:World)(hC:Ctx w B ts i)(hy:tx (rest ts i)=W.local_)(hX:∀u,Ctx u B ts (i+1)->Cl 149 #[Po B 0] u (PAns no u B ts r)):Cl 129 #[Po B 0] w (PAns no w B ts r):=by
 have d:=hC.R.lt
 have v:Bw w (w.alloc zbx):=ext_alloc (Below.refl _ _) _
 have a:=a0a w zbx
 have h:=fun u hb=>hC.takes_yes a5a hy u hb
 cases r with
 | inl l =>
  go_enter Tryz.func129,Tryz.ntmps129
  go_wp2_with (first
  | (go_at_call_of 102 (Value.string ⟨#[108,111,99,97,108]⟩);refine(h _ v).mono ?_;rintro e wy ⟨rfl,o,z⟩;have s:=(a0b.of_below (S:=fun k=>k=B) v).trans z;have g2:=z.box a (by omega);have m:=hC.on o)
  | (go_at_call 149;refine(hX _ m).mono ?_;rintro e wz ⟨j,f,g,rfl,y⟩))
  exact⟨rfl,a0d f g (s.trans y)⟩
 | inr p =>
  obtain⟨n,l⟩:=p
  go_enter Tryz.func129,Tryz.ntmps129
  go_wp2_with (first
  | (go_at_call_of 102 (Value.string ⟨#[108,111,99,97,108]⟩);refine(h _ v).mono ?_;rintro e wy ⟨rfl,o,z⟩;have s:=(a0b.of_below (S:=fun k=>k=B) v).trans z;have g2:=z.box a (by omega);have m:=hC.on o)
  | (go_at_call 149;refine(hX _ m).mono ?_;rintro e wz ⟨j,b,cap,f,rfl,hN,hR,y⟩;have q2:=y.box g2 (by omega);obtain⟨d0,d1,d2,d3,e0,e1,e2,e3⟩:=in4 q2))
  refine bodyPost_ret (b0j rfl (a0f _ _ _ _ q2)) rfl ?_
  exact a0j f (hN.weak (fun q hq _=>by have:=block_lt g2;rcases hq with hq|hq;exact hq.elim;exact⟨.inr (by omega),by omega⟩)) hR (s.trans y) (Nat.le_refl _) d
theorem d7n(r:PRes)(B:Nat)(ts:List Tok)(i:Nat)(w:World)(hC:Ctx w B ts i)(hn0:¬tx (rest ts i)=W.local_)(hy:tx (rest ts i)=W.if_)(hX:∀u,Ctx u B ts (i+1)->Cl 150 #[Po B 0] u (PAns no u B ts r)):Cl 129 #[Po B 0] w (PAns no w B ts r):=by
 have z8:=hC.R.lt
 have o:Bw w (w.alloc zbx):=ext_alloc (Below.refl _ _) _
 have z0:=a0a w zbx
 have d:=fun u hb=>hC.takes_no a5a hn0 u hb
 have f:=fun u hb=>hC.takes_yes b9y hy u hb
 cases r with
 | inl l =>
  go_enter Tryz.func129,Tryz.ntmps129
  go_wp2_with (first
  | (go_at_call_of 102 (Value.string ⟨#[108,111,99,97,108]⟩);refine(d _ o).mono ?_;rintro e w1 ⟨rfl,z⟩;have v:=ext_trans o z;have a:=block_below z z0)
  | (go_at_call_of 102 (Value.string ⟨#[105,102]⟩);refine(f _ v).mono ?_;rintro e wy ⟨rfl,h,y⟩;have m:=(a0b.of_below (S:=fun k=>k=B) v).trans y;have g2:=y.box a (by omega);have g:=hC.on h)
  | (go_at_call 150;refine(hX _ g).mono ?_;rintro e wz ⟨j,hj,z9,rfl,s⟩))
  exact⟨rfl,a0d hj z9 (m.trans s)⟩
 | inr p =>
  obtain⟨n,l⟩:=p
  go_enter Tryz.func129,Tryz.ntmps129
  go_wp2_with (first
  | (go_at_call_of 102 (Value.string ⟨#[108,111,99,97,108]⟩);refine(d _ o).mono ?_;rintro e w1 ⟨rfl,z⟩;have v:=ext_trans o z;have a:=block_below z z0)
  | (go_at_call_of 102 (Value.string ⟨#[105,102]⟩);refine(f _ v).mono ?_;rintro e wy ⟨rfl,h,y⟩;have m:=(a0b.of_below (S:=fun k=>k=B) v).trans y;have g2:=y.box a (by omega);have g:=hC.on h)
  | (go_at_call 150;refine(hX _ g).mono ?_;rintro e wz ⟨j,b,cap,hj,rfl,hN,hR,s⟩;have q2:=s.box g2 (by omega);obtain⟨d0,d1,d2,d3,e0,e1,e2,e3⟩:=in4 q2))
  refine bodyPost_ret (b0j rfl (a0f _ _ _ _ q2)) rfl ?_
  exact a0j hj (hN.weak (fun q hq _=>by have:=block_lt g2;rcases hq with hq|hq;exact hq.elim;exact⟨.inr (by omega),by omega⟩)) hR (m.trans s) (Nat.le_refl _) z8
theorem d7o(r:PRes)(B:Nat)(ts:List Tok)(i:Nat)(w:World)(hC:Ctx w B ts i)(hn0:¬tx (rest ts i)=W.local_)(hn1:¬tx (rest ts i)=W.if_)(hy:tx (rest ts i)=W.while_)(hX:∀u,Ctx u B ts (i+1)->Cl 151 #[Po B 0] u (PAns no u B ts r)):Cl 129 #[Po B 0] w (PAns no w B ts r):=by
 have z5:=hC.R.lt
 have h:Bw w (w.alloc zbx):=ext_alloc (Below.refl _ _) _
 have z0:=a0a w zbx
 have z7:=fun u a=>hC.takes_no a5a hn0 u a
 have z8:=fun u a=>hC.takes_no b9y hn1 u a
 have z9:=fun u a=>hC.takes_yes a7s hy u a
 cases r with
 | inl l =>
  go_enter Tryz.func129,Tryz.ntmps129
  go_wp2_with (first
  | (go_at_call_of 102 (Value.string ⟨#[108,111,99,97,108]⟩);refine(z7 _ h).mono ?_;rintro e w1 ⟨rfl,y⟩;have o:=ext_trans h y;have z1:=block_below y z0)
  | (go_at_call_of 102 (Value.string ⟨#[105,102]⟩);refine(z8 _ o).mono ?_;rintro e w2 ⟨rfl,z⟩;have s:=ext_trans o z;have z2:=block_below z z1)
  | (go_at_call_of 102 (Value.string ⟨#[119,104,105,108,101]⟩);refine(z9 _ s).mono ?_;rintro e wy ⟨rfl,f,v⟩;have g:=(a0b.of_below (S:=fun k=>k=B) s).trans v;have g2:=v.box z2 (by omega);have d:=hC.on f)
  | (go_at_call 151;refine(hX _ d).mono ?_;rintro e wz ⟨j,hj,z6,rfl,m⟩))
  exact⟨rfl,a0d hj z6 (g.trans m)⟩
 | inr p =>
  obtain⟨n,l⟩:=p
  go_enter Tryz.func129,Tryz.ntmps129
  go_wp2_with (first
  | (go_at_call_of 102 (Value.string ⟨#[108,111,99,97,108]⟩);refine(z7 _ h).mono ?_;rintro e w1 ⟨rfl,y⟩;have o:=ext_trans h y;have z1:=block_below y z0)
  | (go_at_call_of 102 (Value.string ⟨#[105,102]⟩);refine(z8 _ o).mono ?_;rintro e w2 ⟨rfl,z⟩;have s:=ext_trans o z;have z2:=block_below z z1)
  | (go_at_call_of 102 (Value.string ⟨#[119,104,105,108,101]⟩);refine(z9 _ s).mono ?_;rintro e wy ⟨rfl,f,v⟩;have g:=(a0b.of_below (S:=fun k=>k=B) s).trans v;have g2:=v.box z2 (by omega);have d:=hC.on f)
  | (go_at_call 151;refine(hX _ d).mono ?_;rintro e wz ⟨j,b,cap,hj,rfl,hN,hR,m⟩;have q2:=m.box g2 (by omega);obtain⟨d0,d1,d2,d3,e0,e1,e2,e3⟩:=in4 q2))
  refine bodyPost_ret (b0j rfl (a0f _ _ _ _ q2)) rfl ?_
  exact a0j hj (hN.weak (fun q hq _=>by have:=block_lt g2;rcases hq with hq|hq;exact hq.elim;exact⟨.inr (by omega),by omega⟩)) hR (g.trans m) (Nat.le_refl _) z5
theorem d7p(r:PRes)(B:Nat)(ts:List Tok)(i:Nat)(w:World)(hC:Ctx w B ts i)(hn0:¬tx (rest ts i)=W.local_)(hn1:¬tx (rest ts i)=W.if_)(hn2:¬tx (rest ts i)=W.while_)(hy:tx (rest ts i)=W.for_)(hX:∀u,Ctx u B ts (i+1)->Cl 152 #[Po B 0] u (PAns no u B ts r)):Cl 129 #[Po B 0] w (PAns no w B ts r):=by
 have y8:=hC.R.lt
 have f:Bw w (w.alloc zbx):=ext_alloc (Below.refl _ _) _
 have z0:=a0a w zbx
 have z4:=fun u a=>hC.takes_no a5a hn0 u a
 have z5:=fun u a=>hC.takes_no b9y hn1 u a
 have z6:=fun u a=>hC.takes_no a7s hn2 u a
 have z7:=fun u a=>hC.takes_yes b7w hy u a
 cases r with
 | inl l =>
  go_enter Tryz.func129,Tryz.ntmps129
  go_wp2_with (first
  | (go_at_call_of 102 (Value.string ⟨#[108,111,99,97,108]⟩);refine(z4 _ f).mono ?_;rintro e w1 ⟨rfl,v⟩;have h:=ext_trans f v;have z1:=block_below v z0)
  | (go_at_call_of 102 (Value.string ⟨#[105,102]⟩);refine(z5 _ h).mono ?_;rintro e w2 ⟨rfl,y⟩;have m:=ext_trans h y;have z2:=block_below y z1)
  | (go_at_call_of 102 (Value.string ⟨#[119,104,105,108,101]⟩);refine(z6 _ m).mono ?_;rintro e w3 ⟨rfl,z⟩;have o:=ext_trans m z;have z3:=block_below z z2)
  | (go_at_call_of 102 (Value.string ⟨#[102,111,114]⟩);refine(z7 _ o).mono ?_;rintro e wy ⟨rfl,z9,s⟩;have d:=(a0b.of_below (S:=fun k=>k=B) o).trans s;have g2:=s.box z3 (by omega);have z8:=hC.on z9)
  | (go_at_call 152;refine(hX _ z8).mono ?_;rintro e wz ⟨j,hj,y9,rfl,g⟩))
  exact⟨rfl,a0d hj y9 (d.trans g)⟩
 | inr p =>
  obtain⟨n,l⟩:=p
  go_enter Tryz.func129,Tryz.ntmps129
  go_wp2_with (first
  | (go_at_call_of 102 (Value.string ⟨#[108,111,99,97,108]⟩);refine(z4 _ f).mono ?_;rintro e w1 ⟨rfl,v⟩;have h:=ext_trans f v;have z1:=block_below v z0)
  | (go_at_call_of 102 (Value.string ⟨#[105,102]⟩);refine(z5 _ h).mono ?_;rintro e w2 ⟨rfl,y⟩;have m:=ext_trans h y;have z2:=block_below y z1)
  | (go_at_call_of 102 (Value.string ⟨#[119,104,105,108,101]⟩);refine(z6 _ m).mono ?_;rintro e w3 ⟨rfl,z⟩;have o:=ext_trans m z;have z3:=block_below z z2)
  | (go_at_call_of 102 (Value.string ⟨#[102,111,114]⟩);refine(z7 _ o).mono ?_;rintro e wy ⟨rfl,z9,s⟩;have d:=(a0b.of_below (S:=fun k=>k=B) o).trans s;have g2:=s.box z3 (by omega);have z8:=hC.on z9)
  | (go_at_call 152;refine(hX _ z8).mono ?_;rintro e wz ⟨j,b,cap,hj,rfl,hN,hR,g⟩;have q2:=g.box g2 (by omega);obtain⟨d0,d1,d2,d3,e0,e1,e2,e3⟩:=in4 q2))
  refine bodyPost_ret (b0j rfl (a0f _ _ _ _ q2)) rfl ?_
  exact a0j hj (hN.weak (fun q hq _=>by have:=block_lt g2;rcases hq with hq|hq;exact hq.elim;exact⟨.inr (by omega),by omega⟩)) hR (d.trans g) (Nat.le_refl _) y8
theorem d7q(r:PRes)(B:Nat)(ts:List Tok)(i:Nat)(w:World)(hC:Ctx w B ts i)(hn0:¬tx (rest ts i)=W.local_)(hn1:¬tx (rest ts i)=W.if_)(hn2:¬tx (rest ts i)=W.while_)(hn3:¬tx (rest ts i)=W.for_)(hy:tx (rest ts i)=W.return_)(hX:∀u,Ctx u B ts (i+1)->Cl 153 #[Po B 0,vi 11,.slice none 0 0] u (PAns no u B ts r)):Cl 129 #[Po B 0] w (PAns no w B ts r):=by
 have y5:=hC.R.lt
 have a:Bw w (w.alloc zbx):=ext_alloc (Below.refl _ _) _
 have z0:=a0a w zbx
 have y7:=fun u hb=>hC.takes_no a5a hn0 u hb
 have y8:=fun u hb=>hC.takes_no b9y hn1 u hb
 have y9:=fun u hb=>hC.takes_no a7s hn2 u hb
 have z5:=fun u hb=>hC.takes_no b7w hn3 u hb
 have z6:=fun u hb=>hC.takes_yes b0k hy u hb
 cases r with
 | inl l =>
  go_enter Tryz.func129,Tryz.ntmps129
  go_wp2_with (first
  | (go_at_call_of 102 (Value.string ⟨#[108,111,99,97,108]⟩);refine(y7 _ a).mono ?_;rintro e w1 ⟨rfl,s⟩;have f:=ext_trans a s;have z1:=block_below s z0)
  | (go_at_call_of 102 (Value.string ⟨#[105,102]⟩);refine(y8 _ f).mono ?_;rintro e w2 ⟨rfl,v⟩;have g:=ext_trans f v;have z2:=block_below v z1)
  | (go_at_call_of 102 (Value.string ⟨#[119,104,105,108,101]⟩);refine(y9 _ g).mono ?_;rintro e w3 ⟨rfl,y⟩;have h:=ext_trans g y;have z3:=block_below y z2)
  | (go_at_call_of 102 (Value.string ⟨#[102,111,114]⟩);refine(z5 _ h).mono ?_;rintro e w4 ⟨rfl,z⟩;have m:=ext_trans h z;have z4:=block_below z z3)
  | (go_at_call_of 102 (Value.string ⟨#[114,101,116,117,114,110]⟩);refine(z6 _ m).mono ?_;rintro e wy ⟨rfl,z8,o⟩;have z9:=(a0b.of_below (S:=fun k=>k=B) m).trans o;have g2:=o.box z4 (by omega);have z7:=hC.on z8)
  | (go_at_call 153;refine(hX _ z7).mono ?_;rintro e wz ⟨j,hj,y6,rfl,d⟩))
  exact⟨rfl,a0d hj y6 (z9.trans d)⟩
 | inr p =>
  obtain⟨n,l⟩:=p
  go_enter Tryz.func129,Tryz.ntmps129
  go_wp2_with (first
  | (go_at_call_of 102 (Value.string ⟨#[108,111,99,97,108]⟩);refine(y7 _ a).mono ?_;rintro e w1 ⟨rfl,s⟩;have f:=ext_trans a s;have z1:=block_below s z0)
  | (go_at_call_of 102 (Value.string ⟨#[105,102]⟩);refine(y8 _ f).mono ?_;rintro e w2 ⟨rfl,v⟩;have g:=ext_trans f v;have z2:=block_below v z1)
  | (go_at_call_of 102 (Value.string ⟨#[119,104,105,108,101]⟩);refine(y9 _ g).mono ?_;rintro e w3 ⟨rfl,y⟩;have h:=ext_trans g y;have z3:=block_below y z2)
  | (go_at_call_of 102 (Value.string ⟨#[102,111,114]⟩);refine(z5 _ h).mono ?_;rintro e w4 ⟨rfl,z⟩;have m:=ext_trans h z;have z4:=block_below z z3)
  | (go_at_call_of 102 (Value.string ⟨#[114,101,116,117,114,110]⟩);refine(z6 _ m).mono ?_;rintro e wy ⟨rfl,z8,o⟩;have z9:=(a0b.of_below (S:=fun k=>k=B) m).trans o;have g2:=o.box z4 (by omega);have z7:=hC.on z8)
  | (go_at_call 153;refine(hX _ z7).mono ?_;rintro e wz ⟨j,b,cap,hj,rfl,hN,hR,d⟩;have q2:=d.box g2 (by omega);obtain⟨d0,d1,d2,d3,e0,e1,e2,e3⟩:=in4 q2))
  refine bodyPost_ret (b0j rfl (a0f _ _ _ _ q2)) rfl ?_
  exact a0j hj (hN.weak (fun q hq _=>by have:=block_lt g2;rcases hq with hq|hq;exact hq.elim;exact⟨.inr (by omega),by omega⟩)) hR (z9.trans d) (Nat.le_refl _) y5
theorem stat_5(r:PRes)(B:Nat)(ts:List Tok)(i:Nat)(w:World)(hC:Ctx w B ts i)(hn0:¬tx (rest ts i)=W.local_)(hn1:¬tx (rest ts i)=W.if_)(hn2:¬tx (rest ts i)=W.while_)(hn3:¬tx (rest ts i)=W.for_)(hn4:¬tx (rest ts i)=W.return_)(hy:tx (rest ts i)=W.emit_)(hX:∀u,Ctx u B ts (i+1)->Cl 153 #[Po B 0,vi 12,.slice none 0 0] u (PAns no u B ts r)):Cl 129 #[Po B 0] w (PAns no w B ts r):=by
 have y1:=hC.R.lt
 have z8:Bw w (w.alloc zbx):=ext_alloc (Below.refl _ _) _
 have z0:=a0a w zbx
 have y3:=fun u hb=>hC.takes_no a5a hn0 u hb
 have y4:=fun u hb=>hC.takes_no b9y hn1 u hb
 have y5:=fun u hb=>hC.takes_no a7s hn2 u hb
 have y6:=fun u hb=>hC.takes_no b7w hn3 u hb
 have y7:=fun u hb=>hC.takes_no b0k hn4 u hb
 have y8:=fun u hb=>hC.takes_yes c4c hy u hb
 cases r with
 | inl l =>
  go_enter Tryz.func129,Tryz.ntmps129
  go_wp2_with (first
  | (go_at_call_of 102 (Value.string ⟨#[108,111,99,97,108]⟩);refine(y3 _ z8).mono ?_;rintro e w1 ⟨rfl,o⟩;have a:=ext_trans z8 o;have z1:=block_below o z0)
  | (go_at_call_of 102 (Value.string ⟨#[105,102]⟩);refine(y4 _ a).mono ?_;rintro e w2 ⟨rfl,s⟩;have d:=ext_trans a s;have z2:=block_below s z1)
  | (go_at_call_of 102 (Value.string ⟨#[119,104,105,108,101]⟩);refine(y5 _ d).mono ?_;rintro e w3 ⟨rfl,v⟩;have f:=ext_trans d v;have z3:=block_below v z2)
  | (go_at_call_of 102 (Value.string ⟨#[102,111,114]⟩);refine(y6 _ f).mono ?_;rintro e w4 ⟨rfl,y⟩;have g:=ext_trans f y;have z4:=block_below y z3)
  | (go_at_call_of 102 (Value.string ⟨#[114,101,116,117,114,110]⟩);refine(y7 _ g).mono ?_;rintro e w5 ⟨rfl,z⟩;have h:=ext_trans g z;have z5:=block_below z z4)
  | (go_at_call_of 102 (Value.string ⟨#[101,109,105,116]⟩);refine(y8 _ h).mono ?_;rintro e wy ⟨rfl,z6,m⟩;have z7:=(a0b.of_below (S:=fun k=>k=B) h).trans m;have g2:=m.box z5 (by omega);have y9:=hC.on z6)
  | (go_at_call 153;refine(hX _ y9).mono ?_;rintro e wz ⟨j,hj,y2,rfl,z9⟩))
  exact⟨rfl,a0d hj y2 (z7.trans z9)⟩
 | inr p =>
  obtain⟨n,l⟩:=p
  go_enter Tryz.func129,Tryz.ntmps129
  go_wp2_with (first
  | (go_at_call_of 102 (Value.string ⟨#[108,111,99,97,108]⟩);refine(y3 _ z8).mono ?_;rintro e w1 ⟨rfl,o⟩;have a:=ext_trans z8 o;have z1:=block_below o z0)
  | (go_at_call_of 102 (Value.string ⟨#[105,102]⟩);refine(y4 _ a).mono ?_;rintro e w2 ⟨rfl,s⟩;have d:=ext_trans a s;have z2:=block_below s z1)
  | (go_at_call_of 102 (Value.string ⟨#[119,104,105,108,101]⟩);refine(y5 _ d).mono ?_;rintro e w3 ⟨rfl,v⟩;have f:=ext_trans d v;have z3:=block_below v z2)
  | (go_at_call_of 102 (Value.string ⟨#[102,111,114]⟩);refine(y6 _ f).mono ?_;rintro e w4 ⟨rfl,y⟩;have g:=ext_trans f y;have z4:=block_below y z3)
  | (go_at_call_of 102 (Value.string ⟨#[114,101,116,117,114,110]⟩);refine(y7 _ g).mono ?_;rintro e w5 ⟨rfl,z⟩;have h:=ext_trans g z;have z5:=block_below z z4)
  | (go_at_call_of 102 (Value.string ⟨#[101,109,105,116]⟩);refine(y8 _ h).mono ?_;rintro e wy ⟨rfl,z6,m⟩;have z7:=(a0b.of_below (S:=fun k=>k=B) h).trans m;have g2:=m.box z5 (by omega);have y9:=hC.on z6)
  | (go_at_call 153;refine(hX _ y9).mono ?_;rintro e wz ⟨j,b,cap,hj,rfl,hN,hR,z9⟩;have q2:=z9.box g2 (by omega);obtain⟨d0,d1,d2,d3,e0,e1,e2,e3⟩:=in4 q2))
  refine bodyPost_ret (b0j rfl (a0f _ _ _ _ q2)) rfl ?_
  exact a0j hj (hN.weak (fun q hq _=>by have:=block_lt g2;rcases hq with hq|hq;exact hq.elim;exact⟨.inr (by omega),by omega⟩)) hR (z7.trans z9) (Nat.le_refl _) y1
theorem stat_6(r:PRes)(B:Nat)(ts:List Tok)(i:Nat)(w:World)(hC:Ctx w B ts i)(hn0:¬tx (rest ts i)=W.local_)(hn1:¬tx (rest ts i)=W.if_)(hn2:¬tx (rest ts i)=W.while_)(hn3:¬tx (rest ts i)=W.for_)(hn4:¬tx (rest ts i)=W.return_)(hn5:¬tx (rest ts i)=W.emit_)(hX:∀u,Ctx u B ts i->Cl 154 #[Po B 0] u (PAns no u B ts r)):Cl 129 #[Po B 0] w (PAns no w B ts r):=by
 have y2:=hC.R.lt
 have z7:Bw w (w.alloc zbx):=ext_alloc (Below.refl _ _) _
 have z0:=a0a w zbx
 have y4:=fun u hb=>hC.takes_no a5a hn0 u hb
 have y5:=fun u hb=>hC.takes_no b9y hn1 u hb
 have y6:=fun u hb=>hC.takes_no a7s hn2 u hb
 have y7:=fun u hb=>hC.takes_no b7w hn3 u hb
 have y8:=fun u hb=>hC.takes_no b0k hn4 u hb
 have y9:=fun u hb=>hC.takes_no c4c hn5 u hb
 cases r with
 | inl l =>
  go_enter Tryz.func129,Tryz.ntmps129
  go_wp2_with (first
  | (go_at_call_of 102 (Value.string ⟨#[108,111,99,97,108]⟩);refine(y4 _ z7).mono ?_;rintro e w1 ⟨rfl,m⟩;have z9:=ext_trans z7 m;have z1:=block_below m z0)
  | (go_at_call_of 102 (Value.string ⟨#[105,102]⟩);refine(y5 _ z9).mono ?_;rintro e w2 ⟨rfl,o⟩;have a:=ext_trans z9 o;have z2:=block_below o z1)
  | (go_at_call_of 102 (Value.string ⟨#[119,104,105,108,101]⟩);refine(y6 _ a).mono ?_;rintro e w3 ⟨rfl,s⟩;have d:=ext_trans a s;have z3:=block_below s z2)
  | (go_at_call_of 102 (Value.string ⟨#[102,111,114]⟩);refine(y7 _ d).mono ?_;rintro e w4 ⟨rfl,v⟩;have f:=ext_trans d v;have z4:=block_below v z3)
  | (go_at_call_of 102 (Value.string ⟨#[114,101,116,117,114,110]⟩);refine(y8 _ f).mono ?_;rintro e w5 ⟨rfl,y⟩;have g:=ext_trans f y;have z5:=block_below y z4)
  | (go_at_call_of 102 (Value.string ⟨#[101,109,105,116]⟩);refine(y9 _ g).mono ?_;rintro e w6 ⟨rfl,z⟩;have h:=ext_trans g z;have z6:=block_below z z5)
  | (go_at_call 154;refine(hX _ (hC.below h)).mono ?_;rintro e wz ⟨j,hj,y3,rfl,z8⟩))
  exact⟨rfl,a0d hj y3 ((a0b.of_below h).trans z8)⟩
 | inr p =>
  obtain⟨n,l⟩:=p
  go_enter Tryz.func129,Tryz.ntmps129
  go_wp2_with (first
  | (go_at_call_of 102 (Value.string ⟨#[108,111,99,97,108]⟩);refine(y4 _ z7).mono ?_;rintro e w1 ⟨rfl,m⟩;have z9:=ext_trans z7 m;have z1:=block_below m z0)
  | (go_at_call_of 102 (Value.string ⟨#[105,102]⟩);refine(y5 _ z9).mono ?_;rintro e w2 ⟨rfl,o⟩;have a:=ext_trans z9 o;have z2:=block_below o z1)
  | (go_at_call_of 102 (Value.string ⟨#[119,104,105,108,101]⟩);refine(y6 _ a).mono ?_;rintro e w3 ⟨rfl,s⟩;have d:=ext_trans a s;have z3:=block_below s z2)
  | (go_at_call_of 102 (Value.string ⟨#[102,111,114]⟩);refine(y7 _ d).mono ?_;rintro e w4 ⟨rfl,v⟩;have f:=ext_trans d v;have z4:=block_below v z3)
  | (go_at_call_of 102 (Value.string ⟨#[114,101,116,117,114,110]⟩);refine(y8 _ f).mono ?_;rintro e w5 ⟨rfl,y⟩;have g:=ext_trans f y;have z5:=block_below y z4)
  | (go_at_call_of 102 (Value.string ⟨#[101,109,105,116]⟩);refine(y9 _ g).mono ?_;rintro e w6 ⟨rfl,z⟩;have h:=ext_trans g z;have z6:=block_below z z5)
  | (go_at_call 154;refine(hX _ (hC.below h)).mono ?_;rintro e wz ⟨j,b,cap,hj,rfl,hN,hR,z8⟩;have q2:=z8.box z6 (by omega);obtain⟨d0,d1,d2,d3,e0,e1,e2,e3⟩:=in4 q2))
  refine bodyPost_ret (b0j rfl (a0f _ _ _ _ q2)) rfl ?_
  exact a0j hj (hN.weak (fun q hq _=>by have:=block_lt z6;rcases hq with hq|hq;exact hq.elim;exact⟨.inr (by omega),by omega⟩)) hR ((a0b.of_below h).trans z8) (Nat.le_refl _) y2
theorem stat_of(f:Nat)(hE:∀g,g<=f->a6g g)(hF:∀g,g<=f->SufC g)(hB:BlkC f):d3j (f+1):=by
 intro r B ts i w v z
 have y:=hE f (Nat.le_refl _)
 rw[P]at z
 split at z
 ·rename_i h0
  rw[a0x]at z
  exact d7m r B ts i w v h0 (fun u h=>c7u f y r B ts (i+1) u h z)
 rename_i h0
 split at z
 ·rename_i h1
  rw[a0x]at z
  exact d7n r B ts i w v h0 h1 (fun u h=>c3z f y hB r B ts (i+1) u h z)
 rename_i h1
 split at z
 ·rename_i h2
  rw[a0x]at z
  exact d7o r B ts i w v h0 h1 h2 (fun u h=>d3h f y hB r B ts (i+1) u h z)
 rename_i h2
 split at z
 ·rename_i h3
  rw[a0x]at z
  exact d7p r B ts i w v h0 h1 h2 h3 (fun u h=>c7v f y hB r B ts (i+1) u h z)
 rename_i h3
 split at z
 ·rename_i h4
  rw[a0x]at z
  exact d7q r B ts i w v h0 h1 h2 h3 h4 (fun u h=>b0f f y 11 r B ts (i+1) u h z)
 rename_i h4
 split at z
 ·rename_i h5
  rw[a0x]at z
  exact stat_5 r B ts i w v h0 h1 h2 h3 h4 h5 (fun u h=>b0f f y 12 r B ts (i+1) u h z)
 rename_i h5
 exact stat_6 r B ts i w v h0 h1 h2 h3 h4 h5 (fun u h=>d7l f hE hF r B ts i u h z)
def FunC (f:Nat):Prop:=∀(r:PRes) (B:Nat) (ts:List Tok) (i:Nat) (w:World),Ctx w B ts i->P f 10 nil0 0 (rest ts i)=some r->Cl 66 #[Po B 0] w (PAns no w B ts r)
def UniI (f:Nat) (w:World) (B:Nat) (ts:List Tok) (r:PRes) (k:Nat) (wr:World):Prop :=
 ∃(ks:List Nd) (j:Nat) (b:Option Addr) (cap:Nat),wr.heap[w.heap.size+1]?=some (nbx (nd 1 ks) b cap)/\wr.heap[w.heap.size]?=some zbx /\
  Row (fun g=>w.heap.size<=g/\g≠w.heap.size/\g≠w.heap.size+1) wr (.slice b ks.length cap) ks/\(∀q,Value.ownBlock (.slice b ks.length cap)=some q->w.heap.size<=q)/\Rd wr B ts j/\a0b (fun k=>k=B) w wr/\ks.length+k<=f/\P k 12 (nd 1 ks) 0 (rest ts j)=some r
theorem res27{W:World}(h:tm[2]?.getD undef=Po B 0)(hx:W.heap[B]?=some (.cells #[a,b,c,d] 43)):(results Tryz.f42 tm).run Tryz.prog W=.ok (.agg #[a,b,c,d]) W:=by
 obtain⟨c0,c1,c2,c3,_,_,_,_⟩:=in4 hx
 simp[results,Tryz.results42,go_sem,h,c0,c1,c2,c3]
theorem d3l(f:Nat)(hf:f<=100000)(hE:∀g,g<f->FunC g)(r:PRes)(B:Nat)(ts:List Tok)(i:Nat)(w:World)(hC:Ctx w B ts i)(hP:P f 12 (nd 1 []) 0 (rest ts i)=some r):Cl 42 #[Po B 0] w (PAns no w B ts r):=by
 obtain⟨i0,hi0,hz0,hz1,hz2⟩:=info_parts b1e
 obtain⟨h4,h3⟩:=new2 w zbx (nbx (nd 1 []) none 0)
 have hBw:=hC.R.lt
 have hb0:=b1d w zbx (nbx (nd 1 []) none 0)
 have hI:UniI f w B ts r f ((w.alloc zbx).alloc (nbx (nd 1 []) none 0)):=⟨[],i,none,0,h3,h4,Row.nil _ _,fun q e=>by simp[Value.ownBlock]at e,hC.R.below hb0,a0b.of_below hb0,by simp,hP⟩
 clear hP h4 h3 hb0
 go_enter Tryz.func42,Tryz.ntmps42
 go_wp2
 go_loopg [14] f (fun k _ wr=>UniI f w B ts r k wr)
 case atStart=>exact hI
 case round =>
  clear hI
  obtain⟨ks,j,b',cap',p3,p4,hRow,hown,hR,hk,hgf,hr⟩:=hrel
  have hCr:=hC.on hR
  have hz4:=block_lt p3
  cases gk with
  | zero=>cases hr
  | succ g =>
   rw[P]at hr
   obtain⟨m1,m2,m3,m4,m5,bb,capb,h1,_⟩:=hR.box
   obtain⟨_,_,_,_,_,a5,a6,_⟩:=rdC h1
   clear h1
   have hjle:=hR.le
   have hshort:=hR.short
   obtain⟨N,hNl⟩:∃N,ts.length=N:=⟨_,rfl⟩
   rw[hNl]at a5
   by_cases hy:rest ts j=[]
   ·-- the end
    rw[if_pos hy]at hr
    replace hr:Hid _:=hr
    have hN:=hRow.node 1 [] 0
    have hlt:¬(j:Int)<(N:Int):=by
     have:=a8y ts j
     rw[hy]at this
     simp at this
     omega
    obtain⟨c0,c1,c2,c3,f0,f1,f2,f3⟩:=in4 p3
    obtain⟨d0,d1,d2,d3,e0,e1,e2,e3⟩:=in4 p4
    go_wp2
    go_quiet (fail)
    go_wp2
    have hb4:Bw wr (wr.drewN nq):=a1s (Below.refl _ _)
    have q4:=a8d (n:=nq) p4
    refine bodyPost_ret (res27 rfl (a0f _ _ _ _ q4)) rfl ?_
    obtain rfl:=Option.some.inj hr.out
    exact a0j (N:=nd 1 ks) rfl ((hN.below hb4).weak (fun g hg _=>⟨.inr hg.1,hg.2.1⟩)) (hR.below hb4) (hk.trans (a0b.of_below hb4)) (Nat.le_refl _) hBw
   ·rw[if_neg hy]at hr
    have hc1:=fun u (h:Ctx u B ts j)=>a7o hr (fun r0 h0=>hE g (by omega) r0 B ts j u h h0)
    have hn1:ks.length+1<=maxLen:=by unfold maxLen;omega
    have hb1:(ks.length+1)*56<=140737488355328:=by omega
    clear hr hE
    have hlt:(j:Int)<(N:Int):=by
     have:=a8y ts j
     rcases Nat.lt_or_ge j ts.length with h'|h'
     ·omega
     ·exact absurd (a5w h') hy
    go_wp2
    go_quiet (fail)
    have hb4:Bw wr (wr.drewN nq):=a1s (Below.refl _ _)
    obtain⟨w4,hw4⟩:∃w4,wr.drewN nq=w4:=⟨_,rfl⟩
    rw[hw4]at hb4⊢
    clear hw4 a5 a6
    refine Lib.hid ?_
    go_wp2
    have p3':=block_below hb4 p3
    have p4':=block_below hb4 p4
    have hRow4:=hRow.below hb4
    have hC4:=hCr.below hb4
    have hk4:=hk.trans (a0b.of_below hb4)
    have hz5:=block_lt p3'
    obtain⟨_,_,_,hform⟩:=hRow4.form
    replace hform:Hid _:=hform
    replace hown:Hid _:=hown
    clear hRow p3 p4 hR hk
    obtain⟨c0,c1,c2,c3,f0,f1,f2,f3⟩:=in4 p3'
    go_region_law (first
     | (refine step_append_lies _ (by rfl) _ _ _ (by rfl) 0 43 i0 _ 4 56 Tryz.underlying41 hi0 hz0 hz1 hz2 rfl (by omega) (.slice b' ks.length cap') ks.length _ (by rfl) ho (Ad w2.heap.size 0) 1 1 _ (by rfl) (by rfl) (a4x n1 b1 cap1 (a0a w2 (nbx n1 b1 cap1))) (by simp[Value.oneCell']) (by omega) hn1 hb1 (Nat.zero_le _) _ rfl ?_;intro g3 cap3 w3 hown3 hgrow hat hlt3;have p3w:=(hgrow.block _ (block_lt q3) hne3).trans q3;obtain⟨c0,c1,c2,c3,f0,f1,f2,f3⟩:=in4 p3w)
     | (go_simp;go_at_call 66;refine(hc1 _ (hC4.below ((Below.refl _ _).drew))).mono ?_;rintro e w2 (⟨j2,rfl,hle,rfl,hk2⟩|⟨n1,j2,b1,cap1,hP2,rfl,hN1,hR2,hk2'⟩);(exact⟨rfl,a0d rfl hle ((hk4.drew).trans hk2)⟩);have hk2:=((a0b.refl (fun k=>k=B) w4).drew).trans hk2';clear hk2';have pw3:=hk2.box p3' (by omega);have q3:=block_alloc (nbx n1 b1 cap1) pw3;have q4:=block_alloc (nbx n1 b1 cap1) (hk2.box p4' (by omega));obtain⟨c0,c1,c2,c3,f0,f1,f2,f3⟩:=in4 pw3;obtain⟨d0,d1,d2,d3,e0,e1,e2,e3⟩:=in4a pw3;obtain⟨xs,ho,hs,hn⟩:=((hRow4.keep hk2 (fun g hg _=>by omega)).below (ext_alloc (Below.refl _ _) (nbx n1 b1 cap1))).own;have hne3:some (w.heap.size+1)≠Value.ownBlock (.slice b' ks.length cap'):=fun e=>(hs _ e.symm).2.2 rfl))
    all_goals
     go_wp2
     go_roundg g
     case measure=>omega
     case rel =>
      have hb2a:=ext_alloc (Below.refl w2.heap.size w2) (nbx n1 b1 cap1)
      have hz2:=hk2.size
      have hy2:NdV (fun q=>(w.heap.size<=q/\q≠w.heap.size/\q≠w.heap.size+1)/\some q≠Value.ownBlock (.slice b' ks.length cap')) (w2.alloc (nbx n1 b1 cap1)) n1 (ndv n1 b1 cap1):=(hN1.weak (fun q hq _=>by simp at hq;exact⟨⟨by omega,by omega,by omega⟩,fun e=>by have:=(hform.out q e.symm).2;omega⟩)).below hb2a
      obtain⟨hRow5,r3,hk5,hown5⟩:=a4p (lo:=w.heap.size) ho hs hn hy2 (fun q hq=>hq.2.2) (fun q hq=>by simp at hq;exact⟨by omega,by omega,by omega⟩) hown.out (by simp;omega) q3 hown3 hgrow hat rfl
      exact⟨ks++[n1],j2,_,_,r3,hk5.box q4 (fun e=>by rcases e with e|e;omega;exact(hs _ e.symm).2.1 rfl),hRow5,hown5,(hR2.below hb2a).keep hk5 (fun q hq e=>by rcases e with e|e;omega;have:=hown.out q e.symm;omega),((hk4.trans hk2).trans (a0b.of_below hb2a)).then hk5 (fun q hq e=>by rcases e with e|e;omega;have:=hown.out q e.symm;omega),by simp;omega,hP2⟩
end Go.Proofs.YtfbpdbndejefdaaGreatDoor
