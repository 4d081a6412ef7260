import Derived.Test.YtomniogfpfbolaaGreatDoorS43
import Derived.Test.YtomniogfpfbolaaGreatDoorS23
import Derived.Test.YtomniogfpfbolaaGreatDoorS26
namespace Go.Proofs.YtomniogfpfbolaaGreatDoor
open Go.RowKit Go
set_option maxRecDepth 100000
set_option maxHeartbeats 8000000
set_option linter.all false
variable {tm:Array Value} {B C:Nat} {a b c d x y:Value} {l:List PT} {ts:List Tok} {W' w:World}
theorem d8x{W:World}(h:tm[2]?.getD undef=Po B 0)(hx:W.heap[B]?=some (.cells #[a,b,c,d] 34)):(results Tryz.f108 tm).run Tryz.prog W=.ok (.agg #[a,b,c,d]) W:=by
 obtain⟨c0,c1,c2,c3,_,_,_,_⟩:=in4 hx
 simp[results,Tryz.results108,go_sem,h,c0,c1,c2,c3]
theorem b6w:a1h W.function_:=⟨_,_,rfl,rfl⟩
theorem a3d{h:List UInt8->List PT->PR}{g:Nd->List PT->PR} : (a0n l h).on g=a0n l (fun s l=>(h s l).on g):=by
 unfold a0n
 split
 ·rfl
 ·rfl
def funE (f:Nat) (s:List UInt8) (ks:List Nd) (l:List PT):PR:=(P f 7 (nd 4 []) 0 l).on fun b l=>need W.end_ l fun l=>.ok ⟨2,s,0,ks++[b]⟩ l
def ParI (f t:Nat) (s:List UInt8) (w:World) (B:Nat) (ts:List Tok) (r:PRes) (k:Nat) (m:Value) (wr:World):Prop :=
 ∃(more:Bool) (ks:List Nd) (j:Nat) (b:Option Addr) (cap:Nat),m=.bool more/\wr.heap[t]?=some (nbx ⟨2,s,0,ks⟩ b cap)/\wr.heap[w.heap.size]?=some zbx /\
  Row (fun g=>w.heap.size<g/\g≠t) wr (.slice b ks.length cap) ks/\(∀q,Value.ownBlock (.slice b ks.length cap)=some q->w.heap.size<q)/\Rd wr B ts j/\a0b (fun k=>k=B) w wr/\ks.length<=j /\
  (if more then k<=f/\(P k 11 ⟨2,s,0,ks⟩ 0 (rest ts j)).on (fun n l=>need S.rp l fun l=>funE f s n.kids l)=some r else need S.rp (rest ts j) (fun l=>funE f s ks l)=some r)
theorem d6z(f:Nat)(hB:BlkC f):FunC (f+1):=by
 intro r B ts i w hC hP
 rw[P]at hP
 obtain⟨i0,hi0,hz0,hz1,hz2⟩:=info_parts a5w
 have hBw:=hC.R.lt
 have hb0:Bw w (w.alloc zbx):=q1z bz0 _
 have h2:=a0a w zbx
 have hk0:a0b (fun k=>k=B) w (w.alloc zbx):=a0b.of_below hb0
 have hc1:=hC.wantsU b6w hP _ hb0
 rw[World.size_alloc]at hc1
 clear hP
 go_enter Tryz.func108,Tryz.ntmps108
 go_wp2_with (first
  | (go_at_call 127;refine hc1.mono ?_;rintro e w2 (⟨rfl,hle,rfl,hk2⟩|⟨hP2,rfl,hR2,hk2⟩);(exact⟨rfl,a0e rfl hle (hk0.trans hk2)⟩);(try dsimp only at hP2);have hk2':=hk0.trans hk2;have g2:=hk2.box h2 (by omega))
  | (go_at_call 128;refine((hC.on hR2).nameU hP2 _ bz0).mono ?_;rintro e w3 (⟨rfl,hle,rfl,hk3⟩|⟨s,hP3,rfl,hR3,hk3⟩);(exact⟨rfl,a0e rfl hle (hk2'.trans hk3)⟩);(try dsimp only at hP3);have hk3':=hk2'.trans hk3;have g3:=hk3.box g2 (by omega);refine Hid.out ?_))
 have hzw:=q5z g2
 have hz3:=hk3.size
 have hb3:Bw w3 (w3.alloc (nbx ⟨2,s,0,[]⟩ none 0)):=q1z bz0 _
 have q4:=a0a w3 (nbx ⟨2,s,0,[]⟩ none 0)
 have g3':=q0z hb3 g3
 have hk4:=hk3'.trans (a0b.of_below hb3)
 have hW4:=(hC.on hR3).wantsU b3u hP3 _ hb3
 rw[World.size_alloc]at hW4
 obtain⟨t3,ht3⟩:=exq (w3.heap.size)
 clear hc1 hP2 hP3 hR2 hk2 hk2' h2 hk3 hk3'
 rw[ht3]at hW4 q4 hz3
 refine Lib.hid ?_
 go_wp2_with (go_at_call 127;refine hW4.mono ?_;rintro e w5 (⟨rfl,hle,rfl,hk5⟩|⟨hP5,rfl,hR5,hk5⟩);(exact⟨rfl,a0e rfl hle (hk4.trans hk5)⟩);(try dsimp only at hP5);have hk5':=hk4.trans hk5;have p3:=hk5.box q4 (by omega);have p2:=hk5.box g3' (by omega);refine Hid.out ?_)
 have hC5:=hC.on hR5
 have hSee:=hC5.sees1 b6b w5 bz0
 have hlen:∃more:Bool,decide (tx (rest ts (i+1+1+1))=S.rp)=!more/\(if more then f<=f/\(P f 11 ⟨2,s,0,[]⟩ 0 (rest ts (i+1+1+1))).on (fun n l=>need S.rp l fun l=>funE f s n.kids l)=some r else need S.rp (rest ts (i+1+1+1)) (fun l=>funE f s [] l)=some r):=by
  by_cases hy:tx (rest ts (i+1+1+1))=S.rp
  ·refine⟨false,by simp[hy],?_⟩
   rw[if_pos hy]at hP5
   rw[if_neg (by decide)]
   unfold need
   rw[if_pos hy]
   exact hP5
  ·refine⟨true,by simp[hy],?_⟩
   rw[if_neg hy]at hP5
   rw[if_pos rfl]
   exact⟨Nat.le_refl _,hP5⟩
 obtain⟨more,hm1,hm2⟩:=hlen
 rw[hm1]at hSee
 replace hm2:Hid _:=hm2
 have hz5:=q5z p3
 clear hP5 hm1 ht3 hW4 hk5 hk4 q4 g3' g3 g2 hR3 hb3
 refine Lib.hid ?_
 go_wp2_with (go_at_call 129;refine hSee.mono ?_;rintro e w6 ⟨rfl,hb6⟩)
 have hI:ParI f t3 s w B ts r f (.bool more) w6:=⟨more,[],i+1+1+1,none,0,rfl,q0z hb6 p3,q0z hb6 p2,Row.nil _ _,fun q e=>by simp[Value.ownBlock]at e,hR5.below hb6,hk5'.trans (a0b.of_below hb6),by simp,hm2.out⟩
 have hwt:w.heap.size<t3:=by omega
 clear p3 p2 hR5 hk5' hC5 hSee hm2 hb6 hz5 hz3 hzw
 go_loopg [4] f (fun k m wr=>ParI f t3 s w B ts r k m wr)
 case atStart=>exact hI
 case round =>
  obtain⟨more1,ks,j,b',cap',rfl,p3,p4,hRow,hown,hR,hk,hkl,hr⟩:=hrel
  clear hI
  have hCr:=hC.on hR
  have hz4:=q5z p4
  have hjl:=hR.le
  have hsh:=hR.short
  have hn1:ks.length+1<=maxLen:=by unfold maxLen;omega
  have hb1:(ks.length+1)*56<=140737488355328:=by omega
  cases more1 with
  | false =>
   rw[if_neg (by decide)]at hr
   have hWt:=hCr.wantsU b6b hr wr bz0
   clear hr
   go_wp2_with (go_at_call 127;refine hWt.mono ?_;rintro e w4 (⟨rfl,hle,rfl,hk4⟩|⟨hr4,rfl,hR4,hk4⟩);(exact⟨rfl,a0e rfl hle (hk.trans hk4)⟩);refine Hid.out ?_)
   unfold funE at hr4
   have p3':=hk4.box p3 (by omega)
   have p4':=hk4.box p4 (by omega)
   have hRow':=hRow.keep hk4 (fun q hq _=>by omega)
   have hk':=hk.trans hk4
   have hEE:=fun u (h:Ctx u B ts (j+1))=>a8e hr4 (fun r0 h0=>hB r0 B ts _ u h h0)
   have hCr':=hC.on hR4
   obtain⟨c0,c1,c2,c3,f0,f1,f2,f3⟩:=in4 p3'
   have hz4':=q5z p4'
   clear hWt hr4 hCr p3 p4 hRow hk hk4 hR hB
   refine Lib.hid ?_
   go_wp2
   go_region_law (first
      | (refine step_append_lies _ (by rfl) _ _ _ (by rfl) 0 34 i0 _ 4 56 Tryz.underlying32 hi0 hz0 hz1 hz2 rfl (by omega) (.slice b' ks.length cap') ks.length _ (by rfl) ho (Ad w2.heap.size 0) 1 1 _ (by rfl) (by rfl) (a2c n1 b1 cap1 (a0a w2 (nbx n1 b1 cap1))) (by simp[Value.oneCell']) (by omega) hn1 hb1 (Nat.zero_le _) _ rfl ?_;intro g3 cap3 w3 hown3 hgrow hat hlt3;have p3w:=(hgrow.block _ (q5z p3) hne3).trans p3;obtain⟨c0,c1,c2,c3,f0,f1,f2,f3⟩:=in4 p3w)
      | (go_simp;go_at_call 131;refine(hEE _ (hCr'.below (bz0.drew))).mono ?_;rintro e w2 (⟨j1,rfl,hle,rfl,hk2⟩|⟨n1,j2,b1,cap1,hr2,rfl,hN1,hR2,hk2'⟩);(exact⟨rfl,a0e rfl hle ((hk'.drew).trans hk2)⟩);have hk2:=((a0b.refl (fun k=>k=B) w4).drew).trans hk2';clear hk2';have pw3:=hk2.box p3' (by omega);have p3:=q4z (nbx n1 b1 cap1) pw3;have p4:=q4z (nbx n1 b1 cap1) (hk2.box p4' (by omega));obtain⟨c0,c1,c2,c3,f0,f1,f2,f3⟩:=in4 pw3;obtain⟨d0,d1,d2,d3,e0,e1,e2,e3⟩:=in4a pw3;obtain⟨xs,ho,hs,hn⟩:=((hRow'.keep hk2 (fun g hg _=>by omega)).below (q1z bz0 (nbx n1 b1 cap1))).own;have hne3:some t3≠Value.ownBlock (.slice b' ks.length cap'):=fun e=>(hs _ e.symm).2 rfl))
   all_goals
    clear c0 c1 c2 c3 f0 f1 f2 f3 d0 d1 d2 d3 e0 e1 e2 e3 hEE p3w pw3
    have hb2a:=q1z (Below.refl w2.heap.size w2) (nbx n1 b1 cap1)
    obtain⟨_,_,_,hlt9⟩:=hRow'.form
    have hz2:w4.heap.size<=w2.heap.size:=hk2.size
    have hz3:=q5z p3'
    have hy:NdV (fun q=>(w.heap.size<q/\q≠t3)/\some q≠Value.ownBlock (.slice b' ks.length cap')) (w2.alloc (nbx n1 b1 cap1)) n1 (ndv n1 b1 cap1):=(hN1.weak (fun q hq _=>by simp at hq;exact⟨⟨by omega,by omega⟩,fun e=>by have:=(hlt9 q e.symm).2;omega⟩)).below hb2a
    obtain⟨W4,hW4⟩:=exq (w3.setCell (Ad t3 3) (.slice (some (Ad g3 0)) (ks.length+1) cap3))
    obtain⟨hRow5,q3,hk5,hown5⟩:=a2y (lo:=w.heap.size+1) ho hs hn hy (fun q hq=>hq.2) (fun q hq=>by simp at hq;exact⟨by omega,by omega⟩) (fun q e=>hown q e) (by simp;omega) p3 hown3 hgrow hat hW4
    have q4:=hk5.box p4 (fun e=>by rcases e with e|e;omega;have:=(hs _ e.symm).1;omega)
    have hR5:=(hR2.below hb2a).keep hk5 (fun q hq e=>by rcases e with e|e;omega;have:=hown q e.symm;omega)
    have hkw5:=((hk'.trans hk2).trans (a0b.of_below hb2a)).then hk5 (fun q hq e=>by rcases e with e|e;omega;have:=hown q e.symm;omega)
    have hW8:=(hC.on hR5).wantsU b4j hr2 W4 bz0
    have hNN:=hRow5.node 2 s 0
    clear hown3 hgrow hat hlt3 ho hs hn hy hk5 p3 p4 hRow' hR2 hN1 hk2 hb2a hown hr2
    refine Lib.hid ?_
    go_wp2_with (go_at_call 127;refine hW8.mono ?_;rintro e w8 (⟨rfl,hle,rfl,hk8⟩|⟨hP8,rfl,hR8,hk8⟩);(exact⟨rfl,a0e rfl hle (hkw5.trans hk8)⟩);have u3:=hk8.box q3 (by omega);have u4:=hk8.box q4 (by omega);obtain⟨c0,c1,c2,c3,f0,f1,f2,f3⟩:=in4 u3;obtain⟨d0,d1,d2,d3,e0,e1,e2,e3⟩:=in4 u4)
    obtain rfl:=Option.some.inj hP8
    refine bodyPost_ret (d8x rfl (a0c _ _ _ _ u4)) rfl ?_
    rw[show ks.length+1=(ks++[n1]).length by simp]
    exact a0m (N:=⟨2,s,0,ks++[n1]⟩) rfl ((hNN.keep hk8 (fun q hq _=>by omega)).weak (fun q hq _=>⟨.inr (by omega),by omega⟩)) hR8 (hkw5.trans hk8) (Nat.le_refl _) hBw
  | true =>
   rw[if_pos rfl]at hr
   obtain⟨hgf,hr⟩:=hr
   obtain⟨c0,c1,c2,c3,f0,f1,f2,f3⟩:=in4 p3
   cases gk with
   | zero=>cases hr
   | succ g =>
    rw[P,a3d]at hr
    have hEE:=fun u (h:Ctx u B ts j)=>h.nameU hr u bz0
    clear hr hB
    go_wp2
    go_region_law (first
      | (refine step_append_lies _ (by rfl) _ _ _ (by rfl) 0 34 i0 _ 4 56 Tryz.underlying32 hi0 hz0 hz1 hz2 rfl (by omega) (.slice b' ks.length cap') ks.length _ (by rfl) ho (Ad w2.heap.size 0) 1 1 _ (by rfl) (by rfl) (a2c ⟨3,s1,0,[]⟩ none 0 (a0a w2 (nbx ⟨3,s1,0,[]⟩ none 0))) (by simp[Value.oneCell']) (by omega) hn1 hb1 (Nat.zero_le _) _ rfl ?_;intro g3 cap3 w3 hown3 hgrow hat hlt3;have p3w:=(hgrow.block _ (q5z p3) hne3).trans p3;obtain⟨c0,c1,c2,c3,f0,f1,f2,f3⟩:=in4 p3w)
      | (go_simp;go_at_call 128;refine(hEE _ (hCr.below (bz0.drew))).mono ?_;rintro e w2 (⟨rfl,hle,rfl,hk2⟩|⟨s1,hr2,rfl,hR2,hk2'⟩);(exact⟨rfl,a0e rfl hle ((hk.drew).trans hk2)⟩);have hk2:=((a0b.refl (fun k=>k=B) wr).drew).trans hk2';clear hk2';have pw3:=hk2.box p3 (by omega);have p3:=q4z (nbx ⟨3,s1,0,[]⟩ none 0) pw3;have p4:=q4z (nbx ⟨3,s1,0,[]⟩ none 0) (hk2.box p4 (by omega));obtain⟨c0,c1,c2,c3,f0,f1,f2,f3⟩:=in4 pw3;obtain⟨d0,d1,d2,d3,e0,e1,e2,e3⟩:=in4a pw3;obtain⟨xs,ho,hs,hn⟩:=((hRow.keep hk2 (fun g hg _=>by omega)).below (q1z bz0 (nbx ⟨3,s1,0,[]⟩ none 0))).own;have hne3:some t3≠Value.ownBlock (.slice b' ks.length cap'):=fun e=>(hs _ e.symm).2 rfl))
    all_goals
     clear c0 c1 c2 c3 f0 f1 f2 f3 d0 d1 d2 d3 e0 e1 e2 e3 hEE p3w pw3
     have hb2a:=q1z (Below.refl w2.heap.size w2) (nbx ⟨3,s1,0,[]⟩ none 0)
     obtain⟨_,_,_,hlt9⟩:=hRow.form
     have hz2:wr.heap.size<=w2.heap.size:=hk2.size
     have hy:NdV (fun q=>(w.heap.size<q/\q≠t3)/\some q≠Value.ownBlock (.slice b' ks.length cap')) (w2.alloc (nbx ⟨3,s1,0,[]⟩ none 0)) ⟨3,s1,0,[]⟩ (ndv ⟨3,s1,0,[]⟩ none 0):=a2a _ _ 3 s1 0
     obtain⟨W4,hW4⟩:=exq (w3.setCell (Ad t3 3) (.slice (some (Ad g3 0)) (ks.length+1) cap3))
     have hz9:=q5z p3
     obtain⟨hRow5,q3,hk5,hown5⟩:=a2y (lo:=w.heap.size+1) ho hs hn hy (fun q hq=>hq.2) (fun q hq=>⟨by simp at hq;omega,by omega⟩) (fun q e=>hown q e) (by simp;omega) p3 hown3 hgrow hat hW4
     have q4:=hk5.box p4 (fun e=>by rcases e with e|e;omega;have:=(hs _ e.symm).1;omega)
     have hR5:=(hR2.below hb2a).keep hk5 (fun q hq e=>by rcases e with e|e;omega;have:=hown q e.symm;omega)
     have hkw5:=((hk.trans hk2).trans (a0b.of_below hb2a)).then hk5 (fun q hq e=>by rcases e with e|e;omega;have:=hown q e.symm;omega)
     have hC5:=hC.on hR5
     clear hown3 hgrow hat hlt3 ho hs hn hy hk5 p3 p4 hRow hR2 hk2 hb2a hown
     refine Lib.hid ?_
     dsimp only at hr2
     by_cases hcm:tx (rest ts (j+1))=S.cm
     ·rw[if_pos hcm,a0g]at hr2
      replace hr2:Hid _:=hr2
      have hT5:=hC5.takes_yes b9l hcm W4 bz0
      go_wp2_with (go_at_call 130;refine hT5.mono ?_;rintro e w6 ⟨rfl,hR6,hk6⟩)
      go_roundg g
      case measure=>omega
      case rel=>exact⟨true,ks++[⟨3,s1,0,[]⟩],j+1+1,_,_,rfl,hk6.box q3 (by omega),hk6.box q4 (by omega),hRow5.keep hk6 (fun q hq _=>by omega),hown5,hR6,hkw5.trans hk6,by simp;omega,by rw[if_pos rfl];exact⟨by omega,hr2.out⟩⟩
     ·rw[if_neg hcm]at hr2
      replace hr2:Hid _:=hr2
      have hT5:=hC5.takes_no b9l hcm W4 bz0
      go_wp2_with (go_at_call 130;refine hT5.mono ?_;rintro e w6 ⟨rfl,hb6⟩)
      go_roundg g
      case measure=>omega
      case rel=>exact⟨false,ks++[⟨3,s1,0,[]⟩],j+1,_,_,rfl,q0z hb6 q3,q0z hb6 q4,hRow5.below hb6,hown5,hR5.below hb6,hkw5.trans (a0b.of_below hb6),by simp;omega,by rw[if_neg (by decide)];exact hr2.out⟩
structure AllC (f:Nat):Prop where
 row:RowC f
 sgn:SgnC f
 sim:SimC f
 suf:SufC f
 blk:BlkC f
 st:d3f f
 fn:FunC f
theorem b0p{tag:Nat}{x:Nd}{a:Nat}{r:PRes}(h:P 0 tag x a l=some r):False:=by
 rw[P]at h
 cases h
theorem c9d:AllC 0 where
 row:=fun _ _ _ _ _ _ _ _ h=>(b0p h).elim
 sgn:=fun _ _ _ _ _ _ h=>(b0p h).elim
 sim:=fun _ _ _ _ _ _ h=>(b0p h).elim
 suf:=fun _ _ _ _ _ _ _ _ _ _ _ _ h=>(b0p h).elim
 blk:=fun _ _ _ _ _ _ h=>(b0p h).elim
 st:=fun _ _ _ _ _ _ h=>(b0p h).elim
 fn:=fun _ _ _ _ _ _ h=>(b0p h).elim
theorem d7a(f:Nat):f<=100000->∀g,g<=f->AllC g:=by
 induction f with
 | zero =>
  intro _ g z
  obtain rfl:g=0:=by omega
  exact c9d
 | succ f ih =>
  intro hf g z
  rcases Nat.lt_or_ge f g with h|h
  ·obtain rfl:g=f+1:=by omega
   have A:=fun g z=>ih (by omega) g z
   have y:=A f (Nat.le_refl _)
   have E:=fun g z=>d1j g (A g z).row
   exact⟨d5y f (fun g z=>(A g z).row) y.sgn,d5q f y.sim (fun g z=>(A g (by omega)).suf) y.sgn,d6m f (E f (Nat.le_refl _)),d5m f E,c8x (f+1) hf (fun g z=>(A g (by omega)).st),d3h f E (fun g z=>(A g z).suf) y.blk,d6z f y.blk⟩
  ·exact ih (by omega) g h
theorem b4v(r:PRes)(B:Nat)(ts:List Tok)(w:World)(hC:Ctx w B ts 0)(hP:P 64012 12 (nd 1 []) 0 (ts.map pt)=some r):Cl 79 #[Po B 0] w (PAns no w B ts r) :=
 d3i 64012 (by omega) (fun g z=>(d7a 64012 (by omega) g (by omega)).fn) r B ts 0 w hC hP
def fpos (ts:List Tok) (sz:Nat) (i:Nat):Nat:=match ts[i]? with
 | some x=>x.a
 | none=>sz
theorem a5q.mono{W:World}{b:Option Addr}{l1 l2:Nat}(h:a5q W b ts l1)(hl:l1<=l2):a5q W b ts l2:=by
 rcases h with h|⟨g,e,h1,h2,h3⟩
 ·exact .inl h
 ·exact .inr ⟨g,e,by omega,h2,h3⟩
theorem a5q.below{W:World}{b:Option Addr}{l:Nat}(h:a5q W b ts l)(hb:Bw W W'):a5q W' b ts l:=h.keep (a0b.of_below (S:=no) hb) (fun _ _=>id)
abbrev pu2 (W:World) (B:Nat) (a b:Value):World:=(W.setCell (Ad B 0) a).setCell (Ad B 1) b
theorem a1w(W:World)(B:Nat)(a b:Value):a0b (fun k=>k=B) W (pu2 W B a b):=((a0b.refl (fun k=>k=B) W).set B 0 a (fun _=>rfl)).set B 1 b (fun _=>rfl)
theorem a2q{W:World}(a' b':Value)(h:W.heap[B]?=some (.cells #[a,b] 27)):(pu2 W B a' b').heap[B]?=some (.cells #[a',b'] 27):=q7z _ (q7z _ h)
theorem a1p{W:World}(a b:Value)(h:C≠B):(pu2 W B a b).heap[C]?=W.heap[C]?:=(q8z _ _ h).trans (q8z _ _ h)
theorem d3m{W:World}(h:tm[4]?.getD undef=Po B 0)(h':tm[5]?.getD undef=Po C 0)(hx:W.heap[B]?=some (.cells #[a,b,c,d] 34))(hy:W.heap[C]?=some (.cells #[x,y] 27)):(results Tryz.f54 tm).run Tryz.prog W=.ok (.tuple #[.agg #[a,b,c,d],.agg #[x,y]]) W:=by
 obtain⟨c0,c1,c2,c3,_,_,_,_⟩:=in4 hx
 have w:Ce W C 0 x:=q2z hy rfl
 have z:Ce W C 1 y:=q2z hy rfl
 simp[results,Tryz.results54,go_sem,h,h',c0,c1,c2,c3,w,z]
structure RB (w U:World) (sz:Nat):Prop where
 g0:U.heap[w.heap.size]?=some (.cells #[vi (sz:Nat)] 3)
 g1:U.heap[w.heap.size+1]?=some zbx
 g2:U.heap[w.heap.size+1+1]?=some (.cells #[vi 0,vi 0] 27)
 lt:w.heap.size+1+1<U.heap.size
theorem RB.keep{U U':World}{sz:Nat}{S:Nat->Prop}(h:RB w U sz)(hk:a0b S U U')(hs:∀g,g<=w.heap.size+1+1->¬S g):RB w U' sz:=by
 have:=h.lt
 have:=hk.size
 exact⟨hk.box h.g0 (hs _ (by omega)),hk.box h.g1 (hs _ (by omega)),hk.box h.g2 (hs _ (by omega)),by omega⟩
theorem d0j(w:World)(sz:Nat):RB w (((w.alloc (.cells #[vi (sz:Nat)] 3)).alloc zbx).alloc (.cells #[vi 0,vi 0] 27)) sz/\Bw w (((w.alloc (.cells #[vi (sz:Nat)] 3)).alloc zbx).alloc (.cells #[vi 0,vi 0] 27)):=by
 have z:=a0a w (.cells #[vi (sz:Nat)] 3)
 have h1:=a0a (w.alloc (.cells #[vi (sz:Nat)] 3)) zbx
 have h2:=a0a ((w.alloc (.cells #[vi (sz:Nat)] 3)).alloc zbx) (.cells #[vi 0,vi 0] 27)
 rw[World.size_alloc]at h1
 rw[World.size_alloc,World.size_alloc]at h2
 exact⟨⟨q4z _ (q4z _ z),q4z _ h1,h2,by simp⟩,q1z (q1z (q1z bz0 _) _) _⟩
theorem c5h(ts:List Tok)(b:Option Addr)(cap sz:Nat)(n:Nd)(l:List PT)(w:World)(hV:allV (ts.map pt))(hT:a5q w b ts w.heap.size)(hsp:a5b w)(hsh:ts.length<=4000)(hcap:ts.length<=cap)(hP:P 64012 12 (nd 1 []) 0 (ts.map pt)=some (.inr (n,l))) :
  Cl 54 #[.slice b ts.length cap,vi (sz:Nat)] w fun e w'=>∃d z,e=.returned (.tuple #[ndv n d z,.agg #[vi 0,vi 0]])/\NdV (fun g=>w.heap.size<=g) w' n (ndv n d z)/\Bw w w':=by
 have hmf:∀(fn:Fn) (p cap:Array Value) (w:World),(Instr.makeFunc fn p cap).run Tryz.prog w=.ok (.func fn p cap) w:=fun _ _ _ _=>rfl
 obtain⟨o,u⟩:=d0j w sz
 have a:=hT.below u
 have s:=hsp.below u
 obtain⟨U,hU⟩:=exq (((w.alloc (.cells #[vi (sz:Nat)] 3)).alloc zbx).alloc (.cells #[vi 0,vi 0] 27))
 rw[hU]at o u a s
 replace hU:((w.alloc (.cells #[vi (sz:Nat)] 3)).alloc (.cells #[vi 0,.string ⟨#[]⟩,vi 0,.slice none 0 0] 34)).alloc (.cells #[vi 0,vi 0] 27)=U:=hU
 have z6:=a8y U s
 clear hT hsp
 obtain⟨L,hL⟩:=exq (ts.length)
 rw[hL]
 go_enter_defers Tryz.func54,Tryz.ntmps54
 go_wp2_with (go_at_call 78;refine z6.mono ?_;rintro e w1 ⟨m1,m2,m3,m4,m5,rfl,z7,v⟩;refine Hid.out ?_)
 have r:=q1z (Below.refl w1.heap.size w1) (rbx m1 m2 m3 m4 m5 b L cap 0)
 have hC:Ctx (w1.alloc (rbx m1 m2 m3 m4 m5 b L cap 0)) w1.heap.size ts 0:=by
  refine⟨hV,⟨m1,m2,m3,m4,m5,b,cap,hL▸a0a w1 _,?_,?_,hcap⟩,Nat.zero_le _,hsh⟩
  ·exact((a.below v).below r).mono (by have:=u.size;have:=v.size;omega)
  ·exact z7.keep (a0b.of_below (S:=no) r) (fun _ _=>id)
 have x:=(o.keep (a0b.of_below (S:=no) v) (fun _ _=>id)).keep (a0b.of_below (S:=no) r) (fun _ _=>id)
 have z8:=q3z (q3z u v) r
 have c:=b4v _ w1.heap.size ts _ hC hP
 have hz:w.heap.size+1+1<w1.heap.size:=by have:=o.lt;have:=v.size;omega
 refine Lib.hid ?_
 go_wp2_with (go_at_call 79;refine Hid.out ?_)
 obtain⟨B,hB⟩:=exq (w1.heap.size)
 obtain⟨W,hW⟩:=exq (w1.alloc (rbx m1 m2 m3 m4 m5 b L cap 0))
 rw[hW]at c x z8 hC
 rw[hB]at c hC hz
 have z3:=hC.R.lt
 clear hU z6 a s o u z7 v r hP
 rw[hW,hB]
 clear hW hB
 refine Lib.hid ?_
 go_wp2_with (go_at_call 79;refine c.mono ?_;rintro e h ⟨i,d,z,hi,rfl,hN,hR,hk⟩;have y:=x.keep (S:=fun q=>q=B) hk (fun q hq e=>by omega);obtain⟨c0,c1,c2,c3,f0,f1,f2,f3⟩:=in4 y.g1;have d0:Ce h (w.heap.size+1+1) 0 (vi 0):=q2z y.g2 rfl;have d1:Ce h (w.heap.size+1+1) 1 (vi 0):=q2z y.g2 rfl;have e0:h.frozen? (Ad (w.heap.size+1+1) 0)=false:=q6z y.g2;have e1:h.frozen? (Ad (w.heap.size+1+1) 1)=false:=q6z y.g2)
 have x1:(pu2 (put4 h (w.heap.size+1) (vi n.k) (sk n.t) (vi n.n) (.slice d n.kids.length z)) (w.heap.size+1+1) (vi 0) (vi 0)).heap[w.heap.size+1]?=some (nbx n d z):=(a1p _ _ (by omega)).trans (a0c _ _ _ _ y.g1)
 have x2:(pu2 (put4 h (w.heap.size+1) (vi n.k) (sk n.t) (vi n.n) (.slice d n.kids.length z)) (w.heap.size+1+1) (vi 0) (vi 0)).heap[w.heap.size+1+1]?=some (.cells #[vi 0,vi 0] 27):=a2q _ _ ((a2e _ _ _ _ (by omega)).trans y.g2)
 have z9:a0b (fun q=>q=w.heap.size+1\/q=w.heap.size+1+1) h (pu2 (put4 h (w.heap.size+1) (vi n.k) (sk n.t) (vi n.n) (.slice d n.kids.length z)) (w.heap.size+1+1) (vi 0) (vi 0)):=((a1o _ _ _ _ _ _).mono (fun q _ e=>.inl e)).then (a1w _ _ _ _) (fun q _ e=>.inr e)
 have z5:=((a0b.of_below (S:=no) z8).then hk (fun q hq e=>by omega)).then z9 (fun q hq e=>by omega)
 refine leaves_cons (f:=77) (args:=#[Po (w.heap.size+1+1) 0,Po w.heap.size 0]) (by simp) (by simp[go_sem]) ?_
 refine(b9m _ _ _).mono ?_
 rintro e u' z4 ⟨rfl,rfl,rfl⟩
 refine⟨_,d3m rfl rfl x1 x2,d,z,rfl,?_,z5.below (Nat.le_refl _) (fun _ _=>id)⟩
 exact(hN.keep z9 (fun q hq _ e=>by rcases hq with hq|hq;exact hq;have:=x.lt;omega)).weak (fun q hq _=>by rcases hq with hq|hq;exact hq.elim;have:=x.lt;omega)
theorem d3n(ts:List Tok)(b:Option Addr)(cap sz:Nat)(l:List PT)(w:World)(hV:allV (ts.map pt))(hT:a5q w b ts w.heap.size)(hsp:a5b w)(hsh:ts.length<=4000)(hcap:ts.length<=cap)(hP:P 64012 12 (nd 1 []) 0 (ts.map pt)=some (.inl l)) :
  Cl 54 #[.slice b ts.length cap,vi (sz:Nat)] w fun e w'=>∃i,rest ts i=l/\i<=ts.length/\e=.returned (.tuple #[.agg #[vi 0,.string ⟨#[]⟩,vi 0,.slice none 0 0],.agg #[vi 2,vi (fpos ts sz i:Nat)]])/\Bw w w':=by
 have hmf:∀(fn:Fn) (s cap:Array Value) (w:World),(Instr.makeFunc fn s cap).run Tryz.prog w=.ok (.func fn s cap) w:=fun _ _ _ _=>rfl
 obtain⟨r,v⟩:=d0j w sz
 have h:=hT.below v
 have u:=hsp.below v
 obtain⟨U,hU⟩:=exq (((w.alloc (.cells #[vi (sz:Nat)] 3)).alloc zbx).alloc (.cells #[vi 0,vi 0] 27))
 rw[hU]at r v h u
 replace hU:((w.alloc (.cells #[vi (sz:Nat)] 3)).alloc (.cells #[vi 0,.string ⟨#[]⟩,vi 0,.slice none 0 0] 34)).alloc (.cells #[vi 0,vi 0] 27)=U:=hU
 have z8:=a8y U u
 clear hT hsp
 obtain⟨L,hL⟩:=exq (ts.length)
 rw[hL]
 go_enter_defers Tryz.func54,Tryz.ntmps54
 go_wp2_with (go_at_call 78;refine z8.mono ?_;rintro e w1 ⟨m1,m2,m3,m4,m5,rfl,z9,y⟩;refine Hid.out ?_)
 have t:=q1z (Below.refl w1.heap.size w1) (rbx m1 m2 m3 m4 m5 b L cap 0)
 have hC:Ctx (w1.alloc (rbx m1 m2 m3 m4 m5 b L cap 0)) w1.heap.size ts 0:=by
  refine⟨hV,⟨m1,m2,m3,m4,m5,b,cap,hL▸a0a w1 _,?_,?_,hcap⟩,Nat.zero_le _,hsh⟩
  ·exact((h.below y).below t).mono (by have:=v.size;have:=y.size;omega)
  ·exact z9.keep (a0b.of_below (S:=no) t) (fun _ _=>id)
 have p:=(r.keep (a0b.of_below (S:=no) y) (fun _ _=>id)).keep (a0b.of_below (S:=no) t) (fun _ _=>id)
 have c:=q3z (q3z v y) t
 have n:=b4v _ w1.heap.size ts _ hC hP
 have hz:w.heap.size+1+1<w1.heap.size:=by have:=r.lt;have:=y.size;omega
 refine Lib.hid ?_
 go_wp2_with (go_at_call 79;refine Hid.out ?_)
 obtain⟨B,hB⟩:=exq (w1.heap.size)
 obtain⟨W,hW⟩:=exq (w1.alloc (rbx m1 m2 m3 m4 m5 b L cap 0))
 rw[hW]at n p c hC
 rw[hB]at n hC hz
 have z5:=hC.R.lt
 clear hU z8 h u r v z9 y t hP
 rw[hW,hB]
 clear hW hB
 refine Lib.hid ?_
 go_wp2_with (go_at_call 79;refine n.mono ?_;rintro e g ⟨i,hi,d,rfl,hk⟩;have z:=p.keep (S:=fun q=>q=B) hk (fun q hq e=>by omega))
 have z7:=(a0b.of_below (S:=no) c).then hk (fun q hq e=>by omega)
 unfold gv
 have hq:Ce g w.heap.size 0 (vi (sz:Nat)):=q2z z.g0 rfl
 cases hx:ts[i]? with
 | some x =>
  have hv:fpos ts sz i=x.a:=by unfold fpos;rw[hx]
  simp only
  refine leaves_cons (f:=77) (args:=#[Po (w.heap.size+1+1) 0,Po w.heap.size 0]) (by simp) (by simp[go_sem]) ?_
  refine(b6d _ _ _ _ _ _ _ z.g2).mono ?_
  rintro e u' z6 ⟨rfl,rfl,rfl⟩
  have o:=q1z (Below.refl _ (pu2 g (w.heap.size+1+1) (vi 2) (vi (x.a:Nat)))) (.cells #[vi (x.a:Nat)] 123)
  have x1:=q0z o ((a1p (W:=g) (C:=w.heap.size+1) (vi 2) (vi (x.a:Nat)) (by omega)).trans z.g1)
  have x2:=q0z o (a2q (vi 2) (vi (x.a:Nat)) z.g2)
  refine⟨_,d3m rfl rfl x1 x2,i,hi,hL▸d,by rw[hv],?_⟩
  exact((z7.then (a1w _ _ _ _) (fun q hq e=>by omega)).trans (a0b.of_below o)).below (Nat.le_refl _) (fun _ _=>id)
 | none =>
  have hv:fpos ts sz i=sz:=by unfold fpos;rw[hx]
  simp only
  refine leaves_cons (f:=77) (args:=#[Po (w.heap.size+1+1) 0,Po w.heap.size 0]) (by simp) (by simp[go_sem]) ?_
  refine(b6e _ _ _ _ _ _ _ z.g2 hq ⟨_,rfl⟩).mono ?_
  rintro e u' z6 ⟨rfl,rfl,rfl⟩
  have o:=q1z (Below.refl _ (pu2 g (w.heap.size+1+1) (vi 2) (vi (sz:Nat)))) (.cells #[] 125)
  have x1:=q0z o ((a1p (W:=g) (C:=w.heap.size+1) (vi 2) (vi (sz:Nat)) (by omega)).trans z.g1)
  have x2:=q0z o (a2q (vi 2) (vi (sz:Nat)) z.g2)
  refine⟨_,d3m rfl rfl x1 x2,i,hi,hL▸d,by rw[hv],?_⟩
  exact((z7.then (a1w _ _ _ _) (fun q hq e=>by omega)).trans (a0b.of_below o)).below (Nat.le_refl _) (fun _ _=>id)
theorem a9k(s:ByteArray)(w:World)(hE:ErrV w):Cl 53 #[.string s] w (Out w (a2s s.data.toList)):=by
 have z:s.data.toList.length=s.size:=by simp
 unfold a2s
 rw[z]
 by_cases h:4000<s.size
 ·rw[if_pos h];exact c6q s h w
 ·rw[if_neg h];exact d0t s (by omega) w hE
theorem b4w(s:ByteArray)(w:World):Cl 29 #[.string s] w (Out w (a2s s.data.toList)):=by
 have z:s.data.toList.length=s.size:=by simp
 unfold a2s
 rw[z]
 by_cases h:4000<s.size
 ·rw[if_pos h];exact c3v s h w
 ·rw[if_neg h];exact c7x s (by omega) w
theorem a9l{base:Nat}{W:World}{b:Option Addr}{n d:Nat}(h:W.ownsRow base 85 3 (.slice b n d) ts.length (a6y ts)):n=ts.length/\ts.length<=d/\a5q W b ts W.heap.size:=by
 rcases h.2 with⟨e,l⟩|⟨g,cap,v,e,_,r,w,_,_,q⟩
 ·cases e
  have:ts=[]:=List.length_eq_zero_iff.1 l
  subst this
  exact⟨rfl,Nat.le_refl _,.inl rfl⟩
 ·cases e
  have z:=(Array.getElem?_eq_some_iff.1 r).1
  refine⟨rfl,w,.inr ⟨g,rfl,z,z,fun j x s i u t=>?_⟩⟩
  have o:i<3:=by
   have:=(List.getElem?_eq_some_iff.1 t).1
   simpa using this
  have p:j<ts.length:=(List.getElem?_eq_some_iff.1 s).1
  have hf:=c1n s i o
  rw[<- q,List.getElem?_take_of_lt (by omega)]at hf
  have y:v[j*3+i]?=(a9s x)[i]?:=by simpa using hf
  have:(a9s x)[i]?=some u:=t
  rw[this]at y
  simp[World.cell?,r,y]
theorem b2u:∀(m:Nat) (l:List UInt8) (a:Nat),l.length<=m->(a7s (a3j a l)).length<=l.length
 | 0,l,a,h=>by
  obtain rfl:l=[]:=List.eq_nil_of_length_eq_zero (by omega)
  rw[a3w];simp[a7s]
 | m+1,l,a,h=>by
  by_cases h0:l=[]
  ·subst h0;rw[a3w];simp[a7s]
  by_cases h1:gap1 l=0
  ·cases ht:tokR l using TokR.byCases with
   | bad e=>rw[a4n h0 h1 ht];simp[a7s]
   | tok k t n =>
    have y:=a3a ht
    have z:=b2u m (l.drop n) (a+n) (by simp;omega)
    rw[a4o h0 h1 ht]
    simp at z
    cases hq:a3j (a+n) (l.drop n)using a1k.byCases with
    | bad e p=>simp[a1k.pre,a7s]
    | toks us =>
     rw[hq]at z
     simp[a1k.pre,a7s]at z⊢
     omega
  ·have h2:=a7e l
   have z:=b2u m (l.drop (gap1 l)) (a+gap1 l) (by simp;omega)
   rw[a4m h1]
   simp at z
   omega
theorem b6x:∀(m:Nat) (l:List UInt8) (a:Nat) (e:Int) (p:Nat),l.length<=m->a3j a l=.bad e p->e≠0
 | 0,l,a,e,p,h,hb=>by
  obtain rfl:l=[]:=List.eq_nil_of_length_eq_zero (by omega)
  rw[a3w]at hb;cases hb
 | m+1,l,a,e,p,h,hb=>by
  by_cases h0:l=[]
  ·subst h0;rw[a3w]at hb;cases hb
  by_cases h1:gap1 l=0
  ·cases ht:tokR l using TokR.byCases with
   | bad e' =>
    rw[a4n h0 h1 ht]at hb
    cases hb
    simpa using(b3h ht).1
   | tok k t n =>
    have y:=a3a ht
    have z:=b6x m (l.drop n) (a+n) e p (by simp;omega)
    rw[a4o h0 h1 ht]at hb
    cases hq:a3j (a+n) (l.drop n)using a1k.byCases with
    | bad e' p' =>
     rw[hq]at hb
     simp[a1k.pre]at hb
     exact z (by rw[hq];simp[hb])
    | toks us =>
     rw[hq]at hb
     simp[a1k.pre]at hb
  ·have h2:=a7e l
   rw[a4m h1]at hb
   exact b6x m (l.drop (gap1 l)) (a+gap1 l) e p (by simp;omega) hb
def a1q (l:List UInt8):(Int×Nat)⊕Nd :=
 match a2s l with
 | .inl x=>.inl x
 | .inr ts=>match P 64012 12 (nd 1 []) 0 (ts.map pt) with
  | none=>.inl (0,0)
  | some (.inl r)=>.inl (2,fpos ts l.length (ts.length-r.length))
  | some (.inr (n,_))=>if fitB n then .inr n else .inl (1,0)
theorem a5s{l:List UInt8}(h:a2s l=.inr ts):ts.length<=4000/\allV (ts.map pt)/\∃r,P 64012 12 (nd 1 []) 0 (ts.map pt)=some r:=by
 unfold a2s at h
 split at h
 ·cases h
 rename_i h4
 have y:=b2u l.length l 0 (Nat.le_refl _)
 rw[h]at y
 have z:ts.length<=4000:=by simp[a7s]at y;omega
 refine⟨z,(a8p l.length l 0 ts (Nat.le_refl _) h).1,?_⟩
 obtain⟨r,x,_⟩:=a4c 64012 12 (nd 1 []) 0 (ts.map pt) (by omega) (by simp[rank];omega)
 exact⟨r,x⟩
theorem b2v{l:List UInt8}{e:Int}{p:Nat}(h:a2s l=.inl (e,p)):e≠0:=by
 unfold a2s at h
 split at h
 ·cases h;decide
 ·exact b6x l.length l 0 e p (Nat.le_refl _) h
abbrev zagg:Value:=.agg #[vi 0,.string ⟨#[]⟩,vi 0,.slice none 0 0]
def POut (w:World) (R:(Int×Nat)⊕Nd) (e:Ending) (w':World):Prop :=
 (match R with
 | .inl (c,a)=>e=.returned (.tuple #[zagg,.agg #[vi c,vi (a:Nat)]])
 | .inr n=>fitB n=true/\∃b cap,e=.returned (.tuple #[ndv n b cap,.agg #[vi 0,vi 0]])/\NdV (fun g=>w.heap.size<=g) w' n (ndv n b cap))/\Bw w w'
theorem c9e{W:World}(h:tm[2]?.getD undef=Po B 0)(h':tm[3]?.getD undef=Po C 0)(hx:W.heap[B]?=some (.cells #[a,b,c,d] 34))(hy:W.heap[C]?=some (.cells #[x,y] 27)):(results Tryz.f36 tm).run Tryz.prog W=.ok (.tuple #[.agg #[a,b,c,d],.agg #[x,y]]) W:=by
 obtain⟨c0,c1,c2,c3,_,_,_,_⟩:=in4 hx
 have w:Ce W C 0 x:=q2z hy rfl
 have z:Ce W C 1 y:=q2z hy rfl
 simp[results,Tryz.results36,go_sem,h,h',c0,c1,c2,c3,w,z]
structure PX (w W:World):Prop where
 g0:W.heap[w.heap.size]?=some zbx
 g1:W.heap[w.heap.size+1]?=some (.cells #[vi 0,vi 0] 27)
 bl:Bw w W
theorem PX.on{W:World}(h:PX w W)(hb:Bw W W'):PX w W':=⟨q0z hb h.g0,q0z hb h.g1,q3z h.bl hb⟩
theorem b1o(w:World):PX w ((w.alloc zbx).alloc (.cells #[vi 0,vi 0] 27)):=by
 have z:=a0a w zbx
 have h1:=a0a (w.alloc zbx) (.cells #[vi 0,vi 0] 27)
 rw[World.size_alloc]at h1
 exact⟨q4z _ z,h1,q1z (q1z bz0 _) _⟩
theorem a5t{W:World}(h:PX w W)(c:Int)(a:Nat){X:World}(hX:(((((W.setCell (Ad w.heap.size 0) (vi 0)).setCell (Ad w.heap.size 1) (.string ⟨#[]⟩)).setCell (Ad w.heap.size 2) (vi 0)).setCell (Ad w.heap.size 3) (.slice none 0 0)).setCell (Ad (w.heap.size+1) 0) (vi c)).setCell (Ad (w.heap.size+1) 1) (vi (a:Nat))=X):X.heap[w.heap.size]?=some zbx/\X.heap[w.heap.size+1]?=some (.cells #[vi c,vi (a:Nat)] 27)/\Bw w X:=by
 have z:pu2 (put4 W w.heap.size (vi 0) (sk []) (vi 0) (.slice none 0 0)) (w.heap.size+1) (vi c) (vi (a:Nat))=X:=hX
 subst z
 refine⟨(a1p _ _ (by omega)).trans (a0c _ _ _ _ h.g0),a2q _ _ ((a2e _ _ _ _ (by omega)).trans h.g1),?_⟩
 exact(((a0b.of_below (S:=no) h.bl).then (a1o _ _ _ _ _ _) (fun q hq e=>by omega)).then (a1w _ _ _ _) (fun q hq e=>by omega)).below (Nat.le_refl _) (fun _ _=>id)
theorem c5i(s:ByteArray)(c:Int)(a:Nat)(w:World)(hE:ErrV w)(hR:a2s s.data.toList=.inl (c,a)):Cl 36 #[.string s] w (POut w (.inl (c,a))):=by
 have hc:=b2v hR
 have hq:(c == 0)=false:=by simpa using hc
 have y:=b1o w
 have hS:Cl 53 #[.string s] ((w.alloc zbx).alloc (.cells #[vi 0,vi 0] 27)) fun e t=>(∃b n d,e=.returned (.tuple #[.slice b n d,.agg #[vi c,vi (a:Nat)]]))/\Below ((w.alloc zbx).alloc (.cells #[vi 0,vi 0] 27)).heap.size ((w.alloc zbx).alloc (.cells #[vi 0,vi 0] 27)) t:=(a9k s _ (hE.on y.bl)).mono fun e t h=>by
  rw[hR]at h
  obtain⟨⟨b,n,d,h1,_⟩,h2⟩:=h
  exact⟨⟨b,n,d,h1⟩,h2⟩
 clear hR
 go_enter Tryz.func36,Tryz.ntmps36
 go_wp2_with (go_at_call 53;refine hS.mono ?_;rintro e w1 ⟨⟨b1,n1,d1,rfl⟩,x⟩;refine Hid.out ?_)
 have z:=y.on x
 have u:=z.on (q1z bz0 (.cells #[vi c,vi (a:Nat)] 27))
 obtain⟨c0,c1,c2,c3,f0,f1,f2,f3⟩:=in4 z.g0
 obtain⟨x0,x1,x2,x3,y0,y1,y2,y3⟩:=in4a z.g0
 obtain⟨p0,p1,q0,q1⟩:=in2 z.g1
 have r0:=fun o=>(in2 (q4z o z.g1)).c0
 have r1:=fun o=>(in2 (q4z o z.g1)).c1
 have r2:=fun o=>(in2 (q4z o z.g1)).f0
 have r3:=fun o=>(in2 (q4z o z.g1)).f1
 have hz:=q5z z.g1
 have f:¬w.heap.size=w1.heap.size:=by omega
 have g:¬w1.heap.size=w.heap.size:=by omega
 have i:¬w.heap.size+1=w1.heap.size:=by omega
 have l:¬w1.heap.size=w.heap.size+1:=by omega
 refine Lib.hid ?_
 go_wp2
 go_region_with (fail)
 all_goals
  go_wp2
  obtain⟨X,v⟩:=exq (((((((w1.alloc (.cells #[vi c,vi (a:Nat)] 27)).setCell (Ad w.heap.size 0) (vi 0)).setCell (Ad w.heap.size 1) (.string ⟨#[]⟩)).setCell (Ad w.heap.size 2) (vi 0)).setCell (Ad w.heap.size 3) (.slice none 0 0)).setCell (Ad (w.heap.size+1) 0) (vi c)).setCell (Ad (w.heap.size+1) 1) (vi (a:Nat)))
  obtain⟨p,q,r⟩:=a5t u c a v
  rw[v]
  clear v
  exact bodyPost_ret (c9e (W:=X.drew) rfl rfl p q) rfl ⟨rfl,r.drew⟩
theorem c0j(s:ByteArray)(ts:List Tok)(l:List PT)(w:World)(hE:ErrV w)(hsp:a5b w)(hR:a2s s.data.toList=.inr ts)(hP:P 64012 12 (nd 1 []) 0 (ts.map pt)=some (.inl l)):Cl 36 #[.string s] w (POut w (.inl (2,fpos ts s.size (ts.length-l.length)))):=by
 obtain⟨a,hV,_⟩:=a5s hR
 have z8:=b1o w
 have hS:Cl 53 #[.string s] ((w.alloc zbx).alloc (.cells #[vi 0,vi 0] 27)) fun e w'=>(∃b d,e=.returned (.tuple #[.slice b ts.length d,.agg #[vi 0,vi 0]])/\ts.length<=d/\a5q w' b ts w'.heap.size)/\Below ((w.alloc zbx).alloc (.cells #[vi 0,vi 0] 27)).heap.size ((w.alloc zbx).alloc (.cells #[vi 0,vi 0] 27)) w':=(a9k s _ (hE.on z8.bl)).mono fun e w' h=>by
  rw[hR]at h
  obtain⟨⟨b,n,d,h1,h3⟩,h2⟩:=h
  obtain⟨rfl,h4,h5⟩:=a9l h3
  exact⟨⟨b,d,h1,h4,h5⟩,h2⟩
 have hx:∀i,rest ts i=l->i<=ts.length->i=ts.length-l.length:=fun i h1 h2=>by
  have:=a6s ts i
  rw[h1]at this
  omega
 clear hR
 obtain⟨L,hL⟩:=exq (ts.length)
 rw[hL]at hS
 go_enter Tryz.func36,Tryz.ntmps36
 go_wp2_with (first|(go_at_call 53;refine hS.mono ?_;rintro e w1 ⟨⟨b1,d1,rfl,x8,z9⟩,z6⟩)|(go_at_call 54;refine Hid.out ?_))
 have c:=z8.on z6
 have p:=q1z (Below.refl w1.heap.size w1) (.cells #[vi 0,vi 0] 27)
 have f:=c.on p
 have g:=d3n ts b1 d1 s.size l (w1.alloc (.cells #[vi 0,vi 0] 27)) hV ((z9.below p).mono (by simp)) (hsp.below f.bl) a (by omega) hP
 rw[hL]at g
 have g2:=a0a w1 (.cells #[vi 0,vi 0] 27)
 have hz:=q5z c.g1
 refine Lib.hid ?_
 go_wp2_with (go_at_call 54;refine g.mono ?_;rintro e x ⟨i,hi,x9,rfl,r⟩;refine Hid.out ?_)
 have z:=f.on r
 have t:=q0z r g2
 obtain⟨v,hv⟩:=exq (fpos ts s.size i)
 obtain rfl:=hx i hi (by omega)
 obtain⟨F,hF⟩:=exq (w1.heap.size)
 rw[hF]at t hz
 rw[hv,hF]
 have y4:=q5z t
 clear g hi hx hF hS p r c f z9 g2
 replace hv:Hid _:=hv
 obtain⟨c0,c1,c2,c3,f0,f1,f2,f3⟩:=in4 z.g0
 obtain⟨x0,x1,x2,x3,y0,y1,y2,y3⟩:=in4a z.g0
 obtain⟨p0,p1,q0,q1⟩:=in2 z.g1
 obtain⟨k0,k1,l0,l1⟩:=in2 t
 have r0:=fun o=>(in2 (q4z o z.g1)).c0
 have r1:=fun o=>(in2 (q4z o z.g1)).c1
 have r2:=fun o=>(in2 (q4z o z.g1)).f0
 have r3:=fun o=>(in2 (q4z o z.g1)).f1
 have s0:=fun o=>(in2 (q4z o t)).c0
 have s1:=fun o=>(in2 (q4z o t)).c1
 have s2:=fun o=>(in2 (q4z o t)).f0
 have s3:=fun o=>(in2 (q4z o t)).f1
 have y5:¬w.heap.size=F:=by omega
 have y6:¬F=w.heap.size:=by omega
 have y7:¬w.heap.size+1=F:=by omega
 have y8:¬F=w.heap.size+1:=by omega
 have y9:¬F=x.heap.size:=by omega
 have z0:¬x.heap.size=F:=by omega
 have z4:¬w.heap.size=x.heap.size:=by omega
 have z5:¬w.heap.size+1=x.heap.size:=by omega
 have u:a0b (fun q=>q=F) x (pu2 x F (vi 2) (vi (v:Nat))):=a1w _ _ _ _
 have z7:PX w (pu2 x F (vi 2) (vi (v:Nat))):=⟨u.box z.g0 (by omega),u.box z.g1 (by omega),((a0b.of_below (S:=no) z.bl).then u (fun q hq e=>by omega)).below (Nat.le_refl _) (fun _ _=>id)⟩
 have gF:=a2q (vi 2) (vi (v:Nat)) t
 have xb:=q1z (Below.refl _ (pu2 x F (vi 2) (vi (v:Nat)))) zbx
 have y:=z7.on xb
 have gY:=q0z xb gF
 refine Lib.hid ?_
 go_wp2
 obtain⟨Y,hY⟩:=exq (((x.setCell (Ad F 0) (vi 2)).setCell (Ad F 1) (vi (v:Nat))).alloc (.cells #[vi 0,.string ⟨#[]⟩,vi 0,.slice none 0 0] 34))
 rw[hY]
 replace y:PX w Y:=hY▸y
 replace gY:Y.heap[F]?=some (.cells #[vi 2,vi (v:Nat)] 27):=hY▸gY
 clear hY u z7 gF xb k0 k1 l0 l1 s0 s1 s2 s3 c0 c1 c2 c3 f0 f1 f2 f3 p0 p1 q0 q1 r0 r1 r2 r3 x0 x1 x2 x3 y0 y1 y2 y3
 obtain⟨c0,c1,c2,c3,f0,f1,f2,f3⟩:=in4 y.g0
 obtain⟨p0,p1,q0,q1⟩:=in2 y.g1
 obtain⟨k0,k1,l0,l1⟩:=in2 gY
 go_region_with (fail)
 all_goals
  go_wp2
  obtain⟨X,hX⟩:=exq ((((((Y.setCell (Ad w.heap.size 0) (vi 0)).setCell (Ad w.heap.size 1) (.string ⟨#[]⟩)).setCell (Ad w.heap.size 2) (vi 0)).setCell (Ad w.heap.size 3) (.slice none 0 0)).setCell (Ad (w.heap.size+1) 0) (vi 2)).setCell (Ad (w.heap.size+1) 1) (vi (v:Nat)))
  obtain⟨z1,z2,z3⟩:=a5t y 2 v hX
  rw[hX]
  clear hX
  exact bodyPost_ret (c9e (W:=X.drew) rfl rfl z1 z2) rfl ⟨by rw[hv.out],z3.drew⟩
theorem c5j(s:ByteArray)(ts:List Tok)(n:Nd)(l:List PT)(hfit:fitB n=false)(w:World)(hE:ErrV w)(hsp:a5b w)(hR:a2s s.data.toList=.inr ts)(hP:P 64012 12 (nd 1 []) 0 (ts.map pt)=some (.inr (n,l))):Cl 36 #[.string s] w (POut w (.inl (1,0))):=by
 obtain⟨z4,hV,_⟩:=a5s hR
 have y9:=b1o w
 have hS:Cl 53 #[.string s] ((w.alloc zbx).alloc (.cells #[vi 0,vi 0] 27)) fun e w'=>(∃b d,e=.returned (.tuple #[.slice b ts.length d,.agg #[vi 0,vi 0]])/\ts.length<=d/\a5q w' b ts w'.heap.size)/\Below ((w.alloc zbx).alloc (.cells #[vi 0,vi 0] 27)).heap.size ((w.alloc zbx).alloc (.cells #[vi 0,vi 0] 27)) w':=(a9k s _ (hE.on y9.bl)).mono fun e w' h=>by
  rw[hR]at h
  obtain⟨⟨b,n,d,h1,h3⟩,h2⟩:=h
  obtain⟨rfl,h4,h5⟩:=a9l h3
  exact⟨⟨b,d,h1,h4,h5⟩,h2⟩
 clear hR
 obtain⟨L,hL⟩:=exq (ts.length)
 rw[hL]at hS
 go_enter Tryz.func36,Tryz.ntmps36
 go_wp2_with (first|(go_at_call 53;refine hS.mono ?_;rintro e w1 ⟨⟨b1,d1,rfl,w8,z0⟩,w9⟩)|(go_at_call 54;refine Hid.out ?_))
 have z6:=y9.on w9
 have a:=q1z (Below.refl w1.heap.size w1) (.cells #[vi 0,vi 0] 27)
 have z7:=z6.on a
 have z9:=c5h ts b1 d1 s.size n l (w1.alloc (.cells #[vi 0,vi 0] 27)) hV ((z0.below a).mono (by simp)) (hsp.below z7.bl) z4 (by omega) hP
 rw[hL]at z9
 have g2:=a0a w1 (.cells #[vi 0,vi 0] 27)
 have hz:=q5z z6.g1
 refine Lib.hid ?_
 go_wp2_with (go_at_call 54;refine z9.mono ?_;rintro e y ⟨b3,z,rfl,hN,c⟩;refine Hid.out ?_)
 have p:=z7.on c
 have i:=q0z c g2
 rw[World.size_alloc]at hN
 obtain⟨F,hF⟩:=exq (w1.heap.size)
 rw[hF]at i hz hN
 rw[hF]
 have x4:=q5z i
 clear z9 hF hS a c z6 z7 z0 g2
 obtain⟨k0,k1,l0,l1⟩:=in2 i
 have s0:=fun o=>(in2 (q4z o i)).c0
 have s1:=fun o=>(in2 (q4z o i)).c1
 have s2:=fun o=>(in2 (q4z o i)).f0
 have s3:=fun o=>(in2 (q4z o i)).f1
 have x6:¬w.heap.size=F:=by omega
 have x7:¬F=w.heap.size:=by omega
 have x8:¬w.heap.size+1=F:=by omega
 have x9:¬F=w.heap.size+1:=by omega
 have y4:¬F=y.heap.size:=by omega
 have y5:¬y.heap.size=F:=by omega
 have x:a0b (fun q=>q=F) y (pu2 y F (vi 0) (vi 0)):=a1w _ _ _ _
 have y8:PX w (pu2 y F (vi 0) (vi 0)):=⟨x.box p.g0 (by omega),x.box p.g1 (by omega),((a0b.of_below (S:=no) p.bl).then x (fun q hq e=>by omega)).below (Nat.le_refl _) (fun _ _=>id)⟩
 have y7:=hN.keep x (fun q hq _ e=>by omega)
 have xb:=q1z (Below.refl _ (pu2 y F (vi 0) (vi 0))) (nbx n b3 z)
 have r:=y8.on xb
 have v:=y7.below xb
 have gY:=a0a (pu2 y F (vi 0) (vi 0)) (nbx n b3 z)
 have y6:(pu2 y F (vi 0) (vi 0)).heap.size=y.heap.size:=by simp
 rw[y6]at gY
 refine Lib.hid ?_
 go_wp2_with (go_at_call 55;refine Hid.out ?_)
 obtain⟨Y,hY⟩:=exq (((y.setCell (Ad F 0) (vi 0)).setCell (Ad F 1) (vi 0)).alloc (.cells #[vi n.k,.string ⟨n.t.toArray⟩,vi n.n,.slice b3 n.kids.length z] 34))
 replace r:PX w Y:=hY▸r
 replace gY:Y.heap[y.heap.size]?=some (nbx n b3 z):=hY▸gY
 replace v:NdV (fun g=>F+1<=g) Y n (ndv n b3 z):=hY▸v
 rw[hY]
 have x5:w.heap.size+1<y.heap.size:=by omega
 obtain⟨t3,f⟩:=exq (y.heap.size)
 rw[f]at gY x5
 rw[f]
 clear hY x y8 xb k0 k1 l0 l1 s0 s1 s2 s3 x6 x7 x8 x9 y4 y5 y6 y7 hN i p f x4
 have z5:=b7r _ n b3 z Y v
 rw[hfit]at z5
 refine Lib.hid ?_
 go_wp2_with (go_at_call 55;refine z5.mono ?_;rintro e w5 ⟨rfl,u⟩;refine Hid.out ?_)
 have z8:=r.on u
 have g5:=q0z u gY
 have w7:=v.below u
 clear z5 r gY v u
 obtain⟨c0,c1,c2,c3,f0,f1,f2,f3⟩:=in4 z8.g0
 obtain⟨p0,p1,q0,q1⟩:=in2 z8.g1
 obtain⟨x0,x1,x2,x3,y0,y1,y2,y3⟩:=in4 g5
 refine Lib.hid ?_
 go_wp2
 obtain⟨X,hX⟩:=exq ((((((w5.setCell (Ad w.heap.size 0) (vi 0)).setCell (Ad w.heap.size 1) (.string ⟨#[]⟩)).setCell (Ad w.heap.size 2) (vi 0)).setCell (Ad w.heap.size 3) (.slice none 0 0)).setCell (Ad (w.heap.size+1) 0) (vi 1)).setCell (Ad (w.heap.size+1) 1) (vi 0))
 obtain⟨z1,z2,z3⟩:=a5t z8 1 0 hX
 rw[hX]
 clear hX
 exact bodyPost_ret (c9e rfl rfl z1 z2) rfl ⟨rfl,z3⟩
theorem c0k(s:ByteArray)(ts:List Tok)(n:Nd)(l:List PT)(hfit:fitB n=true)(w:World)(hE:ErrV w)(hsp:a5b w)(hR:a2s s.data.toList=.inr ts)(hP:P 64012 12 (nd 1 []) 0 (ts.map pt)=some (.inr (n,l))):Cl 36 #[.string s] w (POut w (.inr n)):=by
 obtain⟨z0,hV,_⟩:=a5s hR
 have y7:=b1o w
 have hS:Cl 53 #[.string s] ((w.alloc zbx).alloc (.cells #[vi 0,vi 0] 27)) fun e w'=>(∃b d,e=.returned (.tuple #[.slice b ts.length d,.agg #[vi 0,vi 0]])/\ts.length<=d/\a5q w' b ts w'.heap.size)/\Below ((w.alloc zbx).alloc (.cells #[vi 0,vi 0] 27)).heap.size ((w.alloc zbx).alloc (.cells #[vi 0,vi 0] 27)) w':=(a9k s _ (hE.on y7.bl)).mono fun e w' h=>by
  rw[hR]at h
  obtain⟨⟨b,n,d,h1,h3⟩,h2⟩:=h
  obtain⟨rfl,h4,h5⟩:=a9l h3
  exact⟨⟨b,d,h1,h4,h5⟩,h2⟩
 clear hR
 obtain⟨L,hL⟩:=exq (ts.length)
 rw[hL]at hS
 go_enter Tryz.func36,Tryz.ntmps36
 go_wp2_with (first|(go_at_call 53;refine hS.mono ?_;rintro e w1 ⟨⟨b1,d1,rfl,w4,y8⟩,w7⟩)|(go_at_call 54;refine Hid.out ?_))
 have z5:=y7.on w7
 have z8:=q1z (Below.refl w1.heap.size w1) (.cells #[vi 0,vi 0] 27)
 have z6:=z5.on z8
 have z7:=c5h ts b1 d1 s.size n l (w1.alloc (.cells #[vi 0,vi 0] 27)) hV ((y8.below z8).mono (by simp)) (hsp.below z6.bl) z0 (by omega) hP
 rw[hL]at z7
 have g2:=a0a w1 (.cells #[vi 0,vi 0] 27)
 have hz:=q5z z5.g1
 refine Lib.hid ?_
 go_wp2_with (go_at_call 54;refine z7.mono ?_;rintro e y ⟨r,z,rfl,hN,z9⟩;refine Hid.out ?_)
 have f:=z6.on z9
 have c:=q0z z9 g2
 rw[World.size_alloc]at hN
 obtain⟨F,hF⟩:=exq (w1.heap.size)
 rw[hF]at c hz hN
 rw[hF]
 have w8:=q5z c
 clear z7 hF hS z8 z9 z5 z6 y8 g2
 obtain⟨k0,k1,l0,l1⟩:=in2 c
 have s0:=fun o=>(in2 (q4z o c)).c0
 have s1:=fun o=>(in2 (q4z o c)).c1
 have s2:=fun o=>(in2 (q4z o c)).f0
 have s3:=fun o=>(in2 (q4z o c)).f1
 have x4:¬w.heap.size=F:=by omega
 have x5:¬F=w.heap.size:=by omega
 have x6:¬w.heap.size+1=F:=by omega
 have x7:¬F=w.heap.size+1:=by omega
 have x8:¬F=y.heap.size:=by omega
 have x9:¬y.heap.size=F:=by omega
 have x:a0b (fun q=>q=F) y (pu2 y F (vi 0) (vi 0)):=a1w _ _ _ _
 have y6:PX w (pu2 y F (vi 0) (vi 0)):=⟨x.box f.g0 (by omega),x.box f.g1 (by omega),((a0b.of_below (S:=no) f.bl).then x (fun q hq e=>by omega)).below (Nat.le_refl _) (fun _ _=>id)⟩
 have y5:=hN.keep x (fun q hq _ e=>by omega)
 have xb:=q1z (Below.refl _ (pu2 y F (vi 0) (vi 0))) (nbx n r z)
 have i:=y6.on xb
 have u:=y5.below xb
 have gY:=a0a (pu2 y F (vi 0) (vi 0)) (nbx n r z)
 have y4:(pu2 y F (vi 0) (vi 0)).heap.size=y.heap.size:=by simp
 rw[y4]at gY
 refine Lib.hid ?_
 go_wp2_with (go_at_call 55;refine Hid.out ?_)
 obtain⟨Y,hY⟩:=exq (((y.setCell (Ad F 0) (vi 0)).setCell (Ad F 1) (vi 0)).alloc (.cells #[vi n.k,.string ⟨n.t.toArray⟩,vi n.n,.slice r n.kids.length z] 34))
 replace i:PX w Y:=hY▸i
 replace gY:Y.heap[y.heap.size]?=some (nbx n r z):=hY▸gY
 replace u:NdV (fun g=>F+1<=g) Y n (ndv n r z):=hY▸u
 rw[hY]
 have w9:w.heap.size+1<y.heap.size:=by omega
 obtain⟨t3,a⟩:=exq (y.heap.size)
 rw[a]at gY w9
 rw[a]
 clear hY x y6 xb k0 k1 l0 l1 s0 s1 s2 s3 x4 x5 x6 x7 x8 x9 y4 y5 hN c f a w8
 have z4:=b7r _ n r z Y u
 rw[hfit]at z4
 refine Lib.hid ?_
 go_wp2_with (go_at_call 55;refine z4.mono ?_;rintro e w5 ⟨rfl,p⟩;refine Hid.out ?_)
 have v:=i.on p
 have g5:=q0z p gY
 have w6:=u.below p
 clear z4 i gY u p
 obtain⟨c0,c1,c2,c3,f0,f1,f2,f3⟩:=in4 v.g0
 obtain⟨p0,p1,q0,q1⟩:=in2 v.g1
 obtain⟨x0,x1,x2,x3,y0,y1,y2,y3⟩:=in4 g5
 refine Lib.hid ?_
 go_wp2
 have y9:a0b (fun q=>q=w.heap.size\/q=w.heap.size+1) w5 (pu2 (put4 w5 w.heap.size (vi n.k) (sk n.t) (vi n.n) (.slice r n.kids.length z)) (w.heap.size+1) (vi 0) (vi 0)):=((a1o _ _ _ _ _ _).mono (fun q _ e=>.inl e)).then (a1w _ _ _ _) (fun q _ e=>.inr e)
 have z1:(pu2 (put4 w5 w.heap.size (vi n.k) (sk n.t) (vi n.n) (.slice r n.kids.length z)) (w.heap.size+1) (vi 0) (vi 0)).heap[w.heap.size]?=some (nbx n r z):=(a1p _ _ (by omega)).trans (a0c _ _ _ _ v.g0)
 have z2:(pu2 (put4 w5 w.heap.size (vi n.k) (sk n.t) (vi n.n) (.slice r n.kids.length z)) (w.heap.size+1) (vi 0) (vi 0)).heap[w.heap.size+1]?=some (.cells #[vi 0,vi 0] 27):=a2q _ _ ((a2e _ _ _ _ (by omega)).trans v.g1)
 have z3:=((a0b.of_below (S:=no) v.bl).then y9 (fun q hq e=>by omega)).below (Nat.le_refl _) (fun _ _=>id)
 refine bodyPost_ret (c9e rfl rfl z1 z2) rfl ⟨⟨hfit,r,z,rfl,?_⟩,z3⟩
 exact(w6.keep y9 (fun q hq _ e=>by omega)).weak (fun q hq _=>by omega)
theorem b0q(s:ByteArray)(w:World)(hE:ErrV w)(hsp:a5b w):Cl 36 #[.string s] w (POut w (a1q s.data.toList)):=by
 unfold a1q
 cases hR:a2s s.data.toList with
 | inl x =>
  obtain⟨c,a⟩:=x
  exact c5i s c a w hE hR
 | inr ts =>
  obtain⟨_,_,r,z⟩:=a5s hR
  simp only[z]
  cases r with
  | inl l =>
   have:=c0j s ts l w hE hsp hR z
   rw[show s.size=s.data.toList.length by simp]at this
   exact this
  | inr p =>
   obtain⟨n,l⟩:=p
   simp only
   cases hf:fitB n with
   | true=>exact c0k s ts n l hf w hE hsp hR z
   | false=>exact c5j s ts n l hf w hE hsp hR z
end Go.Proofs.YtomniogfpfbolaaGreatDoor
namespace Go.Proofs.YtomniogfpfbolaaGreatDoor
open Go
variable {l:List UInt8}
theorem a5u{n:Nd}(h:a1q l=.inr n):isN n/\n.k=1/\manyN n<=600:=by
 unfold a1q at h
 split at h
 ·cases h
 ·rename_i ts hts
  obtain⟨_,z,_⟩:=a5s hts
  split at h
  ·cases h
  ·cases h
  ·rename_i m l1 hP
   cases hf:fitB m with
   | false=>rw[hf,if_neg (by decide)]at h;cases h
   | true =>
    rw[hf,if_pos rfl]at h
    cases h
    obtain⟨h1,h2,_⟩:=b9j ⟨64012,hP⟩ z
    unfold fitB at hf
    simp at hf
    exact⟨h1,h2,hf.2⟩
theorem parse_code{c:Int}{a:Nat}(h:a1q l=.inl (c,a)):c≠0:=by
 unfold a1q at h
 split at h
 ·rename_i x hx
  cases h
  exact b2v hx
 ·rename_i ts hts
  obtain⟨_,_,r,z⟩:=a5s hts
  split at h
  ·rename_i hP
   rw[hP]at z
   cases z
  ·cases h;decide
  ·rename_i m l1 hP
   cases hf:fitB m with
   | true=>rw[hf,if_pos rfl]at h;cases h
   | false=>rw[hf,if_neg (by decide)]at h;cases h;decide
end Go.Proofs.YtomniogfpfbolaaGreatDoor
