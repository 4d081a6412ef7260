/- The program's reader: a function. -/
import Derived.Test.YtfbpdbndejefdaaGreatDoorS38
import Derived.Test.YtfbpdbndejefdaaGreatDoorS37
import Derived.Test.YtfbpdbndejefdaaGreatDoorS20
namespace Go.Proofs.YtfbpdbndejefdaaGreatDoor
open Go.RowKit Go
set_option maxRecDepth 100000
set_option maxHeartbeats 8000000
set_option linter.all false
variable {tm:Array Value} {B C:Nat} {a b c d x y:Value} {l:List PT} {ts:List Tok} {W' w:World}
theorem d9l{W:World}(h:tm[2]?.getD undef=Po B 0)(hx:W.heap[B]?=some (.cells #[a,b,c,d] 43)):(results Tryz.f66 tm).run Tryz.prog W=.ok (.agg #[a,b,c,d]) W:=by
 obtain⟨c0,c1,c2,c3,_,_,_,_⟩:=in4 hx
 simp[results,Tryz.results66,go_sem,h,c0,c1,c2,c3]
theorem b6a:a0y W.function_:=⟨_,_,rfl,rfl⟩
theorem b6b{h:List UInt8->List PT->PR}{g:Nd->List PT->PR} : (a0v l h).on g=a0v l (fun s l=>(h s l).on g):=by
 unfold a0v
 split
 ·rfl
 ·rfl
def funE (f:Nat) (s:List UInt8) (ks:List Nd) (l:List PT):PR:=(P f 7 (nd 4 []) 0 l).on fun b l=>need W.end_ l fun l=>.ok ⟨2,s,0,ks++[b]⟩ l
def ParI (f t:Nat) (s:List UInt8) (w:World) (B:Nat) (ts:List Tok) (r:PRes) (k:Nat) (m:Value) (wr:World):Prop :=
 ∃(more:Bool) (ks:List Nd) (j:Nat) (b:Option Addr) (cap:Nat),m=.bool more/\wr.heap[t]?=some (nbx ⟨2,s,0,ks⟩ b cap)/\wr.heap[w.heap.size]?=some zbx /\
  Row (fun g=>w.heap.size<g/\g≠t) wr (.slice b ks.length cap) ks/\(∀q,Value.ownBlock (.slice b ks.length cap)=some q->w.heap.size<q)/\Rd wr B ts j/\a0b (fun k=>k=B) w wr/\ks.length<=j /\
  (if more then k<=f/\(P k 11 ⟨2,s,0,ks⟩ 0 (rest ts j)).on (fun n l=>need S.rp l fun l=>funE f s n.kids l)=some r else need S.rp (rest ts j) (fun l=>funE f s ks l)=some r)
theorem d7u(f:Nat)(hB:BlkC f):FunC (f+1):=by
 intro r B ts i w hC hP
 rw[P]at hP
 obtain⟨i0,hi0,hz0,hz1,hz2⟩:=info_parts b1e
 have hBw:=hC.R.lt
 have hb0:Bw w (w.alloc zbx):=ext_alloc (Below.refl _ _) _
 have h2:=a0a w zbx
 have hk0:a0b (fun k=>k=B) w (w.alloc zbx):=a0b.of_below hb0
 have hc1:=hC.wantsU b6a hP _ hb0
 rw[World.size_alloc]at hc1
 clear hP
 go_enter Tryz.func66,Tryz.ntmps66
 go_wp2_with (first
  | (go_at_call 99;refine hc1.mono ?_;rintro e w2 (⟨rfl,hle,rfl,hk2⟩|⟨hP2,rfl,hR2,hk2⟩);(exact⟨rfl,a0d rfl hle (hk0.trans hk2)⟩);(try dsimp only at hP2);have hk2':=hk0.trans hk2;have g2:=hk2.box h2 (by omega))
  | (go_at_call 100;refine((hC.on hR2).nameU hP2 _ (Below.refl _ _)).mono ?_;rintro e w3 (⟨rfl,hle,rfl,hk3⟩|⟨s,hP3,rfl,hR3,hk3⟩);(exact⟨rfl,a0d rfl hle (hk2'.trans hk3)⟩);(try dsimp only at hP3);have hk3':=hk2'.trans hk3;have g3:=hk3.box g2 (by omega);refine Hid.out ?_))
 have hzw:=block_lt g2
 have hz3:=hk3.size
 have hb3:Bw w3 (w3.alloc (nbx ⟨2,s,0,[]⟩ none 0)):=ext_alloc (Below.refl _ _) _
 have q4:=a0a w3 (nbx ⟨2,s,0,[]⟩ none 0)
 have g3':=block_below hb3 g3
 have hk4:=hk3'.trans (a0b.of_below hb3)
 have hW4:=(hC.on hR3).wantsU b3t hP3 _ hb3
 rw[World.size_alloc]at hW4
 obtain⟨t3,ht3⟩:∃t3,w3.heap.size=t3:=⟨_,rfl⟩
 clear hc1 hP2 hP3 hR2 hk2 hk2' h2 hk3 hk3'
 rw[ht3]at hW4 q4 hz3
 refine Lib.hid ?_
 go_wp2_with (go_at_call 99;refine hW4.mono ?_;rintro e w5 (⟨rfl,hle,rfl,hk5⟩|⟨hP5,rfl,hR5,hk5⟩);(exact⟨rfl,a0d rfl hle (hk4.trans hk5)⟩);(try dsimp only at hP5);have hk5':=hk4.trans hk5;have p3:=hk5.box q4 (by omega);have p2:=hk5.box g3' (by omega);refine Hid.out ?_)
 have hC5:=hC.on hR5
 have hSee:=hC5.sees1 b5i w5 (Below.refl _ _)
 have hlen:∃more:Bool,decide (tx (rest ts (i+1+1+1))=S.rp)=!more/\(if more then f<=f/\(P f 11 ⟨2,s,0,[]⟩ 0 (rest ts (i+1+1+1))).on (fun n l=>need S.rp l fun l=>funE f s n.kids l)=some r else need S.rp (rest ts (i+1+1+1)) (fun l=>funE f s [] l)=some r):=by
  by_cases hy:tx (rest ts (i+1+1+1))=S.rp
  ·refine⟨false,by simp[hy],?_⟩
   rw[if_pos hy]at hP5
   rw[if_neg (by decide)]
   unfold need
   rw[if_pos hy]
   exact hP5
  ·refine⟨true,by simp[hy],?_⟩
   rw[if_neg hy]at hP5
   rw[if_pos rfl]
   exact⟨Nat.le_refl _,hP5⟩
 obtain⟨more,hm1,hm2⟩:=hlen
 rw[hm1]at hSee
 replace hm2:Hid _:=hm2
 have hz5:=block_lt p3
 clear hP5 hm1 ht3 hW4 hk5 hk4 q4 g3' g3 g2 hR3 hb3
 refine Lib.hid ?_
 go_wp2_with (go_at_call 101;refine hSee.mono ?_;rintro e w6 ⟨rfl,hb6⟩)
 have hI:ParI f t3 s w B ts r f (.bool more) w6:=⟨more,[],i+1+1+1,none,0,rfl,block_below hb6 p3,block_below hb6 p2,Row.nil _ _,fun q e=>by simp[Value.ownBlock]at e,hR5.below hb6,hk5'.trans (a0b.of_below hb6),by simp,hm2.out⟩
 have hwt:w.heap.size<t3:=by omega
 clear p3 p2 hR5 hk5' hC5 hSee hm2 hb6 hz5 hz3 hzw
 go_loopg [4] f (fun k m wr=>ParI f t3 s w B ts r k m wr)
 case atStart=>exact hI
 case round =>
  obtain⟨more1,ks,j,b',cap',rfl,p3,p4,hRow,hown,hR,hk,hkl,hr⟩:=hrel
  clear hI
  have hCr:=hC.on hR
  have hz4:=block_lt p4
  have hjl:=hR.le
  have hsh:=hR.short
  have hn1:ks.length+1<=maxLen:=by unfold maxLen;omega
  have hb1:(ks.length+1)*56<=140737488355328:=by omega
  cases more1 with
  | false =>
   rw[if_neg (by decide)]at hr
   have hWt:=hCr.wantsU b5i hr wr (Below.refl _ _)
   clear hr
   go_wp2_with (go_at_call 99;refine hWt.mono ?_;rintro e w4 (⟨rfl,hle,rfl,hk4⟩|⟨hr4,rfl,hR4,hk4⟩);(exact⟨rfl,a0d rfl hle (hk.trans hk4)⟩);refine Hid.out ?_)
   unfold funE at hr4
   have p3':=hk4.box p3 (by omega)
   have p4':=hk4.box p4 (by omega)
   have hRow':=hRow.keep hk4 (fun q hq _=>by omega)
   have hk':=hk.trans hk4
   have hEE:=fun u (h:Ctx u B ts (j+1))=>a7o hr4 (fun r0 h0=>hB r0 B ts _ u h h0)
   have hCr':=hC.on hR4
   obtain⟨c0,c1,c2,c3,f0,f1,f2,f3⟩:=in4 p3'
   have hz4':=block_lt p4'
   clear hWt hr4 hCr p3 p4 hRow hk hk4 hR hB
   refine Lib.hid ?_
   go_wp2
   go_region_law (first
      | (refine step_append_lies _ (by rfl) _ _ _ (by rfl) 0 43 i0 _ 4 56 Tryz.underlying41 hi0 hz0 hz1 hz2 rfl (by omega) (.slice b' ks.length cap') ks.length _ (by rfl) ho (Ad w2.heap.size 0) 1 1 _ (by rfl) (by rfl) (a4x n1 b1 cap1 (a0a w2 (nbx n1 b1 cap1))) (by simp[Value.oneCell']) (by omega) hn1 hb1 (Nat.zero_le _) _ rfl ?_;intro g3 cap3 w3 hown3 hgrow hat hlt3;have p3w:=(hgrow.block _ (block_lt p3) hne3).trans p3;obtain⟨c0,c1,c2,c3,f0,f1,f2,f3⟩:=in4 p3w)
      | (go_simp;go_at_call 103;refine(hEE _ (hCr'.below ((Below.refl _ _).drew))).mono ?_;rintro e w2 (⟨j1,rfl,hle,rfl,hk2⟩|⟨n1,j2,b1,cap1,hr2,rfl,hN1,hR2,hk2'⟩);(exact⟨rfl,a0d rfl hle ((hk'.drew).trans hk2)⟩);have hk2:=((a0b.refl (fun k=>k=B) w4).drew).trans hk2';clear hk2';have pw3:=hk2.box p3' (by omega);have p3:=block_alloc (nbx n1 b1 cap1) pw3;have p4:=block_alloc (nbx n1 b1 cap1) (hk2.box p4' (by omega));obtain⟨c0,c1,c2,c3,f0,f1,f2,f3⟩:=in4 pw3;obtain⟨d0,d1,d2,d3,e0,e1,e2,e3⟩:=in4a pw3;obtain⟨xs,ho,hs,hn⟩:=((hRow'.keep hk2 (fun g hg _=>by omega)).below (ext_alloc (Below.refl _ _) (nbx n1 b1 cap1))).own;have hne3:some t3≠Value.ownBlock (.slice b' ks.length cap'):=fun e=>(hs _ e.symm).2 rfl))
   all_goals
    clear c0 c1 c2 c3 f0 f1 f2 f3 d0 d1 d2 d3 e0 e1 e2 e3 hEE p3w pw3
    have hb2a:=ext_alloc (Below.refl w2.heap.size w2) (nbx n1 b1 cap1)
    obtain⟨_,_,_,hlt9⟩:=hRow'.form
    have hz2:w4.heap.size<=w2.heap.size:=hk2.size
    have hz3:=block_lt p3'
    have hy:NdV (fun q=>(w.heap.size<q/\q≠t3)/\some q≠Value.ownBlock (.slice b' ks.length cap')) (w2.alloc (nbx n1 b1 cap1)) n1 (ndv n1 b1 cap1):=(hN1.weak (fun q hq _=>by simp at hq;exact⟨⟨by omega,by omega⟩,fun e=>by have:=(hlt9 q e.symm).2;omega⟩)).below hb2a
    obtain⟨W4,hW4⟩:∃W4,w3.setCell (Ad t3 3) (.slice (some (Ad g3 0)) (ks.length+1) cap3)=W4:=⟨_,rfl⟩
    obtain⟨hRow5,q3,hk5,hown5⟩:=a4p (lo:=w.heap.size+1) ho hs hn hy (fun q hq=>hq.2) (fun q hq=>by simp at hq;exact⟨by omega,by omega⟩) (fun q e=>hown q e) (by simp;omega) p3 hown3 hgrow hat hW4
    have q4:=hk5.box p4 (fun e=>by rcases e with e|e;omega;have:=(hs _ e.symm).1;omega)
    have hR5:=(hR2.below hb2a).keep hk5 (fun q hq e=>by rcases e with e|e;omega;have:=hown q e.symm;omega)
    have hkw5:=((hk'.trans hk2).trans (a0b.of_below hb2a)).then hk5 (fun q hq e=>by rcases e with e|e;omega;have:=hown q e.symm;omega)
    have hW8:=(hC.on hR5).wantsU b4d hr2 W4 (Below.refl _ _)
    have hNN:=hRow5.node 2 s 0
    clear hown3 hgrow hat hlt3 ho hs hn hy hk5 p3 p4 hRow' hR2 hN1 hk2 hb2a hown hr2
    refine Lib.hid ?_
    go_wp2_with (go_at_call 99;refine hW8.mono ?_;rintro e w8 (⟨rfl,hle,rfl,hk8⟩|⟨hP8,rfl,hR8,hk8⟩);(exact⟨rfl,a0d rfl hle (hkw5.trans hk8)⟩);have u3:=hk8.box q3 (by omega);have u4:=hk8.box q4 (by omega);obtain⟨c0,c1,c2,c3,f0,f1,f2,f3⟩:=in4 u3;obtain⟨d0,d1,d2,d3,e0,e1,e2,e3⟩:=in4 u4)
    obtain rfl:=Option.some.inj hP8
    refine bodyPost_ret (d9l rfl (a0f _ _ _ _ u4)) rfl ?_
    rw[show ks.length+1=(ks++[n1]).length by simp]
    exact a0j (N:=⟨2,s,0,ks++[n1]⟩) rfl ((hNN.keep hk8 (fun q hq _=>by omega)).weak (fun q hq _=>⟨.inr (by omega),by omega⟩)) hR8 (hkw5.trans hk8) (Nat.le_refl _) hBw
  | true =>
   rw[if_pos rfl]at hr
   obtain⟨hgf,hr⟩:=hr
   obtain⟨c0,c1,c2,c3,f0,f1,f2,f3⟩:=in4 p3
   cases gk with
   | zero=>cases hr
   | succ g =>
    rw[P,b6b]at hr
    have hEE:=fun u (h:Ctx u B ts j)=>h.nameU hr u (Below.refl _ _)
    clear hr hB
    go_wp2
    go_region_law (first
      | (refine step_append_lies _ (by rfl) _ _ _ (by rfl) 0 43 i0 _ 4 56 Tryz.underlying41 hi0 hz0 hz1 hz2 rfl (by omega) (.slice b' ks.length cap') ks.length _ (by rfl) ho (Ad w2.heap.size 0) 1 1 _ (by rfl) (by rfl) (a4x ⟨3,s1,0,[]⟩ none 0 (a0a w2 (nbx ⟨3,s1,0,[]⟩ none 0))) (by simp[Value.oneCell']) (by omega) hn1 hb1 (Nat.zero_le _) _ rfl ?_;intro g3 cap3 w3 hown3 hgrow hat hlt3;have p3w:=(hgrow.block _ (block_lt p3) hne3).trans p3;obtain⟨c0,c1,c2,c3,f0,f1,f2,f3⟩:=in4 p3w)
      | (go_simp;go_at_call 100;refine(hEE _ (hCr.below ((Below.refl _ _).drew))).mono ?_;rintro e w2 (⟨rfl,hle,rfl,hk2⟩|⟨s1,hr2,rfl,hR2,hk2'⟩);(exact⟨rfl,a0d rfl hle ((hk.drew).trans hk2)⟩);have hk2:=((a0b.refl (fun k=>k=B) wr).drew).trans hk2';clear hk2';have pw3:=hk2.box p3 (by omega);have p3:=block_alloc (nbx ⟨3,s1,0,[]⟩ none 0) pw3;have p4:=block_alloc (nbx ⟨3,s1,0,[]⟩ none 0) (hk2.box p4 (by omega));obtain⟨c0,c1,c2,c3,f0,f1,f2,f3⟩:=in4 pw3;obtain⟨d0,d1,d2,d3,e0,e1,e2,e3⟩:=in4a pw3;obtain⟨xs,ho,hs,hn⟩:=((hRow.keep hk2 (fun g hg _=>by omega)).below (ext_alloc (Below.refl _ _) (nbx ⟨3,s1,0,[]⟩ none 0))).own;have hne3:some t3≠Value.ownBlock (.slice b' ks.length cap'):=fun e=>(hs _ e.symm).2 rfl))
    all_goals
     clear c0 c1 c2 c3 f0 f1 f2 f3 d0 d1 d2 d3 e0 e1 e2 e3 hEE p3w pw3
     have hb2a:=ext_alloc (Below.refl w2.heap.size w2) (nbx ⟨3,s1,0,[]⟩ none 0)
     obtain⟨_,_,_,hlt9⟩:=hRow.form
     have hz2:wr.heap.size<=w2.heap.size:=hk2.size
     have hy:NdV (fun q=>(w.heap.size<q/\q≠t3)/\some q≠Value.ownBlock (.slice b' ks.length cap')) (w2.alloc (nbx ⟨3,s1,0,[]⟩ none 0)) ⟨3,s1,0,[]⟩ (ndv ⟨3,s1,0,[]⟩ none 0):=a5u _ _ 3 s1 0
     obtain⟨W4,hW4⟩:∃W4,w3.setCell (Ad t3 3) (.slice (some (Ad g3 0)) (ks.length+1) cap3)=W4:=⟨_,rfl⟩
     have hz9:=block_lt p3
     obtain⟨hRow5,q3,hk5,hown5⟩:=a4p (lo:=w.heap.size+1) ho hs hn hy (fun q hq=>hq.2) (fun q hq=>⟨by simp at hq;omega,by omega⟩) (fun q e=>hown q e) (by simp;omega) p3 hown3 hgrow hat hW4
     have q4:=hk5.box p4 (fun e=>by rcases e with e|e;omega;have:=(hs _ e.symm).1;omega)
     have hR5:=(hR2.below hb2a).keep hk5 (fun q hq e=>by rcases e with e|e;omega;have:=hown q e.symm;omega)
     have hkw5:=((hk.trans hk2).trans (a0b.of_below hb2a)).then hk5 (fun q hq e=>by rcases e with e|e;omega;have:=hown q e.symm;omega)
     have hC5:=hC.on hR5
     clear hown3 hgrow hat hlt3 ho hs hn hy hk5 p3 p4 hRow hR2 hk2 hb2a hown
     refine Lib.hid ?_
     dsimp only at hr2
     by_cases hcm:tx (rest ts (j+1))=S.cm
     ·rw[if_pos hcm,a0x]at hr2
      replace hr2:Hid _:=hr2
      have hT5:=hC5.takes_yes b9e hcm W4 (Below.refl _ _)
      go_wp2_with (go_at_call 102;refine hT5.mono ?_;rintro e w6 ⟨rfl,hR6,hk6⟩)
      go_roundg g
      case measure=>omega
      case rel=>exact⟨true,ks++[⟨3,s1,0,[]⟩],j+1+1,_,_,rfl,hk6.box q3 (by omega),hk6.box q4 (by omega),hRow5.keep hk6 (fun q hq _=>by omega),hown5,hR6,hkw5.trans hk6,by simp;omega,by rw[if_pos rfl];exact⟨by omega,hr2.out⟩⟩
     ·rw[if_neg hcm]at hr2
      replace hr2:Hid _:=hr2
      have hT5:=hC5.takes_no b9e hcm W4 (Below.refl _ _)
      go_wp2_with (go_at_call 102;refine hT5.mono ?_;rintro e w6 ⟨rfl,hb6⟩)
      go_roundg g
      case measure=>omega
      case rel=>exact⟨false,ks++[⟨3,s1,0,[]⟩],j+1,_,_,rfl,block_below hb6 q3,block_below hb6 q4,hRow5.below hb6,hown5,hR5.below hb6,hkw5.trans (a0b.of_below hb6),by simp;omega,by rw[if_neg (by decide)];exact hr2.out⟩
structure AllC (f:Nat):Prop where
 row:RowC f
 sgn:SgnC f
 sim:SimC f
 suf:SufC f
 blk:BlkC f
 st:d3j f
 fn:FunC f
theorem b0l{tag:Nat}{x:Nd}{a:Nat}{r:PRes}(h:P 0 tag x a l=some r):False:=by
 rw[P]at h
 cases h
theorem c8a:AllC 0 where
 row:=fun _ _ _ _ _ _ _ _ h=>(b0l h).elim
 sgn:=fun _ _ _ _ _ _ h=>(b0l h).elim
 sim:=fun _ _ _ _ _ _ h=>(b0l h).elim
 suf:=fun _ _ _ _ _ _ _ _ _ _ _ _ h=>(b0l h).elim
 blk:=fun _ _ _ _ _ _ h=>(b0l h).elim
 st:=fun _ _ _ _ _ _ h=>(b0l h).elim
 fn:=fun _ _ _ _ _ _ h=>(b0l h).elim
theorem d7v(f:Nat):f<=100000->∀g,g<=f->AllC g:=by
 induction f with
 | zero =>
  intro _ g z
  obtain rfl:g=0:=by omega
  exact c8a
 | succ f ih =>
  intro hf g z
  rcases Nat.lt_or_ge f g with h|h
  ·obtain rfl:g=f+1:=by omega
   have A:=fun g z=>ih (by omega) g z
   have y:=A f (Nat.le_refl _)
   have E:=fun g z=>expr_of g (A g z).row
   exact⟨d6s f (fun g z=>(A g z).row) y.sgn,d6e f y.sim (fun g z=>(A g (by omega)).suf) y.sgn,d7t f (E f (Nat.le_refl _)),d6a f E,block_of (f+1) hf (fun g z=>(A g (by omega)).st),stat_of f E (fun g z=>(A g z).suf) y.blk,d7u f y.blk⟩
  ·exact ih (by omega) g h
theorem b4k(r:PRes)(B:Nat)(ts:List Tok)(w:World)(hC:Ctx w B ts 0)(hP:P 64012 12 (nd 1 []) 0 (ts.map pt)=some r):Cl 42 #[Po B 0] w (PAns no w B ts r) :=
 d3l 64012 (by omega) (fun g z=>(d7v 64012 (by omega) g (by omega)).fn) r B ts 0 w hC hP
def fpos (ts:List Tok) (sz:Nat) (i:Nat):Nat:=match ts[i]? with
 | some x=>x.a
 | none=>sz
theorem a6e.mono{W:World}{b:Option Addr}{l1 l2:Nat}(h:a6e W b ts l1)(hl:l1<=l2):a6e W b ts l2:=by
 rcases h with h|⟨g,e,h1,h2,h3⟩
 ·exact .inl h
 ·exact .inr ⟨g,e,by omega,h2,h3⟩
theorem a6e.below{W:World}{b:Option Addr}{l:Nat}(h:a6e W b ts l)(hb:Bw W W'):a6e W' b ts l:=h.keep (a0b.of_below (S:=no) hb) (fun _ _=>id)
abbrev pu2 (W:World) (B:Nat) (a b:Value):World:=(W.setCell (Ad B 0) a).setCell (Ad B 1) b
theorem a1g(W:World)(B:Nat)(a b:Value):a0b (fun k=>k=B) W (pu2 W B a b):=((a0b.refl (fun k=>k=B) W).set B 0 a (fun _=>rfl)).set B 1 b (fun _=>rfl)
theorem a1p{W:World}(a' b':Value)(h:W.heap[B]?=some (.cells #[a,b] 27)):(pu2 W B a' b').heap[B]?=some (.cells #[a',b'] 27):=set_block _ (set_block _ h)
theorem a1a{W:World}(a b:Value)(h:C≠B):(pu2 W B a b).heap[C]?=W.heap[C]?:=(set1_other _ _ h).trans (set1_other _ _ h)
theorem d3n{W:World}(h:tm[4]?.getD undef=Po B 0)(h':tm[5]?.getD undef=Po C 0)(hx:W.heap[B]?=some (.cells #[a,b,c,d] 43))(hy:W.heap[C]?=some (.cells #[x,y] 27)):(results Tryz.f27 tm).run Tryz.prog W=.ok (.tuple #[.agg #[a,b,c,d],.agg #[x,y]]) W:=by
 obtain⟨c0,c1,c2,c3,_,_,_,_⟩:=in4 hx
 have v:Ce W C 0 x:=cell_block hy rfl
 have z:Ce W C 1 y:=cell_block hy rfl
 simp[results,Tryz.results27,go_sem,h,h',c0,c1,c2,c3,v,z]
structure RB (w U:World) (sz:Nat):Prop where
 g0:U.heap[w.heap.size]?=some (.cells #[vi (sz:Nat)] 3)
 g1:U.heap[w.heap.size+1]?=some zbx
 g2:U.heap[w.heap.size+1+1]?=some (.cells #[vi 0,vi 0] 27)
 lt:w.heap.size+1+1<U.heap.size
theorem RB.keep{U U':World}{sz:Nat}{S:Nat->Prop}(h:RB w U sz)(hk:a0b S U U')(hs:∀g,g<=w.heap.size+1+1->¬S g):RB w U' sz:=by
 have:=h.lt
 have:=hk.size
 exact⟨hk.box h.g0 (hs _ (by omega)),hk.box h.g1 (hs _ (by omega)),hk.box h.g2 (hs _ (by omega)),by omega⟩
theorem d0c(w:World)(sz:Nat):RB w (((w.alloc (.cells #[vi (sz:Nat)] 3)).alloc zbx).alloc (.cells #[vi 0,vi 0] 27)) sz/\Bw w (((w.alloc (.cells #[vi (sz:Nat)] 3)).alloc zbx).alloc (.cells #[vi 0,vi 0] 27)):=by
 have h0:=a0a w (.cells #[vi (sz:Nat)] 3)
 have h1:=a0a (w.alloc (.cells #[vi (sz:Nat)] 3)) zbx
 have h2:=a0a ((w.alloc (.cells #[vi (sz:Nat)] 3)).alloc zbx) (.cells #[vi 0,vi 0] 27)
 rw[World.size_alloc]at h1
 rw[World.size_alloc,World.size_alloc]at h2
 exact⟨⟨block_alloc _ (block_alloc _ h0),block_alloc _ h1,h2,by simp⟩,ext_alloc (ext_alloc (ext_alloc (Below.refl _ _) _) _) _⟩
theorem c4d(ts:List Tok)(b:Option Addr)(cap sz:Nat)(n:Nd)(l:List PT)(w:World)(hV:allV (ts.map pt))(hT:a6e w b ts w.heap.size)(hsp:a4b w)(hsh:ts.length<=4000)(hcap:ts.length<=cap)(hP:P 64012 12 (nd 1 []) 0 (ts.map pt)=some (.inr (n,l))) :
  Cl 27 #[.slice b ts.length cap,vi (sz:Nat)] w fun e w'=>∃b1 z,e=.returned (.tuple #[ndv n b1 z,.agg #[vi 0,vi 0]])/\NdV (fun g=>w.heap.size<=g) w' n (ndv n b1 z)/\Bw w w':=by
 have hmf:∀(fn:Fn) (m cap:Array Value) (w:World),(Instr.makeFunc fn m cap).run Tryz.prog w=.ok (.func fn m cap) w:=fun _ _ _ _=>rfl
 obtain⟨j,s⟩:=d0c w sz
 have d:=hT.below s
 have p:=hsp.below s
 obtain⟨U,hU⟩:∃U,((w.alloc (.cells #[vi (sz:Nat)] 3)).alloc zbx).alloc (.cells #[vi 0,vi 0] 27)=U:=⟨_,rfl⟩
 rw[hU]at j s d p
 replace hU:((w.alloc (.cells #[vi (sz:Nat)] 3)).alloc (.cells #[vi 0,.string ⟨#[]⟩,vi 0,.slice none 0 0] 43)).alloc (.cells #[vi 0,vi 0] 27)=U:=hU
 have z7:=a8o U p
 clear hT hsp
 obtain⟨L,hL⟩:∃L,ts.length=L:=⟨_,rfl⟩
 rw[hL]
 go_enter_defers Tryz.func27,Tryz.ntmps27
 go_wp2_with (go_at_call 41;refine z7.mono ?_;rintro e w1 ⟨m1,m2,m3,m4,m5,rfl,z8,u⟩;refine Hid.out ?_)
 have o:=ext_alloc (Below.refl w1.heap.size w1) (rbx m1 m2 m3 m4 m5 b L cap 0)
 have hC:Ctx (w1.alloc (rbx m1 m2 m3 m4 m5 b L cap 0)) w1.heap.size ts 0:=by
  refine⟨hV,⟨m1,m2,m3,m4,m5,b,cap,hL▸a0a w1 _,?_,?_,hcap⟩,Nat.zero_le _,hsh⟩
  ·exact((d.below u).below o).mono (by have:=s.size;have:=u.size;omega)
  ·exact z8.keep (a0b.of_below (S:=no) o) (fun _ _=>id)
 have v:=(j.keep (a0b.of_below (S:=no) u) (fun _ _=>id)).keep (a0b.of_below (S:=no) o) (fun _ _=>id)
 have z9:=ext_trans (ext_trans s u) o
 have h:=b4k _ w1.heap.size ts _ hC hP
 have hz:w.heap.size+1+1<w1.heap.size:=by have:=j.lt;have:=u.size;omega
 refine Lib.hid ?_
 go_wp2_with (go_at_call 42;refine Hid.out ?_)
 obtain⟨B,hB⟩:∃B,w1.heap.size=B:=⟨_,rfl⟩
 obtain⟨W,hW⟩:∃W,w1.alloc (rbx m1 m2 m3 m4 m5 b L cap 0)=W:=⟨_,rfl⟩
 rw[hW]at h v z9 hC
 rw[hB]at h hC hz
 have z4:=hC.R.lt
 clear hU z7 d p j s z8 u o hP
 rw[hW,hB]
 clear hW hB
 refine Lib.hid ?_
 go_wp2_with (go_at_call 42;refine h.mono ?_;rintro e w2 ⟨i,b1,z,hi,rfl,hN,hR,hk⟩;have y:=v.keep (S:=fun q=>q=B) hk (fun q hq e=>by omega);obtain⟨c0,c1,c2,c3,f0,f1,f2,f3⟩:=in4 y.g1;have d0:Ce w2 (w.heap.size+1+1) 0 (vi 0):=cell_block y.g2 rfl;have d1:Ce w2 (w.heap.size+1+1) 1 (vi 0):=cell_block y.g2 rfl;have e0:w2.frozen? (Ad (w.heap.size+1+1) 0)=false:=frozen_block y.g2;have e1:w2.frozen? (Ad (w.heap.size+1+1) 1)=false:=frozen_block y.g2)
 have x1:(pu2 (put4 w2 (w.heap.size+1) (vi n.k) (sk n.t) (vi n.n) (.slice b1 n.kids.length z)) (w.heap.size+1+1) (vi 0) (vi 0)).heap[w.heap.size+1]?=some (nbx n b1 z):=(a1a _ _ (by omega)).trans (a0f _ _ _ _ y.g1)
 have x2:(pu2 (put4 w2 (w.heap.size+1) (vi n.k) (sk n.t) (vi n.n) (.slice b1 n.kids.length z)) (w.heap.size+1+1) (vi 0) (vi 0)).heap[w.heap.size+1+1]?=some (.cells #[vi 0,vi 0] 27):=a1p _ _ ((a2w _ _ _ _ (by omega)).trans y.g2)
 have a:a0b (fun q=>q=w.heap.size+1\/q=w.heap.size+1+1) w2 (pu2 (put4 w2 (w.heap.size+1) (vi n.k) (sk n.t) (vi n.n) (.slice b1 n.kids.length z)) (w.heap.size+1+1) (vi 0) (vi 0)):=((a2g _ _ _ _ _ _).mono (fun q _ e=>.inl e)).then (a1g _ _ _ _) (fun q _ e=>.inr e)
 have z6:=((a0b.of_below (S:=no) z9).then hk (fun q hq e=>by omega)).then a (fun q hq e=>by omega)
 refine leaves_cons (f:=40) (args:=#[Po (w.heap.size+1+1) 0,Po w.heap.size 0]) (by simp) (by simp[go_sem]) ?_
 refine(b9f _ _ _).mono ?_
 rintro e u' z5 ⟨rfl,rfl,rfl⟩
 refine⟨_,d3n rfl rfl x1 x2,b1,z,rfl,?_,z6.below (Nat.le_refl _) (fun _ _=>id)⟩
 exact(hN.keep a (fun q hq _ e=>by rcases hq with hq|hq;exact hq;have:=v.lt;omega)).weak (fun q hq _=>by rcases hq with hq|hq;exact hq.elim;have:=v.lt;omega)
theorem d3o(ts:List Tok)(b:Option Addr)(cap sz:Nat)(l:List PT)(w:World)(hV:allV (ts.map pt))(hT:a6e w b ts w.heap.size)(hsp:a4b w)(hsh:ts.length<=4000)(hcap:ts.length<=cap)(hP:P 64012 12 (nd 1 []) 0 (ts.map pt)=some (.inl l)) :
  Cl 27 #[.slice b ts.length cap,vi (sz:Nat)] w fun e w'=>∃i,rest ts i=l/\i<=ts.length/\e=.returned (.tuple #[.agg #[vi 0,.string ⟨#[]⟩,vi 0,.slice none 0 0],.agg #[vi 2,vi (fpos ts sz i:Nat)]])/\Bw w w':=by
 have hmf:∀(fn:Fn) (p cap:Array Value) (w:World),(Instr.makeFunc fn p cap).run Tryz.prog w=.ok (.func fn p cap) w:=fun _ _ _ _=>rfl
 obtain⟨o,v⟩:=d0c w sz
 have h:=hT.below v
 have u:=hsp.below v
 obtain⟨U,hU⟩:∃U,((w.alloc (.cells #[vi (sz:Nat)] 3)).alloc zbx).alloc (.cells #[vi 0,vi 0] 27)=U:=⟨_,rfl⟩
 rw[hU]at o v h u
 replace hU:((w.alloc (.cells #[vi (sz:Nat)] 3)).alloc (.cells #[vi 0,.string ⟨#[]⟩,vi 0,.slice none 0 0] 43)).alloc (.cells #[vi 0,vi 0] 27)=U:=hU
 have z8:=a8o U u
 clear hT hsp
 obtain⟨L,hL⟩:∃L,ts.length=L:=⟨_,rfl⟩
 rw[hL]
 go_enter_defers Tryz.func27,Tryz.ntmps27
 go_wp2_with (go_at_call 41;refine z8.mono ?_;rintro e w1 ⟨m1,m2,m3,m4,m5,rfl,z9,y⟩;refine Hid.out ?_)
 have s:=ext_alloc (Below.refl w1.heap.size w1) (rbx m1 m2 m3 m4 m5 b L cap 0)
 have hC:Ctx (w1.alloc (rbx m1 m2 m3 m4 m5 b L cap 0)) w1.heap.size ts 0:=by
  refine⟨hV,⟨m1,m2,m3,m4,m5,b,cap,hL▸a0a w1 _,?_,?_,hcap⟩,Nat.zero_le _,hsh⟩
  ·exact((h.below y).below s).mono (by have:=v.size;have:=y.size;omega)
  ·exact z9.keep (a0b.of_below (S:=no) s) (fun _ _=>id)
 have n:=(o.keep (a0b.of_below (S:=no) y) (fun _ _=>id)).keep (a0b.of_below (S:=no) s) (fun _ _=>id)
 have d:=ext_trans (ext_trans v y) s
 have j:=b4k _ w1.heap.size ts _ hC hP
 have hz:w.heap.size+1+1<w1.heap.size:=by have:=o.lt;have:=y.size;omega
 refine Lib.hid ?_
 go_wp2_with (go_at_call 42;refine Hid.out ?_)
 obtain⟨B,hB⟩:∃B,w1.heap.size=B:=⟨_,rfl⟩
 obtain⟨W,hW⟩:∃W,w1.alloc (rbx m1 m2 m3 m4 m5 b L cap 0)=W:=⟨_,rfl⟩
 rw[hW]at j n d hC
 rw[hB]at j hC hz
 have z5:=hC.R.lt
 clear hU z8 h u o v z9 y s hP
 rw[hW,hB]
 clear hW hB
 refine Lib.hid ?_
 go_wp2_with (go_at_call 42;refine j.mono ?_;rintro e w2 ⟨i,hi,g,rfl,hk⟩;have z:=n.keep (S:=fun q=>q=B) hk (fun q hq e=>by omega))
 have z7:=(a0b.of_below (S:=no) d).then hk (fun q hq e=>by omega)
 unfold gv
 have hq:Ce w2 w.heap.size 0 (vi (sz:Nat)):=cell_block z.g0 rfl
 cases hx:ts[i]? with
 | some x =>
  have hv:fpos ts sz i=x.a:=by unfold fpos;rw[hx]
  simp only
  refine leaves_cons (f:=40) (args:=#[Po (w.heap.size+1+1) 0,Po w.heap.size 0]) (by simp) (by simp[go_sem]) ?_
  refine(b5l _ _ _ _ _ _ _ z.g2).mono ?_
  rintro e u' z6 ⟨rfl,rfl,rfl⟩
  have m:=ext_alloc (Below.refl _ (pu2 w2 (w.heap.size+1+1) (vi 2) (vi (x.a:Nat)))) (.cells #[vi (x.a:Nat)] 96)
  have x1:=block_below m ((a1a (W:=w2) (C:=w.heap.size+1) (vi 2) (vi (x.a:Nat)) (by omega)).trans z.g1)
  have x2:=block_below m (a1p (vi 2) (vi (x.a:Nat)) z.g2)
  refine⟨_,d3n rfl rfl x1 x2,i,hi,hL▸g,by rw[hv],?_⟩
  exact((z7.then (a1g _ _ _ _) (fun q hq e=>by omega)).trans (a0b.of_below m)).below (Nat.le_refl _) (fun _ _=>id)
 | none =>
  have hv:fpos ts sz i=sz:=by unfold fpos;rw[hx]
  simp only
  refine leaves_cons (f:=40) (args:=#[Po (w.heap.size+1+1) 0,Po w.heap.size 0]) (by simp) (by simp[go_sem]) ?_
  refine(b5m _ _ _ _ _ _ _ z.g2 hq ⟨_,rfl⟩).mono ?_
  rintro e u' z6 ⟨rfl,rfl,rfl⟩
  have m:=ext_alloc (Below.refl _ (pu2 w2 (w.heap.size+1+1) (vi 2) (vi (sz:Nat)))) (.cells #[] 98)
  have x1:=block_below m ((a1a (W:=w2) (C:=w.heap.size+1) (vi 2) (vi (sz:Nat)) (by omega)).trans z.g1)
  have x2:=block_below m (a1p (vi 2) (vi (sz:Nat)) z.g2)
  refine⟨_,d3n rfl rfl x1 x2,i,hi,hL▸g,by rw[hv],?_⟩
  exact((z7.then (a1g _ _ _ _) (fun q hq e=>by omega)).trans (a0b.of_below m)).below (Nat.le_refl _) (fun _ _=>id)
theorem a9g(s:ByteArray)(w:World)(hE:ErrV w):Cl 26 #[.string s] w (Out w (a3n s.data.toList)):=by
 have z:s.data.toList.length=s.size:=by simp
 unfold a3n
 rw[z]
 by_cases h:4000<s.size
 ·rw[if_pos h];exact c6d s h w
 ·rw[if_neg h];exact d1e s (by omega) w hE
theorem b2x{base:Nat}{W:World}{b:Option Addr}{n d:Nat}(h:W.ownsRow base 92 3 (.slice b n d) ts.length (a8v ts)):n=ts.length/\ts.length<=d/\a6e W b ts W.heap.size:=by
 rcases h.2 with⟨e,h0⟩|⟨g,cap,s,e,_,o,v,_,_,ht⟩
 ·cases e
  have:ts=[]:=List.length_eq_zero_iff.1 h0
  subst this
  exact⟨rfl,Nat.le_refl _,.inl rfl⟩
 ·cases e
  have z:=(Array.getElem?_eq_some_iff.1 o).1
  refine⟨rfl,v,.inr ⟨g,rfl,z,z,fun j x p i u q=>?_⟩⟩
  have f:i<3:=by
   have:=(List.getElem?_eq_some_iff.1 q).1
   simpa using this
  have m:j<ts.length:=(List.getElem?_eq_some_iff.1 p).1
  have hf:=c1s p i f
  rw[<- ht,List.getElem?_take_of_lt (by omega)]at hf
  have y:s[j*3+i]?=(b3o x)[i]?:=by simpa using hf
  have:(b3o x)[i]?=some u:=q
  rw[this]at y
  simp[World.cell?,o,y]
theorem b2y:∀(m:Nat) (l:List UInt8) (a:Nat),l.length<=m->(a7j (a3z a l)).length<=l.length
 | 0,l,a,h=>by
  obtain rfl:l=[]:=List.eq_nil_of_length_eq_zero (by omega)
  rw[a3x];simp[a7j]
 | m+1,l,a,h=>by
  by_cases h0:l=[]
  ·subst h0;rw[a3x];simp[a7j]
  by_cases h1:gap1 l=0
  ·cases ht:tokR l using TokR.byCases with
   | bad e=>rw[a7b h0 h1 ht];simp[a7j]
   | tok k t n =>
    have y:=a3p ht
    have z:=b2y m (l.drop n) (a+n) (by simp;omega)
    rw[a7c h0 h1 ht]
    simp at z
    cases hq:a3z (a+n) (l.drop n)using a1u.byCases with
    | bad e p=>simp[a1u.pre,a7j]
    | toks us =>
     rw[hq]at z
     simp[a1u.pre,a7j]at z⊢
     omega
  ·have h2:=a6l l
   have z:=b2y m (l.drop (gap1 l)) (a+gap1 l) (by simp;omega)
   rw[a7a h1]
   simp at z
   omega
theorem b6c:∀(m:Nat) (l:List UInt8) (a:Nat) (e:Int) (p:Nat),l.length<=m->a3z a l=.bad e p->e≠0
 | 0,l,a,e,p,h,hb=>by
  obtain rfl:l=[]:=List.eq_nil_of_length_eq_zero (by omega)
  rw[a3x]at hb;cases hb
 | m+1,l,a,e,p,h,hb=>by
  by_cases h0:l=[]
  ·subst h0;rw[a3x]at hb;cases hb
  by_cases h1:gap1 l=0
  ·cases ht:tokR l using TokR.byCases with
   | bad e' =>
    rw[a7b h0 h1 ht]at hb
    cases hb
    simpa using(c9j ht).1
   | tok k t n =>
    have y:=a3p ht
    have z:=b6c m (l.drop n) (a+n) e p (by simp;omega)
    rw[a7c h0 h1 ht]at hb
    cases hq:a3z (a+n) (l.drop n)using a1u.byCases with
    | bad e' p' =>
     rw[hq]at hb
     simp[a1u.pre]at hb
     exact z (by rw[hq];simp[hb])
    | toks us =>
     rw[hq]at hb
     simp[a1u.pre]at hb
  ·have h2:=a6l l
   rw[a7a h1]at hb
   exact b6c m (l.drop (gap1 l)) (a+gap1 l) e p (by simp;omega) hb
def a2x (l:List UInt8):(Int×Nat)⊕Nd :=
 match a3n l with
 | .inl x=>.inl x
 | .inr ts=>match P 64012 12 (nd 1 []) 0 (ts.map pt) with
  | none=>.inl (0,0)
  | some (.inl r)=>.inl (2,fpos ts l.length (ts.length-r.length))
  | some (.inr (n,_))=>if fitB n then .inr n else .inl (1,0)
theorem a6r{l:List UInt8}(h:a3n l=.inr ts):ts.length<=4000/\allV (ts.map pt)/\∃r,P 64012 12 (nd 1 []) 0 (ts.map pt)=some r:=by
 unfold a3n at h
 split at h
 ·cases h
 rename_i h4
 have y:=b2y l.length l 0 (Nat.le_refl _)
 rw[h]at y
 have z:ts.length<=4000:=by simp[a7j]at y;omega
 refine⟨z,(a8a l.length l 0 ts (Nat.le_refl _) h).1,?_⟩
 obtain⟨r,hr,_⟩:=a3m 64012 12 (nd 1 []) 0 (ts.map pt) (by omega) (by simp[rank];omega)
 exact⟨r,hr⟩
theorem b6d{l:List UInt8}{e:Int}{p:Nat}(h:a3n l=.inl (e,p)):e≠0:=by
 unfold a3n at h
 split at h
 ·cases h;decide
 ·exact b6c l.length l 0 e p (Nat.le_refl _) h
abbrev zagg:Value:=.agg #[vi 0,.string ⟨#[]⟩,vi 0,.slice none 0 0]
def POut (w:World) (R:(Int×Nat)⊕Nd) (e:Ending) (w':World):Prop :=
 (match R with
 | .inl (c,a)=>e=.returned (.tuple #[zagg,.agg #[vi c,vi (a:Nat)]])
 | .inr n=>fitB n=true/\∃b cap,e=.returned (.tuple #[ndv n b cap,.agg #[vi 0,vi 0]])/\NdV (fun g=>w.heap.size<=g) w' n (ndv n b cap))/\Bw w w'
theorem c8b{W:World}(h:tm[2]?.getD undef=Po B 0)(h':tm[3]?.getD undef=Po C 0)(hx:W.heap[B]?=some (.cells #[a,b,c,d] 43))(hy:W.heap[C]?=some (.cells #[x,y] 27)):(results Tryz.f15 tm).run Tryz.prog W=.ok (.tuple #[.agg #[a,b,c,d],.agg #[x,y]]) W:=by
 obtain⟨c0,c1,c2,c3,_,_,_,_⟩:=in4 hx
 have v:Ce W C 0 x:=cell_block hy rfl
 have z:Ce W C 1 y:=cell_block hy rfl
 simp[results,Tryz.results15,go_sem,h,h',c0,c1,c2,c3,v,z]
structure PX (w W:World):Prop where
 g0:W.heap[w.heap.size]?=some zbx
 g1:W.heap[w.heap.size+1]?=some (.cells #[vi 0,vi 0] 27)
 bl:Bw w W
theorem PX.on{W:World}(h:PX w W)(hb:Bw W W'):PX w W':=⟨block_below hb h.g0,block_below hb h.g1,ext_trans h.bl hb⟩
theorem b7x(w:World):PX w ((w.alloc zbx).alloc (.cells #[vi 0,vi 0] 27)):=by
 have h0:=a0a w zbx
 have h1:=a0a (w.alloc zbx) (.cells #[vi 0,vi 0] 27)
 rw[World.size_alloc]at h1
 exact⟨block_alloc _ h0,h1,ext_alloc (ext_alloc (Below.refl _ _) _) _⟩
theorem b2z{W:World}(h:PX w W)(c:Int)(a:Nat){X:World}(hX:(((((W.setCell (Ad w.heap.size 0) (vi 0)).setCell (Ad w.heap.size 1) (.string ⟨#[]⟩)).setCell (Ad w.heap.size 2) (vi 0)).setCell (Ad w.heap.size 3) (.slice none 0 0)).setCell (Ad (w.heap.size+1) 0) (vi c)).setCell (Ad (w.heap.size+1) 1) (vi (a:Nat))=X):X.heap[w.heap.size]?=some zbx/\X.heap[w.heap.size+1]?=some (.cells #[vi c,vi (a:Nat)] 27)/\Bw w X:=by
 have z:pu2 (put4 W w.heap.size (vi 0) (sk []) (vi 0) (.slice none 0 0)) (w.heap.size+1) (vi c) (vi (a:Nat))=X:=hX
 subst z
 refine⟨(a1a _ _ (by omega)).trans (a0f _ _ _ _ h.g0),a1p _ _ ((a2w _ _ _ _ (by omega)).trans h.g1),?_⟩
 exact(((a0b.of_below (S:=no) h.bl).then (a2g _ _ _ _ _ _) (fun q hq e=>by omega)).then (a1g _ _ _ _) (fun q hq e=>by omega)).below (Nat.le_refl _) (fun _ _=>id)
theorem c4e(s:ByteArray)(c:Int)(a:Nat)(w:World)(hE:ErrV w)(hR:a3n s.data.toList=.inl (c,a)):Cl 15 #[.string s] w (POut w (.inl (c,a))):=by
 have hc:=b6d hR
 have hq:(c == 0)=false:=by simpa using hc
 have y:=b7x w
 have hS:Cl 26 #[.string s] ((w.alloc zbx).alloc (.cells #[vi 0,vi 0] 27)) fun e p=>(∃b n d,e=.returned (.tuple #[.slice b n d,.agg #[vi c,vi (a:Nat)]]))/\Below ((w.alloc zbx).alloc (.cells #[vi 0,vi 0] 27)).heap.size ((w.alloc zbx).alloc (.cells #[vi 0,vi 0] 27)) p:=(a9g s _ (hE.on y.bl)).mono fun e p h=>by
  rw[hR]at h
  obtain⟨⟨b,n,d,h1,_⟩,h2⟩:=h
  exact⟨⟨b,n,d,h1⟩,h2⟩
 clear hR
 go_enter Tryz.func15,Tryz.ntmps15
 go_wp2_with (go_at_call 26;refine hS.mono ?_;rintro e w1 ⟨⟨b1,n1,d1,rfl⟩,v⟩;refine Hid.out ?_)
 have z:=y.on v
 have q:=z.on (ext_alloc (Below.refl _ _) (.cells #[vi c,vi (a:Nat)] 27))
 obtain⟨c0,c1,c2,c3,f0,f1,f2,f3⟩:=in4 z.g0
 obtain⟨x0,x1,x2,x3,y0,y1,y2,y3⟩:=in4a z.g0
 obtain⟨p0,p1,q0,q1⟩:=in2 z.g1
 have r0:=fun o=>(in2 (block_alloc o z.g1)).c0
 have r1:=fun o=>(in2 (block_alloc o z.g1)).c1
 have r2:=fun o=>(in2 (block_alloc o z.g1)).f0
 have r3:=fun o=>(in2 (block_alloc o z.g1)).f1
 have hz:=block_lt z.g1
 have z8:¬w.heap.size=w1.heap.size:=by omega
 have z9:¬w1.heap.size=w.heap.size:=by omega
 have f:¬w.heap.size+1=w1.heap.size:=by omega
 have g:¬w1.heap.size=w.heap.size+1:=by omega
 refine Lib.hid ?_
 go_wp2
 go_region_with (fail)
 all_goals
  go_wp2
  obtain⟨X,u⟩:∃X,((((((w1.alloc (.cells #[vi c,vi (a:Nat)] 27)).setCell (Ad w.heap.size 0) (vi 0)).setCell (Ad w.heap.size 1) (.string ⟨#[]⟩)).setCell (Ad w.heap.size 2) (vi 0)).setCell (Ad w.heap.size 3) (.slice none 0 0)).setCell (Ad (w.heap.size+1) 0) (vi c)).setCell (Ad (w.heap.size+1) 1) (vi (a:Nat))=X:=⟨_,rfl⟩
  obtain⟨i,j,m⟩:=b2z q c a u
  rw[u]
  clear u
  exact bodyPost_ret (c8b (W:=X.drew) rfl rfl i j) rfl ⟨rfl,m.drew⟩
theorem b9z(s:ByteArray)(ts:List Tok)(l:List PT)(w:World)(hE:ErrV w)(hsp:a4b w)(hR:a3n s.data.toList=.inr ts)(hP:P 64012 12 (nd 1 []) 0 (ts.map pt)=some (.inl l)):Cl 15 #[.string s] w (POut w (.inl (2,fpos ts s.size (ts.length-l.length)))):=by
 obtain⟨z8,hV,_⟩:=a6r hR
 have z6:=b7x w
 have hS:Cl 26 #[.string s] ((w.alloc zbx).alloc (.cells #[vi 0,vi 0] 27)) fun e w'=>(∃b d,e=.returned (.tuple #[.slice b ts.length d,.agg #[vi 0,vi 0]])/\ts.length<=d/\a6e w' b ts w'.heap.size)/\Below ((w.alloc zbx).alloc (.cells #[vi 0,vi 0] 27)).heap.size ((w.alloc zbx).alloc (.cells #[vi 0,vi 0] 27)) w':=(a9g s _ (hE.on z6.bl)).mono fun e w' h=>by
  rw[hR]at h
  obtain⟨⟨b,n,d,h1,h3⟩,h2⟩:=h
  obtain⟨rfl,h4,h5⟩:=b2x h3
  exact⟨⟨b,d,h1,h4,h5⟩,h2⟩
 have hx:∀i,rest ts i=l->i<=ts.length->i=ts.length-l.length:=fun i h1 h2=>by
  have:=a8y ts i
  rw[h1]at this
  omega
 clear hR
 obtain⟨L,hL⟩:∃L,ts.length=L:=⟨_,rfl⟩
 rw[hL]at hS
 go_enter Tryz.func15,Tryz.ntmps15
 go_wp2_with (first|(go_at_call 26;refine hS.mono ?_;rintro e w1 ⟨⟨b1,d1,rfl,x6,z7⟩,z4⟩)|(go_at_call 27;refine Hid.out ?_))
 have z9:=z6.on z4
 have g:=ext_alloc (Below.refl w1.heap.size w1) (.cells #[vi 0,vi 0] 27)
 have a:=z9.on g
 have f:=d3o ts b1 d1 s.size l (w1.alloc (.cells #[vi 0,vi 0] 27)) hV ((z7.below g).mono (by simp)) (hsp.below a.bl) z8 (by omega) hP
 rw[hL]at f
 have g2:=a0a w1 (.cells #[vi 0,vi 0] 27)
 have hz:=block_lt z9.g1
 refine Lib.hid ?_
 go_wp2_with (go_at_call 27;refine f.mono ?_;rintro e u ⟨i,hi,x7,rfl,j⟩;refine Hid.out ?_)
 have z:=a.on j
 have m:=block_below j g2
 obtain⟨v,hv⟩:∃v,fpos ts s.size i=v:=⟨_,rfl⟩
 obtain rfl:=hx i hi (by omega)
 obtain⟨F,hF⟩:∃F,w1.heap.size=F:=⟨_,rfl⟩
 rw[hF]at m hz
 rw[hv,hF]
 have x8:=block_lt m
 clear f hi hx hF hS g j z9 a z7 g2
 replace hv:Hid _:=hv
 obtain⟨c0,c1,c2,c3,f0,f1,f2,f3⟩:=in4 z.g0
 obtain⟨x0,x1,x2,x3,y0,y1,y2,y3⟩:=in4a z.g0
 obtain⟨p0,p1,q0,q1⟩:=in2 z.g1
 obtain⟨k0,k1,l0,l1⟩:=in2 m
 have r0:=fun o=>(in2 (block_alloc o z.g1)).c0
 have r1:=fun o=>(in2 (block_alloc o z.g1)).c1
 have r2:=fun o=>(in2 (block_alloc o z.g1)).f0
 have r3:=fun o=>(in2 (block_alloc o z.g1)).f1
 have s0:=fun o=>(in2 (block_alloc o m)).c0
 have s1:=fun o=>(in2 (block_alloc o m)).c1
 have s2:=fun o=>(in2 (block_alloc o m)).f0
 have s3:=fun o=>(in2 (block_alloc o m)).f1
 have x9:¬w.heap.size=F:=by omega
 have y4:¬F=w.heap.size:=by omega
 have y5:¬w.heap.size+1=F:=by omega
 have y6:¬F=w.heap.size+1:=by omega
 have y7:¬F=u.heap.size:=by omega
 have y8:¬u.heap.size=F:=by omega
 have y9:¬w.heap.size=u.heap.size:=by omega
 have z0:¬w.heap.size+1=u.heap.size:=by omega
 have p:a0b (fun q=>q=F) u (pu2 u F (vi 2) (vi (v:Nat))):=a1g _ _ _ _
 have z5:PX w (pu2 u F (vi 2) (vi (v:Nat))):=⟨p.box z.g0 (by omega),p.box z.g1 (by omega),((a0b.of_below (S:=no) z.bl).then p (fun q hq e=>by omega)).below (Nat.le_refl _) (fun _ _=>id)⟩
 have gF:=a1p (vi 2) (vi (v:Nat)) m
 have xb:=ext_alloc (Below.refl _ (pu2 u F (vi 2) (vi (v:Nat)))) zbx
 have y:=z5.on xb
 have gY:=block_below xb gF
 refine Lib.hid ?_
 go_wp2
 obtain⟨Y,hY⟩:∃Y,((u.setCell (Ad F 0) (vi 2)).setCell (Ad F 1) (vi (v:Nat))).alloc (.cells #[vi 0,.string ⟨#[]⟩,vi 0,.slice none 0 0] 43)=Y:=⟨_,rfl⟩
 rw[hY]
 replace y:PX w Y:=hY▸y
 replace gY:Y.heap[F]?=some (.cells #[vi 2,vi (v:Nat)] 27):=hY▸gY
 clear hY p z5 gF xb k0 k1 l0 l1 s0 s1 s2 s3 c0 c1 c2 c3 f0 f1 f2 f3 p0 p1 q0 q1 r0 r1 r2 r3 x0 x1 x2 x3 y0 y1 y2 y3
 obtain⟨c0,c1,c2,c3,f0,f1,f2,f3⟩:=in4 y.g0
 obtain⟨p0,p1,q0,q1⟩:=in2 y.g1
 obtain⟨k0,k1,l0,l1⟩:=in2 gY
 go_region_with (fail)
 all_goals
  go_wp2
  obtain⟨X,hX⟩:∃X,(((((Y.setCell (Ad w.heap.size 0) (vi 0)).setCell (Ad w.heap.size 1) (.string ⟨#[]⟩)).setCell (Ad w.heap.size 2) (vi 0)).setCell (Ad w.heap.size 3) (.slice none 0 0)).setCell (Ad (w.heap.size+1) 0) (vi 2)).setCell (Ad (w.heap.size+1) 1) (vi (v:Nat))=X:=⟨_,rfl⟩
  obtain⟨z1,z2,z3⟩:=b2z y 2 v hX
  rw[hX]
  clear hX
  exact bodyPost_ret (c8b (W:=X.drew) rfl rfl z1 z2) rfl ⟨by rw[hv.out],z3.drew⟩
theorem c4f(s:ByteArray)(ts:List Tok)(n:Nd)(l:List PT)(hfit:fitB n=false)(w:World)(hE:ErrV w)(hsp:a4b w)(hR:a3n s.data.toList=.inr ts)(hP:P 64012 12 (nd 1 []) 0 (ts.map pt)=some (.inr (n,l))):Cl 15 #[.string s] w (POut w (.inl (1,0))):=by
 obtain⟨z0,hV,_⟩:=a6r hR
 have y8:=b7x w
 have hS:Cl 26 #[.string s] ((w.alloc zbx).alloc (.cells #[vi 0,vi 0] 27)) fun e w'=>(∃b d,e=.returned (.tuple #[.slice b ts.length d,.agg #[vi 0,vi 0]])/\ts.length<=d/\a6e w' b ts w'.heap.size)/\Below ((w.alloc zbx).alloc (.cells #[vi 0,vi 0] 27)).heap.size ((w.alloc zbx).alloc (.cells #[vi 0,vi 0] 27)) w':=(a9g s _ (hE.on y8.bl)).mono fun e w' h=>by
  rw[hR]at h
  obtain⟨⟨b,n,d,h1,h3⟩,h2⟩:=h
  obtain⟨rfl,h4,h5⟩:=b2x h3
  exact⟨⟨b,d,h1,h4,h5⟩,h2⟩
 clear hR
 obtain⟨L,hL⟩:∃L,ts.length=L:=⟨_,rfl⟩
 rw[hL]at hS
 go_enter Tryz.func15,Tryz.ntmps15
 go_wp2_with (first|(go_at_call 26;refine hS.mono ?_;rintro e w1 ⟨⟨b1,d1,rfl,w7,y9⟩,w8⟩)|(go_at_call 27;refine Hid.out ?_))
 have z5:=y8.on w8
 have z9:=ext_alloc (Below.refl w1.heap.size w1) (.cells #[vi 0,vi 0] 27)
 have z6:=z5.on z9
 have z8:=c4d ts b1 d1 s.size n l (w1.alloc (.cells #[vi 0,vi 0] 27)) hV ((y9.below z9).mono (by simp)) (hsp.below z6.bl) z0 (by omega) hP
 rw[hL]at z8
 have g2:=a0a w1 (.cells #[vi 0,vi 0] 27)
 have hz:=block_lt z5.g1
 refine Lib.hid ?_
 go_wp2_with (go_at_call 27;refine z8.mono ?_;rintro e y ⟨b3,z,rfl,hN,a⟩;refine Hid.out ?_)
 have j:=z6.on a
 have i:=block_below a g2
 rw[World.size_alloc]at hN
 obtain⟨F,hF⟩:∃F,w1.heap.size=F:=⟨_,rfl⟩
 rw[hF]at i hz hN
 rw[hF]
 have w9:=block_lt i
 clear z8 hF hS z9 a z5 z6 y9 g2
 obtain⟨k0,k1,l0,l1⟩:=in2 i
 have s0:=fun o=>(in2 (block_alloc o i)).c0
 have s1:=fun o=>(in2 (block_alloc o i)).c1
 have s2:=fun o=>(in2 (block_alloc o i)).f0
 have s3:=fun o=>(in2 (block_alloc o i)).f1
 have x5:¬w.heap.size=F:=by omega
 have x6:¬F=w.heap.size:=by omega
 have x7:¬w.heap.size+1=F:=by omega
 have x8:¬F=w.heap.size+1:=by omega
 have x9:¬F=y.heap.size:=by omega
 have y4:¬y.heap.size=F:=by omega
 have v:a0b (fun q=>q=F) y (pu2 y F (vi 0) (vi 0)):=a1g _ _ _ _
 have y7:PX w (pu2 y F (vi 0) (vi 0)):=⟨v.box j.g0 (by omega),v.box j.g1 (by omega),((a0b.of_below (S:=no) j.bl).then v (fun q hq e=>by omega)).below (Nat.le_refl _) (fun _ _=>id)⟩
 have y6:=hN.keep v (fun q hq _ e=>by omega)
 have xb:=ext_alloc (Below.refl _ (pu2 y F (vi 0) (vi 0))) (nbx n b3 z)
 have m:=y7.on xb
 have u:=y6.below xb
 have gY:=a0a (pu2 y F (vi 0) (vi 0)) (nbx n b3 z)
 have y5:(pu2 y F (vi 0) (vi 0)).heap.size=y.heap.size:=by simp
 rw[y5]at gY
 refine Lib.hid ?_
 go_wp2_with (go_at_call 28;refine Hid.out ?_)
 obtain⟨Y,hY⟩:∃Y,((y.setCell (Ad F 0) (vi 0)).setCell (Ad F 1) (vi 0)).alloc (.cells #[vi n.k,.string ⟨n.t.toArray⟩,vi n.n,.slice b3 n.kids.length z] 43)=Y:=⟨_,rfl⟩
 replace m:PX w Y:=hY▸m
 replace gY:Y.heap[y.heap.size]?=some (nbx n b3 z):=hY▸gY
 replace u:NdV (fun g=>F+1<=g) Y n (ndv n b3 z):=hY▸u
 rw[hY]
 have x4:w.heap.size+1<y.heap.size:=by omega
 obtain⟨t3,f⟩:∃t3,y.heap.size=t3:=⟨_,rfl⟩
 rw[f]at gY x4
 rw[f]
 clear hY v y7 xb k0 k1 l0 l1 s0 s1 s2 s3 x5 x6 x7 x8 x9 y4 y5 y6 hN i j f w9
 have z4:=b6y _ n b3 z Y u
 rw[hfit]at z4
 refine Lib.hid ?_
 go_wp2_with (go_at_call 28;refine z4.mono ?_;rintro e w5 ⟨rfl,p⟩;refine Hid.out ?_)
 have z7:=m.on p
 have g5:=block_below p gY
 have w6:=u.below p
 clear z4 m gY u p
 obtain⟨c0,c1,c2,c3,f0,f1,f2,f3⟩:=in4 z7.g0
 obtain⟨p0,p1,q0,q1⟩:=in2 z7.g1
 obtain⟨x0,x1,x2,x3,y0,y1,y2,y3⟩:=in4 g5
 refine Lib.hid ?_
 go_wp2
 obtain⟨X,hX⟩:∃X,(((((w5.setCell (Ad w.heap.size 0) (vi 0)).setCell (Ad w.heap.size 1) (.string ⟨#[]⟩)).setCell (Ad w.heap.size 2) (vi 0)).setCell (Ad w.heap.size 3) (.slice none 0 0)).setCell (Ad (w.heap.size+1) 0) (vi 1)).setCell (Ad (w.heap.size+1) 1) (vi 0)=X:=⟨_,rfl⟩
 obtain⟨z1,z2,z3⟩:=b2z z7 1 0 hX
 rw[hX]
 clear hX
 exact bodyPost_ret (c8b rfl rfl z1 z2) rfl ⟨rfl,z3⟩
theorem c0a(s:ByteArray)(ts:List Tok)(n:Nd)(l:List PT)(hfit:fitB n=true)(w:World)(hE:ErrV w)(hsp:a4b w)(hR:a3n s.data.toList=.inr ts)(hP:P 64012 12 (nd 1 []) 0 (ts.map pt)=some (.inr (n,l))):Cl 15 #[.string s] w (POut w (.inr n)):=by
 obtain⟨y9,hV,_⟩:=a6r hR
 have y6:=b7x w
 have hS:Cl 26 #[.string s] ((w.alloc zbx).alloc (.cells #[vi 0,vi 0] 27)) fun e w'=>(∃b d,e=.returned (.tuple #[.slice b ts.length d,.agg #[vi 0,vi 0]])/\ts.length<=d/\a6e w' b ts w'.heap.size)/\Below ((w.alloc zbx).alloc (.cells #[vi 0,vi 0] 27)).heap.size ((w.alloc zbx).alloc (.cells #[vi 0,vi 0] 27)) w':=(a9g s _ (hE.on y6.bl)).mono fun e w' h=>by
  rw[hR]at h
  obtain⟨⟨b,n,d,h1,h3⟩,h2⟩:=h
  obtain⟨rfl,h4,h5⟩:=b2x h3
  exact⟨⟨b,d,h1,h4,h5⟩,h2⟩
 clear hR
 obtain⟨L,hL⟩:∃L,ts.length=L:=⟨_,rfl⟩
 rw[hL]at hS
 go_enter Tryz.func15,Tryz.ntmps15
 go_wp2_with (first|(go_at_call 26;refine hS.mono ?_;rintro e w1 ⟨⟨b1,d1,rfl,w2,y7⟩,w6⟩)|(go_at_call 27;refine Hid.out ?_))
 have z4:=y6.on w6
 have z7:=ext_alloc (Below.refl w1.heap.size w1) (.cells #[vi 0,vi 0] 27)
 have z5:=z4.on z7
 have z6:=c4d ts b1 d1 s.size n l (w1.alloc (.cells #[vi 0,vi 0] 27)) hV ((y7.below z7).mono (by simp)) (hsp.below z5.bl) y9 (by omega) hP
 rw[hL]at z6
 have g2:=a0a w1 (.cells #[vi 0,vi 0] 27)
 have hz:=block_lt z4.g1
 refine Lib.hid ?_
 go_wp2_with (go_at_call 27;refine z6.mono ?_;rintro e y ⟨m,z,rfl,hN,z8⟩;refine Hid.out ?_)
 have f:=z5.on z8
 have a:=block_below z8 g2
 rw[World.size_alloc]at hN
 obtain⟨F,hF⟩:∃F,w1.heap.size=F:=⟨_,rfl⟩
 rw[hF]at a hz hN
 rw[hF]
 have w7:=block_lt a
 clear z6 hF hS z7 z8 z4 z5 y7 g2
 obtain⟨k0,k1,l0,l1⟩:=in2 a
 have s0:=fun o=>(in2 (block_alloc o a)).c0
 have s1:=fun o=>(in2 (block_alloc o a)).c1
 have s2:=fun o=>(in2 (block_alloc o a)).f0
 have s3:=fun o=>(in2 (block_alloc o a)).f1
 have w9:¬w.heap.size=F:=by omega
 have x4:¬F=w.heap.size:=by omega
 have x5:¬w.heap.size+1=F:=by omega
 have x6:¬F=w.heap.size+1:=by omega
 have x7:¬F=y.heap.size:=by omega
 have x8:¬y.heap.size=F:=by omega
 have v:a0b (fun q=>q=F) y (pu2 y F (vi 0) (vi 0)):=a1g _ _ _ _
 have y5:PX w (pu2 y F (vi 0) (vi 0)):=⟨v.box f.g0 (by omega),v.box f.g1 (by omega),((a0b.of_below (S:=no) f.bl).then v (fun q hq e=>by omega)).below (Nat.le_refl _) (fun _ _=>id)⟩
 have y4:=hN.keep v (fun q hq _ e=>by omega)
 have xb:=ext_alloc (Below.refl _ (pu2 y F (vi 0) (vi 0))) (nbx n m z)
 have i:=y5.on xb
 have p:=y4.below xb
 have gY:=a0a (pu2 y F (vi 0) (vi 0)) (nbx n m z)
 have x9:(pu2 y F (vi 0) (vi 0)).heap.size=y.heap.size:=by simp
 rw[x9]at gY
 refine Lib.hid ?_
 go_wp2_with (go_at_call 28;refine Hid.out ?_)
 obtain⟨Y,hY⟩:∃Y,((y.setCell (Ad F 0) (vi 0)).setCell (Ad F 1) (vi 0)).alloc (.cells #[vi n.k,.string ⟨n.t.toArray⟩,vi n.n,.slice m n.kids.length z] 43)=Y:=⟨_,rfl⟩
 replace i:PX w Y:=hY▸i
 replace gY:Y.heap[y.heap.size]?=some (nbx n m z):=hY▸gY
 replace p:NdV (fun g=>F+1<=g) Y n (ndv n m z):=hY▸p
 rw[hY]
 have w8:w.heap.size+1<y.heap.size:=by omega
 obtain⟨t3,z9⟩:∃t3,y.heap.size=t3:=⟨_,rfl⟩
 rw[z9]at gY w8
 rw[z9]
 clear hY v y5 xb k0 k1 l0 l1 s0 s1 s2 s3 w9 x4 x5 x6 x7 x8 x9 y4 hN a f z9 w7
 have z0:=b6y _ n m z Y p
 rw[hfit]at z0
 refine Lib.hid ?_
 go_wp2_with (go_at_call 28;refine z0.mono ?_;rintro e w5 ⟨rfl,j⟩;refine Hid.out ?_)
 have u:=i.on j
 have g5:=block_below j gY
 have w4:=p.below j
 clear z0 i gY p j
 obtain⟨c0,c1,c2,c3,f0,f1,f2,f3⟩:=in4 u.g0
 obtain⟨p0,p1,q0,q1⟩:=in2 u.g1
 obtain⟨x0,x1,x2,x3,y0,y1,y2,y3⟩:=in4 g5
 refine Lib.hid ?_
 go_wp2
 have y8:a0b (fun q=>q=w.heap.size\/q=w.heap.size+1) w5 (pu2 (put4 w5 w.heap.size (vi n.k) (sk n.t) (vi n.n) (.slice m n.kids.length z)) (w.heap.size+1) (vi 0) (vi 0)):=((a2g _ _ _ _ _ _).mono (fun q _ e=>.inl e)).then (a1g _ _ _ _) (fun q _ e=>.inr e)
 have z1:(pu2 (put4 w5 w.heap.size (vi n.k) (sk n.t) (vi n.n) (.slice m n.kids.length z)) (w.heap.size+1) (vi 0) (vi 0)).heap[w.heap.size]?=some (nbx n m z):=(a1a _ _ (by omega)).trans (a0f _ _ _ _ u.g0)
 have z2:(pu2 (put4 w5 w.heap.size (vi n.k) (sk n.t) (vi n.n) (.slice m n.kids.length z)) (w.heap.size+1) (vi 0) (vi 0)).heap[w.heap.size+1]?=some (.cells #[vi 0,vi 0] 27):=a1p _ _ ((a2w _ _ _ _ (by omega)).trans u.g1)
 have z3:=((a0b.of_below (S:=no) u.bl).then y8 (fun q hq e=>by omega)).below (Nat.le_refl _) (fun _ _=>id)
 refine bodyPost_ret (c8b rfl rfl z1 z2) rfl ⟨⟨hfit,m,z,rfl,?_⟩,z3⟩
 exact(w4.keep y8 (fun q hq _ e=>by omega)).weak (fun q hq _=>by omega)
theorem b0m(s:ByteArray)(w:World)(hE:ErrV w)(hsp:a4b w):Cl 15 #[.string s] w (POut w (a2x s.data.toList)):=by
 unfold a2x
 cases hR:a3n s.data.toList with
 | inl x =>
  obtain⟨c,a⟩:=x
  exact c4e s c a w hE hR
 | inr ts =>
  obtain⟨_,_,r,hr⟩:=a6r hR
  simp only[hr]
  cases r with
  | inl l =>
   have:=b9z s ts l w hE hsp hR hr
   rw[show s.size=s.data.toList.length by simp]at this
   exact this
  | inr p =>
   obtain⟨n,l⟩:=p
   simp only
   cases hf:fitB n with
   | true=>exact c0a s ts n l hf w hE hsp hR hr
   | false=>exact c4f s ts n l hf w hE hsp hR hr
end Go.Proofs.YtfbpdbndejefdaaGreatDoor
