import Derived.Test.YtomniogfpfbolaaGreatDoorS50
import Derived.Test.YtomniogfpfbolaaGreatDoorS18
namespace Go.Proofs.YtomniogfpfbolaaGreatDoor.V
open Go.RowKit Go C
set_option maxRecDepth 100000
set_option maxHeartbeats 8000000
set_option linter.all false
variable {W w:World} {B g cap:Nat} {a b c d e:Value} {tm:Array Value} {sl:List Int} {l:List UInt8}
theorem d7d:(Tryz.prog.info? 47).map (fun i=>(i.zero,i.size,i.bytes))=some (some (.agg #[vi 0,.string ⟨#[]⟩,vi 0,vi 0,.slice none 0 0]),5,64):=by kernel_rfl
abbrev pbx (x:Pt) (b:Option Addr) (cap:Nat):Obj:=.cells #[vi x.k,.string x.t,vi x.n,vi x.sl,.slice b x.kids.length cap] 47
abbrev zpx:Obj:=.cells #[vi 0,.string ⟨#[]⟩,vi 0,vi 0,.slice none 0 0] 47
structure In5 (W:World) (B:Nat) (a b c d e:Value):Prop where
 c0:W.cell? (Ad B 0)=some a
 c1:W.cell? (Ad B 1)=some b
 c2:W.cell? (Ad B 2)=some c
 c3:W.cell? (Ad B 3)=some d
 c4:W.cell? (Ad B 4)=some e
 f0:W.frozen? (Ad B 0)=false
 f1:W.frozen? (Ad B 1)=false
 f2:W.frozen? (Ad B 2)=false
 f3:W.frozen? (Ad B 3)=false
 f4:W.frozen? (Ad B 4)=false
theorem in5(h:W.heap[B]?=some (.cells #[a,b,c,d,e] 47)):In5 W B a b c d e:=⟨q2z h rfl,q2z h rfl,q2z h rfl,q2z h rfl,q2z h rfl,q6z h,q6z h,q6z h,q6z h,q6z h⟩
abbrev put5 (W:World) (B:Nat) (a b c d e:Value):World:=((((W.setCell (Ad B 0) a).setCell (Ad B 1) b).setCell (Ad B 2) c).setCell (Ad B 3) d).setCell (Ad B 4) e
theorem put5_same(a' b' c' d' e':Value)(h:W.heap[B]?=some (.cells #[a,b,c,d,e] 47)):(put5 W B a' b' c' d' e').heap[B]?=some (.cells #[a',b',c',d',e'] 47):=q7z _ (q7z _ (q7z _ (q7z _ (q7z _ h))))
theorem put5_self(W:World)(B:Nat)(a b c d e:Value):a0b (fun k=>k=B) W (put5 W B a b c d e) :=
 (((((a0b.refl (fun k=>k=B) W).set B 0 a (fun _=>rfl)).set B 1 b (fun _=>rfl)).set B 2 c (fun _=>rfl)).set B 3 d (fun _=>rfl)).set B 4 e (fun _=>rfl)
theorem d8y{v:Value}(h:tm[4]?.getD undef=Po B 0)(hv:tm[5]?.getD undef=v)(hx:W.heap[B]?=some (.cells #[a,b,c,d,e] 47)):(results Tryz.f17 tm).run Tryz.prog W=.ok (.tuple #[.agg #[a,b,c,d,e],v]) W:=by
 obtain⟨c0,c1,c2,c3,c4,_,_,_,_,_⟩:=in5 hx
 subst hv
 simp[results,Tryz.results17,go_sem,h,c0,c1,c2,c3,c4]
def SlV (W:World) (v:Value) (sl:List Int):Prop:=∃a cap,v=.slice a sl.length cap/\sl.length<=cap/\(sl=[]\/∃g off,a=some (Ad g off)/\g<W.heap.size/\∀(j:Nat) (x:Int),sl[j]?=some x->W.cell? (Ad g (off+j))=some (vi x))
theorem c5l(n:Nd):∀s:List Int,manyN n<=s.length->(layN n s).2=s.drop (manyN n):=by
 refine a3x (m:=fun n=>∀s:List Int,manyN n<=s.length->(layN n s).2=s.drop (manyN n)) (fun k t o ks w s h=>?_) n
 have key:∀(l:List Nd) (s:List Int),(∀x∈l,x∈ks)->manyN.go l<=s.length->(layN.go l s).2=s.drop (manyN.go l):=by
  intro l
  induction l with
  | nil=>intro s _ _;simp[layN.go,manyN.go]
  | cons x l ih2 =>
   intro s z h
   simp only[manyN.go]at h⊢
   simp only[layN.go]
   rw[w x (z x (by simp)) s (by omega),ih2 _ (fun y v=>z y (by simp[v])) (by simp;omega),List.drop_drop]
 simp only[manyN]at h⊢
 simp only[layN]
 rw[key ks s.tail (fun _ h=>h) (by simp;omega)]
 cases s with
 | nil=>simp at h
 | cons a s=>simp
section
variable [DecidableEq Vl]
def nx:Nat->List Bool->Nat
 | _,[]=>0
 | k,true::l=>nx k l+1
 | 0,false::_=>0
 | k+1,false::l=>nx k l+1
theorem tkH{P:Program}{md:Region.Mode}{ops:Array Oper}{Q:Exit->Act->World->Prop}{S:World->Prop}{oi:Oper}{fuel:Nat}{listed:Array Bool}{a:Act}(k:Nat)(hi:ops[nx k listed.toList]?=some oi)(hb:(Region.noSelect ops&&(Region.free md ops listed (nx k listed.toList)&&(Region.ready md ops listed).contains (nx k listed.toList)))=true)(hw:Region.wanted oi (yielded ops a.tmps)=true)(hS:S w)(hh:∃v,(∀w,S w->(execOp a.eval oi).run P w=.ok (.value v) w)/\(∀c a w,Q (.panic c) (a.put oi.dst v) w->Q (.panic c) a w)/\wpAnyH P md ops Q S fuel (listed.setIfInBounds (nx k listed.toList) true) (a.put oi.dst v) w):wpAnyH P md ops Q S (fuel+1) listed a w:=by
 simp only[Bool.and_eq_true]at hb
 obtain⟨v,z,y,h⟩:=hh
 exact wpAnyH_take hi hb.1 hb.2.1 hb.2.2 y (Or.inl ⟨hw,z⟩) hS h
theorem gq1{α:Type}{l:List α}{i:Nat} : l.toArray[i]?=l[i]?:=List.getElem?_toArray
theorem gq2{α:Type}{a:α}{l:List α}{i:Nat}:(a::l)[i+1]?=l[i]?:=List.getElem?_cons_succ
theorem gq3{α:Type}{a:α}{l:List α}:(a::l)[0]?=some a:=List.getElem?_cons_zero
theorem sq2{α:Type}{a b:α}{l:List α}:(a::l).set 0 b=b::l:=rfl
theorem sq3{α:Type}{a b:α}{l:List α}{n:Nat}:(a::l).set (n+1) b=a::l.set n b:=rfl
theorem sq1{α:Type}(l:List α)(i:Nat)(x:α):l.toArray.setIfInBounds i x=(l.set i x).toArray:=List.setIfInBounds_toArray ..
theorem SlV.tail{off:Nat}(h:SlV W (.slice (some (Ad g off)) sl.length cap) sl)(h0:sl≠[]):SlV W (.slice (if cap=1 then some (Ad g off) else some (Ad g (off+1))) (sl.length-1) (cap-1)) sl.tail:=by
 obtain⟨a,c,e,h1,h2⟩:=h
 cases e
 have u:0<sl.length:=List.length_pos_iff.2 h0
 refine⟨_,_,by rw[List.length_tail],by simp;omega,?_⟩
 by_cases hc:cap=1
 ·refine .inl (List.length_eq_zero_iff.1 ?_)
  simp;omega
 ·rw[if_neg hc]
  rcases h2 with h2|⟨t,z,v,w,h2⟩
  ·exact absurd h2 h0
  ·cases v
   refine .inr ⟨g,off+1,rfl,w,fun j x y=>?_⟩
   have:=h2 (j+1) x (by rw[List.getElem?_tail]at y;exact y)
   rw[show off+(j+1)=off+1+j by omega]at this
   exact this
def LayR (w0 w:World) (n:Nd) (s:List Int) (e:Ending) (w':World):Prop:=∃pb pc v',e=.returned (.tuple #[ptv (layN n s).1 pb pc,v'])/\PK (fun g=>w.heap.size<=g) w' (layN n s).1.kids pb pc/\SlV w0 v' (layN n s).2/\Bw w w'
def LayD (n:Nd):Prop:=∀(b:Option Addr) (cap:Nat) (v:Value) (s:List Int) (w0 w:World),Bw w0 w->NdV (fun _=>True) w n (ndv n b cap)->SlV w0 v s->manyN n<=s.length->manyN n<=600->Cl 17 #[ndv n b cap,v] w (LayR w0 w n s)
theorem c5m{y:Pt}{b:Option Addr}{c:Nat}(h:W.heap[g]?=some (pbx y b c)):∀j u,[vi y.k,.string y.t,vi y.n,vi y.sl,.slice b y.kids.length c][j]?=some u->W.cell? ((Ad g 0).add j)=some u:=World.news_of_block (cs:=#[vi y.k,.string y.t,vi y.n,vi y.sl,.slice b y.kids.length c]) h
structure LI (w0 w:World) (k:Int) (t:List UInt8) (o s0:Int) (ks:List Nd) (b:Option Addr) (cap:Nat) (P:List Pt×List Int) (j:Nat) (sv:Value) (wr:World) (vb:Option Addr) (vc:Nat) (ps:List Pt) (sj:List Int):Prop where
 eq:(ps++(layN.go (ks.drop j) sj).1,(layN.go (ks.drop j) sj).2)=P
 len:ps.length=j
 many:manyN.go (ks.drop j)<=sj.length
 m6:manyN.go (ks.drop j)<=600
 g0:wr.heap[w.heap.size]?=some (nbx ⟨k,t,o,ks⟩ b cap)
 g1:wr.heap[w.heap.size+1]?=some zpx
 g2:wr.heap[w.heap.size+2]?=some (.cells #[vi k,.string ⟨t.toArray⟩,vi o,vi s0,.slice vb j vc] 47)
 row:PRow (fun g=>w.heap.size+2<g) wr (.slice vb j vc) ps
 sl:SlV w0 sv sj
 bl:Bw w wr
theorem LI.next{w0:World}{k:Int}{t:List UInt8}{o s0:Int}{ks:List Nd}{b:Option Addr}{P:List Pt×List Int}{j:Nat}{sv:Value}{wr:World}{vb:Option Addr}{vc:Nat}{ps:List Pt}{sj:List Int}(h:LI w0 w k t o s0 ks b cap P j sv wr vb vc ps sj){y:Nd}(hy:ks[j]?=some y){b':Option Addr}{cap':Nat}{pb:Option Addr}{pc:Nat}{v':Value}{w3:World}(hPK:PK (fun g=>((wr.alloc (nbx y b' cap')).alloc zpx).heap.size<=g) w3 (layN y sj).1.kids pb pc)(hsl:SlV w0 v' (layN y sj).2)(hb:Below ((wr.alloc (nbx y b' cap')).alloc zpx).heap.size ((wr.alloc (nbx y b' cap')).alloc zpx) w3) :
  ∃s,put5 w3 (wr.heap.size+1) (vi (layN y sj).1.k) (.string (layN y sj).1.t) (vi (layN y sj).1.n) (vi (layN y sj).1.sl) (.slice pb (layN y sj).1.kids.length pc)=s/\w3.heap[wr.heap.size+1]?=some zpx/\s.heap[wr.heap.size+1]?=some (pbx (layN y sj).1 pb pc)/\s.heap[w.heap.size+2]?=some (.cells #[vi k,.string ⟨t.toArray⟩,vi o,vi s0,.slice vb j vc] 47)/\∃d,s.alloc (pbx (layN y sj).1 pb pc)=d/\d.heap[s.heap.size]?=some (pbx (layN y sj).1 pb pc)/\d.heap[w.heap.size+2]?=some (.cells #[vi k,.string ⟨t.toArray⟩,vi o,vi s0,.slice vb j vc] 47)/\∃xs,d.ownsRow 0 47 5 (.slice vb j vc) j xs/\∀w6 g3 i,w6.ownsRow 0 47 5 (.slice (some (Ad g3 0)) (j+1) i) (j+1) (xs++[vi (layN y sj).1.k,.string (layN y sj).1.t,vi (layN y sj).1.n,vi (layN y sj).1.sl,.slice pb (layN y sj).1.kids.length pc])->d.grownBy w6 (Value.ownBlock (.slice vb j vc))->(Value.ownBlock (.slice vb j vc)=some g3\/g3=d.heap.size)->w6.heap[w.heap.size+2]?=some (.cells #[vi k,.string ⟨t.toArray⟩,vi o,vi s0,.slice vb j vc] 47)/\LI w0 w k t o s0 ks b cap P (j+1) v' (w6.setCell (Ad (w.heap.size+2) 4) (.slice (some (Ad g3 0)) (j+1) i)) (some (Ad g3 0)) i (ps++[(layN y sj).1]) (layN y sj).2:=by
 have y0:j<ks.length:=(List.getElem?_eq_some_iff.1 hy).1
 have z1:ks.drop j=y::ks.drop (j+1):=by rw[List.drop_eq_getElem_cons y0];congr 1;exact(List.getElem?_eq_some_iff.1 hy).2
 have c:=h.eq
 have z6:=h.many
 have y2:=h.m6
 rw[z1,layN.go]at c
 rw[z1,manyN.go]at z6 y2
 obtain⟨x,y3⟩:=exq ((layN y sj).1)
 have e:=c5l y sj (by omega)
 obtain⟨s2,y4⟩:=exq ((layN y sj).2)
 rw[y4]at e hsl c⊢
 rw[y3]at hPK c⊢
 have y8:=q5z h.g2
 have z5:((wr.alloc (nbx y b' cap')).alloc zpx).heap.size=wr.heap.size+1+1:=by simp
 have y9:Bw wr ((wr.alloc (nbx y b' cap')).alloc zpx):=q1z (q1z bz0 _) _
 have q1:((wr.alloc (nbx y b' cap')).alloc zpx).heap[wr.heap.size+1]?=some zpx:=C.new2 _ _ _
 obtain⟨X,hX⟩:=exq ((wr.alloc (nbx y b' cap')).alloc zpx)
 rw[hX]at hPK hb z5 y9 q1
 have p:=q3z y9 hb
 have q3:=q0z hb q1
 obtain⟨bv,cv,x9,z3⟩:=h.row.form
 have z0:∀g,Value.ownBlock (.slice vb j vc)=some g->w.heap.size+2<g/\g<wr.heap.size:=fun g r=>z3 g r
 have z7:PRow (fun g=>w.heap.size+2<g/\g<wr.heap.size) w3 (.slice vb j vc) ps:=(h.row.weak (S':=fun g=>w.heap.size+2<g/\g<wr.heap.size) (fun g r y1=>⟨r,y1⟩)).below p
 refine⟨_,rfl,q3,put5_same _ _ _ _ _ q3,?_⟩
 have v:=put5_self w3 (wr.heap.size+1) (vi x.k) (.string x.t) (vi x.n) (vi x.sl) (.slice pb x.kids.length pc)
 obtain⟨s,y5⟩:=exq (put5 w3 (wr.heap.size+1) (vi x.k) (.string x.t) (vi x.n) (vi x.sl) (.slice pb x.kids.length pc))
 rw[y5]at v⊢
 have a:∀q,q<wr.heap.size->s.heap[q]?=wr.heap[q]?:=fun q hq=>(v.block q (by have:=p.size;omega) (by omega)).trans (p.block q hq)
 have x6:w3.heap.size<=s.heap.size:=v.size
 have x5:=hb.size
 have a2:=(a _ y8).trans h.g2
 refine⟨a2,_,rfl,C.new1 _ _,q4z _ a2,?_⟩
 have z8:PRow (fun g=>w.heap.size+2<g/\g<wr.heap.size) s (.slice vb j vc) ps:=z7.keep v (fun g r _=>by omega)
 have u:=q1z (Below.refl s.heap.size s) (pbx x pb pc)
 have f:PRow (fun g=>w.heap.size+2<g) (s.alloc (pbx x pb pc)) (.slice vb j vc) ps:=(z8.weak (fun g r _=>r.1)).below u
 have z9:PK (fun g=>w.heap.size+2<g/\some g≠Value.ownBlock (.slice vb j vc)) (s.alloc (pbx x pb pc)) x.kids pb pc:=((hPK.keep v (fun g r _=>by omega)).weak (fun g r _=>⟨by omega,fun ee=>by have:=(z0 g ee.symm).2;omega⟩)).below u
 obtain⟨xs,ho,hs,hn⟩:=f.own
 obtain⟨d,y6⟩:=exq (s.alloc (pbx x pb pc))
 rw[y6]at u f z9 ho hn⊢
 have l:=h.len
 have z2:=ho
 rw[l]at z2
 refine⟨xs,z2,fun w6 g3 i y7 r x8=>?_⟩
 have x7:=u.size
 have z:∀q,q<=w.heap.size+2->w6.heap[q]?=wr.heap[q]?:=fun q hq=>(r.block q (by omega) (fun ee=>by have:=(z0 q ee.symm).1;omega)).trans ((u.block q (by omega)).trans (a q (by omega)))
 have a6:=(z _ (Nat.le_refl _)).trans h.g2
 have z4:=PRow.snoc (by exact ho) hs hn z9 (by rw[l];exact y7) r x8 (fun q hq=>by omega)
 rw[l]at z4
 refine⟨a6,⟨?_,by simp[l],?_,?_,?_,?_,?_,?_,hsl,?_⟩⟩
 ·rw[<- c];simp
 ·rw[e,List.length_drop];omega
 ·omega
 ·exact(q8z _ _ (by omega)).trans ((z _ (by omega)).trans h.g0)
 ·exact(q8z _ _ (by omega)).trans ((z _ (by omega)).trans h.g1)
 ·exact(q7z _ a6).trans (by simp)
 ·exact z4.keep (a1u w6 (w.heap.size+2) 4 _) (fun g r _ ee=>by omega)
 ·refine⟨?_,?_,?_,?_,fun q hq=>?_⟩
  ·exact r.os.trans (u.os.trans (v.os.trans (p.os.trans h.bl.os)))
  ·exact r.tape.trans (u.tape.trans (v.tape.trans (p.tape.trans h.bl.tape)))
  ·exact r.output.trans (u.output.trans (v.output.trans (p.output.trans h.bl.output)))
  ·have:=r.size
   have:=h.bl.size
   have:=p.size
   simp
   omega
  ·exact(q8z _ _ (by omega)).trans ((z q (by omega)).trans (h.bl.block q hq))
theorem d3v(n:Nd):LayD n:=by
 refine a3x (m:=LayD) (fun k t o ks ih=>?_) n
 intro b cap v s w0 w hbw hN hsl hm h6
 have hKA:=KA.of hN
 obtain⟨P,hP⟩:=exq (layN.go ks s.tail)
 have hm1:1+manyN.go ks=manyN ⟨k,t,o,ks⟩:=by simp only[manyN];omega
 have hs0:s≠[]:=by intro ee;rw[ee]at hm;simp only[List.length_nil]at hm;omega
 obtain⟨a,sc,rfl,hcap,hcell⟩:=hsl
 have hsl0:SlV w0 (.slice a s.length sc) s:=⟨a,sc,rfl,hcap,hcell⟩
 rcases hcell with hcell|⟨gs,os,rfl,hgs,hcell⟩
 ·exact absurd hcell hs0
 obtain⟨s0,hs00⟩:∃s0,s[0]?=some s0:=⟨_,List.getElem?_eq_getElem (List.length_pos_iff.2 hs0)⟩
 have hhd:s.headD 0=s0:=by cases s with|nil=>exact absurd rfl hs0|cons x s=>simpa using hs00
 have hc0:=hcell 0 s0 hs00
 have hslt:=hsl0.tail hs0
 obtain⟨tb,htb⟩:∃tb:ByteArray,(⟨t.toArray⟩:ByteArray)=tb:=⟨_,rfl⟩
 obtain⟨V0,hV0⟩:=exq ((w.alloc (.cells #[vi k,.string tb,vi o,.slice b ks.length cap] 34)).alloc (.cells #[vi 0,.string ⟨#[]⟩,vi 0,vi 0,.slice none 0 0] 47))
 have hb0:Bw w V0:=by rw[<- hV0];exact q1z (q1z bz0 _) _
 have q0:V0.heap[w.heap.size]?=some (nbx ⟨k,t,o,ks⟩ b cap):=by rw[<- hV0,<- htb];exact q4z _ (C.new1 _ _)
 have q1:V0.heap[w.heap.size+1]?=some zpx:=by rw[<- hV0];exact C.new2 _ _ _
 obtain⟨V1,hV1⟩:=exq (V0.drew)
 have hb1:Bw w V1:=by rw[<- hV1];exact hb0.drew
 have hsz:V1.heap.size=w.heap.size+2:=by rw[<- hV1,<- hV0];simp
 have y0:V1.heap[w.heap.size]?=some (nbx ⟨k,t,o,ks⟩ b cap):=by rw[<- hV1];exact q0
 have y1:V1.heap[w.heap.size+1]?=some zpx:=by rw[<- hV1];exact q1
 have hgsw:gs<w.heap.size:=Nat.lt_of_lt_of_le hgs hbw.size
 have hS:∀V,Bw w V->V.heap[w.heap.size]?=some (nbx ⟨k,t,o,ks⟩ b cap)->(fun V=>Ce V w.heap.size 0 (vi k)/\Ce V w.heap.size 1 (.string tb)/\Ce V w.heap.size 2 (vi o)/\Ce V gs os (vi s0)) V:=fun V hb hg=>by
  have hcs:=(hb.cell (p:=(Ad gs (os+0))) hgsw).trans ((hbw.cell (p:=(Ad gs (os+0))) hgs).trans hc0)
  have d0:Ce V w.heap.size 1 (.string ⟨t.toArray⟩):=q2z hg rfl
  rw[htb]at d0
  exact⟨q2z hg rfl,d0,q2z hg rfl,hcs⟩
 have hS1:=hS V1 hb1 y0
 obtain⟨V2,hV2⟩:=exq (V1.alloc (.cells #[vi 0,.string ⟨#[]⟩,vi 0,vi 0,.slice none 0 0] 47))
 have hb2:Bw w V2:=by rw[<- hV2];exact q1z hb1 _
 have z0:V2.heap[w.heap.size]?=some (nbx ⟨k,t,o,ks⟩ b cap):=by rw[<- hV2];exact q4z _ y0
 have z1:V2.heap[w.heap.size+1]?=some zpx:=by rw[<- hV2];exact q4z _ y1
 have z2:V2.heap[w.heap.size+2]?=some zpx:=by rw[<- hV2,<- hsz];exact C.new1 _ _
 have hS2:=hS V2 hb2 z0
 obtain⟨V3,hV3⟩:=exq (put5 V2 (w.heap.size+2) (vi k) (.string tb) (vi o) (vi s0) (.slice none 0 0))
 have hk3:a0b (fun q=>q=w.heap.size+2) V2 V3:=by rw[<- hV3];exact put5_self _ _ _ _ _ _ _
 have hb3:Bw w V3:=((a0b.of_below (S:=fun _=>False) hb2).then hk3 (fun j hj ee=>by omega)).below (Nat.le_refl _) (fun _ _=>id)
 have x0:=(hk3.block _ (q5z z0) (by omega)).trans z0
 have x1:=(hk3.block _ (q5z z1) (by omega)).trans z1
 have x2:V3.heap[w.heap.size+2]?=some (.cells #[vi k,.string tb,vi o,vi s0,.slice none 0 0] 47):=by rw[<- hV3];exact put5_same _ _ _ _ _ z2
 have hS3:=hS V3 hb3 x0
 obtain⟨u0,u1,u2,u3,u4,f0,f1,f2,f3,f4⟩:=in5 z2
 obtain⟨L,hL⟩:=exq (ks.length)
 have nk3:Ce V3 w.heap.size 3 (.slice b L cap):=by rw[<- hL];exact q2z x0 rfl
 obtain⟨st,hst⟩:∃st:Option Addr,(if sc=1 then some (Ad gs os) else some (Ad gs (os+1)))=st:=⟨_,rfl⟩
 rw[hst]at hslt
 have hI:LI w0 w k t o s0 ks b cap P 0 (.slice st (s.length-1) (sc-1)) V3 none 0 [] s.tail:=⟨by rw[List.drop_zero,<- hP];simp,rfl,by rw[List.drop_zero,List.length_tail];omega,by rw[List.drop_zero];omega,x0,x1,by rw[htb];exact x2,PRow.nil _ _,hslt,hb3⟩
 have hcapk:=hKA.1
 have hLc:(L:Int)<=(cap:Int):=by omega
 have hsl1:0<s.length:=List.length_pos_iff.2 hs0
 have hfin:∀sv wr vb vc ps sj,LI w0 w k t o s0 ks b cap P L sv wr vb vc ps sj->∃X,put5 wr (w.heap.size+1) (vi k) (.string tb) (vi o) (vi s0) (.slice vb L vc)=X/\X.heap[w.heap.size+1]?=some (.cells #[vi k,.string tb,vi o,vi s0,.slice vb L vc] 47)/\wr.heap[w.heap.size+2]?=some (.cells #[vi k,.string tb,vi o,vi s0,.slice vb L vc] 47)/\wr.heap[w.heap.size+1]?=some zpx/\LayR w0 w ⟨k,t,o,ks⟩ s (.returned (.tuple #[.agg #[vi k,.string tb,vi o,vi s0,.slice vb L vc],sv])) X:=fun sv wr vb vc ps sj h=>by
  have hend:P=(ps,sj):=by
   have:=h.eq
   rw[List.drop_eq_nil_of_le (by omega),layN.go]at this
   rw[<- this];simp
  have hg2:=h.g2
  rw[htb]at hg2
  have hkX:=put5_self wr (w.heap.size+1) (vi k) (.string tb) (vi o) (vi s0) (.slice vb L vc)
  refine⟨_,rfl,put5_same _ _ _ _ _ h.g1,hg2,h.g1,?_⟩
  obtain⟨vb',vc',hvv,hpk⟩:=(h.row.keep (W':=put5 wr (w.heap.size+1) (vi k) (.string tb) (vi o) (vi s0) (.slice vb L vc)) hkX (fun g hg _=>by omega)).pk
  cases hvv
  have hlay:layN ⟨k,t,o,ks⟩ s=(⟨k,tb,o,s0,ps⟩,sj):=by rw[layN,hP,hend,hhd,htb]
  unfold LayR
  rw[hlay]
  exact⟨vb,vc,sv,by rw[<- h.len],hpk.weak (fun g hg _=>by omega),h.sl,((a0b.of_below (S:=fun _=>False) h.bl).then hkX (fun j hj ee=>by omega)).below (Nat.le_refl _) (fun _ _=>id)⟩
 have hround:∀j sv wr vb vc ps sj,j<L->LI w0 w k t o s0 ks b cap P j sv wr vb vc ps sj->∃y g off b' cap' X,b=some (Ad g off)/\g<wr.heap.size/\Ce wr g (off+j*4) (vi y.k)/\Ce wr g (off+j*4+1) (sk y.t)/\Ce wr g (off+j*4+2) (vi y.n)/\Ce wr g (off+j*4+3) (.slice b' y.kids.length cap')/\(wr.alloc (.cells #[vi y.k,sk y.t,vi y.n,.slice b' y.kids.length cap'] 34)).alloc (.cells #[vi 0,.string ⟨#[]⟩,vi 0,vi 0,.slice none 0 0] 47)=X/\X.heap[wr.heap.size]?=some (nbx y b' cap')/\X.heap[wr.heap.size+1]?=some zpx/\Cl 17 #[.agg #[vi y.k,sk y.t,vi y.n,.slice b' y.kids.length cap'],sv] X (LayR w0 X y sj)/\ks[j]?=some y:=fun j sv wr vb vc ps sj hj h=>by
  have hjk:j<ks.length:=by omega
  obtain⟨y,hy⟩:∃y,ks[j]?=some y:=⟨_,List.getElem?_eq_getElem hjk⟩
  have hKr:KA (fun _=>True) wr b cap ks:=hKA.on (fun g _ hlt=>h.bl.block g hlt)
  obtain⟨g,off,b',cap',rfl,c0,c1,c2,c3,hyV⟩:=hKr.at hy
  have hdr:ks.drop j=y::ks.drop (j+1):=by rw[List.drop_eq_getElem_cons hjk];congr 1;exact(List.getElem?_eq_some_iff.1 hy).2
  have hmany:=h.many
  have hm6:=h.m6
  rw[hdr,manyN.go]at hmany hm6
  have hbX:Bw wr ((wr.alloc (nbx y b' cap')).alloc zpx):=q1z (q1z bz0 _) _
  have hlt:=World.block_lt_of_cell? _ _ c0
  refine⟨y,g,off,b',cap',_,rfl,hlt,c0,c1,c2,c3,rfl,q4z _ (C.new1 _ _),C.new2 _ _ _,?_,hy⟩
  exact ih y (List.mem_of_getElem? hy) b' cap' sv sj w0 _ (q3z (q3z hbw h.bl) hbX) (hyV.below hbX) h.sl (by omega) (by omega)
 have hnext:∀j sv wr vb vc ps sj (y:Nd) b' cap' X pb pc v' w3,LI w0 w k t o s0 ks b cap P j sv wr vb vc ps sj->ks[j]?=some y->(wr.alloc (.cells #[vi y.k,sk y.t,vi y.n,.slice b' y.kids.length cap'] 34)).alloc (.cells #[vi 0,.string ⟨#[]⟩,vi 0,vi 0,.slice none 0 0] 47)=X->PK (fun g=>X.heap.size<=g) w3 (layN y sj).1.kids pb pc->SlV w0 v' (layN y sj).2->Bw X w3->_:=fun j sv wr vb vc ps sj y b' cap' X pb pc v' w3 h hy hX hp hs hb=>LI.next (b':=b') (cap':=cap') h hy (hX▸hp) hs (hX▸hb)
 show Cl 17 #[.agg #[vi k,.string ⟨t.toArray⟩,vi o,.slice b ks.length cap],.slice (some (Ad gs os)) s.length sc] w _
 rw[htb,hL]
 rw[hL]at hV0
 obtain⟨SL,hSL⟩:=exq (s.length)
 rw[hSL]at hsl1 hI⊢
 have hsi:(0:Int)<(SL:Int):=by omega
 have hsi1:(1:Int)<=(SL:Int):=by omega
 have hL4:L<=1000:=by rw[<- hL];have:=a1g ks;omega
 obtain⟨i0,hi0,hz0,hz1,hz2⟩:=info_parts d7d
 replace hfin:Hid _:=hfin
 replace hround:Hid _:=hround
 replace hnext:Hid _:=hnext
 replace hV1:Hid _:=hV1
 replace hV2:Hid _:=hV2
 replace hV3:Hid _:=hV3
 replace hsz:Hid _:=hsz
 replace hI:Hid _:=hI
 replace hS1:Hid _:=hS1
 replace hS2:Hid _:=hS2
 replace hS3:Hid _:=hS3
 replace nk3:Hid _:=nk3
 clear ih hbw hN hm h6 hKA hP hm1 hs0 hcap hsl0 hcell hs00 hhd hc0 hslt htb hb0 q0 q1 hb1 y0 y1 hgsw hS hb2 z0 z1 z2 hk3 hb3 x0 x1 x2 hL hcapk hSL hgs
 go_enter Tryz.func17,Tryz.ntmps17
 go_wp2
 clear hV0
 refine wp_region_held_drew (S:=fun V=>Ce V w.heap.size 0 (vi k)/\Ce V w.heap.size 1 (.string tb)/\Ce V w.heap.size 2 (vi o)/\Ce V gs os (vi s0)) (by kernel_rfl) (by rw[hV1.out];exact hS1.out) (fun hHeld=>?_)
 change wpAnyH _ _ _ _ _ 12 _ _ _
 rw[hV1.out]at hHeld⊢
 replace hV2:=hV2.out
 replace hV3:((((V2.setCell (Ad (w.heap.size+2) 0) (vi k)).setCell (Ad (w.heap.size+2) 1) (.string tb)).setCell (Ad (w.heap.size+2) 2) (vi o)).setCell (Ad (w.heap.size+2) 3) (vi s0)).setCell (Ad (w.heap.size+2) 4) (.slice none 0 0)=V3:=hV3.out
 replace hS2:=hS2.out
 replace hS3:=hS3.out
 iterate 10 (refine tkH 0 (by simp only[nx,gq1,gq2,gq3];rfl) (by kernel_rfl) (by rfl) hHeld ⟨_,by intro w ⟨_,_,_,_⟩;go_simp;try with_reducible rfl,by exact fun _ _ _ h=>h,?_⟩;try simp only[Act.put,sq1,sq2,sq3])
 refine wpAnyH_ready (rs:=[10]) (by kernel_rfl) (by simp) ?_
 refine AllReadyH.cons rfl (fun K hK=>?_) .nil
 go_simp
 try rw[hV2]
 rw[hsz.out]
 refine hK.out _ _ hS2 (fun _=>?_)
 clear hK K
 try simp only[Act.put,sq1,sq2,sq3]
 refine wpAnyH_ready (rs:=[11]) (by kernel_rfl) (by simp) ?_
 refine AllReadyH.cons rfl (fun K hK=>?_) .nil
 go_simp
 try rw[hV3]
 refine hK.out _ _ hS3 (fun _=>?_)
 clear hK K
 try simp only[Act.put,sq1,sq2,sq3]
 refine wpAnyH_done (by kernel_rfl) ?_ _
 refine Hid.out ?_
 clear hHeld hS2 hS3 hV2 hV3 u0 u1 u2 u3 u4 f0 f1 f2 f3 f4 hV1 hS1 hsz
 replace nk3:=nk3.out
 refine Lib.hid ?_
 go_wp2
 go_loopw [1,25] (fun sv ix wr=>∃j:Nat,j<=L/\ix=vi (j:Nat)/\∃vb vc ps sj,LI w0 w k t o s0 ks b cap P j sv wr vb vc ps sj) (fun _ ix _=>L-(intOf ix).toNat)
 case atStart=>exact⟨0,Nat.zero_le _,rfl,_,_,_,_,hI.out⟩
 case round =>
  obtain⟨j,hj,rfl,vb,vc,ps,sj,hLI⟩:=hrel
  clear hI nk3
  by_cases hlt:j<L
  ·have hlt':(j:Int)<(L:Int):=by omega
   have hge:(0:Int)<=(j:Int):=by omega
   have hj1:Hid (j+1<=L):=hlt
   obtain⟨y,g,off,b',cap',X,rfl,hgl,c0,c1,c2,c3,hX,m0,m1,hcall,hy⟩:=hround.out _ _ _ _ _ _ _ hlt hLI
   obtain⟨n0,n1,n2,n3,_,_,_,_⟩:=in4 m0
   have hnx:=fun pb pc v' w3=>hnext.out _ _ _ _ _ _ _ y b' cap' X pb pc v' w3 hLI hy hX
   obtain⟨pp,hpp⟩:=exq (layN y sj)
   unfold LayR at hcall
   rw[hpp]at hnx hcall
   obtain⟨py,s2⟩:=pp
   replace hnx:Hid _:=hnx
   have hj9:j<=999:=by omega
   clear hround hnext hfin hpp hLI hy m0
   go_wp2_with (go_at_call 17;refine hcall.mono ?_;rintro e w3 ⟨pb,pc,v',rfl,hPK,hsl',hb3⟩;refine Hid.out ?_)
   obtain⟨w4,hw4,q3,q4,a4,w5,hw5,n5,a5,xs,hown,hnx⟩:=hnx.out pb pc v' w3 hPK hsl' hb3
   try dsimp only at hw4 q4 hw5 n5 hnx
   obtain⟨e0,e1,e2,e3,e4,ff0,ff1,ff2,ff3,ff4⟩:=in5 q3
   obtain⟨d0,d1,d2,d3,d4,_,_,_,_,_⟩:=in5 q4
   obtain⟨_,_,_,_,k4,_,_,_,_,_⟩:=in5 a4
   obtain⟨_,_,_,_,l4,_,_,_,_,_⟩:=in5 a5
   have hnews:=c5m n5
   have hone:∀x∈[vi py.k,.string py.t,vi py.n,vi py.sl,.slice pb py.kids.length pc],x.oneCell'=true:=fun x hx=>by simp at hx;rcases hx with rfl|rfl|rfl|rfl|rfl <;> rfl
   have hn1:j+1<=maxLen:=by unfold maxLen;omega
   have hn2:(j+1)*64<=140737488355328:=by omega
   replace hw4:((((w3.setCell (Ad (wr.heap.size+1) 0) (vi py.k)).setCell (Ad (wr.heap.size+1) 1) (.string py.t)).setCell (Ad (wr.heap.size+1) 2) (vi py.n)).setCell (Ad (wr.heap.size+1) 3) (vi py.sl)).setCell (Ad (wr.heap.size+1) 4) (.slice pb py.kids.length pc)=w4:=hw4
   replace hw5:w4.alloc (.cells #[vi py.k,.string py.t,vi py.n,vi py.sl,.slice pb py.kids.length pc] 47)=w5:=hw5
   replace hnx:Hid _:=hnx
   clear hcall hPK hsl' hb3 hX c0 c1 c2 c3 n0 n1 n2 n3 m1 q3 q4 a4 a5 n5
   refine Lib.hid ?_
   go_wp2_with (at_builtin;refine wpList_append_lies _ (by rfl) _ _ _ (by rfl) 0 47 i0 _ 5 64 Tryz.underlying45 hi0 hz0 hz1 hz2 rfl (by omega) (.slice vb j vc) j xs (by rfl) hown (Ad w4.heap.size 0) 1 1 [vi py.k,.string py.t,vi py.n,vi py.sl,.slice pb py.kids.length pc] (by rfl) (by rfl) hnews hone (by omega) hn1 hn2 (Nat.zero_le _) _ rfl ?_;intro g3 cap3 w6 hown3 hgrow hat hlt3;obtain⟨a6,hLI2⟩:=hnx.out w6 g3 cap3 hown3 hgrow hat;obtain⟨h0,h1,h2,h3,h4,o0,o1,o2,o3,o4⟩:=in5 a6;clear hown3 hgrow hat hlt3)
   go_roundw
   case rel =>
    have hj2:=hj1.out
    exact⟨j+1,by omega,by go_num,_,_,_,_,hLI2⟩
   case measure =>
    have hj2:=hj1.out
    simp[intOf];omega
  ·have hlt':¬(j:Int)<(L:Int):=by omega
   obtain rfl:j=L:=by omega
   obtain⟨X,hX,gX,g2,g1,hf⟩:=hfin.out _ _ _ _ _ _ hLI
   obtain⟨h0,h1,h2,h3,h4,o0,o1,o2,o3,o4⟩:=in5 g2
   obtain⟨e0,e1,e2,e3,e4,ff0,ff1,ff2,ff3,ff4⟩:=in5 g1
   replace hX:((((wr.setCell (Ad (w.heap.size+1) 0) (vi k)).setCell (Ad (w.heap.size+1) 1) (.string tb)).setCell (Ad (w.heap.size+1) 2) (vi o)).setCell (Ad (w.heap.size+1) 3) (vi s0)).setCell (Ad (w.heap.size+1) 4) (.slice vb j vc)=X:=hX
   clear hround hnext hfin hLI
   go_wp2
   exact bodyPost_ret (d8y rfl rfl gX) rfl hf
theorem res6{C:Nat}{x y:Value}(h:tm[2]?.getD undef=Po B 0)(h':tm[3]?.getD undef=Po C 0)(hx:W.heap[B]?=some (.cells #[a,b,c,d,e] 47))(hy:W.heap[C]?=some (.cells #[x,y] 27)):(results Tryz.f7 tm).run Tryz.prog W=.ok (.tuple #[.agg #[a,b,c,d,e],.agg #[x,y]]) W:=by
 obtain⟨c0,c1,c2,c3,c4,_,_,_,_,_⟩:=in5 hx
 have w:Ce W C 0 x:=q2z hy rfl
 have z:Ce W C 1 y:=q2z hy rfl
 simp[results,Tryz.results7,go_sem,h,h',c0,c1,c2,c3,c4,w,z]
theorem parse_code{c:Int}{a:Nat}(h:a1q l=.inl (c,a)):c≠0:=by
 unfold a1q at h
 split at h
 ·rename_i x hx
  cases h
  exact b2v hx
 ·rename_i ts hts
  obtain⟨_,_,r,z⟩:=a5s hts
  rw[z]at h
  match r,h with
  | .inl r,h=>cases h;decide
  | .inr (n,l),h =>
   simp only at h
   split at h
   ·cases h
   ·cases h;decide
theorem b1q{c:Int}{a:Nat}(h:a4r (a1q l)=.inl (c,a)):c≠0:=by
 unfold a4r at h
 split at h
 ·rename_i x hx
  cases h
  exact parse_code hx
 ·split at h
  ·rename_i e he
   cases h
   exact b3t he
  ·cases h
theorem b8k{n:Nd}(h:a4r (a1q l)=.inr (n,sl)):isN n/\n.k=1/\manyN n<=600/\a5y n=.ok sl:=by
 unfold a4r at h
 split at h
 ·cases h
 ·rename_i n' hn'
  obtain⟨h1,h2,h3⟩:=a5u hn'
  split at h
  ·cases h
  ·rename_i sl' hsl
   cases h
   exact⟨h1,h2,h3,hsl⟩
theorem c9m{n:Nd}{u:Pt}(h:∀rest,layN n (sl++rest)=(u,rest)):sl.length=manyN n:=by
 have h1:=c5l n (sl++List.replicate (manyN n) 0) (by simp)
 rw[h]at h1
 have h2:=congrArg List.length h1
 simp only[List.length_replicate,List.length_drop,List.length_append]at h2
 have h3:=h []
 omega
theorem d3w(s:ByteArray)(w:World)(hE:ErrV w)(hsp:a5b w)(c:Int)(a:Nat)(hR:a4r (a1q s.data.toList)=.inl (c,a)):Cl 7 #[.string s] w fun e i=>e=.returned (.tuple #[.agg #[vi 0,.string ⟨#[]⟩,vi 0,vi 0,.slice none 0 0],.agg #[vi c,vi (a:Nat)]])/\Bw w i:=by
 have hd:(c != 0)=true:=by simpa using b1q hR
 obtain⟨U,t⟩:=exq ((w.alloc (.cells #[vi 0,.string ⟨#[]⟩,vi 0,vi 0,.slice none 0 0] 47)).alloc (.cells #[vi 0,vi 0] 27))
 have v:Bw w U:=by rw[<- t];exact q1z (q1z bz0 _) _
 have g0:U.heap[w.heap.size]?=some zpx:=by rw[<- t];exact q4z _ (C.new1 _ _)
 have g1:U.heap[w.heap.size+1]?=some (.cells #[vi 0,vi 0] 27):=by rw[<- t];exact C.new2 _ _ _
 have r:=b0r s U (hE.on v) (hsp.below v)
 rw[hR]at r
 clear hR
 go_enter Tryz.func7,Tryz.ntmps7
 go_wp2_with (go_at_call 16;refine r.mono ?_;rintro e w1 ⟨rfl,y⟩;refine Hid.out ?_)
 obtain⟨V,o⟩:=exq ((w1.alloc (.cells #[vi 0,.string ⟨#[]⟩,vi 0,.slice none 0 0] 34)).alloc (.cells #[vi c,vi (a:Nat)] 27))
 have x:Bw w1 V:=by rw[<- o];exact q1z (q1z bz0 _) _
 have k0:=q0z x (q0z y g0)
 have k1:=q0z x (q0z y g1)
 have k2:V.heap[w1.heap.size+1]?=some (.cells #[vi c,vi (a:Nat)] 27):=by rw[<- o];exact C.new2 _ _ _
 obtain⟨u0,u1,u2,u3,u4,f0,f1,f2,f3,f4⟩:=in5 k0
 have v0:Ce V (w.heap.size+1) 0 (vi 0):=q2z k1 rfl
 have v1:Ce V (w.heap.size+1) 1 (vi 0):=q2z k1 rfl
 have v2:V.frozen? (Ad (w.heap.size+1) 0)=false:=q6z k1
 have b:V.frozen? (Ad (w.heap.size+1) 1)=false:=q6z k1
 have t0:Ce V (w1.heap.size+1) 0 (vi c):=q2z k2 rfl
 have t1:Ce V (w1.heap.size+1) 1 (vi (a:Nat)):=q2z k2 rfl
 have f:=q5z g1
 have g:=y.size
 have n1:¬w1.heap.size+1=w.heap.size:=by omega
 have n2:¬w1.heap.size+1=w.heap.size+1:=by omega
 have p:=q3z (q3z v y) x
 have l:(pu2 (put5 V w.heap.size (vi 0) (.string ⟨#[]⟩) (vi 0) (vi 0) (.slice none 0 0)) (w.heap.size+1) (vi c) (vi (a:Nat))).heap[w.heap.size]?=some zpx:=(a1p _ _ (by omega)).trans (put5_same _ _ _ _ _ k0)
 have n:(pu2 (put5 V w.heap.size (vi 0) (.string ⟨#[]⟩) (vi 0) (vi 0) (.slice none 0 0)) (w.heap.size+1) (vi c) (vi (a:Nat))).heap[w.heap.size+1]?=some (.cells #[vi c,vi (a:Nat)] 27):=a2q _ _ (((put5_self V w.heap.size _ _ _ _ _).block _ (q5z k1) (by omega)).trans k1)
 have z:Bw w (pu2 (put5 V w.heap.size (vi 0) (.string ⟨#[]⟩) (vi 0) (vi 0) (.slice none 0 0)) (w.heap.size+1) (vi c) (vi (a:Nat))):=(((a0b.of_below (S:=fun q=>w.heap.size<=q) p).then (put5_self V w.heap.size (vi 0) (.string ⟨#[]⟩) (vi 0) (vi 0) (.slice none 0 0)) (fun j _ d=>by omega)).then (a1w _ (w.heap.size+1) (vi c) (vi (a:Nat))) (fun j _ d=>by omega)).below (Nat.le_refl _) (fun q hq h=>by omega)
 obtain⟨X,u⟩:=exq (pu2 (put5 V w.heap.size (vi 0) (.string ⟨#[]⟩) (vi 0) (vi 0) (.slice none 0 0)) (w.heap.size+1) (vi c) (vi (a:Nat)))
 rw[u]at l n z
 replace u:((((((V.setCell (Ad w.heap.size 0) (vi 0)).setCell (Ad w.heap.size 1) (.string ⟨#[]⟩)).setCell (Ad w.heap.size 2) (vi 0)).setCell (Ad w.heap.size 3) (vi 0)).setCell (Ad w.heap.size 4) (.slice none 0 0)).setCell (Ad (w.heap.size+1) 0) (vi c)).setCell (Ad (w.heap.size+1) 1) (vi (a:Nat))=X:=u
 replace u:Hid _:=u
 replace z:Hid _:=z
 clear r v y x g0 g1 k0 k1 k2 t
 refine Lib.hid ?_
 go_wp2
 clear o
 go_region
 all_goals
  go_wp2
  rw[u.out]
  exact bodyPost_ret (res6 (W:=X.drew) rfl rfl l n) rfl ⟨rfl,z.out.drew⟩
theorem c9n(s:ByteArray)(w:World)(hE:ErrV w)(hsp:a5b w)(n:Nd)(sl:List Int)(u:Pt)(hR:a4r (a1q s.data.toList)=.inr (n,sl))(hu:∀rest,layN n (sl++rest)=(u,rest)):Cl 7 #[.string s] w fun e w'=>∃p r,e=.returned (.tuple #[ptv u p r,.agg #[vi 0,vi 0]])/\PK (fun g=>w.heap.size<=g) w' u.kids p r/\Bw w w':=by
 obtain⟨hN,y4,h6,y5⟩:=b8k hR
 have o:=c9m hu
 have z7:layN n sl=(u,[]):=by have:=hu [];rw[List.append_nil]at this;exact this
 obtain⟨U,hU⟩:=exq ((w.alloc (.cells #[vi 0,.string ⟨#[]⟩,vi 0,vi 0,.slice none 0 0] 47)).alloc (.cells #[vi 0,vi 0] 27))
 have a:Bw w U:=by rw[<- hU];exact q1z (q1z bz0 _) _
 have g0:U.heap[w.heap.size]?=some zpx:=by rw[<- hU];exact q4z _ (C.new1 _ _)
 have g1:U.heap[w.heap.size+1]?=some (.cells #[vi 0,vi 0] 27):=by rw[<- hU];exact C.new2 _ _ _
 have hk:=b0r s U (hE.on a) (hsp.below a)
 rw[hR]at hk
 clear hR hN y4 y5
 replace o:Hid _:=o
 go_enter Tryz.func7,Tryz.ntmps7
 go_wp2_with (go_at_call 16;refine hk.mono ?_;rintro e w1 ⟨⟨b,cap,sb,sc,rfl,y6,z2,z1⟩,c⟩;refine Hid.out ?_)
 obtain⟨i,l⟩:=exq ((w1.alloc (nbx n b cap)).alloc (.cells #[vi 0,vi 0] 27))
 have z6:Bw w1 i:=by rw[<- l];exact q1z (q1z bz0 _) _
 have r2:i.heap[w1.heap.size+1]?=some (.cells #[vi 0,vi 0] 27):=by rw[<- l];exact C.new2 _ _ _
 have r3:i.heap[w1.heap.size]?=some (nbx n b cap):=by rw[<- l];exact q4z _ (C.new1 _ _)
 obtain⟨V,hV⟩:=exq (pu2 i (w1.heap.size+1) (vi 0) (vi 0))
 have y:Bw w1 V:=by rw[<- hV];exact((a0b.of_below (S:=fun _=>False) z6).then (a1w i (w1.heap.size+1) _ _) (fun j hj ee=>by omega)).below (Nat.le_refl _) (fun _ _=>id)
 have k0:=q0z y (q0z c g0)
 have k1:=q0z y (q0z c g1)
 have k2:V.heap[w1.heap.size+1]?=some (.cells #[vi 0,vi 0] 27):=by rw[<- hV];exact a2q _ _ r2
 have k3:V.heap[w1.heap.size]?=some (nbx n b cap):=by rw[<- hV];exact(a1p _ _ (by omega)).trans r3
 have s0:Ce i (w1.heap.size+1) 0 (vi 0):=q2z r2 rfl
 have s1:Ce i (w1.heap.size+1) 1 (vi 0):=q2z r2 rfl
 have s2:i.frozen? (Ad (w1.heap.size+1) 0)=false:=q6z r2
 have s3:i.frozen? (Ad (w1.heap.size+1) 1)=false:=q6z r2
 replace l:(w1.alloc (.cells #[vi n.k,sk n.t,vi n.n,.slice b n.kids.length cap] 34)).alloc (.cells #[vi 0,vi 0] 27)=i:=l
 replace hV:(i.setCell (Ad (w1.heap.size+1) 0) (vi 0)).setCell (Ad (w1.heap.size+1) 1) (vi 0)=V:=hV
 obtain⟨m0,m1,m2,m3,_,_,_,_⟩:=in4 k3
 have t0:Ce V (w1.heap.size+1) 0 (vi 0):=q2z k2 rfl
 have z8:SlV w1 (.slice sb sl.length sc) sl:=by
  refine⟨sb,sc,rfl,z1,?_⟩
  rcases z2 with h|⟨g,e,_,h2,h3⟩
  ·exact .inl h
  ·exact .inr ⟨g,0,e,h2,fun j x hx=>by rw[Nat.zero_add];exact h3 j x hx⟩
 obtain⟨SL,y9⟩:=exq (sl.length)
 have z:=d3v n b cap (.slice sb sl.length sc) sl w1 V y ((y6.weak (fun _ _ _=>trivial)).below y) z8 (Nat.le_of_eq o.out.symm) h6
 unfold LayR at z
 rw[z7]at z
 rw[y9]at z⊢
 replace z:Cl 17 #[.agg #[vi n.k,sk n.t,vi n.n,.slice b n.kids.length cap],.slice sb SL sc] V _:=z
 have x9:=q5z g1
 have y0:=c.size
 have y1:=y.size
 have z0:=q3z (q3z a c) y
 clear hk a c y g0 g1 k2 k3 hU y6 z2 z1 z8 z7 o h6 y9 z6 r2 r3 hu
 refine Lib.hid ?_
 go_wp2_with (go_at_call 17;refine z.mono ?_;rintro e w3 ⟨p,r,v',rfl,y7,_,d⟩;refine Hid.out ?_)
 obtain⟨v,z9⟩:=exq (w3.alloc (pbx u p r))
 have f:Bw w3 v:=by rw[<- z9];exact q1z bz0 _
 have j0:=q0z f (q0z d k0)
 have j1:=q0z f (q0z d k1)
 have j2:v.heap[w3.heap.size]?=some (pbx u p r):=by rw[<- z9];exact C.new1 _ _
 replace z9:w3.alloc (.cells #[vi u.k,.string u.t,vi u.n,vi u.sl,.slice p u.kids.length r] 47)=v:=z9
 obtain⟨p0,p1,p2,p3,p4,_,_,_,_,_⟩:=in5 j2
 obtain⟨u0,u1,u2,u3,u4,f0,f1,f2,f3,f4⟩:=in5 j0
 have v0:Ce v (w.heap.size+1) 0 (vi 0):=q2z j1 rfl
 have v1:Ce v (w.heap.size+1) 1 (vi 0):=q2z j1 rfl
 have v2:v.frozen? (Ad (w.heap.size+1) 0)=false:=q6z j1
 have v3:v.frozen? (Ad (w.heap.size+1) 1)=false:=q6z j1
 have y2:=d.size
 have n1:¬w3.heap.size=w.heap.size:=by omega
 have n2:¬w3.heap.size=w.heap.size+1:=by omega
 have z3:=(put5_self v w.heap.size (vi u.k) (.string u.t) (vi u.n) (vi u.sl) (.slice p u.kids.length r))
 have z4:=a1w (put5 v w.heap.size (vi u.k) (.string u.t) (vi u.n) (vi u.sl) (.slice p u.kids.length r)) (w.heap.size+1) (vi 0) (vi 0)
 have x1:=(a1p (W:=put5 v w.heap.size (vi u.k) (.string u.t) (vi u.n) (vi u.sl) (.slice p u.kids.length r)) (B:=w.heap.size+1) (C:=w.heap.size) (vi 0) (vi 0) (by omega)).trans (put5_same (vi u.k) (.string u.t) (vi u.n) (vi u.sl) (.slice p u.kids.length r) j0)
 have x2:=a2q (vi 0) (vi 0) ((z3.block _ (q5z j1) (by omega)).trans j1)
 obtain⟨X,hX⟩:=exq (pu2 (put5 v w.heap.size (vi u.k) (.string u.t) (vi u.n) (vi u.sl) (.slice p u.kids.length r)) (w.heap.size+1) (vi 0) (vi 0))
 rw[hX]at x1 x2 z4
 have z5:a0b (fun q=>q=w.heap.size\/q=w.heap.size+1) v X:=(z3.mono (fun _ _ h=>.inl h)).trans (z4.mono (fun _ _ h=>.inr h))
 have y8:PK (fun g=>w.heap.size<=g) X u.kids p r:=((y7.below f).keep z5 (fun g hg _ ee=>by omega)).weak (fun g hg _=>by omega)
 have y3:Bw w X:=((a0b.of_below (S:=fun q=>w.heap.size<=q) (q3z (q3z z0 d) f)).then z5 (fun j _ ee=>by omega)).below (Nat.le_refl _) (fun q hq h=>by omega)
 replace hX:((((((v.setCell (Ad w.heap.size 0) (vi u.k)).setCell (Ad w.heap.size 1) (.string u.t)).setCell (Ad w.heap.size 2) (vi u.n)).setCell (Ad w.heap.size 3) (vi u.sl)).setCell (Ad w.heap.size 4) (.slice p u.kids.length r)).setCell (Ad (w.heap.size+1) 0) (vi 0)).setCell (Ad (w.heap.size+1) 1) (vi 0)=X:=hX
 replace hX:Hid _:=hX
 clear z y7 d f j0 j1 j2 z3 z4 z5 k0 k1 z0 m0 m1 m2 m3 t0 l hV s0 s1 s2 s3
 refine Lib.hid ?_
 go_wp2
 rw[hX.out]
 exact bodyPost_ret (res6 rfl rfl x1 x2) rfl ⟨p,r,rfl,y8,y3⟩
end
end Go.Proofs.YtomniogfpfbolaaGreatDoor.V
