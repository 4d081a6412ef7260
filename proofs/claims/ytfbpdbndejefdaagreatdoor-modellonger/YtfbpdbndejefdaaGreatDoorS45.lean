/- A run of the model: what a deferred call makes of what was thrown. -/
import Derived.Test.YtfbpdbndejefdaaGreatDoorS44
namespace Go.Proofs.YtfbpdbndejefdaaGreatDoor.V
open Go.RowKit Go
set_option maxRecDepth 100000
set_option maxHeartbeats 8000000
set_option linter.all false
variable {c:Int} {a g cap:Nat} {w W:World} {sl:List Int} {b:Option Addr} {l:List UInt8} {n:Nd}
section
variable [DecidableEq Vl]
theorem d3w{c:Code}{P:Program}{a:Act}{Q:Exit->Act->World->Prop}{R:Act->World->Prop}{pv:List PanicEntry}(h:∀v:Exit->Act->World->Prop,(∀y z,R y z->v (.panic pv) y z)->c.wp P v a w)(hq:∀y z,R y z->Q (.panic pv) y z):c.wp P Q a w:=h Q hq
theorem c8d(R Br Ba:Nat)(c:Nat)(w:World)(hB:w.cell? (Ad Br 0)=some (Po R 0))(hc:w.cell? (Ad R 11)=some (vi ((c:Int)+1)))(hf:w.frozen? (Ad R 11)=false)(hcl:c<=40) :
  CallsD Tryz.prog 18 #[Po Br 0,Po Ba 0] .returning w fun e s z=>e=.returned (.tuple #[])/\s=.returning/\z=(w.setCell (Ad R 11) (vi (c:Int))):=by
 have o:IntKind.i64.wrap ((c:Int)+1-1)=(c:Int):=by rw[IntKind.wrap_i64];omega
 refine callsD_of_wpS Tryz.func18 rfl fun p cs u=>?_
 apply wpS_seq
 refine wpS_of_wp ?_
 refine a5h (R:=fun v z=>v=⟨#[Po Br 0,Po Ba 0,undef,undef,undef,Po R 0,Po R 0,Po R 11,vi ((c:Int)+1),vi (c:Int),Po R 0,Po R 11,undef,undef,undef,undef,undef,undef,undef,undef],[]⟩/\z=(w.setCell (Ad R 11) (vi (c:Int)))) (fun Q q=>?_) ?_
 ·clear u
  have y:#[Value.pointer (some (Ad Br 0)),Po Ba 0]++Array.replicate (Tryz.f18.ntmps - #[Value.pointer (some (Ad Br 0)),Po Ba 0].size) undef=#[Po Br 0,Po Ba 0,undef,undef,undef,undef,undef,undef,undef,undef,undef,undef,undef,undef,undef,undef,undef,undef,undef,undef]:=by kernel_rfl
  rw[y]
  clear y
  go_wp2
 ·rintro v z ⟨rfl,rfl⟩
  show Code.wpS _ _ _ _ _ _
  apply wpS_seq
  apply wpS_region
  simp[wpOpsS,go_sem,recoverD,u,Exit.thenS]
  refine wpS_of_wp ?_
  refine a5h (R:=fun v z=>v.defers=[]/\z=(w.setCell (Ad R 11) (vi (c:Int)))) (fun Q q=>?_) ?_
  ·clear u
   go_wp2
  ·rintro v z ⟨h1,rfl⟩
   cases p
   simp_all [bodyPostS,results,Tryz.results18]
theorem c8e(R Br Ba:Nat)(z y a b:Int)(older:List PanicEntry)(w:World)(hB:w.cell? (Ad Br 0)=some (Po R 0))(hc:w.cell? (Ad R 11)=some (vi z))(hf:w.frozen? (Ad R 11)=false)(hw:IntKind.i64.wrap (z-1)=y) :
  CallsD Tryz.prog 18 #[Po Br 0,Po Ba 0] (.panicking ({ v:=endV a b,recovered:=false } :: older)) w fun e n s=>e=.panicked (pan (endV a b))/\n=.panicking ({ v:=endV a b,recovered:=true } :: older)/\s=(w.setCell (Ad R 11) (vi y)):=by
 have i:∀u:World,(Instr.typeAssert (.iface 50 (.agg #[vi a,vi b])) 20 64 true).run Tryz.prog u=.ok (.tuple #[.agg #[vi 0,vi 0,.string ⟨#[]⟩],.bool false]) u:=fun _=>by kernel_rfl
 refine callsD_of_wpS Tryz.func18 rfl fun j cs o=>?_
 apply wpS_seq
 refine wpS_of_wp ?_
 refine a5h (R:=fun p s=>p=⟨#[Po Br 0,Po Ba 0,undef,undef,undef,Po R 0,Po R 0,Po R 11,vi z,vi y,Po R 0,Po R 11,undef,undef,undef,undef,undef,undef,undef,undef],[]⟩/\s=(w.setCell (Ad R 11) (vi y))) (fun Q m=>?_) ?_
 ·clear o
  have q:#[Value.pointer (some (Ad Br 0)),Po Ba 0]++Array.replicate (Tryz.f18.ntmps - #[Value.pointer (some (Ad Br 0)),Po Ba 0].size) undef=#[Po Br 0,Po Ba 0,undef,undef,undef,undef,undef,undef,undef,undef,undef,undef,undef,undef,undef,undef,undef,undef,undef,undef]:=by kernel_rfl
  rw[q]
  clear q
  go_wp2
 ·rintro p s ⟨rfl,rfl⟩
  show Code.wpS _ _ _ _ _ _
  apply wpS_seq
  apply wpS_region
  simp[wpOpsS,go_sem,recoverD,o,Exit.thenS]
  refine wpS_of_wp ?_
  refine d3w (R:=fun p s=>p.defers=[]/\s=(w.setCell (Ad R 11) (vi y))) (pv:=pan (endV a b)) (fun Q m=>?_) ?_
  ·clear o
   go_wp2
  ·rintro p s ⟨h1,rfl⟩
   cases j
   simp_all [bodyPostS]
theorem c8f(R Br Ba:Nat)(c:Nat)(v:Vl)(x0:Vl)(older:List PanicEntry)(w:World)(hB:w.cell? (Ad Br 0)=some (Po R 0))(hc:w.cell? (Ad R 11)=some (vi ((c:Int)+1)))(hf:w.frozen? (Ad R 11)=false)(hcl:c<=40)(hBa:w.heap[Ba]?=some (bx x0))(hne:Ba≠R) :
  CallsD Tryz.prog 18 #[Po Br 0,Po Ba 0] (.panicking ({ v:=retV v,recovered:=false } :: older)) w fun e o z=>e=.returned (.tuple #[])/\o=.panicking ({ v:=retV v,recovered:=true } :: older)/\z=(put3 (w.setCell (Ad R 11) (vi (c:Int))) Ba v).alloc (.cells #[vi v.k,vi v.n,.string v.s] 64):=by
 have d:IntKind.i64.wrap ((c:Int)+1-1)=(c:Int):=by rw[IntKind.wrap_i64];omega
 obtain⟨a0,a1,a2,b0,b1,b2⟩:=in3 hBa
 have m:=block_lt hBa
 have n1:¬w.heap.size=Ba:=by omega
 have n2:¬Ba=w.heap.size:=by omega
 have f:¬R=Ba:=fun i=>hne i.symm
 have g:∀u:World,(Instr.typeAssert (.iface 64 (.agg #[vi v.k,vi v.n,.string v.s])) 20 64 true).run Tryz.prog u=.ok (.tuple #[.agg #[vi v.k,vi v.n,.string v.s],.bool true]) u:=fun _=>by kernel_rfl
 refine callsD_of_wpS Tryz.func18 rfl fun h cs p=>?_
 apply wpS_seq
 refine wpS_of_wp ?_
 refine a5h (R:=fun q z=>q=⟨#[Po Br 0,Po Ba 0,undef,undef,undef,Po R 0,Po R 0,Po R 11,vi ((c:Int)+1),vi (c:Int),Po R 0,Po R 11,undef,undef,undef,undef,undef,undef,undef,undef],[]⟩/\z=(w.setCell (Ad R 11) (vi (c:Int)))) (fun Q j=>?_) ?_
 ·clear p
  have y:#[Value.pointer (some (Ad Br 0)),Po Ba 0]++Array.replicate (Tryz.f18.ntmps - #[Value.pointer (some (Ad Br 0)),Po Ba 0].size) undef=#[Po Br 0,Po Ba 0,undef,undef,undef,undef,undef,undef,undef,undef,undef,undef,undef,undef,undef,undef,undef,undef,undef,undef]:=by kernel_rfl
  rw[y]
  clear y
  go_wp2
 ·rintro q z ⟨rfl,rfl⟩
  show Code.wpS _ _ _ _ _ _
  apply wpS_seq
  apply wpS_region
  simp[wpOpsS,go_sem,recoverD,p,Exit.thenS]
  refine wpS_of_wp ?_
  refine a5h (R:=fun q z=>q.defers=[]/\z=(put3 (w.setCell (Ad R 11) (vi (c:Int))) Ba v).alloc (.cells #[vi v.k,vi v.n,.string v.s] 64)) (fun Q j=>?_) ?_
  ·clear p
   go_wp2
  ·rintro q z ⟨h1,rfl⟩
   cases h
   simp_all [bodyPostS,results,Tryz.results18]
theorem c4o(Br:Nat)(w:World):CallsD Tryz.prog 10 #[Po Br 0] .returning w fun e u z=>e=.returned (.tuple #[])/\u=.returning/\z=w:=by
 refine callsD_of_wpS Tryz.func10 rfl fun s cs y=>?_
 apply wpS_seq
 apply wpS_region
 simp[wpOpsS,go_sem,recoverD,y,Tryz.ntmps10,Exit.thenS]
 refine wpS_of_wp ?_
 refine a5h (R:=fun v z=>v.defers=[]/\z=w) (fun Q q=>?_) ?_
 ·clear y
  have hf:#[Value.pointer (some (Ad Br 0))]++(Array.replicate 21 undef).setIfInBounds 3 (Value.nilIface)=#[Po Br 0,undef,undef,undef,Value.nilIface,undef,undef,undef,undef,undef,undef,undef,undef,undef,undef,undef,undef,undef,undef,undef,undef,undef]:=by kernel_rfl
  rw[hf]
  clear hf
  go_wp2
 ·rintro v z ⟨h1,rfl⟩
  cases s
  simp_all [bodyPostS,results,Tryz.results10]
theorem c4p(R Br:Nat)(a b:Int)(x0 x1:Value)(older:List PanicEntry)(w:World)(hB:w.cell? (Ad Br 0)=some (Po R 0))(h0:w.cell? (Ad R 0)=some x0)(h1:w.cell? (Ad R 1)=some x1)(f0:w.frozen? (Ad R 0)=false)(f1:w.frozen? (Ad R 1)=false) :
  CallsD Tryz.prog 10 #[Po Br 0] (.panicking ({ v:=endV a b,recovered:=false } :: older)) w fun e g o=>e=.returned (.tuple #[])/\g=.panicking ({ v:=endV a b,recovered:=true } :: older)/\o=(((w.alloc (.cells #[vi a,vi b] 50)).setCell (Ad R 0) (vi a)).setCell (Ad R 1) (vi b)).drew:=by
 have y1:∀u:World,(Instr.typeAssert (.iface 50 (.agg #[vi a,vi b])) 20 50 true).run Tryz.prog u=.ok (.tuple #[.agg #[vi a,vi b],.bool true]) u:=fun _=>by kernel_rfl
 have z:=World.block_lt_of_cell? _ _ h0
 have y:=World.block_lt_of_cell? _ _ hB
 simp only at z y
 obtain⟨V,n⟩:=exq (w.alloc (.cells #[vi a,vi b] 50))
 have s:Bw w V:=by rw[<- n];exact ext_alloc (Below.refl _ _) _
 have q:V.heap[w.heap.size]?=some (.cells #[vi a,vi b] 50):=by rw[<- n];exact World.alloc_heap_new _ _
 have q0:Ce V w.heap.size 0 (vi a):=cell_block q rfl
 have q1:Ce V w.heap.size 1 (vi b):=cell_block q rfl
 have k0:=(s.cell (p:=(Ad R 0)) z).trans h0
 have k1:=(s.cell (p:=(Ad R 1)) z).trans h1
 have kB:=(s.cell (p:=(Ad Br 0)) y).trans hB
 have j:V.frozen? (Ad R 0)=false:=(s.frozen (p:=(Ad R 0)) z).trans f0
 have m:V.frozen? (Ad R 1)=false:=(s.frozen (p:=(Ad R 1)) z).trans f1
 have n1:¬w.heap.size=R:=by omega
 have n2:¬R=w.heap.size:=by omega
 refine callsD_of_wpS Tryz.func10 rfl fun f cs i=>?_
 apply wpS_seq
 apply wpS_region
 simp[wpOpsS,go_sem,recoverD,i,Tryz.ntmps10,Exit.thenS]
 refine wpS_of_wp ?_
 refine a5h (R:=fun h o=>h.defers=[]/\o=((V.setCell (Ad R 0) (vi a)).setCell (Ad R 1) (vi b)).drew) (fun Q hQ=>?_) ?_
 ·clear i
  have hf:#[Value.pointer (some (Ad Br 0))]++(Array.replicate 21 undef).setIfInBounds 3 (Value.iface 50 (.agg #[vi a,vi b]))=#[Po Br 0,undef,undef,undef,Value.iface 50 (.agg #[vi a,vi b]),undef,undef,undef,undef,undef,undef,undef,undef,undef,undef,undef,undef,undef,undef,undef,undef,undef]:=by kernel_rfl
  rw[hf]
  clear hf
  clear h0 h1 hB s q z y
  have z0:V.frozen? (Ad R 0)=false:=j
  have d:V.frozen? (Ad R 1)=false:=m
  go_wp2
  clear n
  go_region
  all_goals
   go_wp2
 ·rintro h o ⟨h1,rfl⟩
  cases f
  simp_all [bodyPostS,results,Tryz.results10]
theorem SlV.tail{off:Nat}(h:SlV W (.slice (some (Ad g off)) sl.length cap) sl)(h0:sl≠[]):SlV W (.slice (if cap=1 then some (Ad g off) else some (Ad g (off+1))) (sl.length-1) (cap-1)) sl.tail:=by
 obtain⟨a,c,e,h1,h2⟩:=h
 cases e
 have s:0<sl.length:=List.length_pos_iff.2 h0
 refine⟨_,_,by rw[List.length_tail],by simp;omega,?_⟩
 by_cases hc:cap=1
 ·refine .inl (List.length_eq_zero_iff.1 ?_)
  simp;omega
 ·rw[if_neg hc]
  rcases h2 with h2|⟨q,z,u,v,h2⟩
  ·exact absurd h2 h0
  ·cases u
   refine .inr ⟨g,off+1,rfl,v,fun j x y=>?_⟩
   have:=h2 (j+1) x (by rw[List.getElem?_tail]at y;exact y)
   rw[show off+(j+1)=off+1+j by omega]at this
   exact this
def LayR (w0 w:World) (n:Nd) (s:List Int) (e:Ending) (w':World):Prop:=∃pb pc v',e=.returned (.tuple #[ptv (layN n s).1 pb pc,v'])/\PK (fun g=>w.heap.size<=g) w' (layN n s).1.kids pb pc/\SlV w0 v' (layN n s).2/\Bw w w'
def LayD (n:Nd):Prop:=∀(b:Option Addr) (cap:Nat) (v:Value) (s:List Int) (w0 w:World),Bw w0 w->NdV (fun _=>True) w n (ndv n b cap)->SlV w0 v s->manyN n<=s.length->manyN n<=600->Cl 9 #[ndv n b cap,v] w (LayR w0 w n s)
theorem c4q{y:Pt}{c:Nat}(h:W.heap[g]?=some (pbx y b c)):∀j u,[vi y.k,.string y.t,vi y.n,vi y.sl,.slice b y.kids.length c][j]?=some u->W.cell? ((Ad g 0).add j)=some u:=World.news_of_block (cs:=#[vi y.k,.string y.t,vi y.n,vi y.sl,.slice b y.kids.length c]) h
structure LI (w0 w:World) (k:Int) (t:List UInt8) (o s0:Int) (ks:List Nd) (b:Option Addr) (cap:Nat) (P:List Pt×List Int) (j:Nat) (sv:Value) (wr:World) (vb:Option Addr) (vc:Nat) (ps:List Pt) (sj:List Int):Prop where
 eq:(ps++(layN.go (ks.drop j) sj).1,(layN.go (ks.drop j) sj).2)=P
 len:ps.length=j
 many:manyN.go (ks.drop j)<=sj.length
 m6:manyN.go (ks.drop j)<=600
 g0:wr.heap[w.heap.size]?=some (nbx ⟨k,t,o,ks⟩ b cap)
 g1:wr.heap[w.heap.size+1]?=some zpx
 g2:wr.heap[w.heap.size+2]?=some (.cells #[vi k,.string ⟨t.toArray⟩,vi o,vi s0,.slice vb j vc] 34)
 row:PRow (fun g=>w.heap.size+2<g) wr (.slice vb j vc) ps
 sl:SlV w0 sv sj
 bl:Bw w wr
theorem LI.next{w0:World}{k:Int}{t:List UInt8}{o s0:Int}{ks:List Nd}{P:List Pt×List Int}{j:Nat}{sv:Value}{wr:World}{vb:Option Addr}{vc:Nat}{ps:List Pt}{sj:List Int}(h:LI w0 w k t o s0 ks b cap P j sv wr vb vc ps sj){y:Nd}(hy:ks[j]?=some y){b':Option Addr}{cap':Nat}{pb:Option Addr}{pc:Nat}{v':Value}{w3:World}(hPK:PK (fun g=>((wr.alloc (nbx y b' cap')).alloc zpx).heap.size<=g) w3 (layN y sj).1.kids pb pc)(hsl:SlV w0 v' (layN y sj).2)(hb:Below ((wr.alloc (nbx y b' cap')).alloc zpx).heap.size ((wr.alloc (nbx y b' cap')).alloc zpx) w3) :
  ∃p,put5 w3 (wr.heap.size+1) (vi (layN y sj).1.k) (.string (layN y sj).1.t) (vi (layN y sj).1.n) (vi (layN y sj).1.sl) (.slice pb (layN y sj).1.kids.length pc)=p/\w3.heap[wr.heap.size+1]?=some zpx/\p.heap[wr.heap.size+1]?=some (pbx (layN y sj).1 pb pc)/\p.heap[w.heap.size+2]?=some (.cells #[vi k,.string ⟨t.toArray⟩,vi o,vi s0,.slice vb j vc] 34)/\∃w5,p.alloc (pbx (layN y sj).1 pb pc)=w5/\w5.heap[p.heap.size]?=some (pbx (layN y sj).1 pb pc)/\w5.heap[w.heap.size+2]?=some (.cells #[vi k,.string ⟨t.toArray⟩,vi o,vi s0,.slice vb j vc] 34)/\∃xs,w5.ownsRow 0 34 5 (.slice vb j vc) j xs/\∀w6 g3 d,w6.ownsRow 0 34 5 (.slice (some (Ad g3 0)) (j+1) d) (j+1) (xs++[vi (layN y sj).1.k,.string (layN y sj).1.t,vi (layN y sj).1.n,vi (layN y sj).1.sl,.slice pb (layN y sj).1.kids.length pc])->w5.grownBy w6 (Value.ownBlock (.slice vb j vc))->(Value.ownBlock (.slice vb j vc)=some g3\/g3=w5.heap.size)->w6.heap[w.heap.size+2]?=some (.cells #[vi k,.string ⟨t.toArray⟩,vi o,vi s0,.slice vb j vc] 34)/\LI w0 w k t o s0 ks b cap P (j+1) v' (w6.setCell (Ad (w.heap.size+2) 4) (.slice (some (Ad g3 0)) (j+1) d)) (some (Ad g3 0)) d (ps++[(layN y sj).1]) (layN y sj).2:=by
 have x7:j<ks.length:=(List.getElem?_eq_some_iff.1 hy).1
 have y8:ks.drop j=y::ks.drop (j+1):=by rw[List.drop_eq_getElem_cons x7];congr 1;exact(List.getElem?_eq_some_iff.1 hy).2
 have z8:=h.eq
 have z3:=h.many
 have x9:=h.m6
 rw[y8,layN.go]at z8
 rw[y8,manyN.go]at z3 x9
 obtain⟨v,y0⟩:=exq ((layN y sj).1)
 have z9:=c4g y sj (by omega)
 obtain⟨s2,y1⟩:=exq ((layN y sj).2)
 rw[y1]at z9 hsl z8⊢
 rw[y0]at hPK z8⊢
 have y5:=block_lt h.g2
 have z2:((wr.alloc (nbx y b' cap')).alloc zpx).heap.size=wr.heap.size+1+1:=by simp
 have y6:Bw wr ((wr.alloc (nbx y b' cap')).alloc zpx):=ext_alloc (ext_alloc (Below.refl _ _) _) _
 have q1:((wr.alloc (nbx y b' cap')).alloc zpx).heap[wr.heap.size+1]?=some zpx:=new2 _ _ _
 obtain⟨X,hX⟩:=exq ((wr.alloc (nbx y b' cap')).alloc zpx)
 rw[hX]at hPK hb z2 y6 q1
 have i:=ext_trans y6 hb
 have q3:=block_below hb q1
 obtain⟨bv,cv,x6,z0⟩:=h.row.form
 have y7:∀g,Value.ownBlock (.slice vb j vc)=some g->w.heap.size+2<g/\g<wr.heap.size:=fun g m=>z0 g m
 have z4:PRow (fun g=>w.heap.size+2<g/\g<wr.heap.size) w3 (.slice vb j vc) ps:=(h.row.weak (S':=fun g=>w.heap.size+2<g/\g<wr.heap.size) (fun g m x8=>⟨m,x8⟩)).below i
 refine⟨_,rfl,q3,put5_same _ _ _ _ _ q3,?_⟩
 have u:=put5_self w3 (wr.heap.size+1) (vi v.k) (.string v.t) (vi v.n) (vi v.sl) (.slice pb v.kids.length pc)
 obtain⟨p,y2⟩:=exq (put5 w3 (wr.heap.size+1) (vi v.k) (.string v.t) (vi v.n) (vi v.sl) (.slice pb v.kids.length pc))
 rw[y2]at u⊢
 have z7:∀q,q<wr.heap.size->p.heap[q]?=wr.heap[q]?:=fun q hq=>(u.block q (by have:=i.size;omega) (by omega)).trans (i.block q hq)
 have x3:w3.heap.size<=p.heap.size:=u.size
 have x2:=hb.size
 have a2:=(z7 _ y5).trans h.g2
 refine⟨a2,_,rfl,new1 _ _,block_alloc _ a2,?_⟩
 have z5:PRow (fun g=>w.heap.size+2<g/\g<wr.heap.size) p (.slice vb j vc) ps:=z4.keep u (fun g m _=>by omega)
 have s:=ext_alloc (Below.refl p.heap.size p) (pbx v pb pc)
 have a:PRow (fun g=>w.heap.size+2<g) (p.alloc (pbx v pb pc)) (.slice vb j vc) ps:=(z5.weak (fun g m _=>m.1)).below s
 have z6:PK (fun g=>w.heap.size+2<g/\some g≠Value.ownBlock (.slice vb j vc)) (p.alloc (pbx v pb pc)) v.kids pb pc:=((hPK.keep u (fun g m _=>by omega)).weak (fun g m _=>⟨by omega,fun ee=>by have:=(y7 g ee.symm).2;omega⟩)).below s
 obtain⟨xs,ho,hs,hn⟩:=a.own
 obtain⟨w5,y3⟩:=exq (p.alloc (pbx v pb pc))
 rw[y3]at s a z6 ho hn⊢
 have f:=h.len
 have y9:=ho
 rw[f]at y9
 refine⟨xs,y9,fun w6 g3 d y4 m x5=>?_⟩
 have x4:=s.size
 have z:∀q,q<=w.heap.size+2->w6.heap[q]?=wr.heap[q]?:=fun q hq=>(m.block q (by omega) (fun ee=>by have:=(y7 q ee.symm).1;omega)).trans ((s.block q (by omega)).trans (z7 q (by omega)))
 have a6:=(z _ (Nat.le_refl _)).trans h.g2
 have z1:=PRow.snoc (by exact ho) hs hn z6 (by rw[f];exact y4) m x5 (fun q hq=>by omega)
 rw[f]at z1
 refine⟨a6,⟨?_,by simp[f],?_,?_,?_,?_,?_,?_,hsl,?_⟩⟩
 ·rw[<- z8];simp
 ·rw[z9,List.length_drop];omega
 ·omega
 ·exact(set1_other _ _ (by omega)).trans ((z _ (by omega)).trans h.g0)
 ·exact(set1_other _ _ (by omega)).trans ((z _ (by omega)).trans h.g1)
 ·exact(set_block _ a6).trans (by simp)
 ·exact z1.keep (a1e w6 (w.heap.size+2) 4 _) (fun g m _ ee=>by omega)
 ·refine⟨?_,?_,?_,?_,fun q hq=>?_⟩
  ·exact m.os.trans (s.os.trans (u.os.trans (i.os.trans h.bl.os)))
  ·exact m.tape.trans (s.tape.trans (u.tape.trans (i.tape.trans h.bl.tape)))
  ·exact m.output.trans (s.output.trans (u.output.trans (i.output.trans h.bl.output)))
  ·have:=m.size
   have:=h.bl.size
   have:=i.size
   simp
   omega
  ·exact(set1_other _ _ (by omega)).trans ((z q (by omega)).trans (h.bl.block q hq))
theorem d3x(n:Nd):LayD n:=by
 refine a6j (m:=LayD) (fun k t o ks ih=>?_) n
 intro b cap v s w0 w hbw hN hsl hm h6
 have hKA:=KA.of hN
 obtain⟨P,hP⟩:=exq (layN.go ks s.tail)
 have hm1:1+manyN.go ks=manyN ⟨k,t,o,ks⟩:=by simp only[manyN];omega
 have hs0:s≠[]:=by intro ee;rw[ee]at hm;simp only[List.length_nil]at hm;omega
 obtain⟨a,sc,rfl,hcap,hcell⟩:=hsl
 have hsl0:SlV w0 (.slice a s.length sc) s:=⟨a,sc,rfl,hcap,hcell⟩
 rcases hcell with hcell|⟨gs,os,rfl,hgs,hcell⟩
 ·exact absurd hcell hs0
 obtain⟨s0,hs00⟩:∃s0,s[0]?=some s0:=⟨_,List.getElem?_eq_getElem (List.length_pos_iff.2 hs0)⟩
 have hhd:s.headD 0=s0:=by cases s with|nil=>exact absurd rfl hs0|cons x s=>simpa using hs00
 have hc0:=hcell 0 s0 hs00
 have hslt:=hsl0.tail hs0
 obtain⟨tb,htb⟩:∃tb:ByteArray,(⟨t.toArray⟩:ByteArray)=tb:=⟨_,rfl⟩
 obtain⟨V0,hV0⟩:=exq ((w.alloc (.cells #[vi k,.string tb,vi o,.slice b ks.length cap] 43)).alloc (.cells #[vi 0,.string ⟨#[]⟩,vi 0,vi 0,.slice none 0 0] 34))
 have hb0:Bw w V0:=by rw[<- hV0];exact ext_alloc (ext_alloc (Below.refl _ _) _) _
 have q0:V0.heap[w.heap.size]?=some (nbx ⟨k,t,o,ks⟩ b cap):=by rw[<- hV0,<- htb];exact block_alloc _ (new1 _ _)
 have q1:V0.heap[w.heap.size+1]?=some zpx:=by rw[<- hV0];exact new2 _ _ _
 obtain⟨V1,hV1⟩:=exq (V0.drew)
 have hb1:Bw w V1:=by rw[<- hV1];exact hb0.drew
 have hsz:V1.heap.size=w.heap.size+2:=by rw[<- hV1,<- hV0];simp
 have y0:V1.heap[w.heap.size]?=some (nbx ⟨k,t,o,ks⟩ b cap):=by rw[<- hV1];exact q0
 have y1:V1.heap[w.heap.size+1]?=some zpx:=by rw[<- hV1];exact q1
 have hgsw:gs<w.heap.size:=Nat.lt_of_lt_of_le hgs hbw.size
 have hS:∀V,Bw w V->V.heap[w.heap.size]?=some (nbx ⟨k,t,o,ks⟩ b cap)->(fun V=>Ce V w.heap.size 0 (vi k)/\Ce V w.heap.size 1 (.string tb)/\Ce V w.heap.size 2 (vi o)/\Ce V gs os (vi s0)) V:=fun V hb hg=>by
  have hcs:=(hb.cell (p:=(Ad gs (os+0))) hgsw).trans ((hbw.cell (p:=(Ad gs (os+0))) hgs).trans hc0)
  have d0:Ce V w.heap.size 1 (.string ⟨t.toArray⟩):=cell_block hg rfl
  rw[htb]at d0
  exact⟨cell_block hg rfl,d0,cell_block hg rfl,hcs⟩
 have hS1:=hS V1 hb1 y0
 obtain⟨V2,hV2⟩:=exq (V1.alloc (.cells #[vi 0,.string ⟨#[]⟩,vi 0,vi 0,.slice none 0 0] 34))
 have hb2:Bw w V2:=by rw[<- hV2];exact ext_alloc hb1 _
 have z0:V2.heap[w.heap.size]?=some (nbx ⟨k,t,o,ks⟩ b cap):=by rw[<- hV2];exact block_alloc _ y0
 have z1:V2.heap[w.heap.size+1]?=some zpx:=by rw[<- hV2];exact block_alloc _ y1
 have z2:V2.heap[w.heap.size+2]?=some zpx:=by rw[<- hV2,<- hsz];exact new1 _ _
 have hS2:=hS V2 hb2 z0
 obtain⟨V3,hV3⟩:=exq (put5 V2 (w.heap.size+2) (vi k) (.string tb) (vi o) (vi s0) (.slice none 0 0))
 have hk3:a0b (fun q=>q=w.heap.size+2) V2 V3:=by rw[<- hV3];exact put5_self _ _ _ _ _ _ _
 have hb3:Bw w V3:=((a0b.of_below (S:=fun _=>False) hb2).then hk3 (fun j hj ee=>by omega)).below (Nat.le_refl _) (fun _ _=>id)
 have x0:=(hk3.block _ (block_lt z0) (by omega)).trans z0
 have x1:=(hk3.block _ (block_lt z1) (by omega)).trans z1
 have x2:V3.heap[w.heap.size+2]?=some (.cells #[vi k,.string tb,vi o,vi s0,.slice none 0 0] 34):=by rw[<- hV3];exact put5_same _ _ _ _ _ z2
 have hS3:=hS V3 hb3 x0
 obtain⟨u0,u1,u2,u3,u4,f0,f1,f2,f3,f4⟩:=in5 z2
 obtain⟨L,hL⟩:=exq (ks.length)
 have nk3:Ce V3 w.heap.size 3 (.slice b L cap):=by rw[<- hL];exact cell_block x0 rfl
 obtain⟨st,hst⟩:∃st:Option Addr,(if sc=1 then some (Ad gs os) else some (Ad gs (os+1)))=st:=⟨_,rfl⟩
 rw[hst]at hslt
 have hI:LI w0 w k t o s0 ks b cap P 0 (.slice st (s.length-1) (sc-1)) V3 none 0 [] s.tail:=⟨by rw[List.drop_zero,<- hP];simp,rfl,by rw[List.drop_zero,List.length_tail];omega,by rw[List.drop_zero];omega,x0,x1,by rw[htb];exact x2,PRow.nil _ _,hslt,hb3⟩
 have hcapk:=hKA.1
 have hLc:(L:Int)<=(cap:Int):=by omega
 have hsl1:0<s.length:=List.length_pos_iff.2 hs0
 have hfin:∀sv wr vb vc ps sj,LI w0 w k t o s0 ks b cap P L sv wr vb vc ps sj->∃X,put5 wr (w.heap.size+1) (vi k) (.string tb) (vi o) (vi s0) (.slice vb L vc)=X/\X.heap[w.heap.size+1]?=some (.cells #[vi k,.string tb,vi o,vi s0,.slice vb L vc] 34)/\wr.heap[w.heap.size+2]?=some (.cells #[vi k,.string tb,vi o,vi s0,.slice vb L vc] 34)/\wr.heap[w.heap.size+1]?=some zpx/\LayR w0 w ⟨k,t,o,ks⟩ s (.returned (.tuple #[.agg #[vi k,.string tb,vi o,vi s0,.slice vb L vc],sv])) X:=fun sv wr vb vc ps sj h=>by
  have hend:P=(ps,sj):=by
   have:=h.eq
   rw[List.drop_eq_nil_of_le (by omega),layN.go]at this
   rw[<- this];simp
  have hg2:=h.g2
  rw[htb]at hg2
  have hkX:=put5_self wr (w.heap.size+1) (vi k) (.string tb) (vi o) (vi s0) (.slice vb L vc)
  refine⟨_,rfl,put5_same _ _ _ _ _ h.g1,hg2,h.g1,?_⟩
  obtain⟨vb',vc',hvv,hpk⟩:=(h.row.keep (W':=put5 wr (w.heap.size+1) (vi k) (.string tb) (vi o) (vi s0) (.slice vb L vc)) hkX (fun g hg _=>by omega)).pk
  cases hvv
  have hlay:layN ⟨k,t,o,ks⟩ s=(⟨k,tb,o,s0,ps⟩,sj):=by rw[layN,hP,hend,hhd,htb]
  unfold LayR
  rw[hlay]
  exact⟨vb,vc,sv,by rw[<- h.len],hpk.weak (fun g hg _=>by omega),h.sl,((a0b.of_below (S:=fun _=>False) h.bl).then hkX (fun j hj ee=>by omega)).below (Nat.le_refl _) (fun _ _=>id)⟩
 have hround:∀j sv wr vb vc ps sj,j<L->LI w0 w k t o s0 ks b cap P j sv wr vb vc ps sj->∃y g off b' cap' X,b=some (Ad g off)/\g<wr.heap.size/\Ce wr g (off+j*4) (vi y.k)/\Ce wr g (off+j*4+1) (sk y.t)/\Ce wr g (off+j*4+2) (vi y.n)/\Ce wr g (off+j*4+3) (.slice b' y.kids.length cap')/\(wr.alloc (.cells #[vi y.k,sk y.t,vi y.n,.slice b' y.kids.length cap'] 43)).alloc (.cells #[vi 0,.string ⟨#[]⟩,vi 0,vi 0,.slice none 0 0] 34)=X/\X.heap[wr.heap.size]?=some (nbx y b' cap')/\X.heap[wr.heap.size+1]?=some zpx/\Cl 9 #[.agg #[vi y.k,sk y.t,vi y.n,.slice b' y.kids.length cap'],sv] X (LayR w0 X y sj)/\ks[j]?=some y:=fun j sv wr vb vc ps sj hj h=>by
  have hjk:j<ks.length:=by omega
  obtain⟨y,hy⟩:∃y,ks[j]?=some y:=⟨_,List.getElem?_eq_getElem hjk⟩
  have hKr:KA (fun _=>True) wr b cap ks:=hKA.on (fun g _ hlt=>h.bl.block g hlt)
  obtain⟨g,off,b',cap',rfl,c0,c1,c2,c3,hyV⟩:=hKr.at hy
  have hdr:ks.drop j=y::ks.drop (j+1):=by rw[List.drop_eq_getElem_cons hjk];congr 1;exact(List.getElem?_eq_some_iff.1 hy).2
  have hmany:=h.many
  have hm6:=h.m6
  rw[hdr,manyN.go]at hmany hm6
  have hbX:Bw wr ((wr.alloc (nbx y b' cap')).alloc zpx):=ext_alloc (ext_alloc (Below.refl _ _) _) _
  have hlt:=World.block_lt_of_cell? _ _ c0
  refine⟨y,g,off,b',cap',_,rfl,hlt,c0,c1,c2,c3,rfl,block_alloc _ (new1 _ _),new2 _ _ _,?_,hy⟩
  exact ih y (List.mem_of_getElem? hy) b' cap' sv sj w0 _ (ext_trans (ext_trans hbw h.bl) hbX) (hyV.below hbX) h.sl (by omega) (by omega)
 have hnext:∀j sv wr vb vc ps sj (y:Nd) b' cap' X pb pc v' w3,LI w0 w k t o s0 ks b cap P j sv wr vb vc ps sj->ks[j]?=some y->(wr.alloc (.cells #[vi y.k,sk y.t,vi y.n,.slice b' y.kids.length cap'] 43)).alloc (.cells #[vi 0,.string ⟨#[]⟩,vi 0,vi 0,.slice none 0 0] 34)=X->PK (fun g=>X.heap.size<=g) w3 (layN y sj).1.kids pb pc->SlV w0 v' (layN y sj).2->Bw X w3->_:=fun j sv wr vb vc ps sj y b' cap' X pb pc v' w3 h hy hX hp hs hb=>LI.next (b':=b') (cap':=cap') h hy (hX▸hp) hs (hX▸hb)
 show Cl 9 #[.agg #[vi k,.string ⟨t.toArray⟩,vi o,.slice b ks.length cap],.slice (some (Ad gs os)) s.length sc] w _
 rw[htb,hL]
 rw[hL]at hV0
 obtain⟨SL,hSL⟩:=exq (s.length)
 rw[hSL]at hsl1 hI⊢
 have hsi:(0:Int)<(SL:Int):=by omega
 have hsi1:(1:Int)<=(SL:Int):=by omega
 have hL4:L<=1000:=by rw[<- hL];have:=a2k ks;omega
 obtain⟨i0,hi0,hz0,hz1,hz2⟩:=info_parts d7x
 replace hfin:Hid _:=hfin
 replace hround:Hid _:=hround
 replace hnext:Hid _:=hnext
 replace hV1:Hid _:=hV1
 replace hV2:Hid _:=hV2
 replace hV3:Hid _:=hV3
 replace hsz:Hid _:=hsz
 replace hI:Hid _:=hI
 replace hS1:Hid _:=hS1
 replace hS2:Hid _:=hS2
 replace hS3:Hid _:=hS3
 replace nk3:Hid _:=nk3
 clear ih hbw hN hm h6 hKA hP hm1 hs0 hcap hsl0 hcell hs00 hhd hc0 hslt htb hb0 q0 q1 hb1 y0 y1 hgsw hS hb2 z0 z1 z2 hk3 hb3 x0 x1 x2 hL hcapk hSL hgs
 go_enter Tryz.func9,Tryz.ntmps9
 go_wp2
 clear hV0
 refine wp_region_held_drew (S:=fun V=>Ce V w.heap.size 0 (vi k)/\Ce V w.heap.size 1 (.string tb)/\Ce V w.heap.size 2 (vi o)/\Ce V gs os (vi s0)) (by kernel_rfl) (by rw[hV1.out];exact hS1.out) (fun hHeld=>?_)
 change wpAnyH _ _ _ _ _ 12 _ _ _
 rw[hV1.out]at hHeld⊢
 replace hV2:=hV2.out
 replace hV3:((((V2.setCell (Ad (w.heap.size+2) 0) (vi k)).setCell (Ad (w.heap.size+2) 1) (.string tb)).setCell (Ad (w.heap.size+2) 2) (vi o)).setCell (Ad (w.heap.size+2) 3) (vi s0)).setCell (Ad (w.heap.size+2) 4) (.slice none 0 0)=V3:=hV3.out
 replace hS2:=hS2.out
 replace hS3:=hS3.out
 iterate 10 (refine tkH 0 (by simp only[nx,gq1,gq2,gq3];rfl) (by kernel_rfl) (by rfl) hHeld ⟨_,by intro w ⟨_,_,_,_⟩;go_simp;try with_reducible rfl,by exact fun _ _ _ h=>h,?_⟩;try simp only[Act.put,sq1,sq2,sq3])
 refine wpAnyH_ready (rs:=[10]) (by kernel_rfl) (by simp) ?_
 refine AllReadyH.cons rfl (fun K hK=>?_) .nil
 go_simp
 try rw[hV2]
 rw[hsz.out]
 refine hK.out _ _ hS2 (fun _=>?_)
 clear hK K
 try simp only[Act.put,sq1,sq2,sq3]
 refine wpAnyH_ready (rs:=[11]) (by kernel_rfl) (by simp) ?_
 refine AllReadyH.cons rfl (fun K hK=>?_) .nil
 go_simp
 try rw[hV3]
 refine hK.out _ _ hS3 (fun _=>?_)
 clear hK K
 try simp only[Act.put,sq1,sq2,sq3]
 refine wpAnyH_done (by kernel_rfl) ?_ _
 refine Hid.out ?_
 clear hHeld hS2 hS3 hV2 hV3 u0 u1 u2 u3 u4 f0 f1 f2 f3 f4 hV1 hS1 hsz
 replace nk3:=nk3.out
 refine Lib.hid ?_
 go_wp2
 go_loopw [1,25] (fun sv ix wr=>∃j:Nat,j<=L/\ix=vi (j:Nat)/\∃vb vc ps sj,LI w0 w k t o s0 ks b cap P j sv wr vb vc ps sj) (fun _ ix _=>L-(intOf ix).toNat)
 case atStart=>exact⟨0,Nat.zero_le _,rfl,_,_,_,_,hI.out⟩
 case round =>
  obtain⟨j,hj,rfl,vb,vc,ps,sj,hLI⟩:=hrel
  clear hI nk3
  by_cases hlt:j<L
  ·have hlt':(j:Int)<(L:Int):=by omega
   have hge:(0:Int)<=(j:Int):=by omega
   have hj1:Hid (j+1<=L):=hlt
   obtain⟨y,g,off,b',cap',X,rfl,hgl,c0,c1,c2,c3,hX,m0,m1,hcall,hy⟩:=hround.out _ _ _ _ _ _ _ hlt hLI
   obtain⟨n0,n1,n2,n3,_,_,_,_⟩:=in4 m0
   have hnx:=fun pb pc v' w3=>hnext.out _ _ _ _ _ _ _ y b' cap' X pb pc v' w3 hLI hy hX
   obtain⟨pp,hpp⟩:=exq (layN y sj)
   unfold LayR at hcall
   rw[hpp]at hnx hcall
   obtain⟨py,s2⟩:=pp
   replace hnx:Hid _:=hnx
   have hj9:j<=999:=by omega
   clear hround hnext hfin hpp hLI hy m0
   go_wp2_with (go_at_call 9;refine hcall.mono ?_;rintro e w3 ⟨pb,pc,v',rfl,hPK,hsl',hb3⟩;refine Hid.out ?_)
   obtain⟨w4,hw4,q3,q4,a4,w5,hw5,n5,a5,xs,hown,hnx⟩:=hnx.out pb pc v' w3 hPK hsl' hb3
   try dsimp only at hw4 q4 hw5 n5 hnx
   obtain⟨e0,e1,e2,e3,e4,ff0,ff1,ff2,ff3,ff4⟩:=in5 q3
   obtain⟨d0,d1,d2,d3,d4,_,_,_,_,_⟩:=in5 q4
   obtain⟨_,_,_,_,k4,_,_,_,_,_⟩:=in5 a4
   obtain⟨_,_,_,_,l4,_,_,_,_,_⟩:=in5 a5
   have hnews:=c4q n5
   have hone:∀x∈[vi py.k,.string py.t,vi py.n,vi py.sl,.slice pb py.kids.length pc],x.oneCell'=true:=fun x hx=>by simp at hx;rcases hx with rfl|rfl|rfl|rfl|rfl <;> rfl
   have hn1:j+1<=maxLen:=by unfold maxLen;omega
   have hn2:(j+1)*64<=140737488355328:=by omega
   replace hw4:((((w3.setCell (Ad (wr.heap.size+1) 0) (vi py.k)).setCell (Ad (wr.heap.size+1) 1) (.string py.t)).setCell (Ad (wr.heap.size+1) 2) (vi py.n)).setCell (Ad (wr.heap.size+1) 3) (vi py.sl)).setCell (Ad (wr.heap.size+1) 4) (.slice pb py.kids.length pc)=w4:=hw4
   replace hw5:w4.alloc (.cells #[vi py.k,.string py.t,vi py.n,vi py.sl,.slice pb py.kids.length pc] 34)=w5:=hw5
   replace hnx:Hid _:=hnx
   clear hcall hPK hsl' hb3 hX c0 c1 c2 c3 n0 n1 n2 n3 m1 q3 q4 a4 a5 n5
   refine Lib.hid ?_
   go_wp2_with (at_builtin;refine wpList_append_lies _ (by rfl) _ _ _ (by rfl) 0 34 i0 _ 5 64 Tryz.underlying32 hi0 hz0 hz1 hz2 rfl (by omega) (.slice vb j vc) j xs (by rfl) hown (Ad w4.heap.size 0) 1 1 [vi py.k,.string py.t,vi py.n,vi py.sl,.slice pb py.kids.length pc] (by rfl) (by rfl) hnews hone (by omega) hn1 hn2 (Nat.zero_le _) _ rfl ?_;intro g3 cap3 w6 hown3 hgrow hat hlt3;obtain⟨a6,hLI2⟩:=hnx.out w6 g3 cap3 hown3 hgrow hat;obtain⟨h0,h1,h2,h3,h4,o0,o1,o2,o3,o4⟩:=in5 a6;clear hown3 hgrow hat hlt3)
   go_roundw
   case rel =>
    have hj2:=hj1.out
    exact⟨j+1,by omega,by go_num,_,_,_,_,hLI2⟩
   case measure =>
    have hj2:=hj1.out
    simp[intOf];omega
  ·have hlt':¬(j:Int)<(L:Int):=by omega
   obtain rfl:j=L:=by omega
   obtain⟨X,hX,gX,g2,g1,hf⟩:=hfin.out _ _ _ _ _ _ hLI
   obtain⟨h0,h1,h2,h3,h4,o0,o1,o2,o3,o4⟩:=in5 g2
   obtain⟨e0,e1,e2,e3,e4,ff0,ff1,ff2,ff3,ff4⟩:=in5 g1
   replace hX:((((wr.setCell (Ad (w.heap.size+1) 0) (vi k)).setCell (Ad (w.heap.size+1) 1) (.string tb)).setCell (Ad (w.heap.size+1) 2) (vi o)).setCell (Ad (w.heap.size+1) 3) (vi s0)).setCell (Ad (w.heap.size+1) 4) (.slice vb j vc)=X:=hX
   clear hround hnext hfin hLI
   go_wp2
   exact bodyPost_ret (d9m rfl rfl gX) rfl hf
theorem res6{tm:Array Value}{B C:Nat}{a b c d e x y:Value}(h:tm[2]?.getD undef=Po B 0)(h':tm[3]?.getD undef=Po C 0)(hx:W.heap[B]?=some (.cells #[a,b,c,d,e] 34))(hy:W.heap[C]?=some (.cells #[x,y] 27)):(results Tryz.f6 tm).run Tryz.prog W=.ok (.tuple #[.agg #[a,b,c,d,e],.agg #[x,y]]) W:=by
 obtain⟨c0,c1,c2,c3,c4,_,_,_,_,_⟩:=in5 hx
 have v:Ce W C 0 x:=cell_block hy rfl
 have z:Ce W C 1 y:=cell_block hy rfl
 simp[results,Tryz.results6,go_sem,h,h',c0,c1,c2,c3,c4,v,z]
theorem parse_code(h:a2x l=.inl (c,a)):c≠0:=by
 unfold a2x at h
 split at h
 ·rename_i x hx
  cases h
  exact b6d hx
 ·rename_i ts hts
  obtain⟨_,_,r,hr⟩:=a6r hts
  rw[hr]at h
  match r,h with
  | .inl r,h=>cases h;decide
  | .inr (n,l),h =>
   simp only at h
   split at h
   ·cases h
   ·cases h;decide
theorem a8i(h:a5f (a2x l)=.inl (c,a)):c≠0:=by
 unfold a5f at h
 split at h
 ·rename_i x hx
  cases h
  exact parse_code hx
 ·split at h
  ·rename_i e he
   cases h
   exact b3s he
  ·cases h
theorem b8d(h:a5f (a2x l)=.inr (n,sl)):isN n/\n.k=1/\manyN n<=600/\a7k n=.ok sl:=by
 unfold a5f at h
 split at h
 ·cases h
 ·rename_i n' hn'
  obtain⟨h1,h2,h3⟩:=a6s hn'
  split at h
  ·cases h
  ·rename_i sl' hsl
   cases h
   exact⟨h1,h2,h3,hsl⟩
theorem c8g{u:Pt}(h:∀rest,layN n (sl++rest)=(u,rest)):sl.length=manyN n:=by
 have h1:=c4g n (sl++List.replicate (manyN n) 0) (by simp)
 rw[h]at h1
 have h2:=congrArg List.length h1
 simp only[List.length_replicate,List.length_drop,List.length_append]at h2
 have h3:=h []
 omega
theorem d3y(s:ByteArray)(w:World)(hE:ErrV w)(hsp:a4b w)(c:Int)(a:Nat)(hR:a5f (a2x s.data.toList)=.inl (c,a)):Cl 6 #[.string s] w fun e f=>e=.returned (.tuple #[.agg #[vi 0,.string ⟨#[]⟩,vi 0,vi 0,.slice none 0 0],.agg #[vi c,vi (a:Nat)]])/\Bw w f:=by
 have hd:(c != 0)=true:=by simpa using a8i hR
 obtain⟨U,o⟩:=exq ((w.alloc (.cells #[vi 0,.string ⟨#[]⟩,vi 0,vi 0,.slice none 0 0] 34)).alloc (.cells #[vi 0,vi 0] 27))
 have u:Bw w U:=by rw[<- o];exact ext_alloc (ext_alloc (Below.refl _ _) _) _
 have g0:U.heap[w.heap.size]?=some zpx:=by rw[<- o];exact block_alloc _ (new1 _ _)
 have g1:U.heap[w.heap.size+1]?=some (.cells #[vi 0,vi 0] 27):=by rw[<- o];exact new2 _ _ _
 have hk:=b0n s U (hE.on u) (hsp.below u)
 rw[hR]at hk
 clear hR
 go_enter Tryz.func6,Tryz.ntmps6
 go_wp2_with (go_at_call 8;refine hk.mono ?_;rintro e w1 ⟨rfl,y⟩;refine Hid.out ?_)
 obtain⟨V,m⟩:=exq ((w1.alloc (.cells #[vi 0,.string ⟨#[]⟩,vi 0,.slice none 0 0] 43)).alloc (.cells #[vi c,vi (a:Nat)] 27))
 have v:Bw w1 V:=by rw[<- m];exact ext_alloc (ext_alloc (Below.refl _ _) _) _
 have k0:=block_below v (block_below y g0)
 have k1:=block_below v (block_below y g1)
 have k2:V.heap[w1.heap.size+1]?=some (.cells #[vi c,vi (a:Nat)] 27):=by rw[<- m];exact new2 _ _ _
 obtain⟨u0,u1,u2,u3,u4,f0,f1,f2,f3,f4⟩:=in5 k0
 have v0:Ce V (w.heap.size+1) 0 (vi 0):=cell_block k1 rfl
 have v1:Ce V (w.heap.size+1) 1 (vi 0):=cell_block k1 rfl
 have v2:V.frozen? (Ad (w.heap.size+1) 0)=false:=frozen_block k1
 have v3:V.frozen? (Ad (w.heap.size+1) 1)=false:=frozen_block k1
 have t0:Ce V (w1.heap.size+1) 0 (vi c):=cell_block k2 rfl
 have t1:Ce V (w1.heap.size+1) 1 (vi (a:Nat)):=cell_block k2 rfl
 have z9:=block_lt g1
 have d:=y.size
 have n1:¬w1.heap.size+1=w.heap.size:=by omega
 have n2:¬w1.heap.size+1=w.heap.size+1:=by omega
 have n:=ext_trans (ext_trans u y) v
 have g:(pu2 (put5 V w.heap.size (vi 0) (.string ⟨#[]⟩) (vi 0) (vi 0) (.slice none 0 0)) (w.heap.size+1) (vi c) (vi (a:Nat))).heap[w.heap.size]?=some zpx:=(a1a _ _ (by omega)).trans (put5_same _ _ _ _ _ k0)
 have i:(pu2 (put5 V w.heap.size (vi 0) (.string ⟨#[]⟩) (vi 0) (vi 0) (.slice none 0 0)) (w.heap.size+1) (vi c) (vi (a:Nat))).heap[w.heap.size+1]?=some (.cells #[vi c,vi (a:Nat)] 27):=a1p _ _ (((put5_self V w.heap.size _ _ _ _ _).block _ (block_lt k1) (by omega)).trans k1)
 have z:Bw w (pu2 (put5 V w.heap.size (vi 0) (.string ⟨#[]⟩) (vi 0) (vi 0) (.slice none 0 0)) (w.heap.size+1) (vi c) (vi (a:Nat))):=(((a0b.of_below (S:=fun q=>w.heap.size<=q) n).then (put5_self V w.heap.size (vi 0) (.string ⟨#[]⟩) (vi 0) (vi 0) (.slice none 0 0)) (fun j _ ee=>by omega)).then (a1g _ (w.heap.size+1) (vi c) (vi (a:Nat))) (fun j _ ee=>by omega)).below (Nat.le_refl _) (fun q hq h=>by omega)
 obtain⟨X,p⟩:=exq (pu2 (put5 V w.heap.size (vi 0) (.string ⟨#[]⟩) (vi 0) (vi 0) (.slice none 0 0)) (w.heap.size+1) (vi c) (vi (a:Nat)))
 rw[p]at g i z
 replace p:((((((V.setCell (Ad w.heap.size 0) (vi 0)).setCell (Ad w.heap.size 1) (.string ⟨#[]⟩)).setCell (Ad w.heap.size 2) (vi 0)).setCell (Ad w.heap.size 3) (vi 0)).setCell (Ad w.heap.size 4) (.slice none 0 0)).setCell (Ad (w.heap.size+1) 0) (vi c)).setCell (Ad (w.heap.size+1) 1) (vi (a:Nat))=X:=p
 replace p:Hid _:=p
 replace z:Hid _:=z
 clear hk u y v g0 g1 k0 k1 k2 o
 refine Lib.hid ?_
 go_wp2
 clear m
 go_region
 all_goals
  go_wp2
  rw[p.out]
  exact bodyPost_ret (res6 (W:=X.drew) rfl rfl g i) rfl ⟨rfl,z.out.drew⟩
theorem c8h(s:ByteArray)(w:World)(hE:ErrV w)(hsp:a4b w)(n:Nd)(sl:List Int)(u:Pt)(hR:a5f (a2x s.data.toList)=.inr (n,sl))(hu:∀rest,layN n (sl++rest)=(u,rest)):Cl 6 #[.string s] w fun e w'=>∃o p,e=.returned (.tuple #[ptv u o p,.agg #[vi 0,vi 0]])/\PK (fun g=>w.heap.size<=g) w' u.kids o p/\Bw w w':=by
 obtain⟨hN,y2,h6,y3⟩:=b8d hR
 have m:=c8g hu
 have z5:layN n sl=(u,[]):=by have:=hu [];rw[List.append_nil]at this;exact this
 obtain⟨U,hU⟩:=exq ((w.alloc (.cells #[vi 0,.string ⟨#[]⟩,vi 0,vi 0,.slice none 0 0] 34)).alloc (.cells #[vi 0,vi 0] 27))
 have z8:Bw w U:=by rw[<- hU];exact ext_alloc (ext_alloc (Below.refl _ _) _) _
 have g0:U.heap[w.heap.size]?=some zpx:=by rw[<- hU];exact block_alloc _ (new1 _ _)
 have g1:U.heap[w.heap.size+1]?=some (.cells #[vi 0,vi 0] 27):=by rw[<- hU];exact new2 _ _ _
 have hk:=b0n s U (hE.on z8) (hsp.below z8)
 rw[hR]at hk
 clear hR hN y2 y3
 replace m:Hid _:=m
 go_enter Tryz.func6,Tryz.ntmps6
 go_wp2_with (go_at_call 8;refine hk.mono ?_;rintro e w1 ⟨⟨b,cap,sb,sc,rfl,y4,z0,y9⟩,z9⟩;refine Hid.out ?_)
 obtain⟨f,i⟩:=exq ((w1.alloc (nbx n b cap)).alloc (.cells #[vi 0,vi 0] 27))
 have z4:Bw w1 f:=by rw[<- i];exact ext_alloc (ext_alloc (Below.refl _ _) _) _
 have r2:f.heap[w1.heap.size+1]?=some (.cells #[vi 0,vi 0] 27):=by rw[<- i];exact new2 _ _ _
 have r3:f.heap[w1.heap.size]?=some (nbx n b cap):=by rw[<- i];exact block_alloc _ (new1 _ _)
 obtain⟨V,hV⟩:=exq (pu2 f (w1.heap.size+1) (vi 0) (vi 0))
 have y:Bw w1 V:=by rw[<- hV];exact((a0b.of_below (S:=fun _=>False) z4).then (a1g f (w1.heap.size+1) _ _) (fun j hj ee=>by omega)).below (Nat.le_refl _) (fun _ _=>id)
 have k0:=block_below y (block_below z9 g0)
 have k1:=block_below y (block_below z9 g1)
 have k2:V.heap[w1.heap.size+1]?=some (.cells #[vi 0,vi 0] 27):=by rw[<- hV];exact a1p _ _ r2
 have k3:V.heap[w1.heap.size]?=some (nbx n b cap):=by rw[<- hV];exact(a1a _ _ (by omega)).trans r3
 have s0:Ce f (w1.heap.size+1) 0 (vi 0):=cell_block r2 rfl
 have s1:Ce f (w1.heap.size+1) 1 (vi 0):=cell_block r2 rfl
 have s2:f.frozen? (Ad (w1.heap.size+1) 0)=false:=frozen_block r2
 have s3:f.frozen? (Ad (w1.heap.size+1) 1)=false:=frozen_block r2
 replace i:(w1.alloc (.cells #[vi n.k,sk n.t,vi n.n,.slice b n.kids.length cap] 43)).alloc (.cells #[vi 0,vi 0] 27)=f:=i
 replace hV:(f.setCell (Ad (w1.heap.size+1) 0) (vi 0)).setCell (Ad (w1.heap.size+1) 1) (vi 0)=V:=hV
 obtain⟨m0,m1,m2,m3,_,_,_,_⟩:=in4 k3
 have t0:Ce V (w1.heap.size+1) 0 (vi 0):=cell_block k2 rfl
 have z6:SlV w1 (.slice sb sl.length sc) sl:=by
  refine⟨sb,sc,rfl,y9,?_⟩
  rcases z0 with h|⟨g,e,_,h2,h3⟩
  ·exact .inl h
  ·exact .inr ⟨g,0,e,h2,fun j x hx=>by rw[Nat.zero_add];exact h3 j x hx⟩
 obtain⟨SL,y7⟩:=exq (sl.length)
 have z:=d3x n b cap (.slice sb sl.length sc) sl w1 V y ((y4.weak (fun _ _ _=>trivial)).below y) z6 (Nat.le_of_eq m.out.symm) h6
 unfold LayR at z
 rw[z5]at z
 rw[y7]at z⊢
 replace z:Cl 9 #[.agg #[vi n.k,sk n.t,vi n.n,.slice b n.kids.length cap],.slice sb SL sc] V _:=z
 have x7:=block_lt g1
 have x8:=z9.size
 have x9:=y.size
 have y8:=ext_trans (ext_trans z8 z9) y
 clear hk z8 z9 y g0 g1 k2 k3 hU y4 z0 y9 z6 z5 m h6 y7 z4 r2 r3 hu
 refine Lib.hid ?_
 go_wp2_with (go_at_call 9;refine z.mono ?_;rintro e w3 ⟨o,p,v',rfl,y5,_,a⟩;refine Hid.out ?_)
 obtain⟨v,z7⟩:=exq (w3.alloc (pbx u o p))
 have d:Bw w3 v:=by rw[<- z7];exact ext_alloc (Below.refl _ _) _
 have j0:=block_below d (block_below a k0)
 have j1:=block_below d (block_below a k1)
 have j2:v.heap[w3.heap.size]?=some (pbx u o p):=by rw[<- z7];exact new1 _ _
 replace z7:w3.alloc (.cells #[vi u.k,.string u.t,vi u.n,vi u.sl,.slice o u.kids.length p] 34)=v:=z7
 obtain⟨p0,p1,p2,p3,p4,_,_,_,_,_⟩:=in5 j2
 obtain⟨u0,u1,u2,u3,u4,f0,f1,f2,f3,f4⟩:=in5 j0
 have v0:Ce v (w.heap.size+1) 0 (vi 0):=cell_block j1 rfl
 have v1:Ce v (w.heap.size+1) 1 (vi 0):=cell_block j1 rfl
 have v2:v.frozen? (Ad (w.heap.size+1) 0)=false:=frozen_block j1
 have v3:v.frozen? (Ad (w.heap.size+1) 1)=false:=frozen_block j1
 have y0:=a.size
 have n1:¬w3.heap.size=w.heap.size:=by omega
 have n2:¬w3.heap.size=w.heap.size+1:=by omega
 have z1:=(put5_self v w.heap.size (vi u.k) (.string u.t) (vi u.n) (vi u.sl) (.slice o u.kids.length p))
 have z2:=a1g (put5 v w.heap.size (vi u.k) (.string u.t) (vi u.n) (vi u.sl) (.slice o u.kids.length p)) (w.heap.size+1) (vi 0) (vi 0)
 have x1:=(a1a (W:=put5 v w.heap.size (vi u.k) (.string u.t) (vi u.n) (vi u.sl) (.slice o u.kids.length p)) (B:=w.heap.size+1) (C:=w.heap.size) (vi 0) (vi 0) (by omega)).trans (put5_same (vi u.k) (.string u.t) (vi u.n) (vi u.sl) (.slice o u.kids.length p) j0)
 have x2:=a1p (vi 0) (vi 0) ((z1.block _ (block_lt j1) (by omega)).trans j1)
 obtain⟨X,hX⟩:=exq (pu2 (put5 v w.heap.size (vi u.k) (.string u.t) (vi u.n) (vi u.sl) (.slice o u.kids.length p)) (w.heap.size+1) (vi 0) (vi 0))
 rw[hX]at x1 x2 z2
 have z3:a0b (fun q=>q=w.heap.size\/q=w.heap.size+1) v X:=(z1.mono (fun _ _ h=>.inl h)).trans (z2.mono (fun _ _ h=>.inr h))
 have y6:PK (fun g=>w.heap.size<=g) X u.kids o p:=((y5.below d).keep z3 (fun g hg _ ee=>by omega)).weak (fun g hg _=>by omega)
 have y1:Bw w X:=((a0b.of_below (S:=fun q=>w.heap.size<=q) (ext_trans (ext_trans y8 a) d)).then z3 (fun j _ ee=>by omega)).below (Nat.le_refl _) (fun q hq h=>by omega)
 replace hX:((((((v.setCell (Ad w.heap.size 0) (vi u.k)).setCell (Ad w.heap.size 1) (.string u.t)).setCell (Ad w.heap.size 2) (vi u.n)).setCell (Ad w.heap.size 3) (vi u.sl)).setCell (Ad w.heap.size 4) (.slice o u.kids.length p)).setCell (Ad (w.heap.size+1) 0) (vi 0)).setCell (Ad (w.heap.size+1) 1) (vi 0)=X:=hX
 replace hX:Hid _:=hX
 clear z y5 a d j0 j1 j2 z1 z2 z3 k0 k1 y8 m0 m1 m2 m3 t0 i hV s0 s1 s2 s3
 refine Lib.hid ?_
 go_wp2
 rw[hX.out]
 exact bodyPost_ret (res6 rfl rfl x1 x2) rfl ⟨o,p,rfl,y6,y1⟩
end
end Go.Proofs.YtfbpdbndejefdaaGreatDoor.V
