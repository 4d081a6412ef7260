/- with: a pair put behind all others, in memory of its own. -/
import Derived.Deep.RegionHeld3
import Derived.Test.YtfbpdbndejefdaaGreatDoorS22
import Derived.Deep.AppendLies
namespace Go.Proofs.YtfbpdbndejefdaaGreatDoor.V
open Go.RowKit Go.Shelf Go
set_option maxRecDepth 100000
set_option maxHeartbeats 8000000
set_option linter.all false
variable {base n b B n' c c' m:Nat} {W W' w u u' W1:World} {ks vs q:Value} {row:Option Nat} {tm:Array Value} {a a':Option Addr} {P:Nat->Prop} {o:Obj}
section
variable [DecidableEq Vl]
theorem c9u:(Tryz.prog.info? 52).map (fun i=>(i.zero,i.size,i.bytes))=some (some (.agg #[vi 0,vi 0,.string ⟨#[]⟩]),3,32):=by kernel_rfl
abbrev trio (x:Vl):List Value:=[vi x.k,vi x.n,.string x.s]
def flat (xs:List Vl):List Value:=xs.flatMap trio
theorem a9z(xs:List Vl)(x:Vl):flat (xs++[x])=flat xs++trio x:=by simp[flat]
structure Own2 (base:Nat) (W:World) (ks vs:Value) (xs ys:List Vl):Prop where
 k:W.ownsRow base 52 3 ks xs.length (flat xs)
 v:W.ownsRow base 52 3 vs ys.length (flat ys)
 ne:∀b,ks.ownBlock=some b->vs.ownBlock≠some b
theorem own_ge{v:Value}{xs:List Value}(h:W.ownsRow base 52 3 v n xs)(hb:v.ownBlock=some b):base<=b/\b<W.heap.size/\∃z,W.heap[b]?=some (.cells z 52):=by
 rcases h.2 with⟨rfl,_⟩|⟨g,cap,z,rfl,y,u,_⟩
 ·simp[Value.ownBlock]at hb
 ·obtain rfl:g=b:=by simpa[Value.ownBlock]using hb
  exact⟨y,(Array.getElem?_eq_some_iff.1 u).1,z,u⟩
theorem own_kept{v:Value}{xs:List Value}(h:W.ownsRow base 52 3 v n xs)(hw:∀b,v.ownBlock=some b->W'.heap[b]?=W.heap[b]?):W'.ownsRow base 52 3 v n xs:=by
 refine⟨h.1,?_⟩
 rcases h.2 with h0|⟨g,cap,y,rfl,z,u,hr⟩
 ·exact .inl h0
 ·exact .inr ⟨g,cap,y,rfl,z,(hw g rfl).trans u,hr⟩
theorem Own2.kept{xs ys:List Vl}(h:Own2 base W ks vs xs ys)(hw:∀b,(ks.ownBlock=some b\/vs.ownBlock=some b)->W'.heap[b]?=W.heap[b]?):Own2 base W' ks vs xs ys :=
 ⟨own_kept h.k (fun b z=>hw b (.inl z)),own_kept h.v (fun b z=>hw b (.inr z)),h.ne⟩
theorem Own2.below{xs ys:List Vl}(h:Own2 base W ks vs xs ys)(hb:Bw W W'):Own2 base W' ks vs xs ys :=
 h.kept (fun b z=>hb.block b (z.elim (fun e=>(own_ge h.k e).2.1) (fun e=>(own_ge h.v e).2.1)))
structure Fr (W W':World) (ks vs:Value):Prop where
 os:W'.os=W.os
 tape:W'.tape=W.tape
 output:W'.output=W.output
 size:W.heap.size<=W'.heap.size
 block:∀b,b<W.heap.size->ks.ownBlock≠some b->vs.ownBlock≠some b->W'.heap[b]?=W.heap[b]?
theorem Fr.of_below(ks vs:Value)(h:Bw W W'):Fr W W' ks vs:=⟨h.os,h.tape,h.output,h.size,fun b z _ _=>h.block b z⟩
theorem Fr.below{xs ys:List Vl}(h:Fr W W' ks vs)(ho:Own2 base W ks vs xs ys)(hs:base<=W.heap.size):Below base W W' :=
 ⟨h.os,h.tape,h.output,h.size,fun b z=>h.block b (by omega) (fun e=>by have:=(own_ge ho.k e).1;omega) (fun e=>by have:=(own_ge ho.v e).1;omega)⟩
theorem c7b(a:Option Addr)(n1 c1:Nat)(a':Option Addr)(n2 c2:Nat)(k v:Vl)(w:World)(h:(v.k == 0)=true) :
  Cl 114 #[.agg #[.slice a n1 c1,.slice a' n2 c2],k.v,v.v] w fun e z=>e=.returned (.agg #[.slice a n1 c1,.slice a' n2 c2])/\Bw w z:=by
 go_enter Tryz.func114,Tryz.ntmps114
 go_wp2
 exact bodyPost_ret (v:=.agg #[.slice a n1 c1,.slice a' n2 c2]) (by simp[results,Tryz.results114,go_sem]) rfl ⟨rfl,((((Below.refl _ _).alloc (Nat.le_refl _) _).alloc (by simp) _).alloc (by simp;omega) _).alloc (by simp;omega) _⟩
structure MW (w:World) (ks vs:Value) (k v:Vl) (u:World):Prop where
 ht:u.heap[w.heap.size]?=some (.cells #[ks,vs] 143)
 hk:u.heap[w.heap.size+1]?=some (bx k)
 hv:u.heap[w.heap.size+1+1]?=some (bx v)
 hr:u.heap[w.heap.size+1+1+1]?=some (.cells #[.slice none 0 0,.slice none 0 0] 143)
 fr:Fr w u ks vs
theorem MW.lt{k v:Vl}(h:MW w ks vs k v u):w.heap.size+3<u.heap.size:=(Array.getElem?_eq_some_iff.1 h.hr).1
theorem MW.drew{k v:Vl}(h:MW w ks vs k v u):MW w ks vs k v u.drew:=⟨h.ht,h.hk,h.hv,h.hr,⟨h.fr.os,h.fr.tape,h.fr.output,h.fr.size,h.fr.block⟩⟩
theorem MW.alloc{k v:Vl}(h:MW w ks vs k v u)(o:Obj):MW w ks vs k v (u.alloc o) :=
 ⟨block_alloc _ h.ht,block_alloc _ h.hk,block_alloc _ h.hv,block_alloc _ h.hr,⟨h.fr.os,h.fr.tape,h.fr.output,by simp;exact Nat.le_succ_of_le h.fr.size,fun b z h1 h2=>(Below.heap_alloc _ _ _ (Nat.lt_of_lt_of_le z h.fr.size)).trans (h.fr.block b z h1 h2)⟩⟩
theorem MW.grown{k v:Vl}(h:MW w ks vs k v u)(hg:u.grownBy u' row)(hrow:∀b,row=some b->b<w.heap.size/\(ks.ownBlock=some b\/vs.ownBlock=some b)):MW w ks vs k v u':=by
 have q:=h.lt
 have z:∀b,w.heap.size<=b->b<u.heap.size->u'.heap[b]?=u.heap[b]?:=fun b s y=>hg.block b y (fun e=>by have:=(hrow b e.symm).1;omega)
 refine⟨(z _ (by omega) (by omega)).trans h.ht,(z _ (by omega) (by omega)).trans h.hk,(z _ (by omega) (by omega)).trans h.hv,(z _ (by omega) (by omega)).trans h.hr,?_⟩
 refine⟨hg.os.trans h.fr.os,hg.tape.trans h.fr.tape,hg.output.trans h.fr.output,Nat.le_trans h.fr.size hg.size,fun b s h1 h2=>(hg.block b (by omega) (fun e=>?_)).trans (h.fr.block b s h1 h2)⟩
 exact(hrow b e.symm).2.elim h1 h2
structure d2r (w:World) (ks vs:Value) (k v:Vl) (u:World):Prop where
 t0:u.cell? (Ad w.heap.size 0)=some ks
 t1:u.cell? (Ad w.heap.size 1)=some vs
 k0:u.cell? (Ad (w.heap.size+1) 0)=some (vi k.k)
 k1:u.cell? (Ad (w.heap.size+1) 1)=some (vi k.n)
 k2:u.cell? (Ad (w.heap.size+1) 2)=some (.string k.s)
 v0:u.cell? (Ad (w.heap.size+1+1) 0)=some (vi v.k)
 v1:u.cell? (Ad (w.heap.size+1+1) 1)=some (vi v.n)
 v2:u.cell? (Ad (w.heap.size+1+1) 2)=some (.string v.s)
 r0:u.cell? (Ad (w.heap.size+1+1+1) 0)=some (.slice none 0 0)
 r1:u.cell? (Ad (w.heap.size+1+1+1) 1)=some (.slice none 0 0)
 f0:u.frozen? (Ad (w.heap.size+1+1+1) 0)=false
 f1:u.frozen? (Ad (w.heap.size+1+1+1) 1)=false
theorem MW.cells{k v:Vl}(h:MW w ks vs k v u):d2r w ks vs k v u :=
 ⟨cell_block h.ht rfl,cell_block h.ht rfl,(in3 h.hk).c0,(in3 h.hk).c1,(in3 h.hk).c2,(in3 h.hv).c0,(in3 h.hv).c1,(in3 h.hv).c2,cell_block h.hr rfl,cell_block h.hr rfl,frozen_block h.hr,frozen_block h.hr⟩
theorem news{x:Vl}(h:W.heap[B]?=some (bx x)):∀j u,(trio x)[j]?=some u->W.cell? ((Ad B 0).add j)=some u:=World.news_of_block (cs:=#[vi x.k,vi x.n,.string x.s]) h
theorem res27(h:tm[6]?.getD undef=Po B 0)(hx:W.heap[B]?=some (.cells #[.slice a n c,.slice a' n' c'] 143)):(results Tryz.f114 tm).run Tryz.prog W=.ok (.agg #[.slice a n c,.slice a' n' c']) W:=by
 have c0:Ce W B 0 (.slice a n c):=cell_block hx rfl
 have c1:Ce W B 1 (.slice a' n' c'):=cell_block hx rfl
 simp[results,Tryz.results114,go_sem,h,c0,c1]
theorem newk(W1:World)(k v:Vl):((W1.alloc (bx v)).alloc (bx k)).drew.heap[W1.heap.size+1]?=some (bx k):=by
 have:=World.alloc_heap_new (W1.alloc (bx v)) (bx k)
 simp only[World.size_alloc]at this
 exact this
theorem newv(W1:World)(k v:Vl):((W1.alloc (bx k)).alloc (bx v)).drew.heap[W1.heap.size+1]?=some (bx v):=by
 have:=World.alloc_heap_new (W1.alloc (bx k)) (bx v)
 simp only[World.size_alloc]at this
 exact this
theorem a3q{xs ys:List Vl}(h:Own2 base W ks vs xs ys):Own2 base W.drew ks vs xs ys:=⟨h.k,h.v,h.ne⟩
theorem a1k{xs ys:List Vl}(h:Own2 base W ks vs xs ys)(o:Obj):Own2 base (W.alloc o) ks vs xs ys:=h.below ((Below.refl _ _).alloc (Nat.le_refl _) _)
theorem c3b{xs ys:List Vl}(h:Own2 base W ks vs xs ys)(e:vs.ownBlock=some b):b<W.heap.size:=(own_ge h.v e).2.1
theorem far2(hg:u.grownBy u' row)(hrow:∀b,row=some b->b<w.heap.size/\P b)(hs:w.heap.size<=W1.heap.size)(h:u.heap[W1.heap.size+1]?=some o):u'.heap[W1.heap.size+1]?=some o :=
 (hg.block _ (Array.getElem?_eq_some_iff.1 h).1 (fun e=>by have:=(hrow _ e.symm).1;omega)).trans h
theorem far1(hg:u.grownBy u' row)(hrow:∀b,row=some b->b<w.heap.size/\P b)(hs:w.heap.size<=W1.heap.size)(h:u.heap[W1.heap.size]?=some o):u'.heap[W1.heap.size]?=some o :=
 (hg.block _ (Array.getElem?_eq_some_iff.1 h).1 (fun e=>by have:=(hrow _ e.symm).1;omega)).trans h
theorem b2i{g cap g2 cap2:Nat}{xs ys:List Vl}{k v:Vl}{w2 u2 w3:World}{H:Nat}(ho:Own2 base w ks vs xs ys)(hown1:w2.ownsRow base 52 3 (.slice (some (Ad g 0)) (xs.length+1) cap) (xs.length+1) (flat xs++trio k))(hown2:w3.ownsRow base 52 3 (.slice (some (Ad g2 0)) (ys.length+1) cap2) (ys.length+1) (flat ys++trio v))(hgrow2:u2.grownBy w3 vs.ownBlock)(hu2:Bw w2 u2)(hat:ks.ownBlock=some g\/g=H)(hH:w.heap.size<=H)(hlt:g<w2.heap.size)(hat2:vs.ownBlock=some g2\/g2=u2.heap.size)(M3:MW w ks vs k v w3) :
  Own2 base ((w3.setCell (Ad (w.heap.size+1+1+1) 0) (.slice (some (Ad g 0)) (xs.length+1) cap)).setCell (Ad (w.heap.size+1+1+1) 1) (.slice (some (Ad g2 0)) (ys.length+1) cap2)) (.slice (some (Ad g 0)) (xs.length+1) cap) (.slice (some (Ad g2 0)) (ys.length+1) cap2) (xs++[k]) (ys++[v]) /\
  Fr w ((w3.setCell (Ad (w.heap.size+1+1+1) 0) (.slice (some (Ad g 0)) (xs.length+1) cap)).setCell (Ad (w.heap.size+1+1+1) 1) (.slice (some (Ad g2 0)) (ys.length+1) cap2)) ks vs:=by
 have y:vs.ownBlock≠some g:=by
  rcases hat with h|h
  ·exact ho.ne g h
  ·intro e
   have:=(own_ge ho.v e).2.1
   omega
 have p:g≠g2:=by
  rcases hat2 with h|h
  ·rintro rfl;exact y h
  ·have:=hu2.size;omega
 have h1:w3.ownsRow base 52 3 (.slice (some (Ad g 0)) (xs.length+1) cap) (xs.length+1) (flat xs++trio k):=own_kept hown1 (fun b e=>by
  obtain rfl:g=b:=by simpa[Value.ownBlock]using e
  exact(hgrow2.block g (Nat.lt_of_lt_of_le hlt hu2.size) (fun s=>y s.symm)).trans (hu2.block g hlt))
 have z:∀b,(∃u,w3.heap[b]?=some (.cells u 52))->b≠w.heap.size+1+1+1:=by
  rintro b ⟨u,q⟩ rfl
  rw[M3.hr]at q
  cases q
 have n1:=z g (own_ge h1 rfl).2.2
 have n2:=z g2 (own_ge hown2 rfl).2.2
 refine⟨⟨?_,?_,?_⟩,?_⟩
 ·rw[a9z,List.length_append]
  exact own_kept h1 (fun b e=>by
   obtain rfl:g=b:=by simpa[Value.ownBlock]using e
   exact(set1_other _ _ n1).trans (set1_other _ _ n1))
 ·rw[a9z,List.length_append]
  exact own_kept hown2 (fun b e=>by
   obtain rfl:g2=b:=by simpa[Value.ownBlock]using e
   exact(set1_other _ _ n2).trans (set1_other _ _ n2))
 ·intro b e s
  simp[Value.ownBlock]at e s
  omega
 ·exact⟨M3.fr.os,M3.fr.tape,M3.fr.output,Nat.le_trans M3.fr.size (Nat.le_trans (KeepsOthers.setCell _ _ _).size (KeepsOthers.setCell _ _ _).size),fun b o h1 h2=>((set1_other _ _ (by omega)).trans (set1_other _ _ (by omega))).trans (M3.fr.block b o h1 h2)⟩
theorem c3c(base:Nat)(ks vs:Value)(xs ys:List Vl)(k v:Vl)(w:World)(ho:Own2 base w ks vs xs ys)(hb:base<=w.heap.size)(hx:xs.length<=200)(hy:ys.length<=200)(h:(v.k == 0)=false) :
  Cl 114 #[.agg #[ks,vs],k.v,v.v] w fun e w'=>∃x2 x3,e=.returned (.agg #[x2,x3])/\Own2 base w' x2 x3 (xs++[k]) (ys++[v])/\Fr w w' ks vs:=by
 obtain⟨i0,z9,d,f,i⟩:=info_parts c9u
 obtain⟨a,n1,c1,rfl⟩:∃a n c,ks=.slice a n c:=by rcases ho.k.2 with⟨rfl,_⟩|⟨g,cap,x1,rfl,_⟩ <;> exact⟨_,_,_,rfl⟩
 obtain⟨a',n2,c2,rfl⟩:∃a n c,vs=.slice a n c:=by rcases ho.v.2 with⟨rfl,_⟩|⟨g,cap,x1,rfl,_⟩ <;> exact⟨_,_,_,rfl⟩
 obtain⟨W1,y5⟩:=exq ((((w.alloc (.cells #[.slice a n1 c1,.slice a' n2 c2] 143)).alloc (bx k)).alloc (bx v)).alloc (.cells #[.slice none 0 0,.slice none 0 0] 143))
 have M0:MW w (.slice a n1 c1) (.slice a' n2 c2) k v W1:=by
  subst y5
  refine⟨block_alloc _ (block_alloc _ (block_alloc _ (World.alloc_heap_new w _))),?_,?_,?_,Fr.of_below _ _ (((((Below.refl _ _).alloc (Nat.le_refl _) _).alloc (by simp) _).alloc (by simp;omega) _).alloc (by simp;omega) _)⟩
  ·have:=block_alloc (.cells #[.slice none 0 0,.slice none 0 0] 143) (block_alloc (bx v) (World.alloc_heap_new (w.alloc (.cells #[.slice a n1 c1,.slice a' n2 c2] 143)) (bx k)))
   simpa only[World.size_alloc]using this
  ·have:=block_alloc (.cells #[.slice none 0 0,.slice none 0 0] 143) (World.alloc_heap_new ((w.alloc (.cells #[.slice a n1 c1,.slice a' n2 c2] 143)).alloc (bx k)) (bx v))
   simpa only[World.size_alloc]using this
  ·have:=World.alloc_heap_new (((w.alloc (.cells #[.slice a n1 c1,.slice a' n2 c2] 143)).alloc (bx k)).alloc (bx v)) (.cells #[.slice none 0 0,.slice none 0 0] 143)
   simpa only[World.size_alloc]using this
 have y1:Bw w W1:=by subst y5;exact((((Below.refl _ _).alloc (Nat.le_refl _) _).alloc (by simp) _).alloc (by simp;omega) _).alloc (by simp;omega) _
 have q:=ho.below y1
 have j:∀b,(Value.slice a n1 c1).ownBlock=some b->b<w.heap.size/\((Value.slice a n1 c1).ownBlock=some b\/(Value.slice a' n2 c2).ownBlock=some b):=fun b e=>⟨(own_ge ho.k e).2.1,.inl e⟩
 have y8:∀b,(Value.slice a' n2 c2).ownBlock=some b->b<w.heap.size/\((Value.slice a n1 c1).ownBlock=some b\/(Value.slice a' n2 c2).ownBlock=some b):=fun b e=>⟨(own_ge ho.v e).2.1,.inr e⟩
 have w4:base<=W1.heap.size:=Nat.le_trans hb y1.size
 have y0:=y1.size
 have x6:xs.length+1<=maxLen:=by unfold maxLen;omega
 have x4:(xs.length+1)*32<=140737488355328:=by omega
 have x7:ys.length+1<=maxLen:=by unfold maxLen;omega
 have x5:(ys.length+1)*32<=140737488355328:=by omega
 replace y5:Hid _:=y5
 replace j:Hid _:=j
 replace y8:Hid _:=y8
 replace ho:Hid _:=ho
 obtain⟨t0,t1,k0,k1,k2,v0,v1,v2,r0,r1,f0,f1⟩:=M0.cells
 go_enter Tryz.func114,Tryz.ntmps114
 go_wp2
 have e1:=y5.out
 dsimp only[bx]at e1
 rw[e1]
 clear e1 y1
 have w5:¬w.heap.size=w.heap.size+1+1+1:=by omega
 have w6:¬w.heap.size+1=w.heap.size+1+1+1:=by omega
 have w7:¬w.heap.size+1+1+1=w.heap.size:=by omega
 have w9:¬w.heap.size=w.heap.size+1+1:=by omega
 have x0:¬w.heap.size+1+1=w.heap.size:=by omega
 have w8:¬w.heap.size+1+1+1=w.heap.size+1:=by omega
 go_region_held3 (fun u=>u.cell? (Ad w.heap.size 0)=some (.slice a n1 c1)/\u.cell? (Ad w.heap.size 1)=some (.slice a' n2 c2)/\u.cell? (Ad (w.heap.size+1) 0)=some (vi k.k)/\u.cell? (Ad (w.heap.size+1) 1)=some (vi k.n)/\u.cell? (Ad (w.heap.size+1) 2)=some (.string k.s)/\u.cell? (Ad (w.heap.size+1+1) 0)=some (vi v.k)/\u.cell? (Ad (w.heap.size+1+1) 1)=some (vi v.n)/\u.cell? (Ad (w.heap.size+1+1) 2)=some (.string v.s)) (go_keep)
  (first
   | (refine step_append_lies _ (by rfl) _ _ _ (by rfl) base 52 i0 _ 3 32 Tryz.underlying61 z9 d f i rfl (by omega) (.slice a n1 c1) xs.length (flat xs) (by rfl) (a3q (a1k q (bx k))).k (Ad W1.heap.size 0) 1 1 (trio k) (by rfl) (by rfl) (news (W:=(W1.alloc (bx k)).drew) (World.alloc_heap_new W1 (bx k))) (by simp[Value.oneCell']) (by omega) x6 x4 (by simp;omega) _ rfl ?_;intro g cap w2 o y y6 y7;have M2:=MW.grown (M0.alloc (bx k)).drew y j.out;have y4:=own_kept (a3q (a1k q (bx k))).v (fun b e=>y.block b (c3b (a3q (a1k q (bx k))) e) (fun e'=>q.ne b e'.symm e));obtain⟨z4,z5,y9,z0,z1,z6,z7,z8,z2,z3,y2,y3⟩:=M2.cells)
   | (refine step_append_lies _ (by rfl) _ _ _ (by rfl) base 52 i0 _ 3 32 Tryz.underlying61 z9 d f i rfl (by omega) (.slice a n1 c1) xs.length (flat xs) (by rfl) (a3q (a1k (a1k q (bx k)) (bx v))).k (Ad W1.heap.size 0) 1 1 (trio k) (by rfl) (by rfl) (news (W:=((W1.alloc (bx k)).alloc (bx v)).drew) (block_alloc (bx v) (World.alloc_heap_new W1 (bx k)))) (by simp[Value.oneCell']) (by omega) x6 x4 (by simp;omega) _ rfl ?_;intro g cap w2 o y y6 y7;have M2:=MW.grown ((M0.alloc (bx k)).alloc (bx v)).drew y j.out;have y4:=own_kept (a3q (a1k (a1k q (bx k)) (bx v))).v (fun b e=>y.block b (c3b (a3q (a1k (a1k q (bx k)) (bx v))) e) (fun e'=>q.ne b e'.symm e));obtain⟨z4,z5,y9,z0,z1,z6,z7,z8,z2,z3,y2,y3⟩:=M2.cells)
   | (refine step_append_lies _ (by rfl) _ _ _ (by rfl) base 52 i0 _ 3 32 Tryz.underlying61 z9 d f i rfl (by omega) (.slice a n1 c1) xs.length (flat xs) (by rfl) (a3q (a1k (a1k q (bx v)) (bx k))).k (Ad (W1.heap.size+1) 0) 1 1 (trio k) (by rfl) (by rfl) (news (newk W1 k v)) (by simp[Value.oneCell']) (by omega) x6 x4 (by simp;omega) _ rfl ?_;intro g cap w2 o y y6 y7;have M2:=MW.grown ((M0.alloc (bx v)).alloc (bx k)).drew y j.out;have y4:=own_kept (a3q (a1k (a1k q (bx v)) (bx k))).v (fun b e=>y.block b (c3b (a3q (a1k (a1k q (bx v)) (bx k))) e) (fun e'=>q.ne b e'.symm e));obtain⟨z4,z5,y9,z0,z1,z6,z7,z8,z2,z3,y2,y3⟩:=M2.cells)
   | (refine step_append_lies _ (by rfl) _ _ _ (by rfl) base 52 i0 _ 3 32 Tryz.underlying61 z9 d f i rfl (by omega) (.slice a' n2 c2) ys.length (flat ys) (by rfl) (World.ownsRow.alloc y4 (bx v)) (Ad w2.heap.size 0) 1 1 (trio v) (by rfl) (by rfl) (news (World.alloc_heap_new w2 (bx v))) (by simp[Value.oneCell']) (by omega) x7 x5 (by have:=M2.lt;simp;omega) _ rfl ?_;intro g2 x8 w3 p z m x9;have M3:=MW.grown (M2.alloc (bx v)) z y8.out;obtain⟨z4,z5,y9,z0,z1,z6,z7,z8,z2,z3,y2,y3⟩:=M3.cells)
   | (refine step_append_lies _ (by rfl) _ _ _ (by rfl) base 52 i0 _ 3 32 Tryz.underlying61 z9 d f i rfl (by omega) (.slice a' n2 c2) ys.length (flat ys) (by rfl) y4 (Ad (W1.heap.size+1) 0) 1 1 (trio v) (by rfl) (by rfl) (news (far2 y j.out y0 (newv W1 k v))) (by simp[Value.oneCell']) (by omega) x7 x5 (by have:=M2.lt;omega) _ rfl ?_;intro g2 x8 w3 p z m x9;have M3:=MW.grown M2 z y8.out;obtain⟨z4,z5,y9,z0,z1,z6,z7,z8,z2,z3,y2,y3⟩:=M3.cells)
   | (refine step_append_lies _ (by rfl) _ _ _ (by rfl) base 52 i0 _ 3 32 Tryz.underlying61 z9 d f i rfl (by omega) (.slice a' n2 c2) ys.length (flat ys) (by rfl) y4 (Ad W1.heap.size 0) 1 1 (trio v) (by rfl) (by rfl) (news (far1 y j.out y0 (u:=((W1.alloc (bx v)).alloc (bx k)).drew) (block_alloc (bx k) (World.alloc_heap_new W1 (bx v))))) (by simp[Value.oneCell']) (by omega) x7 x5 (by have:=M2.lt;omega) _ rfl ?_;intro g2 x8 w3 p z m x9;have M3:=MW.grown M2 z y8.out;obtain⟨z4,z5,y9,z0,z1,z6,z7,z8,z2,z3,y2,y3⟩:=M3.cells))
 ·go_wp2
  exact bodyPost_ret (res27 rfl (set_block _ (set_block _ M3.hr))) rfl ⟨_,_,rfl,b2i ho.out o p z ((Below.refl _ _).alloc (Nat.le_refl _) _) y6 (by simp;omega) y7 m M3⟩
 ·go_wp2
  exact bodyPost_ret (res27 rfl (set_block _ (set_block _ M3.hr))) rfl ⟨_,_,rfl,b2i ho.out o p z (Below.refl _ _) y6 (by simp;omega) y7 m M3⟩
 ·go_wp2
  exact bodyPost_ret (res27 rfl (set_block _ (set_block _ M3.hr))) rfl ⟨_,_,rfl,b2i ho.out o p z (Below.refl _ _) y6 (by simp;omega) y7 m M3⟩
def swap (k v:Vl) (p:Vl×Vl):Vl×Vl:=if p.1=k then (p.1,v) else p
def full (p:Vl×Vl):Bool:=!(p.2.k == 0)
def part (k v:Vl) (zs:List (Vl×Vl)):List (Vl×Vl):=(zs.map (swap k v)).filter full
def met (k:Vl) (zs:List (Vl×Vl)):Bool:=zs.any (fun p=>decide (p.1=k))
def setZ (k v:Vl) (zs:List (Vl×Vl)):List (Vl×Vl):=part k v zs++(if met k zs=true then [] else [(k,v)].filter full)
def setT (xs ys:List Vl) (k v:Vl):List (Vl×Vl)×Int :=
 if ¬(mayT xs ys=true/\mayB k.k k.n k.s=true/\mayB v.k v.n v.s=true) then ([],2)
 else if k.k=0 then ([],3)
 else if 100<(setZ k v (xs.zip ys)).length then ([],1) else (setZ k v (xs.zip ys),0)
theorem b4a(k v:Vl)(zs:List (Vl×Vl))(p:Vl×Vl):part k v (zs++[p])=part k v zs++[swap k v p].filter full:=by simp[part]
theorem b7g(k:Vl)(zs:List (Vl×Vl))(p:Vl×Vl):met k (zs++[p])=(met k zs||decide (p.1=k)):=by simp[met]
theorem b0a(k v:Vl)(zs:List (Vl×Vl)):(part k v zs).length<=zs.length:=by
 have:=List.length_filter_le full (zs.map (swap k v))
 simpa[part]using this
abbrev a4r:Obj:=.cells #[.slice none 0 0,.slice none 0 0] 143
theorem b0b(w:World)(o0:Obj)(k v:Vl)(hW:(((w.alloc o0).alloc (bx k)).alloc (bx v)).alloc a4r=W1) :
  W1.heap.size=w.heap.size+4/\Bw w W1/\W1.heap[w.heap.size]?=some o0/\W1.heap[w.heap.size+1]?=some (bx k)/\W1.heap[w.heap.size+1+1]?=some (bx v)/\W1.heap[w.heap.size+1+1+1]?=some a4r:=by
 subst hW
 refine⟨by simp,((((Below.refl _ w).alloc (Nat.le_refl _) _).alloc (by simp) _).alloc (by simp;omega) _).alloc (by simp;omega) _,block_alloc _ (block_alloc _ (block_alloc _ (World.alloc_heap_new w _))),?_,?_,?_⟩
 ·have:=block_alloc a4r (block_alloc (bx v) (World.alloc_heap_new (w.alloc o0) (bx k)))
  simpa only[World.size_alloc]using this
 ·have:=block_alloc a4r (World.alloc_heap_new ((w.alloc o0).alloc (bx k)) (bx v))
  simpa only[World.size_alloc]using this
 ·have:=World.alloc_heap_new (((w.alloc o0).alloc (bx k)).alloc (bx v)) a4r
  simpa only[World.size_alloc]using this
theorem b4b{ec:Int}(h:tm[6]?.getD undef=Po B 0)(h':tm[7]?.getD undef=vi ec)(hx:W.heap[B]?=some (.cells #[.slice a n c,.slice a' n' c'] 143)):(results Tryz.f83 tm).run Tryz.prog W=.ok (.tuple #[.agg #[.slice a n c,.slice a' n' c'],vi ec]) W:=by
 have c0:Ce W B 0 (.slice a n c):=cell_block hx rfl
 have c1:Ce W B 1 (.slice a' n' c'):=cell_block hx rfl
 simp[results,Tryz.results83,go_sem,h,h',c0,c1]
theorem put2_same{p p' q':Value}(h:W.heap[B]?=some (.cells #[p,q] 143)):((W.setCell (Ad B 0) p').setCell (Ad B 1) q').heap[B]?=some (.cells #[p',q'] 143):=set_block _ (set_block _ h)
theorem put2_other(W:World){C:Nat}(p q:Value)(h:C≠B):((W.setCell (Ad B 0) p).setCell (Ad B 1) q).heap[C]?=W.heap[C]?:=(set1_other _ _ h).trans (set1_other _ _ h)
theorem put2_below(p q:Value)(h:Below m w W)(hB:m<=B):Below m w ((W.setCell (Ad B 0) p).setCell (Ad B 1) q):=(h.setCell (p:=(Ad B 0)) hB _).setCell (p:=(Ad B 1)) hB _
theorem a3h(W:World)(B:Nat)(p q:Value):KeepsOthers W ((W.setCell (Ad B 0) p).setCell (Ad B 1) q):=(KeepsOthers.setCell _ _ _).trans (KeepsOthers.setCell _ _ _)
theorem d6n(ks vs:Value)(xs ys:List Vl)(k v:Vl)(w:World)(hT:Tab w.heap.size w ks vs xs ys)(h:mayT xs ys=false) :
  Cl 83 #[.agg #[ks,vs],k.v,v.v] w fun e p=>e=.returned (.tuple #[.agg #[.slice none 0 0,.slice none 0 0],vi 2])/\Bw w p:=by
 obtain⟨a,c1,rfl,_,_⟩:=hT.keys
 obtain⟨q,c2,rfl,_,_⟩:=hT.vals
 obtain⟨W1,u⟩:=exq ((((w.alloc (.cells #[.slice a xs.length c1,.slice q ys.length c2] 143)).alloc (bx k)).alloc (bx v)).alloc a4r)
 obtain⟨o,y,ht,hk,hv,hr⟩:=b0b w _ k v u
 have s:=b7d h (.slice a xs.length c1) (.slice q ys.length c2) _ ((hT.below y).mono y.size)
 rw[<- u]at s
 clear h 
 replace u:Hid _:=u
 go_enter Tryz.func83,Tryz.ntmps83
 go_wp2_with (go_at_call 105;refine s.mono ?_;rintro e w1 ⟨rfl,z⟩;refine Hid.out ?_)
 rw[u.out]at z
 clear s u
 replace y:=y.trans (z.mono y.size)
 replace ht:=block_below z ht
 replace hk:=block_below z hk
 replace hv:=block_below z hv
 replace hr:=block_below z hr
 clear z
 obtain⟨k0,k1,k2,_,_,_⟩:=in3 hk
 obtain⟨v0,v1,v2,_,_,_⟩:=in3 hv
 have r0:Ce w1 (w.heap.size+1+1+1) 0 (.slice none 0 0):=cell_block hr rfl
 have r1:Ce w1 (w.heap.size+1+1+1) 1 (.slice none 0 0):=cell_block hr rfl
 have f0:w1.frozen? (Ad (w.heap.size+1+1+1) 0)=false:=frozen_block hr
 have f1:w1.frozen? (Ad (w.heap.size+1+1+1) 1)=false:=frozen_block hr
 refine Lib.hid ?_
 go_wp2
 exact bodyPost_ret (b4b rfl rfl (put2_same hr)) rfl ⟨rfl,put2_below _ _ y (by omega)⟩
theorem d6o(ks vs:Value)(xs ys:List Vl)(k v:Vl)(w:World)(hT:Tab w.heap.size w ks vs xs ys)(h:mayT xs ys=true)(h1:mayB k.k k.n k.s=false) :
  Cl 83 #[.agg #[ks,vs],k.v,v.v] w fun e j=>e=.returned (.tuple #[.agg #[.slice none 0 0,.slice none 0 0],vi 2])/\Bw w j:=by
 obtain⟨a,c1,rfl,_,_⟩:=hT.keys
 obtain⟨m,c2,rfl,_,_⟩:=hT.vals
 obtain⟨W1,q⟩:=exq ((((w.alloc (.cells #[.slice a xs.length c1,.slice m ys.length c2] 143)).alloc (bx k)).alloc (bx v)).alloc a4r)
 obtain⟨i,y,ht,hk,hv,hr⟩:=b0b w _ k v q
 have o:=a8p h (.slice a xs.length c1) (.slice m ys.length c2) _ ((hT.below y).mono y.size)
 rw[<- q]at o
 have p:=fun u=>a4h k.k k.n k.s u
 rw[h1]at p
 clear h h1
 replace q:Hid _:=q
 go_enter Tryz.func83,Tryz.ntmps83
 go_wp2_with (go_at_call 105;refine o.mono ?_;rintro e w1 ⟨rfl,z⟩;refine Hid.out ?_)
 rw[q.out]at z
 clear o q
 replace y:=y.trans (z.mono y.size)
 replace ht:=block_below z ht
 replace hk:=block_below z hk
 replace hv:=block_below z hv
 replace hr:=block_below z hr
 clear z
 obtain⟨k0,k1,k2,_,_,_⟩:=in3 hk
 obtain⟨v0,v1,v2,_,_,_⟩:=in3 hv
 have r0:Ce w1 (w.heap.size+1+1+1) 0 (.slice none 0 0):=cell_block hr rfl
 have r1:Ce w1 (w.heap.size+1+1+1) 1 (.slice none 0 0):=cell_block hr rfl
 have f0:w1.frozen? (Ad (w.heap.size+1+1+1) 0)=false:=frozen_block hr
 have f1:w1.frozen? (Ad (w.heap.size+1+1+1) 1)=false:=frozen_block hr
 refine Lib.hid ?_
 go_wp2_with (go_at_call_of 35 k;refine(p _).mono ?_;rintro e w2 ⟨rfl,z⟩;refine Hid.out ?_)
 clear k0 k1 k2 v0 v1 v2 r0 r1 f0 f1
 replace y:=y.trans (z.mono y.size)
 replace ht:=block_below z ht
 replace hk:=block_below z hk
 replace hv:=block_below z hv
 replace hr:=block_below z hr
 clear z
 obtain⟨k0,k1,k2,_,_,_⟩:=in3 hk
 obtain⟨v0,v1,v2,_,_,_⟩:=in3 hv
 have r0:Ce w2 (w.heap.size+1+1+1) 0 (.slice none 0 0):=cell_block hr rfl
 have r1:Ce w2 (w.heap.size+1+1+1) 1 (.slice none 0 0):=cell_block hr rfl
 have f0:w2.frozen? (Ad (w.heap.size+1+1+1) 0)=false:=frozen_block hr
 have f1:w2.frozen? (Ad (w.heap.size+1+1+1) 1)=false:=frozen_block hr
 refine Lib.hid ?_
 go_wp2
 exact bodyPost_ret (b4b rfl rfl (put2_same hr)) rfl ⟨rfl,put2_below _ _ y (by omega)⟩
theorem d6p(ks vs:Value)(xs ys:List Vl)(k v:Vl)(w:World)(hT:Tab w.heap.size w ks vs xs ys)(h:mayT xs ys=true)(h1:mayB k.k k.n k.s=true)(h2:mayB v.k v.n v.s=false) :
  Cl 83 #[.agg #[ks,vs],k.v,v.v] w fun e g=>e=.returned (.tuple #[.agg #[.slice none 0 0,.slice none 0 0],vi 2])/\Bw w g:=by
 obtain⟨a,c1,rfl,_,_⟩:=hT.keys
 obtain⟨i,c2,rfl,_,_⟩:=hT.vals
 obtain⟨W1,q⟩:=exq ((((w.alloc (.cells #[.slice a xs.length c1,.slice i ys.length c2] 143)).alloc (bx k)).alloc (bx v)).alloc a4r)
 obtain⟨f,y,ht,hk,hv,hr⟩:=b0b w _ k v q
 have j:=a8p h (.slice a xs.length c1) (.slice i ys.length c2) _ ((hT.below y).mono y.size)
 rw[<- q]at j
 have o:=fun u=>a4h k.k k.n k.s u
 rw[h1]at o
 have p:=fun u=>a4h v.k v.n v.s u
 rw[h2]at p
 clear h h1 h2
 replace q:Hid _:=q
 go_enter Tryz.func83,Tryz.ntmps83
 go_wp2_with (go_at_call 105;refine j.mono ?_;rintro e w1 ⟨rfl,z⟩;refine Hid.out ?_)
 rw[q.out]at z
 clear j q
 replace y:=y.trans (z.mono y.size)
 replace ht:=block_below z ht
 replace hk:=block_below z hk
 replace hv:=block_below z hv
 replace hr:=block_below z hr
 clear z
 obtain⟨k0,k1,k2,_,_,_⟩:=in3 hk
 obtain⟨v0,v1,v2,_,_,_⟩:=in3 hv
 have r0:Ce w1 (w.heap.size+1+1+1) 0 (.slice none 0 0):=cell_block hr rfl
 have r1:Ce w1 (w.heap.size+1+1+1) 1 (.slice none 0 0):=cell_block hr rfl
 have f0:w1.frozen? (Ad (w.heap.size+1+1+1) 0)=false:=frozen_block hr
 have f1:w1.frozen? (Ad (w.heap.size+1+1+1) 1)=false:=frozen_block hr
 refine Lib.hid ?_
 go_wp2_with (go_at_call_of 35 k;refine(o _).mono ?_;rintro e w2 ⟨rfl,z⟩;refine Hid.out ?_)
 clear k0 k1 k2 v0 v1 v2 r0 r1 f0 f1
 replace y:=y.trans (z.mono y.size)
 replace ht:=block_below z ht
 replace hk:=block_below z hk
 replace hv:=block_below z hv
 replace hr:=block_below z hr
 clear z
 obtain⟨k0,k1,k2,_,_,_⟩:=in3 hk
 obtain⟨v0,v1,v2,_,_,_⟩:=in3 hv
 have r0:Ce w2 (w.heap.size+1+1+1) 0 (.slice none 0 0):=cell_block hr rfl
 have r1:Ce w2 (w.heap.size+1+1+1) 1 (.slice none 0 0):=cell_block hr rfl
 have f0:w2.frozen? (Ad (w.heap.size+1+1+1) 0)=false:=frozen_block hr
 have f1:w2.frozen? (Ad (w.heap.size+1+1+1) 1)=false:=frozen_block hr
 refine Lib.hid ?_
 go_wp2_with (go_at_call_of 35 v;refine(p _).mono ?_;rintro e m ⟨rfl,z⟩;refine Hid.out ?_)
 clear k0 k1 k2 v0 v1 v2 r0 r1 f0 f1
 replace y:=y.trans (z.mono y.size)
 replace ht:=block_below z ht
 replace hk:=block_below z hk
 replace hv:=block_below z hv
 replace hr:=block_below z hr
 clear z
 obtain⟨k0,k1,k2,_,_,_⟩:=in3 hk
 obtain⟨v0,v1,v2,_,_,_⟩:=in3 hv
 have r0:Ce m (w.heap.size+1+1+1) 0 (.slice none 0 0):=cell_block hr rfl
 have r1:Ce m (w.heap.size+1+1+1) 1 (.slice none 0 0):=cell_block hr rfl
 have f0:m.frozen? (Ad (w.heap.size+1+1+1) 0)=false:=frozen_block hr
 have f1:m.frozen? (Ad (w.heap.size+1+1+1) 1)=false:=frozen_block hr
 refine Lib.hid ?_
 go_wp2
 exact bodyPost_ret (b4b rfl rfl (put2_same hr)) rfl ⟨rfl,put2_below _ _ y (by omega)⟩
theorem d6q(ks vs:Value)(xs ys:List Vl)(k v:Vl)(w:World)(hT:Tab w.heap.size w ks vs xs ys)(h:mayT xs ys=true)(h1:mayB k.k k.n k.s=true)(h2:mayB v.k v.n v.s=true)(h3:(k.k == 0)=true) :
  Cl 83 #[.agg #[ks,vs],k.v,v.v] w fun e g=>e=.returned (.tuple #[.agg #[.slice none 0 0,.slice none 0 0],vi 3])/\Bw w g:=by
 obtain⟨a,c1,rfl,_,_⟩:=hT.keys
 obtain⟨i,c2,rfl,_,_⟩:=hT.vals
 obtain⟨W1,q⟩:=exq ((((w.alloc (.cells #[.slice a xs.length c1,.slice i ys.length c2] 143)).alloc (bx k)).alloc (bx v)).alloc a4r)
 obtain⟨f,y,ht,hk,hv,hr⟩:=b0b w _ k v q
 have j:=a8p h (.slice a xs.length c1) (.slice i ys.length c2) _ ((hT.below y).mono y.size)
 rw[<- q]at j
 have o:=fun u=>a4h k.k k.n k.s u
 rw[h1]at o
 have p:=fun u=>a4h v.k v.n v.s u
 rw[h2]at p
 clear h h1 h2
 replace q:Hid _:=q
 go_enter Tryz.func83,Tryz.ntmps83
 go_wp2_with (go_at_call 105;refine j.mono ?_;rintro e w1 ⟨rfl,z⟩;refine Hid.out ?_)
 rw[q.out]at z
 clear j q
 replace y:=y.trans (z.mono y.size)
 replace ht:=block_below z ht
 replace hk:=block_below z hk
 replace hv:=block_below z hv
 replace hr:=block_below z hr
 clear z
 obtain⟨k0,k1,k2,_,_,_⟩:=in3 hk
 obtain⟨v0,v1,v2,_,_,_⟩:=in3 hv
 have r0:Ce w1 (w.heap.size+1+1+1) 0 (.slice none 0 0):=cell_block hr rfl
 have r1:Ce w1 (w.heap.size+1+1+1) 1 (.slice none 0 0):=cell_block hr rfl
 have f0:w1.frozen? (Ad (w.heap.size+1+1+1) 0)=false:=frozen_block hr
 have f1:w1.frozen? (Ad (w.heap.size+1+1+1) 1)=false:=frozen_block hr
 refine Lib.hid ?_
 go_wp2_with (go_at_call_of 35 k;refine(o _).mono ?_;rintro e w2 ⟨rfl,z⟩;refine Hid.out ?_)
 clear k0 k1 k2 v0 v1 v2 r0 r1 f0 f1
 replace y:=y.trans (z.mono y.size)
 replace ht:=block_below z ht
 replace hk:=block_below z hk
 replace hv:=block_below z hv
 replace hr:=block_below z hr
 clear z
 obtain⟨k0,k1,k2,_,_,_⟩:=in3 hk
 obtain⟨v0,v1,v2,_,_,_⟩:=in3 hv
 have r0:Ce w2 (w.heap.size+1+1+1) 0 (.slice none 0 0):=cell_block hr rfl
 have r1:Ce w2 (w.heap.size+1+1+1) 1 (.slice none 0 0):=cell_block hr rfl
 have f0:w2.frozen? (Ad (w.heap.size+1+1+1) 0)=false:=frozen_block hr
 have f1:w2.frozen? (Ad (w.heap.size+1+1+1) 1)=false:=frozen_block hr
 refine Lib.hid ?_
 go_wp2_with (go_at_call_of 35 v;refine(p _).mono ?_;rintro e m ⟨rfl,z⟩;refine Hid.out ?_)
 clear k0 k1 k2 v0 v1 v2 r0 r1 f0 f1
 replace y:=y.trans (z.mono y.size)
 replace ht:=block_below z ht
 replace hk:=block_below z hk
 replace hv:=block_below z hv
 replace hr:=block_below z hr
 clear z
 obtain⟨k0,k1,k2,_,_,_⟩:=in3 hk
 obtain⟨v0,v1,v2,_,_,_⟩:=in3 hv
 have r0:Ce m (w.heap.size+1+1+1) 0 (.slice none 0 0):=cell_block hr rfl
 have r1:Ce m (w.heap.size+1+1+1) 1 (.slice none 0 0):=cell_block hr rfl
 have f0:m.frozen? (Ad (w.heap.size+1+1+1) 0)=false:=frozen_block hr
 have f1:m.frozen? (Ad (w.heap.size+1+1+1) 1)=false:=frozen_block hr
 refine Lib.hid ?_
 go_wp2
 exact bodyPost_ret (b4b rfl rfl (put2_same hr)) rfl ⟨rfl,put2_below _ _ y (by omega)⟩
end
section
attribute [local go_sem] Oper.semAt_some
variable [DecidableEq Vl]
theorem b2j(base:Nat)(ks vs:Value)(P:List (Vl×Vl))(k v:Vl)(w:World)(ho:Own2 base w ks vs (a0g P) (a1d P))(hb:base<=w.heap.size)(hx:P.length<=200) :
  Cl 114 #[.agg #[ks,vs],k.v,v.v] w fun e s=>∃a n c q m j,e=.returned (.agg #[.slice a n c,.slice q m j])/\Own2 base s (.slice a n c) (.slice q m j) (a0g (P++[(k,v)].filter full)) (a1d (P++[(k,v)].filter full))/\Fr w s ks vs:=by
 obtain⟨a,n1,c1,rfl⟩:∃a n c,ks=.slice a n c:=by rcases ho.k.2 with⟨rfl,_⟩|⟨g,cap,y,rfl,_⟩ <;> exact⟨_,_,_,rfl⟩
 obtain⟨q,n2,c2,rfl⟩:∃a n c,vs=.slice a n c:=by rcases ho.v.2 with⟨rfl,_⟩|⟨g,cap,y,rfl,_⟩ <;> exact⟨_,_,_,rfl⟩
 cases h:(v.k == 0)
 ·have e:[(k,v)].filter full=[(k,v)]:=by simp[full,h]
  rw[e]
  refine(c3c base _ _ _ _ k v w ho hb (by simpa using hx) (by simpa using hx) h).mono ?_
  rintro e s ⟨o,p,rfl,z,hf⟩
  obtain⟨b,f,d1,rfl⟩:∃a n c,o=.slice a n c:=by rcases z.k.2 with⟨rfl,_⟩|⟨g,cap,y,rfl,_⟩ <;> exact⟨_,_,_,rfl⟩
  obtain⟨b',i,d,rfl⟩:∃a n c,p=.slice a n c:=by rcases z.v.2 with⟨rfl,_⟩|⟨g,cap,y,rfl,_⟩ <;> exact⟨_,_,_,rfl⟩
  exact⟨_,_,_,_,_,_,rfl,by simpa[a0g,a1d]using z,hf⟩
 ·have e:[(k,v)].filter full=[]:=by simp[full,h]
  rw[e,List.append_nil]
  refine(c7b a n1 c1 q n2 c2 k v w h).mono ?_
  rintro e s ⟨rfl,u⟩
  exact⟨_,_,_,_,_,_,rfl,ho.below u,Fr.of_below _ _ u⟩
theorem Fr.keeps{xs ys:List Vl}(h:Fr W W' ks vs)(ho:Own2 base W ks vs xs ys):KeepsFrom B W W' :=
 ⟨h.size,fun k o _ hk u=>(h.block k (Array.getElem?_eq_some_iff.1 hk).1
  (fun e=>by obtain⟨_,_,y,z⟩:=own_ge ho.k e;rw[hk]at z;cases z;cases u)
  (fun e=>by obtain⟨_,_,y,z⟩:=own_ge ho.v e;rw[hk]at z;cases z;cases u)).trans hk⟩
theorem b4c{A A':World}{xs ys:List Vl}(h:Own2 base A ks vs xs ys)(hg:A.grownBy A' row)(hr:∀r,row=some r->B<=r/\∃o:Obj,A.heap[r]?=some o/\o.isCells=false):Own2 base A' ks vs xs ys :=
 h.kept (fun b q=>by
  obtain⟨_,y,p,u⟩:=q.elim (fun e=>own_ge h.k e) (fun e=>own_ge h.v e)
  exact hg.block b y (fun e=>by obtain⟨_,o,z,s⟩:=hr b e.symm;rw[u]at z;cases z;cases s))
theorem a7n(base:Nat)(W:World):Own2 base W (.slice none 0 0) (.slice none 0 0) [] []:=⟨World.ownsRow_nil _ _ _ _,World.ownsRow_nil _ _ _ _,fun b h=>by simp[Value.ownBlock]at h⟩
theorem b7h{v:Value}{xs:List Value}(h:W.ownsRow b 52 3 v n xs)(hc:c<=b):W.ownsRow c 52 3 v n xs:=by
 refine⟨h.1,h.2.imp id ?_⟩
 rintro⟨g,cap,z,e,y,hr⟩
 exact⟨g,cap,z,e,by omega,hr⟩
theorem Own2.weak{xs ys:List Vl}(h:Own2 b W ks vs xs ys)(hc:c<=b):Own2 c W ks vs xs ys :=
 ⟨b7h h.k hc,b7h h.v hc,h.ne⟩
theorem c3d{b:Option Addr}{d:Nat}{xs:List Value}(h:W.ownsRow base 52 3 (.slice b m d) n xs):m=n:=by
 rcases h.2 with⟨e,h0⟩|⟨g,cap,z,e,_⟩
 ·cases e;exact h0.symm
 ·cases e;rfl
theorem b2k{D:Nat}{p:Value}{xs ys:List Vl}{o':Obj}(h:Own2 base W ks vs xs ys)(hc:ks.ownBlock=some c\/vs.ownBlock=some c)(hD:W.heap[D]?=some o)(ho:o.isCells=false)(hB:B<base) :
  (((W.setCell (Ad B 0) p).setCell (Ad B 1) q).putObj D o').heap[c]?=W.heap[c]?:=by
 obtain⟨y,_,u,z⟩:=hc.elim (fun e=>own_ge h.k e) (fun e=>own_ge h.v e)
 refine(World.putObj_heap_other (fun e=>?_)).trans (put2_other _ _ _ (by omega))
 subst e
 rw[hD]at z
 cases z
 cases ho
structure SI (base B4:Nat) (w:World) (k v:Vl) (pre:List (Vl×Vl)) (a:Option Addr) (n c:Nat) (a':Option Addr) (n' c':Nat) (W:World):Prop where
 own:Own2 base W (.slice a n c) (.slice a' n' c') (a0g (part k v pre)) (a1d (part k v pre))
 u:W.heap[B4]?=some (.cells #[.slice a n c,.slice a' n' c'] 143)
 st:W.heap[B4+1]?=some (.cells #[.bool (met k pre)] 4)
 hk:W.heap[w.heap.size+1]?=some (bx k)
 hv:W.heap[w.heap.size+1+1]?=some (bx v)
 hr:W.heap[w.heap.size+1+1+1]?=some a4r
 sz:base<=W.heap.size
 bl:Bw w W
theorem a9c{B4 Bt:Nat}{Wx:World}{k v:Vl}{pre:List (Vl×Vl)}{P:List (Vl×Vl)}{x:Vl×Vl}(ho:Own2 base Wx ks vs (a0g P) (a1d P))(hu:Wx.heap[B4]?=some (.cells #[ks,vs] 143))(hst:Wx.heap[B4+1]?=some (.cells #[.bool (met k (pre++[x]))] 4))(hk:Wx.heap[w.heap.size+1]?=some (bx k))(hv:Wx.heap[w.heap.size+1+1]?=some (bx v))(hr:Wx.heap[w.heap.size+1+1+1]?=some a4r)(sz:base<=Wx.heap.size)(bl:Bw w Wx)(hKF:KeepsFrom base W Wx)(hKp:Kept w.heap.size Bt W Wx)(h4:w.heap.size+4<=B4)(hb:B4+3<=base)(hBt:Bt=B4+1+1)(ho':Own2 base W' (.slice a n c) (.slice a' n' c') (a0g (part k v (pre++[x]))) (a1d (part k v (pre++[x]))))(hf:Fr Wx W' ks vs) :
  KeepsFrom base W ((W'.setCell (Ad B4 0) (.slice a n c)).setCell (Ad B4 1) (.slice a' n' c'))/\Kept w.heap.size Bt W ((W'.setCell (Ad B4 0) (.slice a n c)).setCell (Ad B4 1) (.slice a' n' c')) /\
   SI base B4 w k v (pre++[x]) a n c a' n' c' ((W'.setCell (Ad B4 0) (.slice a n c)).setCell (Ad B4 1) (.slice a' n' c')):=by
 have z:=hf.below ho sz
 have y:∀{C:Nat} {o:Obj},C<base->C≠B4->Wx.heap[C]?=some o->((W'.setCell (Ad B4 0) (.slice a n c)).setCell (Ad B4 1) (.slice a' n' c')).heap[C]?=some o:=fun q u h=>(put2_other _ _ _ u).trans ((z.block _ q).trans h)
 refine⟨hKF.trans ((hf.keeps ho).trans ((a3h _ _ _ _).from _)),hKp.trans ⟨put2_below _ _ (z.mono (by omega)) (by omega),(put2_other _ _ _ (by omega)).trans (z.block _ (by omega))⟩,?_⟩
 refine⟨ho'.kept (fun b s=>put2_other _ _ _ ?_),put2_same ((z.block _ (by omega)).trans hu),y (by omega) (by omega) hst,y (by omega) (by omega) hk,y (by omega) (by omega) hv,y (by omega) (by omega) hr,Nat.le_trans sz (Nat.le_trans hf.size (a3h _ _ _ _).size),put2_below _ _ (bl.trans (z.mono (by omega))) (by omega)⟩
 have:=s.elim (fun e=>(own_ge ho'.k e).1) (fun e=>(own_ge ho'.v e).1)
 omega
theorem d6r(n:Nat)(h3:3<=n)(ks vs:Value)(zs:List (Vl×Vl))(hlen:zs.length<=100)(k v:Vl)(w:World)(hT:Tab w.heap.size w ks vs (a0g zs) (a1d zs))(h:mayT (a0g zs) (a1d zs)=true)(h1:mayB k.k k.n k.s=true)(h2:mayB v.k v.n v.s=true)(hk0:(k.k == 0)=false) :
  CallsIn Fence.wide n Tryz.prog 83 #[.agg #[ks,vs],k.v,v.v] w fun e w'=>∃a m c a' m' c',e=.returned (.tuple #[.agg #[.slice a m c,.slice a' m' c'],vi (if 100<(setZ k v zs).length then 1 else 0)]) /\
   Own2 w.heap.size w' (.slice a m c) (.slice a' m' c') (a0g (if 100<(setZ k v zs).length then [] else setZ k v zs)) (a1d (if 100<(setZ k v zs).length then [] else setZ k v zs))/\Bw w w':=by
 have t0:1<=n:=by omega
 have r9:1<=n-1:=by omega
 have s2:1<=n-1-1:=by omega
 obtain⟨a,c1,u6⟩:=hT.keys.slice
 obtain⟨a',c2,u9⟩:=hT.vals.slice
 simp only[a0g,a1d,List.length_map]at u6 u9
 subst u6 u9
 obtain⟨W1,w5⟩:=exq ((((w.alloc (.cells #[.slice a zs.length c1,.slice a' zs.length c2] 143)).alloc (bx k)).alloc (bx v)).alloc a4r)
 obtain⟨s4,z4,ht,hk,hv,hr⟩:=b0b w _ k v w5
 have hM:=a8p h (.slice a zs.length c1) (.slice a' zs.length c2) _ ((hT.below z4).mono z4.size)
 rw[<- w5]at hM
 have v3:=fun u=>a4h k.k k.n k.s u
 rw[h1]at v3
 have v4:=fun u=>a4h v.k v.n v.s u
 rw[h2]at v4
 clear h h1 h2
 replace w5:Hid _:=w5
 replace hT:Hid _:=hT
 refine callsIn_of_wp_marks Tryz.func83 rfl trivial ?_ rfl
 simp only[Tryz.ntmps83,List.size_toArray,List.length_cons,List.length_nil,Nat.reduceAdd,Nat.reduceSub,Array.replicate_succ,Array.replicate_zero,List.push_toArray,List.append_toArray,List.nil_append,List.cons_append]
 gi_wp2_with (refine⟨trivial,?_⟩;gi_at_call 105;refine(callsIn_wide.2 hM).mono ?_;rintro e w1 ⟨rfl,z9⟩;refine Hid.out ?_)
 rw[w5.out]at z9
 clear hM w5
 replace z4:=z4.trans (z9.mono z4.size)
 replace ht:=block_below z9 ht
 replace hk:=block_below z9 hk
 replace hv:=block_below z9 hv
 replace hr:=block_below z9 hr
 have v9:w.heap.size+4<=w1.heap.size:=by have:=z9.size;omega
 clear z9
 obtain⟨k0,k1,k2,_,_,_⟩:=in3 hk
 refine Lib.hid ?_
 gi_wp2_with (refine⟨trivial,?_⟩;gi_at_call 35;refine(callsIn_wide.2 (v3 _)).mono ?_;rintro e w2 ⟨rfl,z9⟩;refine Hid.out ?_)
 replace z4:=z4.trans (z9.mono z4.size)
 replace ht:=block_below z9 ht
 replace hk:=block_below z9 hk
 replace hv:=block_below z9 hv
 replace hr:=block_below z9 hr
 replace v9:w.heap.size+4<=w2.heap.size:=Nat.le_trans v9 z9.size
 clear z9 k0 k1 k2 v3
 obtain⟨v0,v1,v2,_,_,_⟩:=in3 hv
 refine Lib.hid ?_
 gi_wp2_with (refine⟨trivial,?_⟩;gi_at_call 35;refine(callsIn_wide.2 (v4 _)).mono ?_;rintro e j ⟨rfl,z9⟩;refine Hid.out ?_)
 replace z4:=z4.trans (z9.mono z4.size)
 replace ht:=block_below z9 ht
 replace hk:=block_below z9 hk
 replace hv:=block_below z9 hv
 replace hr:=block_below z9 hr
 replace v9:w.heap.size+4<=j.heap.size:=Nat.le_trans v9 z9.size
 clear z9 v0 v1 v2 v4
 obtain⟨k0,k1,k2,_,_,_⟩:=in3 hk
 have x0:((j.alloc a4r).alloc (.cells #[.bool false] 4)).cell? (Ad w.heap.size 0)=some (.slice a zs.length c1):=a2a _ (a2a _ (cell_block ht rfl))
 have x1:((j.alloc a4r).alloc (.cells #[.bool false] 4)).cell? (Ad w.heap.size 1)=some (.slice a' zs.length c2):=a2a _ (a2a _ (cell_block ht rfl))
 refine Lib.hid ?_
 gi_wp2_with (refine⟨trivial,?_⟩;gi_at_call 106;refine(a7f _ _ _ _).mono ?_;rintro e w' ⟨rfl,rfl⟩)
 obtain⟨W0,y6⟩:=exq (((j.alloc a4r).alloc (.cells #[.bool false] 4)).alloc (.cells #[.slice a zs.length c1,.slice a' zs.length c2] 143))
 have s3:W0.heap.size=j.heap.size+3:=by rw[<- y6];simp
 have v8:Bw w W0:=by rw[<- y6];exact((z4.alloc (by omega) _).alloc (by simp;omega) _).alloc (by simp;omega) _
 have v5:W0.heap[j.heap.size+1+1]?=some (.cells #[.slice a zs.length c1,.slice a' zs.length c2] 143):=by
  have:=World.alloc_heap_new ((j.alloc a4r).alloc (.cells #[.bool false] 4)) (.cells #[.slice a zs.length c1,.slice a' zs.length c2] 143)
  simp only[World.size_alloc]at this
  rw[<- y6];exact this
 have hu:W0.heap[j.heap.size]?=some a4r:=by rw[<- y6];exact block_alloc _ (block_alloc _ (World.alloc_heap_new _ _))
 have y3:W0.heap[j.heap.size+1]?=some (.cells #[.bool false] 4):=by
  have:=block_alloc (.cells #[.slice a zs.length c1,.slice a' zs.length c2] 143) (World.alloc_heap_new (j.alloc a4r) (.cells #[.bool false] 4))
  simp only[World.size_alloc]at this
  rw[<- y6];exact this
 replace hr:W0.heap[w.heap.size+1+1+1]?=some a4r:=by rw[<- y6];exact block_alloc _ (block_alloc _ (block_alloc _ hr))
 replace hk:W0.heap[w.heap.size+1]?=some (bx k):=by rw[<- y6];exact block_alloc _ (block_alloc _ (block_alloc _ hk))
 replace hv:W0.heap[w.heap.size+1+1]?=some (bx v):=by rw[<- y6];exact block_alloc _ (block_alloc _ (block_alloc _ hv))
 dsimp only[a4r]at y6
 rw[y6]
 clear y6 x0 x1 ht k0 k1 k2
 have S0:SI W0.heap.size j.heap.size w k v [] none 0 0 none 0 0 W0:=⟨⟨World.ownsRow_nil _ _ _ _,World.ownsRow_nil _ _ _ _,fun b e=>by simp[Value.ownBlock]at e⟩,hu,y3,hk,hv,hr,Nat.le_refl _,v8⟩
 clear hu y3 hk hv hr
 refine wpIn_rangeFunc_ownH rfl t0 (gf:=136) (lb:=#[Po (j.heap.size+1+1) 0]) rfl trivial (enters_of Tryz.func136 (by kernel_rfl) rfl)
  (a3y (n-1) (j.heap.size+1+1) w.heap.size _ _ zs hlen W0 (by omega) (by omega) v5 (hT.out.below v8)) (fun h k=>h.trans k) (Kept.putObj (by omega) (by omega)) (Below.refl _ _) (fun _=>rfl)
  (fun(pre:List (Vl×Vl)) W=>∃b m d b' m' d',SI W0.heap.size j.heap.size w k v pre b m d b' m' d' W)
  (fun _ _ _=>False)
  (fun s A B row hs hg hr=>by
   obtain⟨b,m,d,b',m',d',z⟩:=hs
   exact⟨b,m,d,b',m',d',b4c z.own hg hr,(block_ownFrom (β:=Unit) _ (by omega)) () A B row z.u hg hr,(block_ownFrom (β:=Unit) _ (by omega)) () A B row z.st hg hr,(block_ownFrom (β:=Unit) _ (by omega)) () A B row z.hk hg hr,(block_ownFrom (β:=Unit) _ (by omega)) () A B row z.hv hg hr,(block_ownFrom (β:=Unit) _ (by omega)) () A B row z.hr hg hr,Nat.le_trans z.sz hg.size,(ownFrom_below (β:=Unit) (B:=W0.heap.size) (Nat.le_refl _) (by omega)) () A B row z.bl hg hr⟩)
  (fun _ _ _ _ _ hs _ _=>hs)
  ⟨_,_,_,_,_,_,S0⟩
  (fun x q W=>∃Bx By,W0.heap.size<=Bx/\W0.heap.size<=By/\W.heap[Bx]?=some (bx x.1)/\W.heap[By]?=some (bx x.2)/\Bx≠By/\(∀p q,W.heap[j.heap.size]?=some (.cells #[p,q] 143)->p.ownBlock≠some By/\q.ownBlock≠some By/\p.ownBlock≠some Bx/\q.ownBlock≠some Bx)/\q={ tmps:=#[.agg #[.slice a zs.length c1,.slice a' zs.length c2],k.v,v.v,Po w.heap.size 0,Po (w.heap.size+1) 0,Po (w.heap.size+1+1) 0,Po (w.heap.size+1+1+1) 0,vi 0,Po j.heap.size 0,Po (j.heap.size+1) 0,Po Bx 0,Po By 0,.agg #[.slice a zs.length c1,.slice a' zs.length c2],.bool true,.bool false,.bool false,k.v,.bool true,.bool false,.bool false,.bool false,v.v,.bool true,.bool false,.bool false,undef,Po (w.heap.size+1) 0,vi k.k,.bool false,undef,.agg #[.slice a zs.length c1,.slice a' zs.length c2],.func (.func 136) #[] #[Po (j.heap.size+1+1) 0],x.1.v,x.2.v,undef,undef,undef,undef,undef,undef,undef,undef,undef,undef,undef,undef,undef,undef,undef,undef,undef,undef,undef,undef],defers:=[] })
  (fun x q=>fun _ A B row hs hg hr=>by
   obtain⟨Bx,By,e1,s6,e2,e3,e4,e5,e6⟩:=hs
   have x9:∀{C:Nat} {y:Vl},A.heap[C]?=some (bx y)->B.heap[C]?=some (bx y):=fun {C y} hh=>(hg.block C (Array.getElem?_eq_some_iff.1 hh).1 (fun e=>by obtain⟨_,o,ho,hc⟩:=hr C e.symm;rw[hh]at ho;cases ho;cases hc)).trans hh
   refine⟨Bx,By,e1,s6,x9 e2,x9 e3,e4,fun p q w6=>e5 p q ?_,e6⟩
   have u7:j.heap.size<A.heap.size:=by have:=(Array.getElem?_eq_some_iff.1 e2).1;omega
   rw[hg.block _ u7 (fun e=>by have:=(hr _ e.symm).1;omega)]at w6
   exact w6)
  ?assign ?body ?done ?stop
 case assign =>
  rintro l pre x W K ⟨b,m,d,b',m',d',z⟩ hK
  gi_wp2
  have y7:Bw W ((W.alloc (bx x.1)).alloc (bx x.2)):=((Below.refl _ _).alloc (Nat.le_refl _) _).alloc (by simp) _
  have y9:=z.sz
  refine hK _ _ (keepsFrom_of_below y7) (kept_of_below y7 (by omega) (by omega)) ⟨b,m,d,b',m',d',z.own.below y7,block_below y7 z.u,block_below y7 z.st,block_below y7 z.hk,block_below y7 z.hv,block_below y7 z.hr,Nat.le_trans y9 y7.size,z.bl.trans (y7.mono (by omega))⟩ ⟨W.heap.size,W.heap.size+1,y9,by omega,block_alloc _ (World.alloc_heap_new _ _),by have:=World.alloc_heap_new (W.alloc (bx x.1)) (bx x.2);simpa only[World.size_alloc]using this,by omega,fun p q w6=>?_,rfl⟩
  rw[block_below y7 z.u]at w6
  simp only[Option.some.injEq,Obj.cells.injEq,Array.mk.injEq,List.cons.injEq,and_true]at w6
  obtain⟨rfl,rfl⟩:=w6
  refine⟨fun e=>?_,fun e=>?_,fun e=>?_,fun e=>?_⟩
  ·have:=(own_ge z.own.k e).2.1;omega
  ·have:=(own_ge z.own.v e).2.1;omega
  ·have:=(own_ge z.own.k e).2.1;omega
  ·have:=(own_ge z.own.v e).2.1;omega
 case body =>
  rintro l pre ⟨x1,y⟩ q W hl ⟨r,hr⟩ ⟨b,m,d,b',m',d',z⟩ ⟨Bx,By,r6,r7,t1,t2,u8,v6,rfl⟩ u7
  clear hr hT v5 v8 S0 z4
  rename_i Kd ad
  clear ad Kd
  have t3:=b0a k v pre
  by_cases hx:x1=k
  ·have t4:k=x1:=hx.symm
   subst t4
   clear hx
   -- the new value stands in the pair's place
   obtain⟨u5,v7,_,_⟩:=v6 _ _ z.u
   dsimp only at t1 t2
   have u2:=z.sz
   have z8:Own2 W0.heap.size ((put3 W By v).setCell (Ad (j.heap.size+1) 0) (.bool true)) (.slice b m d) (.slice b' m' d') (a0g (part k v pre)) (a1d (part k v pre)):=z.own.kept (fun c hc=>by
    have r8:=hc.elim (fun e=>(own_ge z.own.k e).1) (fun e=>(own_ge z.own.v e).1)
    have s7:c≠By:=fun e=>hc.elim (fun e'=>u5 (e▸e')) (fun e'=>v7 (e▸e'))
    exact(set1_other _ _ (by omega)).trans (a0l _ v s7))
   have x9:∀{C:Nat} {o:Obj},C≠By->C≠j.heap.size+1->W.heap[C]?=some o->((put3 W By v).setCell (Ad (j.heap.size+1) 0) (.bool true)).heap[C]?=some o:=fun h1 h2 h=>((set1_other _ _ h2).trans (a0l _ v h1)).trans h
   have x2:=x9 (by omega) (by omega) z.u
   have x8:((put3 W By v).setCell (Ad (j.heap.size+1) 0) (.bool true)).heap[j.heap.size+1]?=some (.cells #[.bool (met k (pre++[(k,y)]))] 4):=by
    rw[b7g,decide_eq_true rfl,Bool.or_true]
    exact Boxed.set _ ((a0l _ v (by omega)).trans z.st)
   have x4:=x9 (by omega) (by omega) z.hk
   have x6:=x9 (by omega) (by omega) z.hv
   have x5:=x9 (by omega) (by omega) z.hr
   have w8:=x9 u8 (by omega) t1
   have w9:((put3 W By v).setCell (Ad (j.heap.size+1) 0) (.bool true)).heap[By]?=some (bx v):=(set1_other _ _ (by omega)).trans (put3_same v t2)
   have z6:KeepsOthers W ((put3 W By v).setCell (Ad (j.heap.size+1) 0) (.bool true)):=(a3v W By v).trans (KeepsOthers.setCell _ _ _)
   have y4:W0.heap.size<=((put3 W By v).setCell (Ad (j.heap.size+1) 0) (.bool true)).heap.size:=Nat.le_trans u2 z6.size
   have x3:Bw w ((put3 W By v).setCell (Ad (j.heap.size+1) 0) (.bool true)):=(put3_below v z.bl (by omega)).setCell (p:=(Ad (j.heap.size+1) 0)) (by show w.heap.size<=j.heap.size+1;omega) _
   have x7:Kept w.heap.size (j.heap.size+1+1) W ((put3 W By v).setCell (Ad (j.heap.size+1) 0) (.bool true)):=⟨(put3_below v (Below.refl _ _) (by omega)).setCell (p:=(Ad (j.heap.size+1) 0)) (by show w.heap.size<=j.heap.size+1;omega) _,(set1_other _ _ (by omega)).trans (a0l _ v (by omega))⟩
   have hC:=b2j W0.heap.size _ _ (part k v pre) k v _ z8 y4 (by omega)
   have hE:part k v pre++[(k,v)].filter full=part k v (pre++[(k,y)]):=by rw[b4a];simp[swap]
   rw[hE]at hC
   obtain⟨y0,y1,y2,g0,g1,g2⟩:=in3 t2
   obtain⟨q0,q1,q2,_,_,_⟩:=in3 t1
   obtain⟨k0,k1,k2,_,_,_⟩:=in3 z.hk
   obtain⟨v0,v1,v2,_,_,_⟩:=in3 z.hv
   have s0:=Boxed.cell z.st
   have s1:=Boxed.frozen z.st
   obtain⟨Wx,w4⟩:=exq ((put3 W By v).setCell (Ad (j.heap.size+1) 0) (.bool true))
   rw[w4]at z8 x2 x8 x4 x6 x5 w8 w9 z6 y4 x3 x7
   replace w4:Hid _:=w4
   replace z8:Hid _:=z8
   have u0:W.cell? (Ad j.heap.size 0)=some (.slice b m d):=cell_block z.u rfl
   have u1:W.cell? (Ad j.heap.size 1)=some (.slice b' m' d'):=cell_block z.u rfl
   have t5:¬j.heap.size=By:=by omega
   have t6:¬Bx=By:=u8
   have t7:¬Bx=j.heap.size+1:=by omega
   have t8:¬By=j.heap.size+1:=by omega
   have t9:¬j.heap.size+1=By:=by omega
   clear v6 u5 v7 x9 z t1 t2 hE
   gi_wp2_with (refine⟨trivial,?_⟩;gi_at_call 114;refine(CallsIn.inRound l (callsIn_wide.2 hC)).mono ?_;rintro e W' ⟨a2,m2,d2,a3,m3,d3,rfl,z7,hf⟩;refine Hid.out ?_)
   rw[w4.out]at hf
   have z5:=hf.below z8.out y4
   have g:=(z5.block _ (by omega)).trans x2
   have z0:W'.cell? (Ad j.heap.size 0)=some (.slice b m d):=cell_block g rfl
   have z1:W'.cell? (Ad j.heap.size 1)=some (.slice b' m' d'):=cell_block g rfl
   have z2:W'.frozen? (Ad j.heap.size 0)=false:=frozen_block g
   have z3:W'.frozen? (Ad j.heap.size 1)=false:=frozen_block g
   have i:=a9c (Bt:=j.heap.size+1+1) z8.out x2 x8 x4 x6 x5 y4 x3 (z6.from _) x7 (by omega) (by omega) rfl z7 hf
   replace i:Hid _:=i
   clear hC hf z7 z8 x2 x8 x4 x6 x5 w8 w9 z6 y4 x3 x7 w4 z5 g y0 y1 y2 g0 g1 g2 q0 q1 q2 k0 k1 k2 v0 v1 v2 s0 s1 u0 u1 t5 t6 t7 t8 t9
   refine Lib.hid ?_
   gi_wp2
   exact⟨i.out.1,i.out.2.1,_,_,_,_,_,_,i.out.2.2⟩
  ·have hE:part k v pre++[(x1,y)].filter full=part k v (pre++[(x1,y)]):=by rw[b4a];simp[swap,hx]
   have hC:=b2j W0.heap.size _ _ (part k v pre) x1 y _ z.own z.sz (by omega)
   rw[hE]at hC
   have y3:W.heap[j.heap.size+1]?=some (.cells #[.bool (met k (pre++[(x1,y)]))] 4):=by
    rw[b7g,decide_eq_false hx,Bool.or_false]
    exact z.st
   dsimp only at t1 t2
   obtain⟨y0,y1,y2,_,_,_⟩:=in3 t2
   obtain⟨q0,q1,q2,_,_,_⟩:=in3 t1
   obtain⟨k0,k1,k2,_,_,_⟩:=in3 z.hk
   have u0:W.cell? (Ad j.heap.size 0)=some (.slice b m d):=cell_block z.u rfl
   have u1:W.cell? (Ad j.heap.size 1)=some (.slice b' m' d'):=cell_block z.u rfl
   have y9:=z.sz
   replace z:Hid _:=z
   replace hx:Hid _:=hx
   clear v6 t1 t2 hE
   obtain⟨xk,xn,xs,wk,wn,ws⟩:=x1
   dsimp only[Vl.v]at hC q0 q1 q2
   by_cases e1:xk=k.k
   ·subst e1
    by_cases e2:xn=k.n
    ·subst e2
     have e3:¬xs.toList=k.s.toList:=fun e=>hx.out (Vl.ext' rfl rfl e)
     gi_wp2_with (refine⟨trivial,?_⟩;gi_at_call 114;refine(CallsIn.inRound l (callsIn_wide.2 hC)).mono ?_;rintro e W' ⟨a2,m2,d2,a3,m3,d3,rfl,z7,hf⟩;refine Hid.out ?_)
     have z5:=hf.below z.out.own y9
     have g:=(z5.block _ (by omega)).trans z.out.u
     have z0:W'.cell? (Ad j.heap.size 0)=some (.slice b m d):=cell_block g rfl
     have z1:W'.cell? (Ad j.heap.size 1)=some (.slice b' m' d'):=cell_block g rfl
     have z2:W'.frozen? (Ad j.heap.size 0)=false:=frozen_block g
     have z3:W'.frozen? (Ad j.heap.size 1)=false:=frozen_block g
     have i:=a9c (Bt:=j.heap.size+1+1) z.out.own z.out.u y3 z.out.hk z.out.hv z.out.hr y9 z.out.bl (KeepsFrom.refl _ _) (Kept.refl _ _ _) (by omega) (by omega) rfl z7 hf
     replace i:Hid _:=i
     clear hC hf z7 y3 z5 g y0 y1 y2 q0 q1 q2 k0 k1 k2 u0 u1
     refine Lib.hid ?_
     gi_wp2
     exact⟨i.out.1,i.out.2.1,_,_,_,_,_,_,i.out.2.2⟩
    ·gi_wp2_with (refine⟨trivial,?_⟩;gi_at_call 114;refine(CallsIn.inRound l (callsIn_wide.2 hC)).mono ?_;rintro e W' ⟨a2,m2,d2,a3,m3,d3,rfl,z7,hf⟩;refine Hid.out ?_)
     have z5:=hf.below z.out.own y9
     have g:=(z5.block _ (by omega)).trans z.out.u
     have z0:W'.cell? (Ad j.heap.size 0)=some (.slice b m d):=cell_block g rfl
     have z1:W'.cell? (Ad j.heap.size 1)=some (.slice b' m' d'):=cell_block g rfl
     have z2:W'.frozen? (Ad j.heap.size 0)=false:=frozen_block g
     have z3:W'.frozen? (Ad j.heap.size 1)=false:=frozen_block g
     have i:=a9c (Bt:=j.heap.size+1+1) z.out.own z.out.u y3 z.out.hk z.out.hv z.out.hr y9 z.out.bl (KeepsFrom.refl _ _) (Kept.refl _ _ _) (by omega) (by omega) rfl z7 hf
     replace i:Hid _:=i
     clear hC hf z7 y3 z5 g y0 y1 y2 q0 q1 q2 k0 k1 k2 u0 u1
     refine Lib.hid ?_
     gi_wp2
     exact⟨i.out.1,i.out.2.1,_,_,_,_,_,_,i.out.2.2⟩
   ·gi_wp2_with (refine⟨trivial,?_⟩;gi_at_call 114;refine(CallsIn.inRound l (callsIn_wide.2 hC)).mono ?_;rintro e W' ⟨a2,m2,d2,a3,m3,d3,rfl,z7,hf⟩;refine Hid.out ?_)
    have z5:=hf.below z.out.own y9
    have g:=(z5.block _ (by omega)).trans z.out.u
    have z0:W'.cell? (Ad j.heap.size 0)=some (.slice b m d):=cell_block g rfl
    have z1:W'.cell? (Ad j.heap.size 1)=some (.slice b' m' d'):=cell_block g rfl
    have z2:W'.frozen? (Ad j.heap.size 0)=false:=frozen_block g
    have z3:W'.frozen? (Ad j.heap.size 1)=false:=frozen_block g
    have i:=a9c (Bt:=j.heap.size+1+1) z.out.own z.out.u y3 z.out.hk z.out.hv z.out.hr y9 z.out.bl (KeepsFrom.refl _ _) (Kept.refl _ _ _) (by omega) (by omega) rfl z7 hf
    replace i:Hid _:=i
    clear hC hf z7 y3 z5 g y0 y1 y2 q0 q1 q2 k0 k1 k2 u0 u1
    refine Lib.hid ?_
    gi_wp2
    exact⟨i.out.1,i.out.2.1,_,_,_,_,_,_,i.out.2.2⟩
 case done =>
  rintro D ys W hD rfl ⟨b1,m1,d1,b2,m2,d2,z⟩ hK
  have t3:=b0a k v ys
  have y9:=z.sz
  have s0:=Boxed.cell z.st
  obtain⟨k0,k1,k2,_,_,_⟩:=in3 z.hk
  obtain⟨v0,v1,v2,_,_,_⟩:=in3 z.hv
  have u0:W.cell? (Ad j.heap.size 0)=some (.slice b1 m1 d1):=cell_block z.u rfl
  have u1:W.cell? (Ad j.heap.size 1)=some (.slice b2 m2 d2):=cell_block z.u rfl
  have r0:W.cell? (Ad (w.heap.size+1+1+1) 0)=some (.slice none 0 0):=cell_block z.hr rfl
  have r1:W.cell? (Ad (w.heap.size+1+1+1) 1)=some (.slice none 0 0):=cell_block z.hr rfl
  have g0:W.frozen? (Ad (w.heap.size+1+1+1) 0)=false:=frozen_block z.hr
  have g1:W.frozen? (Ad (w.heap.size+1+1+1) 1)=false:=frozen_block z.hr
  clear S0 v8 v5 hT z4
  cases y8:met k ys
  ·have eZ:part k v ys++[(k,v)].filter full=setZ k v ys:=by unfold setZ;rw[y8];simp
   have hC:=b2j W0.heap.size _ _ (part k v ys) k v _ z.own y9 (by omega)
   rw[eZ]at hC
   rw[y8]at s0
   replace z:Hid _:=z
   replace y8:Hid _:=y8
   clear eZ
   gi_wp2_with (refine⟨trivial,?_⟩;gi_at_call 114;refine(callsIn_wide.2 hC).mono ?_;rintro e W' ⟨b3,m3,d3,b4,m4,d4,rfl,z7,hf⟩;refine Hid.out ?_)
   have z5:=hf.below z.out.own y9
   have g:=(z5.block _ (by omega)).trans z.out.u
   have w7:=(z5.block _ (by omega)).trans z.out.hr
   have u4:=(hf.keeps (B:=0) z.out.own).same D _ (Nat.zero_le _) hK rfl
   have u3:=z.out.bl.trans (z5.mono (by omega))
   have s5:=Nat.le_trans y9 hf.size
   have z0:W'.cell? (Ad j.heap.size 0)=some (.slice b1 m1 d1):=cell_block g rfl
   have z1:W'.cell? (Ad j.heap.size 1)=some (.slice b2 m2 d2):=cell_block g rfl
   have z2:W'.frozen? (Ad j.heap.size 0)=false:=frozen_block g
   have z3:W'.frozen? (Ad j.heap.size 1)=false:=frozen_block g
   clear hC hf k0 k1 k2 v0 v1 v2 u0 u1 r0 r1 g0 g1 s0 z5
   have ml:=c3d z7.k
   simp only[a0g,List.length_map]at ml
   have n1:¬w.heap.size+1+1+1=j.heap.size:=by omega
   have n2:¬j.heap.size=w.heap.size+1+1+1:=by omega
   have r0:W'.cell? (Ad (w.heap.size+1+1+1) 0)=some (.slice none 0 0):=cell_block w7 rfl
   have r1:W'.cell? (Ad (w.heap.size+1+1+1) 1)=some (.slice none 0 0):=cell_block w7 rfl
   have g0:W'.frozen? (Ad (w.heap.size+1+1+1) 0)=false:=frozen_block w7
   have g1:W'.frozen? (Ad (w.heap.size+1+1+1) 1)=false:=frozen_block w7
   have fo:=z7.kept (W':=(W'.setCell (Ad j.heap.size 0) (.slice b3 m3 d3)).setCell (Ad j.heap.size 1) (.slice b4 m4 d4)) (fun c hc=>put2_other _ _ _ (by have:=hc.elim (fun e=>(own_ge z7.k e).1) (fun e=>(own_ge z7.v e).1);omega))
   have w0:=(put2_other W' (.slice b3 m3 d3) (.slice b4 m4 d4) n1).trans w7
   have fb:=put2_below (.slice b3 m3 d3) (.slice b4 m4 d4) u3 (show w.heap.size<=j.heap.size by omega)
   have fK:=(a3h W' j.heap.size (.slice b3 m3 d3) (.slice b4 m4 d4)).same D _ u4 rfl
   replace fo:Hid _:=fo
   replace z7:Hid _:=z7
   clear g w7 u3 u4 hK
   refine Lib.hid ?_
   by_cases f:100<(setZ k v ys).length
   ·have s8:(100:Int)<(m3:Int):=by omega
    replace ml:Hid _:=ml
    replace f:Hid _:=f
    gi_wp2
    have y5:=(a3h _ (w.heap.size+1+1+1) (.slice none 0 0) (.slice none 0 0)).same D _ fK rfl
    refine⟨by simp,.inl ⟨_,_,rfl,run_takeDeferred y5,?_⟩⟩
    refine⟨_,b4b rfl rfl (block_put (put2_same w0) (by omega)),none,0,0,none,0,0,by first|rfl|rw[if_pos f.out],by first|exact a7n _ _|(rw[if_pos f.out];exact a7n _ _),?_⟩
    exact(put2_below _ _ fb (by omega)).trans (belowK_b (w:=w) (Nat.le_refl _) _ D _ _ (by omega) y5 rfl rfl)
   ·have s9:(m3:Int)<=100:=by omega
    replace ml:Hid _:=ml
    replace f:Hid _:=f
    gi_wp2
    have y5:=(a3h _ (w.heap.size+1+1+1) (.slice b3 m3 d3) (.slice b4 m4 d4)).same D _ fK rfl
    refine⟨by simp,.inl ⟨_,_,rfl,run_takeDeferred y5,?_⟩⟩
    refine⟨_,b4b rfl rfl (block_put (put2_same w0) (by omega)),b3,m3,d3,b4,m4,d4,by first|rfl|rw[if_neg f.out],by first|exact Own2.weak (fo.out.kept (fun c hc=>b2k fo.out hc fK rfl (by omega))) (by omega)|(rw[if_neg f.out];exact Own2.weak (fo.out.kept (fun c hc=>b2k fo.out hc fK rfl (by omega))) (by omega)),?_⟩
    exact(put2_below _ _ fb (by omega)).trans (belowK_b (w:=w) (Nat.le_refl _) _ D _ _ (by omega) y5 rfl rfl)
  ·have eZ:setZ k v ys=part k v ys:=by unfold setZ;rw[y8];simp
   rw[y8]at s0
   have ml:=c3d z.own.k
   simp only[a0g,List.length_map]at ml
   have fo:=z.own
   rw[<- eZ]at ml fo
   have w0:=z.hr
   have fb:=z.bl
   replace fo:Hid _:=fo
   replace y8:Hid _:=y8
   clear eZ z k0 k1 k2 v0 v1 v2
   by_cases f:100<(setZ k v ys).length
   ·have s8:(100:Int)<(m1:Int):=by omega
    replace ml:Hid _:=ml
    replace f:Hid _:=f
    gi_wp2
    have y5:=(a3h W (w.heap.size+1+1+1) (.slice none 0 0) (.slice none 0 0)).same D _ hK rfl
    refine⟨by simp,.inl ⟨_,_,rfl,run_takeDeferred y5,?_⟩⟩
    refine⟨_,b4b rfl rfl (block_put (put2_same w0) (by omega)),none,0,0,none,0,0,by first|rfl|rw[if_pos f.out],by first|exact a7n _ _|(rw[if_pos f.out];exact a7n _ _),?_⟩
    exact(put2_below _ _ fb (by omega)).trans (belowK_b (w:=w) (Nat.le_refl _) _ D _ _ (by omega) y5 rfl rfl)
   ·have s9:(m1:Int)<=100:=by omega
    replace ml:Hid _:=ml
    replace f:Hid _:=f
    gi_wp2
    have y5:=(a3h W (w.heap.size+1+1+1) (.slice b1 m1 d1) (.slice b2 m2 d2)).same D _ hK rfl
    refine⟨by simp,.inl ⟨_,_,rfl,run_takeDeferred y5,?_⟩⟩
    refine⟨_,b4b rfl rfl (block_put (put2_same w0) (by omega)),b1,m1,d1,b2,m2,d2,by first|rfl|rw[if_neg f.out],by first|exact Own2.weak (fo.out.kept (fun c hc=>b2k fo.out hc hK rfl (by omega))) (by omega)|(rw[if_neg f.out];exact Own2.weak (fo.out.kept (fun c hc=>b2k fo.out hc hK rfl (by omega))) (by omega)),?_⟩
    exact(put2_below _ _ fb (by omega)).trans (belowK_b (w:=w) (Nat.le_refl _) _ D _ _ (by omega) y5 rfl rfl)
 case stop =>
  rintro D c pre W _ _ h _
  exact h.elim
theorem d2s(ks vs:Value)(xs ys:List Vl)(k v:Vl)(w:World)(hT:Tab w.heap.size w ks vs xs ys) :
  Cl 83 #[.agg #[ks,vs],k.v,v.v] w fun e y=>∃a m c o q p,e=.returned (.tuple #[.agg #[.slice a m c,.slice o q p],vi (setT xs ys k v).2]) /\
   Own2 w.heap.size y (.slice a m c) (.slice o q p) (a0g (setT xs ys k v).1) (a1d (setT xs ys k v).1)/\Bw w y:=by
 have z:∀i:Int,setT xs ys k v=([],i)->(Cl 83 #[.agg #[ks,vs],k.v,v.v] w fun e y=>e=.returned (.tuple #[.agg #[.slice none 0 0,.slice none 0 0],vi i])/\Bw w y)->Cl 83 #[.agg #[ks,vs],k.v,v.v] w fun e y=>∃a m c o q p,e=.returned (.tuple #[.agg #[.slice a m c,.slice o q p],vi (setT xs ys k v).2]) /\
   Own2 w.heap.size y (.slice a m c) (.slice o q p) (a0g (setT xs ys k v).1) (a1d (setT xs ys k v).1)/\Bw w y:=fun i f h=>by
  rw[f]
  exact h.mono fun e y ⟨h1,h2⟩=>⟨none,0,0,none,0,0,h1,a7n _ _,h2⟩
 cases h:mayT xs ys
 ·exact z 2 (by simp[setT,h]) (d6n ks vs xs ys k v w hT h)
 ·cases h1:mayB k.k k.n k.s
  ·exact z 2 (by simp[setT,h1]) (d6o ks vs xs ys k v w hT h h1)
  ·cases h2:mayB v.k v.n v.s
   ·exact z 2 (by simp[setT,h2]) (d6p ks vs xs ys k v w hT h h1 h2)
   ·cases h3:(k.k == 0)
    ·obtain⟨j,g⟩:=a4y h
     have:=d6r 3 (by omega) ks vs (xs.zip ys) (by rw[List.length_zip];omega) k v w (by rw[a2m j,a3j j];exact hT) (by rw[a2m j,a3j j];exact h) h1 h2 h3
     have e:setT xs ys k v=(if 100<(setZ k v (xs.zip ys)).length then [] else setZ k v (xs.zip ys),if 100<(setZ k v (xs.zip ys)).length then 1 else 0):=by
      have u:¬k.k=0:=by simpa using h3
      unfold setT
      rw[if_neg (by simp[h,h1,h2]),if_neg u]
      split <;> rfl
     rw[e]
     exact callsIn_wide.1 this
    ·have u:k.k=0:=by simpa using h3
     exact z 3 (by unfold setT;rw[if_neg (by simp[h,h1,h2]),if_pos u]) (d6q ks vs xs ys k v w hT h h1 h2 h3)
end
section
variable [DecidableEq Vl]
theorem b7i(k v:Vl)(p:Vl×Vl):(swap k v p).1=p.1:=by unfold swap;split <;> rfl
theorem d2t{k v:Vl}{p:Vl×Vl}(h:p.1≠k):swap k v p=p:=by unfold swap;rw[if_neg h]
theorem d2u{k v:Vl}{p:Vl×Vl}(h:p.1=k):swap k v p=(k,v):=by unfold swap;rw[if_pos h,h]
theorem b0c(k v:Vl)(zs:List (Vl×Vl)):(a0g (part k v zs)).Sublist (a0g zs):=by
 have h1:(part k v zs).Sublist (zs.map (swap k v)):=List.filter_sublist
 have h2:=h1.map Prod.fst
 have h3:(zs.map (swap k v)).map Prod.fst=a0g zs:=by
  rw[List.map_map]
  exact List.map_congr_left (fun p _=>b7i k v p)
 rw[h3]at h2
 exact h2
theorem d2v{k:Vl}{zs:List (Vl×Vl)} : met k zs=true↔k∈a0g zs:=by
 simp[met,a0g]
theorem b7j{k v:Vl}{zs:List (Vl×Vl)}{p:Vl×Vl}(h:p∈part k v zs):p.1∈a0g zs/\(p.2=v/\p.2.k≠0\/p∈zs):=by
 simp only[part,List.mem_filter,List.mem_map]at h
 obtain⟨⟨q,hq,rfl⟩,hf⟩:=h
 refine⟨by rw[b7i];exact List.mem_map.2 ⟨q,hq,rfl⟩,?_⟩
 by_cases e:q.1=k
 ·rw[d2u e]at hf⊢
  exact .inl ⟨rfl,by simpa[full]using hf⟩
 ·rw[d2t e];exact .inr hq
theorem b0d{k v:Vl}{zs:List (Vl×Vl)}(h:(a0g zs).Nodup):(a0g (setZ k v zs)).Nodup:=by
 unfold setZ
 by_cases hm:met k zs=true
 ·rw[if_pos hm,List.append_nil]
  exact h.sublist (b0c k v zs)
 ·rw[if_neg hm,a0g,List.map_append]
  refine List.nodup_append.2 ⟨h.sublist (b0c k v zs),?_,fun a u c y e=>?_⟩
  ·cases hf:full (k,v) <;> simp[hf]
  ·have z:c=k:=by
    obtain⟨q,hq,rfl⟩:=List.mem_map.1 y
    have:=(List.mem_filter.1 hq).1
    simp at this
    rw[this]
   subst e
   subst z
   exact hm (d2v.2 ((b0c a v zs).subset u))
structure Fine (k v:Vl) (zs:List (Vl×Vl)):Prop where
 keys:∀p∈zs,stB p.1=true
 vals:∀p∈zs,stB p.2=true
 nodup:(a0g zs).Nodup
 k:stB k=true
 v:mayB v.k v.n v.s=true
theorem d2w{k v:Vl}{z:List (Vl×Vl)}(h:Fine k v z)(hl:¬100<(setZ k v z).length):mayT (a0g (setZ k v z)) (a1d (setZ k v z))=true:=by
 unfold mayT
 simp only[Bool.and_eq_true,decide_eq_true_eq,List.all_eq_true]
 have mem:∀p∈setZ k v z,stB p.1=true/\stB p.2=true:=by
  intro p hp
  have hv:v.k≠0->stB v=true:=fun h0=>by simp[stB,h0,h.v]
  unfold setZ at hp
  rcases List.mem_append.1 hp with hp|hp
  ·obtain⟨h1,h2⟩:=b7j hp
   obtain⟨q,hq,e⟩:=List.mem_map.1 h1
   refine⟨by rw[<- e];exact h.keys q hq,?_⟩
   rcases h2 with⟨o,h0⟩|h2
   ·rw[o]at h0⊢;exact hv h0
   ·exact h.vals p h2
  ·split at hp
   ·simp at hp
   ·obtain⟨h1,h2⟩:=List.mem_filter.1 hp
    simp at h1
    subst h1
    exact⟨h.k,hv (by simpa[full]using h2)⟩
 refine⟨⟨⟨by simp[a0g,a1d],by simp[a0g];omega⟩,fun x s=>?_,fun y u=>?_⟩,b0d h.nodup⟩
 ·obtain⟨p,hp,rfl⟩:=List.mem_map.1 s
  exact(mem p hp).1
 ·obtain⟨p,hp,rfl⟩:=List.mem_map.1 u
  exact(mem p hp).2
end
end Go.Proofs.YtfbpdbndejefdaaGreatDoor.V
