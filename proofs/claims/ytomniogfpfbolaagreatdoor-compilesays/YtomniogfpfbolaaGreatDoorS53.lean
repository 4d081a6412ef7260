import Derived.Test.YtomniogfpfbolaaGreatDoorS30
import Derived.Test.YtomniogfpfbolaaGreatDoorS51
namespace Go.Proofs.YtomniogfpfbolaaGreatDoor.V.C
open Go.RowKit Go
set_option maxRecDepth 100000
set_option maxHeartbeats 8000000
set_option linter.all false
variable {V w1 W:World} {base T s k mn c:Nat} {v:Value} {xs:List Value} {f:Fd} {fs:List Fd} {a:Option Addr}
abbrev four (f:Fd):List Value:=[vi f.p,vi f.r,f.cv,f.iv]
def a7a (l:List Fd):List Value:=l.flatMap four
def FnR (base:Nat) (f:Fd) (V:World):Prop:=V.ownsRow base 75 3 f.cv f.cs.length (flat f.cs)/\V.ownsRow base 93 4 f.iv f.is.length (a3p (f.is.map toQ))
def FnB (f:Fd) (k:Nat):Prop:=f.cv.ownBlock=some k\/f.iv.ownBlock=some k
theorem a7d{n:Nat}(h:V.ownsRow base T s v n xs)(hk:v.ownBlock=some k):base<=k/\k<V.heap.size:=by
 rcases h.2 with⟨e,_⟩|⟨g,cap',w,e,y,z,_⟩
 ·rw[e]at hk;simp[Value.ownBlock]at hk
 ·rw[e]at hk
  have x:g=k:=by simpa[Value.ownBlock]using hk
  subst x
  exact⟨y,q5z z⟩
theorem b8m{base' n:Nat}(h:V.ownsRow base T s v n xs)(hb:base'<=base):V.ownsRow base' T s v n xs:=by
 refine⟨h.1,?_⟩
 rcases h.2 with e|⟨g,cap',y,e,z,x⟩
 ·exact .inl e
 ·exact .inr ⟨g,cap',y,e,Nat.le_trans hb z,x⟩
structure Mf (w1:World) (T:Nat) (mn:Nat) (fs:List Fd) (W:World):Prop where
 mem:∃fa fc,W.heap[T]?=some (.cells #[.slice fa fs.length fc,vi (mn:Nat)] 24)/\W.ownsRow w1.heap.size 43 4 (.slice fa fs.length fc) fs.length (a7a fs)/\(∀b,Value.ownBlock (.slice fa fs.length fc)=some b->b≠T) /\
  ∀f∈fs,FnR w1.heap.size f W/\∀k,FnB f k->k≠T/\Value.ownBlock (.slice fa fs.length fc)≠some k
 lo:w1.heap.size<=T
 bl:Bw w1 W
theorem FnR.on{V':World}(h:FnR base f V)(hW:∀k,FnB f k->V'.heap[k]?=V.heap[k]?):FnR base f V':=⟨a2b h.1 fun b z=>hW b (.inl z),a2b h.2 fun b z=>hW b (.inr z)⟩
theorem FnR.lt(h:FnR base f V)(hk:FnB f k):base<=k/\k<V.heap.size:=by
 rcases hk with e|e
 ·exact a7d h.1 e
 ·exact a7d h.2 e
theorem Mf.below(h:Mf w1 T mn fs W)(hb:Bw W V):Mf w1 T mn fs V:=by
 obtain⟨w,x,h1,h2,h3,h4⟩:=h.mem
 refine⟨⟨w,x,q0z hb h1,a2b h2 fun b z=>hb.block b (a7d h2 z).2,h3,fun f hf=>⟨(h4 f hf).1.on fun k y=>hb.block k ((h4 f hf).1.lt y).2,(h4 f hf).2⟩⟩,h.lo,q3z h.bl hb⟩
structure FRow (w1:World) (T mn:Nat) (fs:List Fd) (f:Fd) (X:World) (fa:Option Addr) (fc:Nat):Prop where
 own:X.ownsRow w1.heap.size 43 4 (.slice fa fs.length fc) fs.length (a7a fs)
 ld:X.cell? (Ad T 0)=some (.slice fa fs.length fc)
 rt:∀(w3:World) (g cap:Nat),w3.ownsRow w1.heap.size 43 4 (.slice (some (Ad g 0)) (fs.length+1) cap) (fs.length+1) (a7a fs++four f)->X.grownBy w3 (Value.ownBlock (.slice fa fs.length fc))->(Value.ownBlock (.slice fa fs.length fc)=some g\/g=X.heap.size) ->
  w3.cell? (Ad T 0)=some (.slice fa fs.length fc)/\w3.frozen? (Ad T 0)=false/\Mf w1 T mn (fs++[f]) (w3.setCell (Ad T 0) (.slice (some (Ad g 0)) (fs.length+1) cap))
theorem Mf.row{X:World}(h:Mf w1 T mn fs X)(hf:FnR w1.heap.size f X)(hn:∀k,FnB f k->k≠T/\∀u w,X.cell? (Ad T 0)=some (.slice u fs.length w)->Value.ownBlock (.slice u fs.length w)≠some k):∃u w,FRow w1 T mn fs f X u w:=by
 obtain⟨u,w,h1,h2,h3,h4⟩:=h.mem
 have n:X.cell? (Ad T 0)=some (.slice u fs.length w):=q2z h1 rfl
 refine⟨u,w,h2,n,fun w3 g cap p hg i=>?_⟩
 have d:=q5z h1
 have l:g≠T:=fun x=>by
  rcases i with a|a
  ·exact h3 g a x
  ·omega
 have z8:w3.heap[T]?=X.heap[T]?:=hg.block T d (fun e=>h3 T e.symm rfl)
 have r:=z8.trans h1
 have z9:∀k,k<X.heap.size->¬Value.ownBlock (.slice u fs.length w)=some k->k≠g:=fun k z hn x=>by
  rcases i with a|a
  ·exact hn (x▸a)
  ·omega
 have o:∀k,k<X.heap.size->k≠T->¬Value.ownBlock (.slice u fs.length w)=some k->(w3.setCell (Ad T 0) (.slice (some (Ad g 0)) (fs.length+1) cap)).heap[k]?=X.heap[k]?:=fun k z h1 h2=>(q8z _ _ h1).trans (hg.block k z (fun e=>h2 e.symm))
 have s:a0b (fun q=>q=T\/some q=Value.ownBlock (.slice u fs.length w)) X (w3.setCell (Ad T 0) (.slice (some (Ad g 0)) (fs.length+1) cap)):=((a0b.grown hg).mono (fun k _ x=>.inr x)).set T 0 _ (fun _=>.inl rfl)
 refine⟨q2z r rfl,q6z r,⟨some (Ad g 0),cap,?_,?_,?_,?_⟩,h.lo,a0b.toBelow h.bl s (fun k x=>?_)⟩
 ·rw[q7z _ r]
  simp
 ·show World.ownsRow _ _ _ _ (.slice _ (fs++[f]).length _) (fs++[f]).length (a7a (fs++[f]))
  rw[show a7a (fs++[f])=a7a fs++four f by simp[a7a],List.length_append]
  refine a2b (W:=w3) (v:=.slice (some (Ad g 0)) (fs.length+1) cap) p (fun b hb=>?_)
  have c:g=b:=by simpa[Value.ownBlock]using hb
  subst c
  exact q8z _ _ l
 ·intro b hb
  have c:g=b:=by simpa[Value.ownBlock]using hb
  subst c
  exact l
 ·intro f' y
  have t:FnR w1.heap.size f' X/\∀k,FnB f' k->k≠T/\Value.ownBlock (.slice u fs.length w)≠some k:=by
   rcases List.mem_append.1 y with y|y
   ·exact h4 f' y
   ·simp at y
    subst y
    exact⟨hf,fun k z=>⟨(hn k z).1,(hn k z).2 _ _ n⟩⟩
  refine⟨t.1.on fun k z=>o k (t.1.lt z).2 (t.2 k z).1 (t.2 k z).2,fun k z=>⟨(t.2 k z).1,fun x=>?_⟩⟩
  have c:g=k:=by simpa[Value.ownBlock]using x
  exact z9 k (t.1.lt z).2 (t.2 k z).2 c.symm
 ·rcases x with x|x
  ·subst x;exact h.lo
  ·exact(a7d h2 x.symm).1
section
variable [DecidableEq Vl]
abbrev cbx (a b:Value):Obj:=.cells #[a,b] 24
abbrev fbx2 (a b:Value):Obj:=.cells #[a,b] 27
theorem res4{tm:Array Value}{B C:Nat}{a b x y:Value}(h:tm[2]?.getD undef=Po B 0)(h':tm[3]?.getD undef=Po C 0)(hx:W.heap[B]?=some (cbx a b))(hy:W.heap[C]?=some (fbx2 x y)):(results Tryz.f4 tm).run Tryz.prog W=.ok (.tuple #[.agg #[a,b],.agg #[x,y]]) W:=by
 have c0:=q2z (i:=0) (v:=a) hx rfl
 have c1:=q2z (i:=1) (v:=b) hx rfl
 have w:=q2z (i:=0) (v:=x) hy rfl
 have z:=q2z (i:=1) (v:=y) hy rfl
 simp[results,Tryz.results4,go_sem,h,h',c0,c1,w,z]
abbrev put2 (W:World) (B:Nat) (a b:Value):World:=(W.setCell (Ad B 0) a).setCell (Ad B 1) b
theorem a3h(W:World)(B:Nat)(a b:Value):a0b (fun q=>q=B) W (put2 W B a b):=(a1u _ _ _ _).trans (a1u _ _ _ _)
theorem c9o(s:ByteArray)(w:World)(hE:ErrV w)(hsp:a5b w)(c:Int)(a:Nat)(hR:a4r (a1q s.data.toList)=.inl (c,a)):Cl 4 #[.string s] w fun e i=>e=.returned (.tuple #[.agg #[.slice none 0 0,vi 0],.agg #[vi c,vi (a:Nat)]])/\Bw w i:=by
 have hd:(c != 0)=true:=by simpa using b1q hR
 obtain⟨t,x⟩:=exq ((w.alloc (.cells #[.slice none 0 0,vi 0] 24)).alloc (.cells #[vi 0,vi 0] 27))
 have u:Bw w t:=by rw[<- x];exact q1z (q1z bz0 _) _
 have g0:t.heap[w.heap.size]?=some (cbx (.slice none 0 0) (vi 0)):=by rw[<- x];exact q4z _ (new1 _ _)
 have g1:t.heap[w.heap.size+1]?=some (fbx2 (vi 0) (vi 0)):=by rw[<- x];exact new2 _ _ _
 have l:=d3w s t (hE.on u) (hsp.below u) c a hR
 clear hR hE hsp
 go_enter Tryz.func4,Tryz.ntmps4
 go_wp2_with (go_at_call 7;refine l.mono ?_;rintro e w1 ⟨rfl,y⟩;refine Hid.out ?_)
 obtain⟨V,p⟩:=exq ((w1.alloc (.cells #[vi 0,.string ⟨#[]⟩,vi 0,vi 0,.slice none 0 0] 47)).alloc (.cells #[vi c,vi (a:Nat)] 27))
 have v:Bw w1 V:=by rw[<- p];exact q1z (q1z bz0 _) _
 have k0:=q0z v (q0z y g0)
 have k1:=q0z v (q0z y g1)
 have k2:V.heap[w1.heap.size+1]?=some (fbx2 (vi c) (vi (a:Nat))):=by rw[<- p];exact new2 _ _ _
 have u0:V.cell? (Ad w.heap.size 0)=some (.slice none 0 0):=q2z k0 rfl
 have b:V.cell? (Ad w.heap.size 1)=some (vi 0):=q2z k0 rfl
 have d:V.cell? (Ad (w.heap.size+1) 0)=some (vi 0):=q2z k1 rfl
 have f:V.cell? (Ad (w.heap.size+1) 1)=some (vi 0):=q2z k1 rfl
 have f0:V.frozen? (Ad w.heap.size 0)=false:=q6z k0
 have f1:V.frozen? (Ad w.heap.size 1)=false:=q6z k0
 have f2:V.frozen? (Ad (w.heap.size+1) 0)=false:=q6z k1
 have f3:V.frozen? (Ad (w.heap.size+1) 1)=false:=q6z k1
 have t0:V.cell? (Ad (w1.heap.size+1) 0)=some (vi c):=q2z k2 rfl
 have t1:V.cell? (Ad (w1.heap.size+1) 1)=some (vi (a:Nat)):=q2z k2 rfl
 have g:=q5z g1
 have h:=y.size
 have n1:¬w1.heap.size+1=w.heap.size:=by omega
 have n2:¬w1.heap.size+1=w.heap.size+1:=by omega
 have q:=q3z (q3z u y) v
 have n:(put2 (put2 V w.heap.size (.slice none 0 0) (vi 0)) (w.heap.size+1) (vi c) (vi (a:Nat))).heap[w.heap.size]?=some (cbx (.slice none 0 0) (vi 0)):=(((a3h _ (w.heap.size+1) _ _).block _ (by simpa using q5z k0) (by omega))).trans (q7z _ (q7z _ k0))
 have o:(put2 (put2 V w.heap.size (.slice none 0 0) (vi 0)) (w.heap.size+1) (vi c) (vi (a:Nat))).heap[w.heap.size+1]?=some (fbx2 (vi c) (vi (a:Nat))):=q7z _ (q7z _ (((a3h V w.heap.size _ _).block _ (q5z k1) (by omega)).trans k1))
 have z:Bw w (put2 (put2 V w.heap.size (.slice none 0 0) (vi 0)) (w.heap.size+1) (vi c) (vi (a:Nat))):=a0b.toBelow (a0b.toBelow q (a3h V w.heap.size _ _) (fun k e=>by omega)) (a3h _ (w.heap.size+1) _ _) (fun k e=>by omega)
 obtain⟨X,r⟩:=exq (put2 (put2 V w.heap.size (.slice none 0 0) (vi 0)) (w.heap.size+1) (vi c) (vi (a:Nat)))
 rw[r]at n o z
 replace r:(((V.setCell (Ad w.heap.size 0) (.slice none 0 0)).setCell (Ad w.heap.size 1) (vi 0)).setCell (Ad (w.heap.size+1) 0) (vi c)).setCell (Ad (w.heap.size+1) 1) (vi (a:Nat))=X:=r
 replace r:Hid _:=r
 replace z:Hid _:=z
 clear l u y v g0 g1 k0 k1 k2 q x
 refine Lib.hid ?_
 go_wp2
 clear p
 go_region
 all_goals
  go_wp2
  rw[r.out]
  exact bodyPost_ret (res4 (W:=X.drew) rfl rfl n o) rfl ⟨rfl,z.out.drew⟩
theorem d3y{nf:Nat}{q:Pt}(hw:WFn nf q)(hN:isN (era q))(hF:FnC q)(h600:cnt q<=600):∃u z,q.kids=u++[z]/\u.length<=5/\Pq nf q/\q.k=2/\∀(j:Nat) (x:Pt),u[j]?=some x->0<=x.sl/\x.sl<30:=by
 have y:q.kids≠[]:=fun e=>by have:=hw.l1;rw[e]at this;simp at this
 have w:=(List.dropLast_concat_getLast y).symm
 have p:Pq nf q:=⟨hw.wf,hN⟩
 have o:=hw.l6
 refine⟨q.kids.dropLast,q.kids.getLast y,w,by simp;omega,p,hw.k,fun j x r=>?_⟩
 have v:j<q.kids.dropLast.length:=(List.getElem?_eq_some_iff.1 r).1
 have t:q.kids[j]?=some x:=by rw[w,List.getElem?_append_left v];exact r
 obtain⟨hq,f⟩:=p.kid t
 have s:x.k=3:=by
  unfold a0w at f
  rw[hw.k]at f
  simp at v
  simp at f
  rw[if_neg (by omega)]at f
  exact f
 exact hq.head.2.2.2.2.1 (.inl s)
theorem d7e:(Tryz.prog.info? 43).map (fun i=>(i.zero,i.size,i.bytes))=some (some (.agg #[vi 0,vi 0,.slice none 0 0,.slice none 0 0]),4,64):=by kernel_rfl
theorem c5q{g:Nat}(h:W.heap[g]?=some (.cells (four f).toArray 43)):∀j u,(four f)[j]?=some u->W.cell? ((Ad g 0).add j)=some u:=World.news_of_block (cs:=(four f).toArray) h
def MkZ (w:World) (u:Pt) (e:Ending) (w':World):Prop:=∃fa fc mn fs,e=.returned (.tuple #[PV fa u.kids.length fc (mn:Nat),.agg #[vi 0,vi 0]])/\mn<u.kids.length/\(∃q,u.kids[mn]?=some q/\q.t=c4m/\q.kids.length=1)/\fs.length=u.kids.length/\RowF w'.heap.size w' fa fs/\(∀(j:Nat) (f:Fd),fs[j]?=some f->fnB u.kids.length f=true/\∃q,u.kids[j]?=some q/\f.p=((q.kids.length-1:Nat):Int))/\Bw w w'
theorem b4y{f:Fd} : ∀(l:List Fd) (i:Nat),l[i]?=some f->(a7a l)[i*4]?=some (vi f.p)/\(a7a l)[i*4+1]?=some (vi f.r)/\(a7a l)[i*4+2]?=some f.cv/\(a7a l)[i*4+3]?=some f.iv
 | [],i,h=>by simp at h
 | y::l,0,h=>by simp at h;subst h;exact⟨rfl,rfl,rfl,rfl⟩
 | y::l,i+1,h=>by
  have:=b4y l i (by simpa using h)
  rw[show a7a (y::l)=vi y.p::vi y.r::y.cv::y.iv::a7a l from rfl,show(i+1)*4=i*4+1+1+1+1 by omega]
  exact this
theorem b0s{n:Nat}(h:V.ownsRow base T s (.slice a n c) n xs)(hn:0<n):∃g,a=some (Ad g 0)/\g<V.heap.size/\n<=c/\c<=maxLen/\∀i v,xs[i]?=some v->V.cell? (Ad g i)=some v:=by
 rcases h.2 with⟨_,p⟩|⟨g,cap,q,r,l,y,t,u,o,w⟩
 ·omega
 ·cases r
  refine⟨g,rfl,q5z y,t,u,fun i v z=>?_⟩
  have x:i<n*s:=by
   have:=(List.getElem?_eq_some_iff.1 z).1
   rw[h.1]at this
   exact this
  rw[<- w,List.getElem?_take_of_lt x]at z
  exact q2z y (by simpa using z)
theorem c5r{n:Nat}(h:V.ownsRow base T s (.slice a n c) n xs):n<=maxLen:=by
 rcases h.2 with⟨_,y⟩|⟨g,cap,z,q,r,t,u,v,w,x⟩
 ·omega
 ·omega
theorem d3z{l:List Vl}(h:V.ownsRow base 75 3 (.slice a l.length c) l.length (flat l)):RowV V.heap.size V a l:=by
 refine⟨c5r h,fun z=>?_⟩
 obtain⟨g,e,u,_,_,y⟩:=b0s h (List.length_pos_iff.2 z)
 refine⟨g,0,e,u,fun j x v=>?_⟩
 obtain⟨k1,k2,w⟩:=b2f l j v
 rw[Nat.zero_add]
 exact⟨y _ _ k1,y _ _ k2,y _ _ w⟩
theorem d4a{l:List Od}(h:V.ownsRow base 93 4 (.slice a l.length c) l.length (a3p (l.map toQ))):RowI V.heap.size V a l:=by
 refine⟨c5r h,fun y=>?_⟩
 obtain⟨g,e,t,_,_,z⟩:=b0s h (List.length_pos_iff.2 y)
 refine⟨g,0,e,t,fun j x u=>?_⟩
 obtain⟨k1,k2,v,w⟩:=b0a (l.map toQ) j (q:=toQ x) (by rw[List.getElem?_map,u];rfl)
 rw[Nat.zero_add]
 exact⟨z _ _ k1,z _ _ k2,z _ _ v,z _ _ w⟩
theorem d4b{fa:Option Addr}{fc:Nat}{z:List Fd}(h2:V.ownsRow base 43 4 (.slice fa z.length fc) z.length (a7a z))(h4:∀f∈z,FnR base f V):RowF V.heap.size V fa z:=by
 refine⟨c5r h2,fun x=>?_⟩
 obtain⟨g,e,t,_,_,y⟩:=b0s h2 (List.length_pos_iff.2 x)
 refine⟨g,0,e,t,fun j f hf=>?_⟩
 obtain⟨k1,k2,u,v⟩:=b4y z j hf
 have w:=h4 f (List.mem_of_getElem? hf)
 rw[Nat.zero_add]
 exact⟨⟨y _ _ k1,y _ _ k2,y _ _ u,y _ _ v⟩,d3z w.1,d4a w.2⟩
theorem pk_on{S:Nat->Prop}{ks:List Pt}{b:Option Addr}{cap:Nat}(h:PK S w1 ks b cap)(hb:Bw w1 V):PK tt V ks b cap:=by
 refine⟨h.1,?_⟩
 rcases h.2 with h2|⟨g,z,e,_,h2⟩
 ·exact .inl h2
 ·refine .inr ⟨g,z,e,trivial,fun j y w=>?_⟩
  have x:g<w1.heap.size:=World.block_lt_of_cell? _ _ (h2 j y w).first
  exact PtAt.on (fun q _ hq=>⟨trivial,hb.block q hq⟩) y _ _ (fun i v u=>(hb.cell (p:=(Ad g _)) x).trans u) (h2 j y w)
def MI (w3:World) (T mn nf:Nat) (u:Pt) (j:Nat) (wr:World):Prop:=∃fs,fs.length=j/\Mf w3 T mn fs wr/\∀(i:Nat) (f:Fd),fs[i]?=some f->fnB nf f=true/\∃q,u.kids[i]?=some q/\f.p=((q.kids.length-1:Nat):Int)
theorem c5s(s:ByteArray)(w:World)(hE:ErrV w)(hsp:a5b w)(n:Nd)(sl:List Int)(u:Pt)(hR:a4r (a1q s.data.toList)=.inr (n,sl))(hu:∀rest,layN n (sl++rest)=(u,rest))(hW:WU u)(hFC:∀q∈u.kids,FnC q)(hNk:∀q∈u.kids,isN (era q))(h600:cnt u<=600):Cl 4 #[.string s] w (MkZ w u):=by
 obtain⟨w0,hw0⟩:=exq ((w.alloc (.cells #[.slice none 0 0,vi 0] 24)).alloc (.cells #[vi 0,vi 0] 27))
 have hb0:Bw w w0:=by rw[<- hw0];exact q1z (q1z bz0 _) _
 have g0:w0.heap[w.heap.size]?=some (cbx (.slice none 0 0) (vi 0)):=by rw[<- hw0];exact q4z _ (new1 _ _)
 have g1:w0.heap[w.heap.size+1]?=some (fbx2 (vi 0) (vi 0)):=by rw[<- hw0];exact new2 _ _ _
 have hk:=c9n s w0 (hE.on hb0) (hsp.below hb0) n sl u hR hu
 obtain⟨mn,hmn,⟨qm,hqm,hqt,hql⟩,hlt⟩:=hW.main
 have hl12:=hW.l
 obtain⟨L,hL⟩:=exq (u.kids.length)
 have hmain:=fun(w1:World) (pb:Option Addr) (pc:Nat) (hpk:PK tt w1 u.kids pb pc) (V:World) (hb:Bw w1 V)=>c8f w1 u pb pc mn qm V hb hpk hqm hqt hlt
 have hfun:∀(j:Nat) (q:Pt),u.kids[j]?=some q->∀(b':Option Addr) (cap':Nat) (V:World),PK tt V q.kids b' cap'->Cl 9 #[ptv q b' cap'] V fun e V2=>∃f:Fd,e=.returned f.v/\FnZ u.kids.length (q.kids.length-1) V f V2:=fun j q hq b' cap' V hpk=>by
  have hm:=List.mem_of_getElem? hq
  have hle:cnt q<=600:=by
   have h1:=b2l hq
   have h2:=a2v u
   omega
  obtain⟨ps,z,e1,e2,e3,e4,e5⟩:=d3y (hW.wf q hm) (hNk q hm) (hFC q hm) hle
  have hpl:q.kids.length-1=ps.length:=by rw[e1];simp
  rw[hpl]
  exact function_any hl12 q z ps b' cap' V e4 e1 e2 e3 (hFC q hm) hle e5 hpk
 have hfin:∀(w3 V:World) (T:Nat) (wr:World),Bw w w3->w.heap.size+1<w3.heap.size->wr.heap[w.heap.size]?=some (cbx (.slice none 0 0) (vi 0))->wr.heap[w.heap.size+1]?=some (fbx2 (vi 0) (vi 0))->MI w3 T mn L u L wr->∃fa fc,wr.heap[T]?=some (cbx (.slice fa L fc) (vi (mn:Nat)))/\MkZ w u (.returned (.tuple #[.agg #[.slice fa L fc,vi (mn:Nat)],.agg #[vi 0,vi 0]])) (put2 (put2 wr w.heap.size (.slice fa L fc) (vi (mn:Nat))) (w.heap.size+1) (vi 0) (vi 0)):=fun w3 V T wr hb3 hl3 k0 k1 hI=>by
  obtain⟨fs,hfl,hM,hg⟩:=hI
  obtain⟨fa,fc,a1,a2,a3,a4⟩:=hM.mem
  have hbw:=q3z hb3 hM.bl
  refine⟨fa,fc,by rw[<- hfl];exact a1,?_⟩
  obtain⟨X,hX⟩:=exq (put2 (put2 wr w.heap.size (.slice fa L fc) (vi (mn:Nat))) (w.heap.size+1) (vi 0) (vi 0))
  have hkX:a0b (fun q=>q=w.heap.size\/q=w.heap.size+1) wr X:=by
   rw[<- hX]
   exact((a3h wr w.heap.size _ _).mono (S':=fun q=>q=w.heap.size\/q=w.heap.size+1) (fun _ _ e=>.inl e)).then ((a3h _ (w.heap.size+1) _ _).mono (S':=fun q=>q=w.heap.size\/q=w.heap.size+1) (fun _ _ e=>.inr e)) (fun _ _ e=>e)
  have hsame:∀k,w3.heap.size<=k->k<wr.heap.size->X.heap[k]?=wr.heap[k]?:=fun k h1 h2=>hkX.block k h2 (fun e=>by rcases e with e|e <;> omega)
  have hr:=d4b (a2b a2 fun b hb=>hsame b (a7d a2 hb).1 (a7d a2 hb).2) (fun f hf=>(a4 f hf).1.on fun k hk=>hsame k ((a4 f hf).1.lt hk).1 ((a4 f hf).1.lt hk).2)
  rw[hX]
  exact⟨fa,fc,mn,fs,by rw[hL],hmn,⟨qm,hqm,hqt,hql⟩,by rw[hL];exact hfl,hr,by rw[hL];exact hg,a0b.toBelow hbw hkX (fun k e=>by rcases e with e|e <;> omega)⟩
 -- a function more
 have hrow:∀(w3 wr V5:World) (T j:Nat) (q:Pt) (f:Fd) (fs:List Fd),u.kids[j]?=some q->fs.length=j->Mf w3 T mn fs wr->(∀(i:Nat) (f:Fd),fs[i]?=some f->fnB L f=true/\∃q,u.kids[i]?=some q/\f.p=((q.kids.length-1:Nat):Int))->∀V,Bw wr V->FnZ L (q.kids.length-1) V f V5->∃fa fc,V5.cell? (Ad T 0)=some (.slice fa j fc)/\T<V5.heap.size/\∀X,Bw V5 X->X.ownsRow w3.heap.size 43 4 (.slice fa j fc) j (a7a fs)/\∀(w6:World) (g cap:Nat),w6.ownsRow w3.heap.size 43 4 (.slice (some (Ad g 0)) (j+1) cap) (j+1) (a7a fs++four f)->X.grownBy w6 (Value.ownBlock (.slice fa j fc))->(Value.ownBlock (.slice fa j fc)=some g\/g=X.heap.size)->w6.cell? (Ad T 0)=some (.slice fa j fc)/\w6.frozen? (Ad T 0)=false/\MI w3 T mn L u (j+1) (w6.setCell (Ad T 0) (.slice (some (Ad g 0)) (j+1) cap)):=fun w3 wr V5 T j q f fs hq hfl hM hg V hbV hz=>by
  obtain⟨z1,z2,z3,z4,z5⟩:=hz
  have hM5:=(hM.below hbV).below z5
  obtain⟨fa,fc,a1,a2,a3,a4⟩:=hM5.mem
  have hMV:=hM.below hbV
  obtain⟨fa',fc',c1,c2,c3,c4⟩:=hMV.mem
  have hlo:w3.heap.size<=V.heap.size:=hMV.bl.size
  have hfR:FnR w3.heap.size f V5:=⟨b8m z1 hlo,b8m z2 hlo⟩
  have hnew:∀k,FnB f k->V.heap.size<=k/\k<V5.heap.size:=fun k hk=>by
   rcases hk with e|e
   ·exact a7d z1 e
   ·exact a7d z2 e
  have hTV:=q5z c1
  have hsl:(Value.slice fa fs.length fc)=.slice fa' fs.length fc':=by
   have h1:V5.cell? (Ad T 0)=some (.slice fa fs.length fc):=q2z a1 rfl
   have h2:V5.cell? (Ad T 0)=some (.slice fa' fs.length fc'):=q2z (q0z z5 c1) rfl
   rw[h1]at h2
   exact Option.some.inj h2
  cases hsl
  refine⟨fa,fc,by rw[<- hfl];exact q2z a1 rfl,q5z a1,fun X hbX=>?_⟩
  have hMX:=hM5.below hbX
  obtain⟨fb,fd,FR⟩:=hMX.row (f:=f) (hfR.on fun k hk=>hbX.block k (hnew k hk).2) (fun k hk=>⟨by have:=hnew k hk;omega,fun fb fd hcl=>fun ee=>by
   have h2:X.cell? (Ad T 0)=some (.slice fa fs.length fc):=q2z (q0z hbX a1) rfl
   rw[h2]at hcl
   cases hcl
   have:=(a7d c2 ee).2
   have:=(hnew k hk).1
   omega⟩)
  have hsl2:(Value.slice fa fs.length fc)=.slice fb fs.length fd:=by
   have h1:X.cell? (Ad T 0)=some (.slice fa fs.length fc):=q2z (q0z hbX a1) rfl
   have h2:=FR.ld
   rw[h1]at h2
   exact Option.some.inj h2
  cases hsl2
  have hown:=FR.own
  have hrt:=FR.rt
  rw[hfl]at hown hrt
  refine⟨hown,fun w6 g cap h1 h2 h3=>?_⟩
  obtain⟨r1,r2,r3⟩:=hrt w6 g cap h1 h2 h3
  refine⟨r1,r2,fs++[f],by simp[hfl],r3,fun i f' hf'=>?_⟩
  by_cases hi:i<fs.length
  ·rw[List.getElem?_append_left hi]at hf'
   exact hg i f' hf'
  ·rw[List.getElem?_append_right (by omega)]at hf'
   have h0:i-fs.length=0:=by
    have:=(List.getElem?_eq_some_iff.1 hf').1
    simp at this
    omega
   rw[h0]at hf'
   simp at hf'
   subst hf'
   exact⟨z4,q,by rw[show i=j by omega];exact hq,z3⟩
 have hMI0:∀w3:World,MI w3 w3.heap.size mn L u 0 (w3.alloc (.cells #[.slice none 0 0,vi (mn:Nat)] 24)):=fun w3=>⟨[],rfl,⟨⟨none,0,new1 _ _,⟨rfl,.inl ⟨rfl,rfl⟩⟩,fun b hb=>by simp[Value.ownBlock]at hb,fun f hf=>by simp at hf⟩,Nat.le_refl _,q1z bz0 _⟩,fun i f hf=>by simp at hf⟩
 have hget:∀j,j<L->∃q,u.kids[j]?=some q:=fun j hj=>⟨_,List.getElem?_eq_getElem (by omega)⟩
 simp only[a0x,hL]at hk hmain hfun
 have hL12:L<=12:=by omega
 replace hmain:Hid _:=hmain
 replace hfun:Hid _:=hfun
 replace hfin:Hid _:=hfin
 replace hrow:Hid _:=hrow
 replace hMI0:Hid _:=hMI0
 replace hget:Hid _:=hget
 replace hL:Hid _:=hL
 have hw0l:=q5z g1
 clear hE hsp hR hu hW hFC hNk h600 hqm hqt hql hlt hl12
 go_enter Tryz.func4,Tryz.ntmps4
 go_wp2_with (go_at_call 7;refine hk.mono ?_;rintro e w1 ⟨pb,pc,rfl,hpk,hb1⟩;refine Hid.out ?_)
 obtain⟨V,hV⟩:=exq ((w1.alloc (.cells #[vi u.k,.string u.t,vi u.n,vi u.sl,.slice pb L pc] 47)).alloc (.cells #[vi 0,vi 0] 27))
 have hb2:Bw w1 V:=by rw[<- hV];exact q1z (q1z bz0 _) _
 have kP:V.heap[w1.heap.size]?=some (.cells #[vi u.k,.string u.t,vi u.n,vi u.sl,.slice pb L pc] 47):=by rw[<- hV];exact q4z _ (new1 _ _)
 have kF:V.heap[w1.heap.size+1]?=some (.cells #[vi 0,vi 0] 27):=by rw[<- hV];exact new2 _ _ _
 obtain⟨p0,p1,p2,p3,p4,_,_,_,_,_⟩:=in5 kP
 have t0:V.cell? (Ad (w1.heap.size+1) 0)=some (vi 0):=q2z kF rfl
 have t1:V.cell? (Ad (w1.heap.size+1) 1)=some (vi 0):=q2z kF rfl
 have hpk1:=pk_on hpk (Below.refl w1.heap.size w1)
 have hm:=hmain.out w1 pb pc hpk1 V hb2
 have hLc:=hpk1.1
 rw[hL.out]at hLc
 have hbw2:=q3z hb1 hb2
 clear hk hmain hpk p0 p1 p2 p3 p4 t0 t1 hw0
 subst hV
 refine Lib.hid ?_
 go_wp2_with (go_at_call 8;refine hm.mono ?_;rintro e w3 ⟨rfl,hb3⟩;refine Hid.out ?_)
 obtain⟨q0,q1,q2,q3,q4,_,_,_,_,_⟩:=in5 (q0z hb3 kP)
 have hb13:=q3z hb2 hb3
 have hbw3:=q3z hb0 (q3z hb1 hb13)
 have hs3:w.heap.size+1<w3.heap.size:=Nat.lt_of_lt_of_le hw0l (q3z hb1 hb13).size
 have kP3:=q5z (q0z hb3 kP)
 have k0:=q0z (q3z hb1 hb13) g0
 have k1:=q0z (q3z hb1 hb13) g1
 have n0:¬w3.heap.size=w1.heap.size:=by omega
 have hMI:=hMI0.out w3
 have hb4:=q1z (Below.refl w3.heap.size w3) (.cells #[.slice none 0 0,vi (mn:Nat)] 24)
 have kk0:=q0z hb4 k0
 have kk1:=q0z hb4 k1
 have hLc2:(L:Int)<=(pc:Int):=by omega
 replace hMI:Hid _:=hMI
 replace kk0:Hid _:=kk0
 replace kk1:Hid _:=kk1
 clear hm kF hMI0 hb4 k0 k1 hb2 hb3 kP hbw2 hb0 g0 g1 hb1
 refine Lib.hid ?_
 go_wp2
 go_loopw [25] (fun ix wr=>∃j:Nat,j<=L/\ix=vi (j:Nat)/\MI w3 w3.heap.size mn L u j wr/\wr.heap[w.heap.size]?=some (cbx (.slice none 0 0) (vi 0))/\wr.heap[w.heap.size+1]?=some (fbx2 (vi 0) (vi 0))) (fun ix _=>L-(intOf ix).toNat)
 case atStart=>exact⟨0,Nat.zero_le _,rfl,hMI.out,kk0.out,kk1.out⟩
 case round =>
  obtain⟨j,hj,rfl,hI,r0,r1⟩:=hrel
  clear hMI kk0 kk1
  by_cases hlt:j<L
  ·have hlt':(j:Int)<(L:Int):=by omega
   have hge:(0:Int)<=(j:Int):=by omega
   obtain⟨q,hq⟩:=hget.out j hlt
   obtain⟨fs,hfl,hM,hg⟩:=hI
   obtain⟨g,off,b',cap',rfl,hgl,hpy,hcy⟩:=PK.kid hpk1 hq
   obtain⟨v0,v1,v2,v3,v4⟩:=hcy wr (q3z hb13 hM.bl)
   obtain⟨wa,hwa⟩:=exq (wr.alloc (.cells #[vi q.k,.string q.t,vi q.n,vi q.sl,.slice b' q.kids.length cap'] 47))
   have hba:Bw wr wa:=by rw[<- hwa];exact q1z bz0 _
   have ga:wa.heap[wr.heap.size]?=some (pbx q b' cap'):=by rw[<- hwa];exact new1 _ _
   obtain⟨x0,x1,x2,x3,x4,_,_,_,_,_⟩:=in5 (W:=wa.drew) ga
   have hfn:=hfun.out j q hq b' cap' wa.drew (pk_on hpy (q3z (q3z hb13 hM.bl) hba.drew))
   have hro:=fun V5 f hz=>hrow.out w3 wr V5 w3.heap.size j q f fs hq hfl hM hg wa.drew hba.drew hz
   obtain⟨fa0,fc0,h1,_,_,_⟩:=(hM.below hba.drew).mem
   have ldT:wa.drew.cell? (Ad w3.heap.size 0)=some (.slice fa0 j fc0):=by rw[<- hfl];exact q2z h1 rfl
   have hTl:=q5z h1
   have hkeep:∀V5,Below wa.drew.heap.size wa.drew V5->V5.cell? (Ad w3.heap.size 0)=some (.slice fa0 j fc0):=fun V5 hb=>cellB hb ldT
   obtain⟨i0,hi0,hz0,hz1,hz2⟩:=info_parts d7e
   have hone:∀f:Fd,∀x∈four f,x.oneCell'=true:=fun f x hx=>by simp at hx;rcases hx with rfl|rfl|rfl|rfl <;> rfl
   have hj1:Hid (j+1<=L):=hlt
   have hn1:j+1<=maxLen:=by unfold maxLen;omega
   have hn2:(j+1)*64<=140737488355328:=by omega
   have hlo3:w3.heap.size<=wa.drew.heap.size:=(hM.below hba.drew).bl.size
   replace hro:Hid _:=hro
   replace hkeep:Hid _:=hkeep
   have hr0:Hid (∀V5,Bw wr V5->V5.heap[w.heap.size]?=some (cbx (.slice none 0 0) (vi 0))/\V5.heap[w.heap.size+1]?=some (fbx2 (vi 0) (vi 0))):=fun V5 hb=>⟨q0z hb r0,q0z hb r1⟩
   replace hba:Hid _:=hba
   clear hq hfl hM hg hcy hpy hfun hrow hget hfin r0 r1 ga h1 hgl
   go_wp2
   go_region_law (first|((try go_simp);go_at_call 9;refine hfn.mono ?_;rintro e w5 ⟨f,rfl,hz⟩;obtain⟨fa,fc,ld5,hT5,hX⟩:=hro.out _ _ hz;have hk5:=hkeep.out w5 hz.2.2.2.2;have hes:=ld5.symm.trans hk5;cases hes;have hbX:=q1z (Below.refl w5.heap.size w5) (.cells (four f).toArray 43);obtain⟨hown,hrt⟩:=hX _ hbX;have gX:=new1 w5 (.cells (four f).toArray 43);have hnews:=c5q gX;have nT:¬w5.heap.size=w3.heap.size:=(by omega);have hb5:Bw wr w5:=q3z hba.out.drew hz.2.2.2.2;have hlo5:w3.heap.size<=(w5.alloc (.cells (four f).toArray 43)).heap.size:=(by simp;omega);replace hrt:Hid _:=hrt;clear hX hz)|(refine step_append_lies _ (by rfl) _ _ _ (by rfl) w3.heap.size 43 i0 _ 4 64 Tryz.underlying22 hi0 hz0 hz1 hz2 rfl (by omega) (.slice fa0 j fc0) j _ (by rfl) hown (Ad w5.heap.size 0) 1 1 (four f) (by rfl) (by rfl) hnews (hone f) (by omega) hn1 hn2 hlo5 _ rfl ?_;intro g3 cap3 w6 hown3 hgrow hat hlt3;obtain⟨cl,fr,hMI⟩:=hrt.out w6 g3 cap3 hown3 hgrow hat))
   all_goals
    go_wp2
    go_roundw
    case rel =>
     have hrr:=hr0.out _ (q3z hb5 hbX)
     have hsm:∀k,k<w3.heap.size->(w6.setCell (Ad w3.heap.size 0) (.slice (some (Ad g3 0)) (j+1) cap3)).heap[k]?=(w5.alloc (.cells (four f).toArray 43)).heap[k]?:=fun k hk=>(q8z _ _ (by omega)).trans (hgrow.block k (by simp;omega) (fun e=>by have:=(a7d hown e.symm).1;omega))
     exact⟨j+1,hj1.out,by go_num,hMI,(hsm _ (by omega)).trans hrr.1,(hsm _ hs3).trans hrr.2⟩
    case measure =>
     have:=hj1.out
     simp[intOf];omega
  ·have hlt':¬(j:Int)<(L:Int):=by omega
   have hjL:j=L:=by omega
   subst hjL
   obtain⟨fa,fc,kT,hz⟩:=hfin.out w3 wr w3.heap.size wr hbw3 hs3 r0 r1 hI
   have e0:wr.cell? (Ad w3.heap.size 0)=some (.slice fa j fc):=q2z kT rfl
   have e1:wr.cell? (Ad w3.heap.size 1)=some (vi (mn:Nat)):=q2z kT rfl
   have u0:wr.cell? (Ad w.heap.size 0)=some (.slice none 0 0):=q2z r0 rfl
   have u1:wr.cell? (Ad w.heap.size 1)=some (vi 0):=q2z r0 rfl
   have v0:wr.cell? (Ad (w.heap.size+1) 0)=some (vi 0):=q2z r1 rfl
   have v1:wr.cell? (Ad (w.heap.size+1) 1)=some (vi 0):=q2z r1 rfl
   have f0:wr.frozen? (Ad w.heap.size 0)=false:=q6z r0
   have f1:wr.frozen? (Ad w.heap.size 1)=false:=q6z r0
   have f2:wr.frozen? (Ad (w.heap.size+1) 0)=false:=q6z r1
   have f3:wr.frozen? (Ad (w.heap.size+1) 1)=false:=q6z r1
   have x1:(put2 (put2 wr w.heap.size (.slice fa j fc) (vi (mn:Nat))) (w.heap.size+1) (vi 0) (vi 0)).heap[w.heap.size]?=some (cbx (.slice fa j fc) (vi (mn:Nat))):=(((a3h _ (w.heap.size+1) _ _).block _ (by simpa using q5z r0) (by omega))).trans (q7z _ (q7z _ r0))
   have x2:(put2 (put2 wr w.heap.size (.slice fa j fc) (vi (mn:Nat))) (w.heap.size+1) (vi 0) (vi 0)).heap[w.heap.size+1]?=some (fbx2 (vi 0) (vi 0)):=q7z _ (q7z _ (((a3h wr w.heap.size _ _).block _ (q5z r1) (by omega)).trans r1))
   obtain⟨X,hX⟩:=exq (put2 (put2 wr w.heap.size (.slice fa j fc) (vi (mn:Nat))) (w.heap.size+1) (vi 0) (vi 0))
   rw[hX]at x1 x2 hz
   replace hX:(((wr.setCell (Ad w.heap.size 0) (.slice fa j fc)).setCell (Ad w.heap.size 1) (vi (mn:Nat))).setCell (Ad (w.heap.size+1) 0) (vi 0)).setCell (Ad (w.heap.size+1) 1) (vi 0)=X:=hX
   replace hX:Hid _:=hX
   replace hz:Hid _:=hz
   clear hI r0 r1 kT hfin hrow hfun hget
   go_wp2
   rw[hX.out]
   exact bodyPost_ret (res4 rfl rfl x1 x2) rfl hz.out
end
end Go.Proofs.YtomniogfpfbolaaGreatDoor.V.C
