/- Rows in memory of their own, any number of them: what is written, what grows. -/
import Derived.Test.YthljpnmhddfblaaGreatDoorS26
namespace Go.Proofs.YthljpnmhddfblaaGreatDoor
open Go.RowKit Go
set_option maxRecDepth 100000
set_option maxHeartbeats 8000000
set_option linter.all false
section
variable [DecidableEq Vl]
theorem own_same{W W':World}{base:Nat}{T s n:Nat}{v:Value}{xs:List Value}(h:W.ownsRow base T s v n xs)(hw:∀b,v.ownBlock=some b->W'.heap[b]?=W.heap[b]?):W'.ownsRow base T s v n xs:=by
 obtain⟨h1,h2⟩:=h
 refine⟨h1,?_⟩
 rcases h2 with h2|⟨g,cap',cur,e,hbase,hg,h3⟩
 ·exact .inl h2
 ·exact .inr ⟨g,cap',cur,e,hbase,(hw g (by rw[e];rfl)).trans hg,h3⟩
theorem keeps_one(W:World)(B i:Nat)(v:Value):Keeps (fun q=>q=B) W (W.setCell ⟨B,i,none⟩ v):=(Keeps.refl _ _).set B i v (fun _=>rfl)
structure Rwo where
 v:Value
 e:Nat
 sz:Nat
 n:Nat
 xs:List Value
abbrev Rwo.at (r:Rwo) (lo:Nat) (W:World):Prop:=W.ownsRow lo r.e r.sz r.v r.n r.xs
def blks (L:List Rwo):List Nat:=L.filterMap fun r=>r.v.ownBlock
structure Rs (lo:Nat) (fx:List Nat) (L:List Rwo) (W:World):Prop where
 ok:∀r∈L,r.at lo W
 nd:(fx++blks L).Nodup
 lt:∀k∈fx++blks L,lo<=k/\k<W.heap.size
theorem blks_mem{L:List Rwo}{k:Nat} : k∈blks L↔∃r∈L,r.v.ownBlock=some k:=by simp[blks,List.mem_filterMap]
theorem blks_cons(r:Rwo)(L:List Rwo):blks (r::L)=(match r.v.ownBlock with|some k=>[k]|none=>[])++blks L:=by
 unfold blks
 rw[List.filterMap_cons]
 cases r.v.ownBlock <;> rfl
section
variable {lo:Nat} {fx:List Nat} {L L1 L2:List Rwo} {r:Rwo} {W W' w3:World}
theorem Rs.on(h:Rs lo fx L W)(hW:∀k∈blks L,W'.heap[k]?=W.heap[k]?)(hs:W.heap.size<=W'.heap.size):Rs lo fx L W' :=
 ⟨fun r hr=>own_same (h.ok r hr) fun b hb=>hW b (blks_mem.2 ⟨r,hr,hb⟩),h.nd,fun k hk=>⟨(h.lt k hk).1,Nat.lt_of_lt_of_le (h.lt k hk).2 hs⟩⟩
theorem Rs.below(h:Rs lo fx L W)(hb:Below W.heap.size W W'):Rs lo fx L W':=h.on (fun k hk=>hb.block k (h.lt k (List.mem_append_right _ hk)).2) hb.size
theorem Rs.wrote{S:Nat->Prop}(h:Rs lo fx L W)(hk:Keeps S W W')(hn:∀k∈blks L,¬S k):Rs lo fx L W':=h.on (fun k hk'=>hk.block k (h.lt k (List.mem_append_right _ hk')).2 (hn k hk')) hk.size
theorem Rs.fx_not(h:Rs lo fx L W){B:Nat}(hB:B∈fx):B∉blks L:=fun hb=>(List.nodup_append.1 h.nd).2.2 B hB B hb rfl
theorem Rs.box(h:Rs lo fx L W){B:Nat}(hB:B∈fx){i:Nat}{v:Value} : Rs lo fx L (W.setCell ⟨B,i,none⟩ v) :=
 h.wrote (keeps_one W B i v) (fun k hk e=>h.fx_not hB (e▸hk))
theorem Rs.perm{L':List Rwo}(h:Rs lo fx L W)(hp:L.Perm L'):Rs lo fx L' W :=
 have hq:(fx++blks L).Perm (fx++blks L'):=List.Perm.append_left fx (hp.filterMap (fun r:Rwo=>r.v.ownBlock))
 ⟨fun r hr=>h.ok r (hp.mem_iff.2 hr),hq.nodup_iff.1 h.nd,fun k hk=>h.lt k (hq.mem_iff.2 hk)⟩
theorem Rs.tail(h:Rs lo fx (r::L) W):Rs lo fx L W:=by
 have hsub:(fx++blks L).Sublist (fx++blks (r::L)):=List.Sublist.append_left (by rw[blks_cons];exact List.sublist_append_right _ _) fx
 exact⟨fun x hx=>h.ok x (List.mem_cons_of_mem _ hx),h.nd.sublist hsub,fun k hk=>h.lt k (hsub.subset hk)⟩
theorem Rs.nofx(h:Rs lo fx L W):Rs lo [] L W:=⟨h.ok,(List.nodup_append.1 h.nd).2.1,fun k hk=>h.lt k (List.mem_append_right _ hk)⟩
theorem Rs.mono{lo':Nat}(h:Rs lo fx L W)(hl:lo'<=lo):Rs lo' fx L W:=by
 refine⟨fun r hr=>?_,h.nd,fun k hk=>⟨Nat.le_trans hl (h.lt k hk).1,(h.lt k hk).2⟩⟩
 obtain⟨a,b⟩:=h.ok r hr
 refine⟨a,?_⟩
 rcases b with b|⟨g,cap,cur,e,hb,hr⟩
 ·exact .inl b
 ·exact .inr ⟨g,cap,cur,e,Nat.le_trans hl hb,hr⟩
theorem Rs.grow(h:Rs lo fx (r::L) W){g cap n':Nat}{xs':List Value}(hown:w3.ownsRow lo r.e r.sz (.slice (some ⟨g,0,none⟩) n' cap) n' xs')(hg:W.grownBy w3 r.v.ownBlock)(hat:r.v.ownBlock=some g\/g=W.heap.size) :
  Rs lo fx (⟨.slice (some ⟨g,0,none⟩) n' cap,r.e,r.sz,n',xs'⟩::L) w3/\(∀k∈fx++blks L,w3.heap[k]?=W.heap[k]?/\k≠g):=by
 have hnd:=h.nd
 rw[blks_cons]at hnd
 have hlt:=h.lt
 rw[blks_cons]at hlt
 have hne:∀k∈fx++blks L,r.v.ownBlock≠some k:=fun k hk e=>by
  rw[e]at hnd
  rcases List.mem_append.1 hk with hk|hk
  ·exact(List.nodup_append.1 hnd).2.2 k hk k (by simp) rfl
  ·have:=(List.nodup_append.1 hnd).2.1
   simp at this
   exact this.1 hk
 have hlt':∀k∈fx++blks L,lo<=k/\k<W.heap.size:=fun k hk=>hlt k (by
  rcases List.mem_append.1 hk with hk|hk
  ·exact List.mem_append_left _ hk
  ·exact List.mem_append_right _ (List.mem_append_right _ hk))
 have hoth:∀k∈fx++blks L,w3.heap[k]?=W.heap[k]?/\k≠g:=fun k hk=>by
  refine⟨hg.block k (hlt' k hk).2 (fun e=>hne k hk e.symm),fun e=>?_⟩
  rcases hat with e2|e2
  ·exact hne k hk (e▸e2)
  ·have:=(hlt' k hk).2;omega
 have hgl:lo<=g/\g<w3.heap.size:=hown.lt g rfl
 have hT:=h.tail.on (W':=w3) (fun k hk=>(hoth k (List.mem_append_right _ hk)).1) hg.size
 refine⟨⟨fun x hx=>?_,?_,fun k hk=>?_⟩,hoth⟩
 ·rcases List.mem_cons.1 hx with rfl|hx
  ·exact hown
  ·exact hT.ok x hx
 ·rw[blks_cons]
  show(fx++([g]++blks L)).Nodup
  have h1:=h.tail.nd
  rw[List.nodup_append]at h1⊢
  refine⟨h1.1,?_,fun a ha b hb=>?_⟩
  ·simp only[List.singleton_append,List.nodup_cons]
   exact⟨fun hb=>(hoth g (List.mem_append_right _ hb)).2 rfl,h1.2.1⟩
  ·rcases List.mem_append.1 hb with hb|hb
   ·simp at hb
    subst hb
    exact(hoth a (List.mem_append_left _ ha)).2
   ·exact h1.2.2 a ha b hb
 ·rw[blks_cons]at hk
  rcases List.mem_append.1 hk with hk|hk
  ·exact hT.lt k (List.mem_append_left _ hk)
  ·rcases List.mem_append.1 hk with hk|hk
   ·simp only[Value.ownBlock,List.mem_singleton]at hk
    subst hk
    exact hgl
   ·exact hT.lt k (List.mem_append_right _ hk)
theorem Rs.add(h:Rs lo fx L W)(hb:Below W.heap.size W W'){g:Nat}(hr:r.at lo W')(hv:r.v.ownBlock=some g)(hg:W.heap.size<=g):Rs lo fx (r::L) W':=by
 have h1:=h.below hb
 refine⟨fun x hx=>?_,?_,fun k hk=>?_⟩
 ·rcases List.mem_cons.1 hx with rfl|hx
  ·exact hr
  ·exact h1.ok x hx
 ·rw[blks_cons,hv]
  have h2:=h.nd
  rw[List.nodup_append]at h2⊢
  refine⟨h2.1,?_,fun a ha b hb=>?_⟩
  ·simp only[List.singleton_append,List.nodup_cons]
   exact⟨fun hb=>by have:=(h.lt g (List.mem_append_right _ hb)).2;omega,h2.2.1⟩
  ·rcases List.mem_append.1 hb with hb|hb
   ·simp at hb
    subst hb
    exact fun e=>by have:=(h.lt a (List.mem_append_left _ ha)).2;omega
   ·exact h2.2.2 a ha b hb
 ·rw[blks_cons,hv]at hk
  rcases List.mem_append.1 hk with hk|hk
  ·exact h1.lt k (List.mem_append_left _ hk)
  ·rcases List.mem_append.1 hk with hk|hk
   ·simp only[List.mem_singleton]at hk
    subst hk
    have:r.at lo W':=hr
    exact this.lt k hv
   ·exact h1.lt k (List.mem_append_right _ hk)
structure Rd (r:Rwo) (W:World) (g cap:Nat):Prop where
 v:r.v=.slice (some ⟨g,0,none⟩) r.n cap
 c:∀j x,r.xs[j]?=some x->W.cell? ⟨g,j,none⟩=some x
 z:∀j,W.frozen? ⟨g,j,none⟩=false
 le:r.n<=cap/\cap<=maxLen
 lt:g<W.heap.size
theorem Rwo.rd{lo:Nat}(h:r.at lo W)(hn:r.n≠0):∃g cap,Rd r W g cap:=by
 obtain⟨h1,h2⟩:=h
 rcases h2 with⟨_,e⟩|⟨g,cap,cur,e,hb,hg,h3,h4,h5,h6⟩
 ·exact absurd e hn
 ·refine⟨g,cap,e,fun j x hj=>?_,fun j=>frozen_block hg,⟨h3,h4⟩,block_lt hg⟩
  have hlt:=(List.getElem?_eq_some_iff.1 hj).1
  rw[<- h6,List.getElem?_take_of_lt (by omega)]at hj
  exact cell_block hg (by simpa using hj)
theorem Rwo.len{lo:Nat}(h:r.at lo W):r.xs.length=r.n*r.sz/\r.n<=maxLen/\∃a c,r.v=.slice a r.n c:=by
 obtain⟨h1,h2⟩:=h
 rcases h2 with⟨e1,e⟩|⟨g,cap,cur,e,hb,hg,h3,h4,h5,h6⟩
 ·exact⟨h1,by rw[e];unfold maxLen;omega,none,0,by rw[e1,e]⟩
 ·exact⟨h1,by omega,_,_,e⟩
theorem Rs.set(h:Rs lo fx (r::L) W){g cap:Nat}(hv:r.v=.slice (some ⟨g,0,none⟩) r.n cap)(j:Nat)(x:Value):Rs lo fx (⟨r.v,r.e,r.sz,r.n,r.xs.set j x⟩::L) (W.setCell ⟨g,j,none⟩ x):=by
 have hb:r.v.ownBlock=some g:=by rw[hv];rfl
 have hnd:=h.nd
 rw[blks_cons,hb]at hnd
 have hk:=keeps_one W g j x
 have hT:=h.tail.wrote hk (fun k hk e=>by
  have e':k=g:=e
  rw[e']at hk
  have:=(List.nodup_append.1 hnd).2.1
  simp at this
  exact this.1 hk)
 have hsz:(W.setCell ⟨g,j,none⟩ x).heap.size=W.heap.size:=by simp
 refine⟨fun y hy=>?_,by have:=h.nd;rw[blks_cons]at this⊢;exact this,fun k hk'=>?_⟩
 ·rcases List.mem_cons.1 hy with rfl|hy
  ·obtain⟨h1,h2⟩:=h.ok r (by simp)
   refine⟨by simpa using h1,?_⟩
   rcases h2 with⟨e,_⟩|⟨g',cap',cur,e,hb',hg,h3,h4,h5,h6⟩
   ·rw[hv]at e;cases e
   ·rw[hv]at e
    cases e
    exact .inr ⟨g,cap,_,hv,hb',set_block x hg,h3,h4,by simpa using h5,by rw[Array.toList_setIfInBounds,List.take_set,h6]⟩
  ·exact hT.ok y hy
 ·rw[hsz]
  exact h.lt k (by rw[blks_cons]at hk'⊢;exact hk')
end
structure Ti where
 op:Int
 x:Int
 y:Int
 z:Int
 v:Vl
 sn:Int
structure Sn where
 pc:Int
 st:Int
 rg:List Int
structure Tr where
 fn:Int
 hd:Int
 ins:List Ti
 sns:List Sn
abbrev tic (i:Ti):List Value:=[.int .i64 i.op,.int .i64 i.x,.int .i64 i.y,.int .i64 i.z,.int .i64 i.v.k,.int .i64 i.v.n,.string i.v.s,.int .i64 i.sn]
abbrev Ti.val (i:Ti):Value:=.agg #[.int .i64 i.op,.int .i64 i.x,.int .i64 i.y,.int .i64 i.z,.int .i64 i.v.k,.int .i64 i.v.n,.string i.v.s,.int .i64 i.sn]
abbrev Ti.box (i:Ti):Obj:=.cells #[.int .i64 i.op,.int .i64 i.x,.int .i64 i.y,.int .i64 i.z,.int .i64 i.v.k,.int .i64 i.v.n,.string i.v.s,.int .i64 i.sn] 121
abbrev ints (l:List Int):List Value:=l.map (Value.int .i64)
def insc (l:List Ti):List Value:=l.flatMap tic
def snc:List Sn->List Value->List Value
 | s::l,v::vs=>.int .i64 s.pc :: .int .i64 s.st::v::snc l vs
 | _,_=>[]
abbrev rgrow (s:Sn) (v:Value):Rwo:=⟨v,3,1,s.rg.length,ints s.rg⟩
def rgr:List Sn->List Value->List Rwo
 | s::l,v::vs=>rgrow s v::rgr l vs
 | _,_=>[]
abbrev insR (l:List Ti) (iv:Value):Rwo:=⟨iv,121,8,l.length,insc l⟩
abbrev snsR (l:List Sn) (sv:Value) (vs:List Value):Rwo:=⟨sv,98,3,l.length,snc l vs⟩
def trR (t:Tr) (iv sv:Value) (vs:List Value):List Rwo:=insR t.ins iv::snsR t.sns sv vs::rgr t.sns vs
abbrev trv (t:Tr) (iv sv:Value):Value:=.agg #[.int .i64 t.fn,.int .i64 t.hd,iv,sv]
abbrev trb (t:Tr) (iv sv:Value):Obj:=.cells #[.int .i64 t.fn,.int .i64 t.hd,iv,sv] 102
structure TrV (lo:Nat) (t:Tr) (iv sv:Value) (vs:List Value) (W:World):Prop where
 ln:vs.length=t.sns.length
 rs:Rs lo [] (trR t iv sv vs) W
theorem insc_cons(x:Ti)(l:List Ti):insc (x::l)=.int .i64 x.op :: .int .i64 x.x :: .int .i64 x.y :: .int .i64 x.z :: .int .i64 x.v.k :: .int .i64 x.v.n :: .string x.v.s :: .int .i64 x.sn::insc l:=rfl
structure TiAt (W:World) (g o:Nat) (i:Ti):Prop where
 c0:W.cell? ⟨g,o,none⟩=some (.int .i64 i.op)
 c1:W.cell? ⟨g,o+1,none⟩=some (.int .i64 i.x)
 c2:W.cell? ⟨g,o+2,none⟩=some (.int .i64 i.y)
 c3:W.cell? ⟨g,o+3,none⟩=some (.int .i64 i.z)
 c4:W.cell? ⟨g,o+4,none⟩=some (.int .i64 i.v.k)
 c5:W.cell? ⟨g,o+5,none⟩=some (.int .i64 i.v.n)
 c6:W.cell? ⟨g,o+6,none⟩=some (.string i.v.s)
 c7:W.cell? ⟨g,o+7,none⟩=some (.int .i64 i.sn)
theorem insc_get{q:Ti} : ∀(l:List Ti) (i:Nat),l[i]?=some q->∀j,j<8->(insc l)[i*8+j]?=(tic q)[j]?
 | [],i,h,_,_=>by simp at h
 | x::l,0,h,j,hj=>by
  simp at h;subst h
  rw[insc_cons]
  have:j=0\/j=1\/j=2\/j=3\/j=4\/j=5\/j=6\/j=7:=by omega
  rcases this with rfl|rfl|rfl|rfl|rfl|rfl|rfl|rfl <;> rfl
 | x::l,i+1,h,j,hj=>by
  have:=insc_get l i (by simpa using h) j hj
  rw[insc_cons,show(i+1)*8+j=(i*8+j)+1+1+1+1+1+1+1+1 by omega]
  exact this
theorem tiAt_of{W:World}{l:List Ti}{iv:Value}{g cap:Nat}(h:Rd (insR l iv) W g cap){i:Nat}{q:Ti}(hq:l[i]?=some q):TiAt W g (i*8) q :=
 have f:=fun j (hj:j<8) x (hx:(tic q)[j]?=some x)=>h.c (i*8+j) x ((insc_get l i hq j hj).trans hx)
 ⟨f 0 (by omega) _ rfl,f 1 (by omega) _ rfl,f 2 (by omega) _ rfl,f 3 (by omega) _ rfl,f 4 (by omega) _ rfl,f 5 (by omega) _ rfl,f 6 (by omega) _ rfl,f 7 (by omega) _ rfl⟩
theorem snc_len:∀(l:List Sn) (vs:List Value),vs.length=l.length->(snc l vs).length=l.length*3
 | [],[],_=>rfl
 | s::l,v::vs,h=>by
  have:=snc_len l vs (by simpa using h)
  simp only[snc,List.length_cons,this];omega
 | [],v::vs,h=>by simp at h
 | s::l,[],h=>by simp at h
theorem snc_snoc(s:Sn)(v:Value):∀(l:List Sn) (vs:List Value),vs.length=l.length->snc (l++[s]) (vs++[v])=snc l vs++[.int .i64 s.pc,.int .i64 s.st,v]
 | [],[],_=>rfl
 | x::l,u::vs,h=>by
  have:=snc_snoc s v l vs (by simpa using h)
  simp only[List.cons_append,snc,this]
 | [],v::vs,h=>by simp at h
 | s::l,[],h=>by simp at h
theorem rgr_snoc(s:Sn)(v:Value):∀(l:List Sn) (vs:List Value),vs.length=l.length->rgr (l++[s]) (vs++[v])=rgr l vs++[rgrow s v]
 | [],[],_=>rfl
 | x::l,u::vs,h=>by
  have:=rgr_snoc s v l vs (by simpa using h)
  simp only[List.cons_append,rgr,this]
 | [],v::vs,h=>by simp at h
 | s::l,[],h=>by simp at h
theorem snc_get{s:Sn}{v:Value} : ∀(l:List Sn) (vs:List Value) (i:Nat),l[i]?=some s->vs[i]?=some v->(snc l vs)[i*3]?=some (.int .i64 s.pc)/\(snc l vs)[i*3+1]?=some (.int .i64 s.st)/\(snc l vs)[i*3+2]?=some v/\rgrow s v∈rgr l vs
 | [],vs,i,h,_=>by simp at h
 | x::l,[],i,_,h=>by simp at h
 | x::l,u::vs,0,h1,h2=>by
  simp at h1 h2;subst h1 h2
  exact⟨rfl,rfl,rfl,by simp[rgr]⟩
 | x::l,u::vs,i+1,h1,h2=>by
  obtain⟨a,b,c,d⟩:=snc_get l vs i (by simpa using h1) (by simpa using h2)
  simp only[snc,rgr]
  rw[show(i+1)*3=i*3+1+1+1 by omega]
  exact⟨a,b,c,List.mem_cons_of_mem _ d⟩
structure SnAt (W:World) (g o:Nat) (s:Sn) (v:Value):Prop where
 c0:W.cell? ⟨g,o,none⟩=some (.int .i64 s.pc)
 c1:W.cell? ⟨g,o+1,none⟩=some (.int .i64 s.st)
 c2:W.cell? ⟨g,o+2,none⟩=some v
theorem snAt_of{W:World}{l:List Sn}{sv:Value}{vs:List Value}{g cap:Nat}(h:Rd (snsR l sv vs) W g cap){i:Nat}{s:Sn}{v:Value}(hs:l[i]?=some s)(hv:vs[i]?=some v):SnAt W g (i*3) s v:=by
 obtain⟨a,b,c,_⟩:=snc_get l vs i hs hv
 exact⟨h.c _ _ a,h.c _ _ b,h.c _ _ c⟩
section
variable {lo:Nat} {t:Tr} {iv sv:Value} {vs:List Value} {W W':World}
theorem TrV.on(h:TrV lo t iv sv vs W)(hW:∀k∈blks (trR t iv sv vs),W'.heap[k]?=W.heap[k]?)(hs:W.heap.size<=W'.heap.size):TrV lo t iv sv vs W':=⟨h.ln,h.rs.on hW hs⟩
theorem TrV.below(h:TrV lo t iv sv vs W)(hb:Below W.heap.size W W'):TrV lo t iv sv vs W':=⟨h.ln,h.rs.below hb⟩
theorem TrV.wrote{S:Nat->Prop}(h:TrV lo t iv sv vs W)(hk:Keeps S W W')(hn:∀k∈blks (trR t iv sv vs),¬S k):TrV lo t iv sv vs W':=⟨h.ln,h.rs.wrote hk hn⟩
theorem TrV.lt(h:TrV lo t iv sv vs W):∀k∈blks (trR t iv sv vs),lo<=k/\k<W.heap.size:=fun k hk=>h.rs.lt k (by simpa using hk)
theorem TrV.ins(h:TrV lo t iv sv vs W)(hn:t.ins≠[]):∃g cap,Rd (insR t.ins iv) W g cap:=Rwo.rd (h.rs.ok _ (by simp[trR])) (by simpa using hn)
theorem TrV.sns(h:TrV lo t iv sv vs W)(hn:t.sns≠[]):∃g cap,Rd (snsR t.sns sv vs) W g cap:=Rwo.rd (h.rs.ok _ (by simp[trR])) (by simpa using hn)
theorem TrV.reg(h:TrV lo t iv sv vs W){i:Nat}{s:Sn}(hs:t.sns[i]?=some s)(hn:s.rg≠[]):∃v g cap,vs[i]?=some v/\Rd (rgrow s v) W g cap:=by
 have hl:=(List.getElem?_eq_some_iff.1 hs).1
 obtain⟨v,hv⟩:∃v,vs[i]?=some v:=⟨vs[i]'(by rw[h.ln];exact hl),List.getElem?_eq_getElem _⟩
 obtain⟨_,_,_,d⟩:=snc_get _ _ _ hs hv
 obtain⟨g,cap,hr⟩:=Rwo.rd (r:=rgrow s v) (h.rs.ok _ (by simp[trR,d])) (by simpa using hn)
 exact⟨v,g,cap,hv,hr⟩
end
end
end Go.Proofs.YthljpnmhddfblaaGreatDoor
