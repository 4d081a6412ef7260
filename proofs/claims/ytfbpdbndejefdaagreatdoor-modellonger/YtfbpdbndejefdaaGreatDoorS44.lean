/- A run of the model: what its methods leave. -/
import Derived.Test.YtfbpdbndejefdaaGreatDoorS36
import Derived.Test.YtfbpdbndejefdaaGreatDoorS43
namespace Go.Proofs.YtfbpdbndejefdaaGreatDoor.V
open Go.RowKit Go
set_option maxRecDepth 100000
set_option maxHeartbeats 8000000
set_option linter.all false
variable {r':Rn Tb} {v:Vl} {xs:List Vl} {w:World} {γ:Type} {y0 y1:Pt}
section
variable [DecidableEq Vl]
abbrev tt:Nat->Prop:=fun _=>True
abbrev ff:Nat->Prop:=fun _=>False
abbrev endV (c a:Int):Value:=.iface 50 (.agg #[vi c,vi a])
abbrev retV (v:Vl):Value:=.iface 64 v.v
abbrev pR (e:En):Value:=Po e.R 0
abbrev pC (C:Nat):Value:=Po C 0
abbrev nf (e:En):Nat:=e.u.kids.length
def ZX (F:Int->Vl->Vl->Vl×Int) (e:En) (tag:Nat) (p:Pt) (i j:Int) (l:List Vl) (r:Rn Tb):Res Vl Tb Vl:=X (Oz F) e.u.kids e.lim (2*e.lim+3) tag p i j l r
theorem a3r(F:Int->Vl->Vl->Vl×Int)(e:En)(tag:Nat)(p:Pt)(i j:Int)(l:List Vl)(r:Rn Tb)(h:r.st<=e.lim):ZX F e tag p i j l r=Y (Oz F) e.u.kids e.lim (fun q=>ZX F e 0 q 0 0) (fun q=>ZX F e 1 q 0 0) (fun q=>ZX F e 2 q 0 0) (fun q=>ZX F e 3 q) tag p i j l r :=
 (b3d (2*e.lim+3) tag p i j l r h (by split <;> omega)).trans rfl
structure Pg (e:En):Prop where
 pk:PK tt e.w1 e.u.kids e.b e.cap
 wu:WU e.u
 pt:PTab e.w1
abbrev lcb (e:En) (l:List Vl):Obj:=.cells (pR e::flat l).toArray 68
structure St (e:En) (D:Nat->Prop) (C:Nat) (l:List Vl) (r:Rn Tb) (W:World):Prop where
 rq:Rq e D r W
 lc:W.heap[C]?=some (lcb e l)
 l30:l.length=30
 vg:∀v∈l,VG r.tb.length (nf e) v
 nC:¬D C
 lo:e.w1.heap.size<=C
def Ch (v:Value) (pv:List PanicEntry):Prop:=∃older,pv={ v:=v,recovered:=false } :: older/\∀x∈older,x.goexit=false
theorem d0d(v:Value):Ch v (pan v):=⟨[],rfl,by simp⟩
def Bd {α:Type} (X:Nat->Prop) (e:En) (D:Nat->Prop) (W:World) (x:Res Vl Tb α) (pv:List PanicEntry) (W':World):Prop :=
 ∃D',CK X D W D' W'/\((∃c a r' z,x=Res.stop c a r'/\Ch (endV c a) pv/\W'.cell? (Ad e.R 11)=some (vi z)/\Rq e D' { r' with calls:=0 } (W'.setCell (Ad e.R 11) (vi ((0:Nat):Int))))\/(∃v r',x=Res.ret v r'/\Ch (retV v) pv/\Rq e D' r' W'/\VG r'.tb.length (nf e) v))
def XQ {α:Type} (gq:World->(Nat->Prop)->Nat->α->Value->Prop) (e:En) (D:Nat->Prop) (C:Nat) (W:World) (nt:Nat) (x:Res Vl Tb α) (en:Ending) (W':World):Prop :=
 (∃pv,en=.panicked pv/\Bd (fun q=>q=C) e D W x pv W') \/
 (∃a l' r' D' vv,x=Res.ok a l' r'/\en=.returned vv/\St e D' C l' r' W'/\CK (fun q=>q=C) D W D' W'/\nt<=r'.tb.length/\gq W' D' r'.tb.length a vv)
def RQ {α:Type} (gq:World->(Nat->Prop)->Nat->α->Value->Prop) (e:En) (D:Nat->Prop) (W:World) (nt:Nat) (x:Res Vl Tb α) (en:Ending) (W':World):Prop :=
 (∃pv,en=.panicked pv/\Bd ff e D W x pv W') \/
 (∃a l' r' D' vv,x=Res.ok a l' r'/\en=.returned vv/\Rq e D' r' W'/\CK ff D W D' W'/\nt<=r'.tb.length/\gq W' D' r'.tb.length a vv)
def gV (e:En) (_:World) (_:Nat->Prop) (nt:Nat) (a:Vl) (vv:Value):Prop:=vv=a.v/\VG nt (nf e) a
def g0 {α:Type} (_:World) (_:Nat->Prop) (_:Nat) (_:α) (vv:Value):Prop:=vv=.tuple #[]
def g2 (e:En) (_:World) (_:Nat->Prop) (nt:Nat) (a:Vl×Vl) (vv:Value):Prop:=vv=.tuple #[a.1.v,a.2.v]/\VG nt (nf e) a.1/\VG nt (nf e) a.2
def gB (_:World) (_:Nat->Prop) (_:Nat) (a:Bool) (vv:Value):Prop:=vv=.bool a
section
variable {α β:Type} {X:Nat->Prop} {e:En} {D D1:Nat->Prop} {C:Nat} {l:List Vl} {r:Rn Tb} {W W1 W':World} {x:Res Vl Tb α} {pv:List PanicEntry} {gq:World->(Nat->Prop)->Nat->α->Value->Prop} {nt:Nat} {en:Ending}
theorem Bd.bind(h:Bd X e D W x pv W')(f:α->List Vl->Rn Tb->Res Vl Tb β):Bd X e D W (x.bind f) pv W':=by
 obtain⟨D',hk,h⟩:=h
 refine⟨D',hk,?_⟩
 rcases h with⟨c,a,z,k,rfl,h⟩|⟨v,z,rfl,h⟩
 ·exact .inl ⟨c,a,z,k,rfl,h⟩
 ·exact .inr ⟨v,z,rfl,h⟩
theorem Bd.pre(hk:CK X D W D1 W1)(h:Bd X e D1 W1 x pv W'):Bd X e D W x pv W':=by
 obtain⟨D',z,h⟩:=h
 exact⟨D',hk.trans z,h⟩
theorem Bd.eq{y:Res Vl Tb α}(h:Bd X e D W x pv W')(e1:y=x):Bd X e D W y pv W':=by rw[e1];exact h
theorem Bd.mono{X':Nat->Prop}(h:Bd X e D W x pv W')(hx:∀k,k<W.heap.size->X k->X' k):Bd X' e D W x pv W':=by
 obtain⟨D',z,h⟩:=h
 exact⟨D',z.mono hx,h⟩
theorem Bd.stop{c a:Int}(hr:Rq e D1 r W')(hk:CK X D W D1 W'):Bd X e D W (Res.stop c a r:Res Vl Tb α) (pan (endV c a)) W':=by
 obtain⟨s,u,v,y,z⟩:=hr.cells
 exact⟨D1,hk,.inl ⟨c,a,r,_,rfl,d0d _,cell_block z rfl,hr.setCalls 0 (by omega)⟩⟩
theorem CK.ff{D2:Nat->Prop}(h:CK ff D W D2 W'):CK X D W D2 W':=h.mono fun _ _ h=>h.elim
theorem St.on(h:St e D C l r W)(hb:Bw W W'):St e D C l r W':=⟨h.rq.below hb,block_below hb h.lc,h.l30,h.vg,h.nC,h.lo⟩
theorem St.re(h:St e D C l r W)(hk:CK Go.Proofs.YtfbpdbndejefdaaGreatDoor.V.ff D W D1 W')(hr:Rq e D1 r' W')(hn:r.tb.length<=r'.tb.length):St e D1 C l r' W':=by
 obtain⟨g,n⟩:=hk.box h.lc h.nC id
 exact⟨hr,g,h.l30,fun v hv=>(h.vg v hv).mono hn,n,h.lo⟩
theorem St.wrote(h:St e D C l r W){t:Nat}(hk:a0b (fun q=>q=t) W W')(hn:¬D t)(ht:e.w1.heap.size<=t)(hC:t≠C):St e D C l r W' :=
 ⟨h.rq.wrote hk hn ht,(hk.block C (block_lt h.lc) (fun e=>hC e.symm)).trans h.lc,h.l30,h.vg,h.nC,h.lo⟩
theorem St.size(h:St e D C l r W):e.w1.heap.size<=W.heap.size:=h.rq.bl.size
theorem St.lt(h:St e D C l r W):C<W.heap.size:=block_lt h.lc
theorem St.new(h:St e D C l r W){t:Nat}(ht:W.heap.size<=t):¬D t/\t≠C:=⟨fun hd=>by have:=(h.rq.lo t hd).2;omega,fun z=>by have:=h.lt;omega⟩
theorem St.ptr(h:St e D C l r W):W.cell? (Ad C 0)=some (pR e):=cell_block h.lc rfl
theorem c8c(xs:List Vl)(i:Nat)(v:Vl):flat (xs.set i v)=(((flat xs).set (i*3) (vi v.k)).set (i*3+1) (vi v.n)).set (i*3+2) (.string v.s):=by
 induction xs generalizing i with
 | nil=>simp[flat]
 | cons x xs ih =>
  have e:∀(y:Vl) (z:List Vl),flat (y::z)=vi y.k::vi y.n :: .string y.s::flat z:=fun y z=>by simp[flat]
  cases i with
  | zero=>simp[e]
  | succ i =>
   rw[List.set_cons_succ,e,ih,e,show(i+1)*3=i*3+1+1+1 by omega]
   simp only[List.set_cons_succ]
abbrev putL (W:World) (C i:Nat) (v:Vl):World:=((W.setCell (Ad C (1+i*3)) (vi v.k)).setCell (Ad C (1+i*3+1)) (vi v.n)).setCell (Ad C (1+i*3+2)) (.string v.s)
theorem b1n(W:World)(C i:Nat)(v:Vl):a0b (fun q=>q=C) W (putL W C i v):=((a1e _ _ _ _).trans (a1e _ _ _ _)).trans (a1e _ _ _ _)
theorem St.put(h:St e D C l r W)(i:Nat)(hv:VG r.tb.length (nf e) v):St e D C (l.set i v) r (putL W C i v):=by
 refine⟨h.rq.wrote (b1n _ _ _ _) h.nC h.lo,?_,by simpa using h.l30,fun y z=>?_,h.nC,h.lo⟩
 ·refine(set_block _ (set_block _ (set_block _ h.lc))).trans ?_
  rw[lcb,c8c]
  simp only[List.setIfInBounds_toArray]
  rw[show 1+i*3=i*3+1 by omega,show i*3+1+1=(i*3+1)+1 by omega,show i*3+1+2=(i*3+2)+1 by omega]
  simp only[List.set_cons_succ]
 ·rcases List.mem_or_eq_of_mem_set z with z|rfl
  ·exact h.vg y z
  ·exact hv
theorem CK.local{D2:Nat->Prop}(h:CK (fun q=>q=C) D W D2 W1){i:Nat} : CK (fun q=>q=C) D W D2 (putL W1 C i v):=h.wrote (b1n _ _ _ _) (.inr rfl)
theorem c4h{i:Nat}(h:xs[i]?=some v):(flat xs)[i*3]?=some (vi v.k)/\(flat xs)[i*3+1]?=some (vi v.n)/\(flat xs)[i*3+2]?=some (.string v.s):=by
 have h0:=a9f h 0 (by omega)
 exact⟨h0,a9f h 1 (by omega),a9f h 2 (by omega)⟩
theorem St.get(h:St e D C l r W){i:Nat}(hv:l[i]?=some v):W.cell? (Ad C (1+i*3))=some (vi v.k)/\W.cell? (Ad C (1+i*3+1))=some (vi v.n)/\W.cell? (Ad C (1+i*3+2))=some (.string v.s):=by
 obtain⟨h0,h1,h2⟩:=c4h hv
 rw[show 1+i*3=i*3+1 by omega]
 exact⟨cell_block h.lc (by simpa using h0),cell_block h.lc (by simpa using h1),cell_block h.lc (by simpa using h2)⟩
theorem St.froz(h:St e D C l r W)(i:Nat):W.frozen? (Ad C i)=false:=frozen_block h.lc
end
def nx:Nat->List Bool->Nat
 | _,[]=>0
 | k,true::l=>nx k l+1
 | 0,false::_=>0
 | k+1,false::l=>nx k l+1
theorem tkH{P:Program}{md:Region.Mode}{ops:Array Oper}{Q:Exit->Act->World->Prop}{S:World->Prop}{oi:Oper}{fuel:Nat}{listed:Array Bool}{a:Act}(k:Nat)(hi:ops[nx k listed.toList]?=some oi)(hb:(Region.noSelect ops&&(Region.free md ops listed (nx k listed.toList)&&(Region.ready md ops listed).contains (nx k listed.toList)))=true)(hw:Region.wanted oi (yielded ops a.tmps)=true)(hS:S w)(hh:∃v,(∀w,S w->(execOp a.eval oi).run P w=.ok (.value v) w)/\(∀c a w,Q (.panic c) (a.put oi.dst v) w->Q (.panic c) a w)/\wpAnyH P md ops Q S fuel (listed.setIfInBounds (nx k listed.toList) true) (a.put oi.dst v) w):wpAnyH P md ops Q S (fuel+1) listed a w:=by
 simp only[Bool.and_eq_true]at hb
 obtain⟨v,z,y,h⟩:=hh
 exact wpAnyH_take hi hb.1 hb.2.1 hb.2.2 y (Or.inl ⟨hw,z⟩) hS h
theorem gq1{α:Type}{l:List α}{i:Nat} : l.toArray[i]?=l[i]?:=List.getElem?_toArray
theorem gq2{α:Type}{a:α}{l:List α}{i:Nat} : (a::l)[i+1]?=l[i]?:=List.getElem?_cons_succ
theorem gq3{α:Type}{a:α}{l:List α} : (a::l)[0]?=some a:=List.getElem?_cons_zero
theorem sq1{α:Type}(l:List α)(i:Nat)(x:α):l.toArray.setIfInBounds i x=(l.set i x).toArray:=List.setIfInBounds_toArray ..
theorem sq2{α:Type}{a b:α}{l:List α} : (a::l).set 0 b=b::l:=rfl
theorem sq3{α:Type}{a b:α}{l:List α}{n:Nat} : (a::l).set (n+1) b=a::l.set n b:=rfl
theorem d3r(pt:Value)(W:World):Cl 32 #[pt,vi 0] W fun e W'=>e=.returned (.tuple #[])/\W'=W:=by
 go_enter Tryz.func32,Tryz.ntmps32
 go_wp2
 go_end0
 exact⟨rfl,rfl⟩
theorem c4i(pt:Value)(c:Int)(W:World)(h:(c != 0)=true):Cl 32 #[pt,vi c] W fun e W'=>e=.panicked (pan (endV 2 c))/\W'=W:=by
 go_enter Tryz.func32,Tryz.ntmps32
 go_wp2
 exact⟨rfl,rfl,rfl⟩
theorem a4t(pt:Value)(c:Int)(W:World):Cl 17 #[pt,.bool false,vi c] W fun e W'=>e=.returned (.tuple #[])/\W'=W:=by
 go_enter Tryz.func17,Tryz.ntmps17
 go_wp2
 go_end0
 exact⟨rfl,rfl⟩
theorem refuse_no(pt:Value)(c:Int)(W:World)(h:(c != 0)=true):Cl 17 #[pt,.bool true,vi c] W fun e W'=>e=.panicked (pan (endV 2 c))/\W'=W:=by
 have hn:=c4i pt c
 go_enter Tryz.func17,Tryz.ntmps17
 go_wp2_with (go_at_call 32;refine(hn _ h).mono ?_;rintro e z ⟨rfl,rfl⟩)
 exact⟨rfl,rfl,rfl⟩
theorem b3b(pt:Value)(c:Int)(W:World):Cl 32 #[pt,vi c] W fun e W'=>((c≠0/\e=.panicked (pan (endV 2 c)))\/(c=0/\e=.returned (.tuple #[])))/\W'=W:=by
 by_cases h:c=0
 ·subst h
  exact(d3r pt W).mono fun e W' ⟨a,b⟩=>⟨.inr ⟨rfl,a⟩,b⟩
 ·exact(c4i pt c W (by simpa using h)).mono fun e W' ⟨a,b⟩=>⟨.inl ⟨h,a⟩,b⟩
theorem new1(W:World)(o:Obj):(W.alloc o).heap[W.heap.size]?=some o:=World.alloc_heap_new W o
theorem new2(W:World)(a b:Obj):((W.alloc a).alloc b).heap[W.heap.size+1]?=some b:=by
 have:=new1 (W.alloc a) b
 simpa using this
theorem new3(W:World)(a b c:Obj):(((W.alloc a).alloc b).alloc c).heap[W.heap.size+1+1]?=some c:=by
 have:=new1 ((W.alloc a).alloc b) c
 simpa using this
theorem b7y(b:Bool)(w:World):Cl 73 #[.bool b] w fun e z=>e=.returned (booV b).v/\Bw w z :=
 (a1c b w).mono fun e z ⟨a,b⟩=>⟨a,by rw[b];exact ext_alloc (Below.refl _ _) _⟩
theorem b6g(i:Int)(hi:(Lit.int .i64 i).wf=true)(w:World):Cl 72 #[vi i] w fun e z=>e=.returned (intV i).v/\Bw w z :=
 (a8h i w).mono fun e z ⟨a,b⟩=>⟨by rw[a];simp[intV,hi],by rw[b];exact ext_alloc (Below.refl _ _) _⟩
theorem a8q(i:Int)(h0:0<=i)(h1:i<=1000)(w:World):Cl 12 #[vi i] w fun e z=>e=.returned (fnV i).v/\Bw w z:=by
 have E0:=ext_alloc (Below.refl w.heap.size w) (box 5 i E0)
 have hv:fnV i=⟨5,i,Go.Proofs.YtfbpdbndejefdaaGreatDoor.V.E0,by decide,WalkArith.wf_i64 (by omega),by decide⟩:=by simp[fnV,h0,h1]
 rw[hv]
 go_enter Tryz.func12,Tryz.ntmps12
 go_wp2
 exact bodyPost_ret (v:=val 5 i Go.Proofs.YtfbpdbndejefdaaGreatDoor.V.E0) (by simp[results,Tryz.results12,go_sem]) rfl ⟨rfl,E0⟩
section
variable {e:En} {D:Nat->Prop} {C:Nat} {l:List Vl} {r:Rn Tb} {W:World}
structure RC (e:En) (r:Rn Tb) (W:World):Prop where
 st:W.cell? (Ad e.R 4)=some (vi (r.st:Nat))
 fu:W.cell? (Ad e.R 10)=some (vi (e.lim:Nat))
 ca:W.cell? (Ad e.R 11)=some (vi (r.calls:Nat))
 kd:W.cell? (Ad e.R 9)=some (.slice e.b e.u.kids.length e.cap)
 fz:∀i,W.frozen? (Ad e.R i)=false
theorem Rq.rc(h:Rq e D r W):RC e r W:=by
 obtain⟨s,u,v,y,z⟩:=h.cells
 exact⟨cell_block z rfl,cell_block z rfl,cell_block z rfl,cell_block z rfl,fun i=>frozen_block z⟩
def d3s (e:En) (D:Nat->Prop) (r:Rn Tb) (W:World) (en:Ending) (W':World):Prop :=
 (r.st=e.lim/\en=.panicked (pan (endV 0 0))/\Bw W W')\/(r.st<e.lim/\en=.returned (.tuple #[])/\Rq e D { r with st:=r.st+1 } W'/\CK ff D W D W')
theorem b7z(h:Rq e D r W):Cl 48 #[pR e] W (d3s e D r W):=by
 obtain⟨c4,q,_,_,y⟩:=h.rc
 have s:=y 4
 have o:=h.gd.st
 have h1:=h.gd.l1
 by_cases hs:r.st=e.lim
 ·have hd:((r.st:Int) == (e.lim:Int))=true:=by simp[hs]
  have v:∀V,Bw W V->d3s e D r W (.panicked (pan (endV 0 0))) V:=fun V u=>.inl ⟨hs,rfl,u⟩
  replace v:Hid _:=v
  clear hs y h
  go_enter Tryz.func48,Tryz.ntmps48
  go_wp2
  go_quiet (fail)
  go_wp2
  exact⟨rfl,v.out _ (a1s (Below.refl _ _))⟩
 ·have hd:((r.st:Int) == (e.lim:Int))=false:=by simp;omega
  have z:r.st<e.lim:=by omega
  have v:∀V,Bw W V->d3s e D r W (.returned (.tuple #[])) (V.setCell (Ad e.R 4) (vi ((r.st:Int)+1))):=fun V u=>.inr ⟨z,rfl,(h.below u).setSt z,(CK.below u).trans (CK.run (h.below u))⟩
  have p:IntKind.i64.wrap ((r.st:Int)+1)=(r.st:Int)+1:=by rw[IntKind.wrap_i64];omega
  replace v:Hid _:=v
  clear hs y h z
  go_enter Tryz.func48,Tryz.ntmps48
  go_wp2
  go_quiet (fail)
  go_wp2
  go_end0
  exact v.out _ (a1s (Below.refl _ _))
theorem d7y(h:St e D C l r W){i:Nat}(hi:i<30):∃v,l[i]?=some v/\VG r.tb.length (nf e) v:=by
 have z:i<l.length:=by rw[h.l30];exact hi
 exact⟨l[i],List.getElem?_eq_getElem z,h.vg _ (List.getElem_mem _)⟩
theorem d7z{tm:Array Value}{W:World}{B:Nat}{x:Vl}(h:tm[4]?.getD undef=Po B 0)(hx:W.heap[B]?=some (bx x)):(results Tryz.f74 tm).run Tryz.prog W=.ok x.v W:=by
 obtain⟨c0,c1,c2,_,_,_⟩:=in3 hx
 simp[results,Tryz.results74,go_sem,h,c0,c1,c2]
def nmV (F:Int->Vl->Vl->Vl×Int) (sl:Int) (l:List Vl):Vl:=if sl<30 then l[sl.toNat]?.getD (Oz F).nil else (Oz F).fn (sl-30)
theorem c4j(F:Int->Vl->Vl->Vl×Int)(h:St e D C l r W)(sl:Int)(h0:0<=sl)(h1:sl<30+nf e)(hn:nf e<=12):Cl 74 #[pC C,vi sl] W fun en W'=>en=.returned (nmV F sl l).v/\VG r.tb.length (nf e) (nmV F sl l)/\Bw W W':=by
 have o:=h.lt
 obtain⟨w0,q⟩:=exq (W.alloc (.cells #[vi 0,vi 0,.string ⟨#[]⟩] 52))
 have g0:w0.heap[W.heap.size]?=some (bx nilV):=by rw[<- q];exact new1 W (bx nilV)
 have y:Bw W w0:=by rw[<- q];exact ext_alloc (Below.refl W.heap.size W) (bx nilV)
 obtain⟨a,d,f,f0,f1,f2⟩:=in3 g0
 by_cases hs:sl<30
 ·obtain⟨i,rfl⟩:∃i:Nat,sl=i:=⟨sl.toNat,by omega⟩
  obtain⟨v,hv,z⟩:=d7y h (i:=i) (by omega)
  have s:nmV F (i:Nat) l=v:=by unfold nmV;rw[if_pos hs];simp[hv]
  rw[s]
  obtain⟨c0,c1,c2⟩:=(h.on y).get hv
  have p:Bw W (put3 w0 W.heap.size v):=put3_below v y (Nat.le_refl _)
  have n:(0:Int)<=(i:Int):=by omega
  replace z:Hid _:=z
  replace p:Hid _:=p
  clear h s hv
  go_enter Tryz.func74,Tryz.ntmps74
  go_wp2
  exact bodyPost_ret (d7z rfl (put3_same v g0)) rfl ⟨rfl,z.out,p.out⟩
 ·have s:nmV F sl l=fnV (sl-30):=by unfold nmV;rw[if_neg hs];rfl
  rw[s]
  have z:VG r.tb.length (nf e) (fnV (sl-30)):=VG.fn (by omega) (by omega)
  have q:IntKind.i64.wrap (sl-30)=sl-30:=by rw[IntKind.wrap_i64];omega
  have hf:=a8q (sl-30) (by omega) (by omega)
  replace z:Hid _:=z
  clear h s
  go_enter Tryz.func74,Tryz.ntmps74
  go_wp2_with (go_at_call 12;refine(hf _).mono ?_;rintro en w1 ⟨rfl,u⟩;have g1:=block_below u g0;obtain⟨c0,c1,c2,g,j,m⟩:=in3 g1)
  exact bodyPost_ret (d7z rfl (put3_same _ g1)) rfl ⟨rfl,z.out,put3_below _ (ext_trans y u) (Nat.le_refl _)⟩
end
section
variable {e:En} {D:Nat->Prop} {C:Nat} {l:List Vl} {r:Rn Tb} {W:World}
theorem d3t:(Tryz.prog.info? 143).map (fun i=>(i.zero,i.size,i.bytes))=some (some (.agg #[.slice none 0 0,.slice none 0 0]),2,48):=by kernel_rfl
theorem d9n:(Tryz.prog.info? 9).map (fun i=>(i.zero,i.size,i.bytes))=some (some (.string ⟨#[]⟩),1,16):=by kernel_rfl
theorem d9o{tm:Array Value}{W:World}{B:Nat}{x:Vl}(h:tm[2]?.getD undef=Po B 0)(hx:W.heap[B]?=some (bx x)):(results Tryz.f75 tm).run Tryz.prog W=.ok x.v W:=by
 obtain⟨c0,c1,c2,_,_,_⟩:=in3 hx
 simp[results,Tryz.results75,go_sem,h,c0,c1,c2]
theorem Rq.lo0(h:Rq e D r W):e.w1.heap.size<=W.heap.size:=h.bl.size
theorem Rq.newN(h:Rq e D r W){t:Nat}(ht:W.heap.size<=t):¬D t:=fun hd=>by have:=(h.lo t hd).2;omega
theorem a0r(W:World)(B:Nat)(y:Vl):a0b (fun q=>q=B) W (put3 W B y):=((a1e _ _ _ _).trans (a1e _ _ _ _)).trans (a1e _ _ _ _)
theorem d3u{W:World}{g:Nat}(h:W.heap[g]?=some (.cells #[.slice none 0 0,.slice none 0 0] 143)):∀j u,[Value.slice none 0 0,Value.slice none 0 0][j]?=some u->W.cell? ((Ad g 0).add j)=some u:=World.news_of_block (cs:=#[.slice none 0 0,.slice none 0 0]) h
def newX (l:List Vl) (r:Rn Tb):Res Vl Tb Vl:=need (if r.tb.length=200 then 1 else 0) r (Res.ok (tbV r.tb.length) l { r with tb:=r.tb++[⟨[],[]⟩] })
theorem new_any(h:Rq e D r W)(l:List Vl):Cl 75 #[pR e] W (RQ (gV e) e D W r.tb.length (newX l r)):=by
 have x5:=h.lo0
 have w4:=h.lt
 have y8:=h.gd.tb
 obtain⟨w0,hw⟩:=exq (W.alloc (.cells #[vi 0,vi 0,.string ⟨#[]⟩] 52))
 have g0:w0.heap[W.heap.size]?=some (bx nilV):=by rw[<- hw];exact new1 W (bx nilV)
 have z5:Bw W w0:=by rw[<- hw];exact ext_alloc (Below.refl W.heap.size W) (bx nilV)
 have h0:=h.below z5
 obtain⟨ta,tc,tw,ht⟩:=h0.tabs
 obtain⟨n,hn⟩:=exq (r.tb.length)
 have z1:=ht.ld
 rw[hn]at z1
 by_cases h2:n=200
 ·have hx:newX l r=Res.stop 2 1 r:=by unfold newX;rw[hn,if_pos h2];rfl
  rw[hx]
  have z6:Bd ff e D W (Res.stop 2 1 r:Res Vl Tb Vl) (pan (endV 2 1)) w0:=Bd.stop h0 (CK.below z5)
  have hd:((n:Int) == 200)=true:=by simp[h2]
  replace z6:Hid _:=z6
  replace hn:Hid _:=hn
  clear ht h0 h h2
  go_enter Tryz.func75,Tryz.ntmps75
  go_wp2_with (go_at_call 17;refine(refuse_no _ 1 _ rfl).mono ?_;rintro en w' ⟨rfl,rfl⟩)
  exact⟨rfl,.inl ⟨_,rfl,z6.out⟩⟩
 ·have hx:newX l r=Res.ok (tbV r.tb.length) l { r with tb:=r.tb++[⟨[],[]⟩] }:=by unfold newX;rw[hn,if_neg h2];rfl
  rw[hx]
  have hd:((n:Int) == 200)=false:=by simp;omega
  obtain⟨i0,x3,y3,y4,y5⟩:=info_parts d3t
  have o:Bw w0 (w0.alloc (.cells #[.slice none 0 0,.slice none 0 0] 143)):=ext_alloc (Below.refl _ _) _
  have h1:=h0.below o
  obtain⟨y6,y7,w7,y⟩:=h1.tabs
  have z:=y.ld
  rw[hn]at z
  have z9:(Value.slice ta n tc)=.slice y6 n y7:=by
   have:=(o.cell (p:=(Ad e.R 12)) h0.lt).trans z1
   rw[z]at this
   exact(Option.some.inj this).symm
  cases z9
  have gN:=new1 w0 (.cells #[.slice none 0 0,.slice none 0 0] 143)
  have s:=y.own
  have u:=y.rt
  rw[hn]at s u
  have x6:n+1<=maxLen:=by unfold maxLen;omega
  have x7:(n+1)*48<=140737488355328:=by omega
  have m:e.w1.heap.size<=(w0.alloc (.cells #[.slice none 0 0,.slice none 0 0] 143)).heap.size:=h1.lo0
  obtain⟨Q,hQ⟩:=exq (w0.heap.size)
  obtain⟨w1,y2⟩:=exq (w0.alloc (.cells #[.slice none 0 0,.slice none 0 0] 143))
  rw[y2]at o h1 y z gN s u m
  rw[hQ]at gN
  have z7:=d3u gN
  have z3:∀x∈[Value.slice none 0 0,Value.slice none 0 0],x.oneCell'=true:=fun x hx=>by simp at hx;subst hx;rfl
  have g1:=block_below o g0
  have z2:¬D W.heap.size:=h.newN (Nat.le_refl _)
  have x9:some W.heap.size≠Value.ownBlock (.slice ta n tc):=fun ee=>by
   obtain⟨a,b,c,d,f,m1,m2,m3,m4,m5,m6,m7⟩:=h1.mem
   have hc:=cell_block (i:=12) m1 rfl
   rw[hn]at hc
   have e2:(Value.slice a n b)=.slice ta n tc:=by rw[z]at hc;exact(Option.some.inj hc).symm
   have:=(m4 W.heap.size (by rw[hn,e2];exact ee.symm)).1
   exact z2 this
  have z0:=ext_trans z5 o
  replace u:Hid _:=u
  replace hn:Hid _:=hn
  replace h1:Hid _:=h1
  have w2:¬W.heap.size=e.R:=by omega
  have x8:n<200:=by have:=hn.out;omega
  have x4:=h.lo0
  clear ht h0 h y hx y8 x5
  go_enter Tryz.func75,Tryz.ntmps75
  go_wp2_with (first|(go_at_call 17;refine(a4t _ 1 _).mono ?_;rintro en w' ⟨rfl,z4⟩;rw[z4];clear z4)|(at_builtin;refine wpList_append_lies _ (by rfl) _ _ _ (by rfl) e.w1.heap.size 143 i0 _ 2 48 Tryz.underlying38 x3 y3 y4 y5 rfl (by omega) (.slice ta n tc) n _ (by rfl) s (Ad Q 0) 1 1 [Value.slice none 0 0,Value.slice none 0 0] (by rfl) (by rfl) z7 z3 (by omega) x6 x7 m _ rfl ?_;intro g3 g w3 z8 q x2 w8;obtain⟨D',x0,y9,w6,w5⟩:=u.out w3 g3 g z8 q x2 (by omega);have gb:=(q.block _ (block_lt g1) x9).trans g1;obtain⟨c0,c1,c2,f0,f1,f2⟩:=in3 gb))
  obtain⟨gx,y0⟩:=y9.box g1 z2 id
  have ek:tbV n=⟨4,n,E0,by decide,WalkArith.wf_i64 (by omega),by decide⟩:=by unfold tbV;rw[dif_pos (by omega)]
  have gr:=put3_same (tbV n) gx
  have x1:=x0.wrote (a0r _ W.heap.size (tbV n)) y0 x4
  have w9:=(((CK.below z0).trans y9).wrote (a0r _ W.heap.size (tbV n)) (.inl (Nat.le_refl _)))
  have y1:VG (n+1) (nf e) (tbV n):=VG.tab (by omega)
  have j:RQ (gV e) e D W r.tb.length (Res.ok (tbV r.tb.length) l { r with tb:=r.tb++[⟨[],[]⟩] }) (.returned (tbV n).v) (put3 (w3.setCell (Ad e.R 12) (.slice (some (Ad g3 0)) (n+1) g)) W.heap.size (tbV n)) :=
   .inr ⟨tbV n,l,_,D',(tbV n).v,by rw[hn.out],rfl,x1,w9,by simp,rfl,by simp only[List.length_append,List.length_cons,List.length_nil];rw[hn.out];exact y1⟩
  rw[ek]at gr j
  exact bodyPost_ret (d9o (B:=W.heap.size) rfl gr) rfl j
end
section
variable {e:En} {D:Nat->Prop} {C:Nat} {l:List Vl} {r:Rn Tb} {W:World}
theorem b8a(pt:Value)(k n:Int)(t:ByteArray)(W:World)(hk:(k != 4)=true):Cl 78 #[pt,.agg #[vi k,vi n,.string t]] W fun e W'=>e=.panicked (pan (endV 2 3))/\W'=W.alloc (box k n t):=by
 go_enter Tryz.func78,Tryz.ntmps78
 go_wp2_with (go_at_call 17;refine(refuse_no _ 3 _ rfl).mono ?_;rintro e z ⟨rfl,rfl⟩)
 exact⟨rfl,rfl,rfl⟩
theorem c4k(B T tc nt i:Nat)(t:ByteArray)(W:World)(c3:W.cell? (Ad B 12)=some (.slice (some (Ad T 0)) nt tc))(hi:i<nt)(_hn:nt<=1000) :
  Cl 78 #[Po B 0,.agg #[vi 4,vi (i:Nat),.string t]] W fun e W'=>e=.returned (Po T (i*2))/\Bw W W':=by
 have hB:=World.block_lt_of_cell? _ _ c3
 simp only at hB
 go_enter Tryz.func78,Tryz.ntmps78
 go_wp2_with (go_at_call 17;refine(a4t _ 3 _).mono ?_;rintro e z ⟨rfl,rfl⟩)
 go_region
 all_goals
  go_wp2
  go_ret
  exact⟨rfl,a1s (n:=1) (ext_alloc (Below.refl W.heap.size W) _)⟩
structure TabA (T:Nat) (v:Vl) (W:World) (e:Ending) (W':World):Prop where
 b:Bw W W'
 w:(¬v.k=4/\e=.panicked (pan (endV 2 3)))\/(v.k=4/\e=.returned (Po T (v.n.toNat*2)))
theorem a7t(B T tc nt:Nat)(v:Vl)(W:World)(c3:v.k=4->W.cell? (Ad B 12)=some (.slice (some (Ad T 0)) nt tc))(hv:v.k=4->0<=v.n/\v.n.toNat<nt)(hn:nt<=1000) :
  Cl 78 #[Po B 0,v.v] W (TabA T v W):=by
 obtain⟨k,n,t,_,_,_⟩:=v
 by_cases hk:k=4
 ·subst hk
  obtain⟨h0,h1⟩:=hv rfl
  simp only at h0 h1
  obtain⟨i,rfl⟩:∃i:Nat,n=i:=⟨n.toNat,by omega⟩
  simp only[Int.toNat_natCast]at h1
  exact(c4k B T tc nt i t W (c3 rfl) h1 hn).mono fun e W' ⟨a,b⟩=>⟨b,.inr ⟨rfl,by rw[a];simp⟩⟩
 ·exact(b8a _ k n t W (by simpa using hk)).mono fun e W' ⟨a,b⟩=>⟨by rw[b];exact ext_alloc (Below.refl _ _) _,.inl ⟨hk,a⟩⟩
theorem b8b{n₀ m:Nat}(hm:n₀<=m){A:World}{v:Value}(r:Row n₀ A v xs):Row m A v xs:=by
 obtain⟨a,cap,e,s,u⟩:=r
 refine⟨a,cap,e,s,fun y=>?_⟩
 obtain⟨b,z,p,o,q⟩:=u y
 exact⟨b,z,p,by omega,q⟩
structure TV (e:En) (D:Nat->Prop) (r:Rn Tb) (W:World) (v:Vl) (T tc:Nat) (a b:Value) (t:Tb):Prop where
 tab:v.k=4->d7k e D r W v.n.toNat t T a b
 ld:v.k=4->W.cell? (Ad e.R 12)=some (.slice (some (Ad T 0)) r.tb.length tc)
 bd:v.k=4->0<=v.n/\v.n.toNat<r.tb.length
 tg:v.k=4->TG r.tb.length (nf e) t
 eq:∀F,v.k=4->tabAt (Oz F) r v=t
 n:r.tb.length<=1000
theorem Rq.tv(h:Rq e D r W)(hv:VG r.tb.length (nf e) v):∃T y a b t,TV e D r W v T y a b t:=by
 have hn:r.tb.length<=1000:=by have:=h.gd.tb;omega
 by_cases hk:v.k=4
 ·have h0:=hv.n0 (.inl hk)
  have z:v.n.toNat<r.tb.length:=by have:=hv.t hk;omega
  have ht:r.tb[v.n.toNat]?=some r.tb[v.n.toNat]:=List.getElem?_eq_getElem z
  obtain⟨T,a,b,s⟩:=h.tabAt ht
  obtain⟨y,u⟩:=s.ld
  exact⟨T,y,a,b,_,fun _=>s,fun _=>u,fun _=>⟨h0,z⟩,fun _=>h.gd.tg _ (List.getElem_mem _),fun F _=>by simp[Go.Proofs.YtfbpdbndejefdaaGreatDoor.V.tabAt,Oz,z],hn⟩
 ·exact⟨0,0,.slice none 0 0,.slice none 0 0,⟨[],[]⟩,fun e=>absurd e hk,fun e=>absurd e hk,fun e=>absurd e hk,fun e=>absurd e hk,fun _ e=>absurd e hk,hn⟩
theorem TV.on{T tc:Nat}{a b:Value}{t:Tb}{W':World}(h:TV e D r W v T tc a b t)(hR:Rq e D r W)(hb:Bw W W')(hk:v.k=4):W'.cell? (Ad e.R 12)=some (.slice (some (Ad T 0)) r.tb.length tc)/\W'.cell? (Ad T (v.n.toNat*2))=some a/\W'.cell? (Ad T (v.n.toNat*2+1))=some b/\Tab W'.heap.size W' a b t.ks t.vs:=by
 have z:=h.tab hk
 have h1:=World.block_lt_of_cell? _ _ z.ca
 simp only at h1
 refine⟨(hb.cell (p:=(Ad e.R 12)) hR.lt).trans (h.ld hk),(hb.cell (p:=(Ad T _)) h1).trans z.ca,(hb.cell (p:=(Ad T _)) h1).trans z.cb,?_,?_⟩
 ·exact b8b hb.size (Row.below hb z.ra)
 ·exact b8b hb.size (Row.below hb z.rb)
structure LenA (v:Vl) (t:Tb) (W:World) (e:Ending) (W':World):Prop where
 b:Bw W W'
 w:(v.k=3/\e=.returned (vi (v.s.size:Nat)))\/(v.k=4/\e=.returned (vi (lenZ t.ks t.vs:Nat)))\/(¬v.k=3/\¬v.k=4/\e=.panicked (pan (endV 2 3)))
theorem c0d(h:Rq e D r W)(hv:VG r.tb.length (nf e) v){T tc:Nat}{a b:Value}{t:Tb}(ht:TV e D r W v T tc a b t):Cl 81 #[pR e,v.v] W (LenA v t W):=by
 by_cases h3:v.k=3
 ·have u:∀V,Bw W V->LenA v t W (.returned (vi (v.s.size:Nat))) V:=fun V y=>⟨y,.inl ⟨h3,rfl⟩⟩
  obtain⟨k,n,s,_,_,_⟩:=v
  simp only at h3
  subst h3
  have y:=ext_alloc (Below.refl W.heap.size W) (.cells #[vi 3,vi n,.string s] 52)
  replace u:Hid _:=u
  clear ht hv h
  go_enter Tryz.func81,Tryz.ntmps81
  go_wp2
  go_ret
  exact u.out _ y
 ·by_cases h4:v.k=4
  ·have u:∀V,Bw W V->LenA v t W (.returned (vi (lenZ t.ks t.vs:Nat))) V:=fun V y=>⟨y,.inr (.inl ⟨h4,rfl⟩)⟩
   have y:=ext_alloc (Below.refl W.heap.size W) (.cells #[vi v.k,vi v.n,.string v.s] 52)
   have d:=ht.bd h4
   have hn:=ht.n
   have p:∀w2,Bw W w2->Cl 78 #[pR e,v.v] w2 (TabA T v w2):=fun w2 q=>a7t e.R T tc r.tb.length v w2 (fun _=>(ht.on h q h4).1) (fun _=>d) hn
   have z:∀w2,Bw W w2->Ce w2 T (v.n.toNat*2) a/\Ce w2 T (v.n.toNat*2+1) b/\Cl 112 #[.agg #[a,b]] w2 fun e w'=>e=.returned (vi (lenZ t.ks t.vs:Nat))/\Bw w2 w':=fun w2 q=>by
    obtain⟨_,q1,q2,q3⟩:=ht.on h q h4
    refine⟨q1,q2,(d2k a b t.ks t.vs w2 q3).mono ?_⟩
    rintro e w' ⟨⟨m',g,rfl⟩,z8⟩
    rw[<- d3i g]
    exact⟨rfl,z8⟩
   obtain⟨m,hm⟩:=exq (lenZ t.ks t.vs)
   rw[hm]at z u
   obtain⟨i,o⟩:=exq (v.n.toNat)
   rw[o]at z
   obtain⟨k,n,s,_,_,_⟩:=v
   simp only at h4 y o
   subst h4
   replace u:Hid _:=u
   replace p:Hid _:=p
   replace z:Hid _:=z
   replace o:Hid _:=o
   clear ht hv h h3
   go_enter Tryz.func81,Tryz.ntmps81
   go_wp2_with (go_at_call 78;refine(p.out _ y).mono ?_;rintro e w2 ⟨q,(⟨hx,_⟩|⟨_,rfl⟩)⟩;(exact absurd rfl hx);have E2:=ext_trans y q;obtain⟨k0,k1,hl⟩:=z.out w2 E2;rw[o.out];refine Hid.out ?_)
   refine Lib.hid ?_
   go_wp2_with (go_at_call 112;refine hl.mono ?_;rintro e w3 ⟨rfl,z9⟩;have E3:=ext_trans E2 z9)
   go_ret
   exact u.out _ E3
  ·have u:∀V,Bw W V->LenA v t W (.panicked (pan (endV 2 3))) V:=fun V y=>⟨y,.inr (.inr ⟨h3,h4,rfl⟩)⟩
   have y:=ext_alloc (Below.refl W.heap.size W) (.cells #[vi v.k,vi v.n,.string v.s] 52)
   have f:(v.k == 3)=false:=by simpa using h3
   have j:(v.k != 4)=true:=by simpa using h4
   obtain⟨k,n,s,_,_,_⟩:=v
   simp only at y f j
   replace u:Hid _:=u
   clear ht hv h h3 h4
   go_enter Tryz.func81,Tryz.ntmps81
   go_wp2_with (go_at_call 78;refine(b8a _ _ _ _ _ j).mono ?_;rintro e w2 ⟨rfl,rfl⟩)
   exact⟨rfl,u.out _ (ext_alloc y _)⟩
theorem c4l(s:ByteArray)(w:World)(hs:s.size<=300):Cl 24 #[.string s] w fun e z=>e=.returned (.string s)/\Bw w z:=by
 have y:=fun w=>Tryz.stringslite_Clone s w (by omega)
 go_enter Tryz.func24,Tryz.ntmps24
 go_wp2_with (go_at_call 34;refine(y _).mono ?_;rintro e w1 ⟨rfl,v⟩)
 go_ret
 exact⟨rfl,v⟩
theorem c4m(hm:mayB v.k v.n v.s=true):(tx v).size<=300:=b0h hm (wf64 v.wn)
theorem b8c(v:Vl)(hm:mayB v.k v.n v.s=true)(w:World)(hp:PTab w):Cl 14 #[v.v] w fun e o=>e=.returned (.string (tx v))/\Bw w o:=by
 have p:=ext_alloc (Below.refl w.heap.size w) (.cells #[vi v.k,vi v.n,.string v.s] 52)
 have hn:=v.wn
 have ht:=a7q v.k v.n v.s (w.alloc (.cells #[vi v.k,vi v.n,.string v.s] 52)) (wf64 hn).1 (wf64 hn).2 (hp.on p)
 have y:=fun w=>c4l (tx v) w (c4m hm)
 obtain⟨k,n,s,_,_,_⟩:=v
 simp only at p ht
 obtain⟨t,z⟩:=exq (b4h k n s)
 simp only[tx]at y⊢
 rw[z]at ht y⊢
 clear hp hm hn z
 go_enter Tryz.func14,Tryz.ntmps14
 go_wp2_with (first|(go_at_call 25;refine ht.mono ?_;rintro e w1 ⟨rfl,q⟩)|(go_at_call 24;refine(y _).mono ?_;rintro e w2 ⟨rfl,u⟩))
 go_ret
 exact⟨rfl,ext_trans (ext_trans p q) u⟩
theorem d8a{tm:Array Value}{W:World}{B:Nat}{x:Vl}(h:tm[8]?.getD undef=Po B 0)(hx:W.heap[B]?=some (bx x)):(results Tryz.f108 tm).run Tryz.prog W=.ok x.v W:=by
 obtain⟨c0,c1,c2,_,_,_⟩:=in3 hx
 simp[results,Tryz.results108,go_sem,h,c0,c1,c2]
theorem a6t{F:Int->Vl->Vl->Vl×Int}(hF:OpF F)(op:Int)(x y:Vl)(W:World)(C:Nat)(hC:W.cell? (Ad C 0)=some (pR e))(hp:PTab W):Cl 108 #[pC C,vi op,x.v,y.v] W fun en W'=>(((F op x y).2≠0/\en=.panicked (pan (endV 2 (F op x y).2)))\/((F op x y).2=0/\en=.returned (F op x y).1.v))/\Bw W W':=by
 have i:=World.block_lt_of_cell? _ _ hC
 simp only at i
 have j:=ext_alloc (ext_alloc (ext_alloc (Below.refl W.heap.size W) (.cells #[vi x.k,vi x.n,.string x.s] 52)) (.cells #[vi y.k,vi y.n,.string y.s] 52)) (.cells #[vi 0,vi 0,.string ⟨#[]⟩] 52)
 have g0:=new3 W (.cells #[vi x.k,vi x.n,.string x.s] 52) (.cells #[vi y.k,vi y.n,.string y.s] 52) (bx nilV)
 have z:=fun w (h:PTab w)=>hF.c op x y w h
 obtain⟨R,hR⟩:=exq (F op x y)
 rw[hR]at z⊢
 obtain⟨v,c⟩:=R
 obtain⟨w0,a⟩:=exq (((W.alloc (.cells #[vi x.k,vi x.n,.string x.s] 52)).alloc (.cells #[vi y.k,vi y.n,.string y.s] 52)).alloc (.cells #[vi 0,vi 0,.string ⟨#[]⟩] 52))
 have q0:w0.heap[W.heap.size+1+1]?=some (bx nilV):=by rw[<- a];exact g0
 have q1:w0.heap[W.heap.size]?=some (bx x):=by rw[<- a];exact block_alloc _ (block_alloc _ (new1 _ _))
 have q2:w0.heap[W.heap.size+1]?=some (bx y):=by rw[<- a];exact block_alloc _ (new2 _ _ _)
 rw[a]at j
 have z:=z w0 (hp.on j)
 have f:=(j.cell (p:=(Ad C 0)) i).trans hC
 obtain⟨a0,a1,a2,_,_,_⟩:=in3 q1
 obtain⟨b0,b1,b2,_,_,_⟩:=in3 q2
 have z9:=b3b (pR e) c
 simp only at z⊢
 clear hR hp hC g0 q1 q2
 go_enter Tryz.func108,Tryz.ntmps108
 go_wp2_with (go_at_call 137;refine z.mono ?_;rintro en w1 ⟨rfl,q⟩;refine Hid.out ?_)
 have u:=ext_alloc (Below.refl w1.heap.size w1) (.cells #[vi v.k,vi v.n,.string v.s] 52)
 have g2:=new1 w1 (bx v)
 have g1:=block_below u (block_below q q0)
 have hE:=ext_trans (ext_trans j q) u
 have g:=(q.cell (p:=(Ad C 0)) (Nat.lt_of_lt_of_le i j.size)).trans f
 have z5:=q.size
 have z4:=block_lt q0
 have z8:C<w1.heap.size:=by have:=j.size;omega
 obtain⟨w2,m⟩:=exq (w1.alloc (.cells #[vi v.k,vi v.n,.string v.s] 52))
 have z7:=(u.cell (p:=(Ad C 0)) z8).trans g
 rw[m]at u hE z7
 have d:w2.heap[W.heap.size+1+1]?=some (bx nilV):=by rw[<- m];exact g1
 have z6:w2.heap[w1.heap.size]?=some (bx v):=by rw[<- m];exact g2
 obtain⟨c0,c1,c2,f0,f1,f2⟩:=in3 d
 obtain⟨d0,d1,d2,_,_,_⟩:=in3 z6
 clear z f g g1 g2 j q u
 refine Lib.hid ?_
 go_wp2_with (go_at_call 32;refine(z9 _).mono ?_;rintro en w3 ⟨(⟨hc,rfl⟩|⟨hc,rfl⟩),o⟩;(rw[o];exact⟨rfl,.inl ⟨hc,rfl⟩,hE⟩);rw[o];clear o)
 exact bodyPost_ret (d8a (B:=W.heap.size+1+1) rfl (put3_same v d)) rfl ⟨.inr ⟨hc,rfl⟩,put3_below v hE (by omega)⟩
end
section
variable {F:Int->Vl->Vl->Vl×Int} {e:En} {D:Nat->Prop} {C:Nat} {l:List Vl} {r:Rn Tb} {W:World}
def EC (F:Int->Vl->Vl->Vl×Int) (e:En) (n:Nat):Prop:=∀(q:Pt) (b:Option Addr) (cap C:Nat) (l:List Vl) (r:Rn Tb) (D:Nat->Prop) (W:World),e.lim<n+r.st->Wf (nf e) q->a2s q.k->PK tt e.w1 q.kids b cap->St e D C l r W->Cl 49 #[pC C,ptv q b cap] W (XQ (gV e) e D C W r.tb.length (ZX F e 0 q 0 0 l r))
def SC (F:Int->Vl->Vl->Vl×Int) (e:En) (n:Nat):Prop:=∀(q:Pt) (b:Option Addr) (cap C:Nat) (l:List Vl) (r:Rn Tb) (D:Nat->Prop) (W:World),e.lim<n+r.st->Wf (nf e) q->b4x q.k->PK tt e.w1 q.kids b cap->St e D C l r W->Cl 33 #[pC C,ptv q b cap] W (XQ g0 e D C W r.tb.length (ZX F e 1 q 0 0 l r))
abbrev zE (F:Int->Vl->Vl->Vl×Int) (e:En):Pt->List Vl->Rn Tb->Res Vl Tb Vl:=fun q=>ZX F e 0 q 0 0
abbrev zS (F:Int->Vl->Vl->Vl×Int) (e:En):Pt->List Vl->Rn Tb->Res Vl Tb Vl:=fun q=>ZX F e 1 q 0 0
theorem Wf.kid{nf:Nat}{q:Pt}(h:Wf nf q){j:Nat}{x:Pt}(hx:q.kids[j]?=some x):a0z q.k q.kids.length j x.k/\Wf nf x:=by
 obtain⟨k,t,n,sl,kids⟩:=q
 rw[Wf]at h
 obtain⟨_,_,_,_,_,_,_,_,h⟩:=h
 have:=(d2n _ _ _ _ _).1 h j x hx
 simpa using this
structure KC (e:En) (W:World) (y:Pt) (g o:Nat) (b:Option Addr) (cap:Nat):Prop where
 lt:g<e.w1.heap.size
 c0:W.cell? (Ad g o)=some (vi y.k)
 c1:W.cell? (Ad g (o+1))=some (.string y.t)
 c2:W.cell? (Ad g (o+2))=some (vi y.n)
 c3:W.cell? (Ad g (o+3))=some (vi y.sl)
 c4:W.cell? (Ad g (o+4))=some (.slice b y.kids.length cap)
theorem PK.kid{ks:List Pt}{b:Option Addr}{cap j:Nat}{y:Pt}(h:PK tt e.w1 ks b cap)(hy:ks[j]?=some y):∃g v b' cap',b=some (Ad g v)/\PK tt e.w1 y.kids b' cap'/\∀W,Below e.w1.heap.size e.w1 W->KC e W y g (v+j*5) b' cap':=by
 obtain⟨h1,h2⟩:=h
 rcases h2 with rfl|⟨g,v,rfl,_,h2⟩
 ·simp at hy
 ·obtain⟨c0,c1,c2,c3,b',cap',c4,hk⟩:=(h2 j y hy).kids
  have z:=World.block_lt_of_cell? _ _ c0
  simp only at z
  exact⟨g,v,b',cap',rfl,hk,fun W u=>⟨z,(u.cell (p:=(Ad g _)) z).trans c0,(u.cell (p:=(Ad g _)) z).trans c1,(u.cell (p:=(Ad g _)) z).trans c2,(u.cell (p:=(Ad g _)) z).trans c3,(u.cell (p:=(Ad g _)) z).trans c4⟩⟩
theorem XQ.par{α:Type}{gq:World->(Nat->Prop)->Nat->α->Value->Prop}{nt:Nat}{x:Res Vl Tb α}{en:Ending}{W':World}(h:XQ gq e D C W nt x en W'):(∃pv,en=.panicked pv/\Bd (fun q=>q=C) e D W x pv W') \/
 (∃a v z D' y,x=Res.ok a v z/\en=.returned y/\St e D' C v z W'/\CK (fun q=>q=C) D W D' W'/\nt<=z.tb.length/\gq W' D' z.tb.length a y):=h
theorem a5b{tag:Nat}{p:Pt}{i j:Int}{a:Vl}{l':List Vl}(h:ZX F e tag p i j l r=Res.ok a l' r'):r.st<=r'.st:=by
 have:=(grow (O:=Oz F) (prog:=e.u.kids) (lim:=e.lim) (2*e.lim+3) tag p i j l r).1
 unfold ZX at h
 rw[h]at this
 exact this
def a4k (E:Pt->List Vl->Rn Tb->Res Vl Tb Vl) (p:Pt) (l:List Vl) (r:Rn Tb):Res Vl Tb (Vl×Vl):=(exX E p.kids[0]? l r).bind fun a l r=>(exX E p.kids[1]? l r).bind fun k l r=>Res.ok (a,k) l r
theorem a2i{α β:Type}(x:Res Vl Tb α)(f:α->List Vl->Rn Tb->Res Vl Tb β)(g:β->List Vl->Rn Tb->Res Vl Tb γ):(x.bind f).bind g=x.bind fun a l r=>(f a l r).bind g:=by
 match x with
 | .inl _=>rfl
 | .inr (.inl _)=>rfl
 | .inr (.inr (a,l,r))=>rfl
theorem a7u(E:Pt->List Vl->Rn Tb->Res Vl Tb Vl)(p:Pt)(l:List Vl)(r:Rn Tb)(g:Vl->Vl->List Vl->Rn Tb->Res Vl Tb γ):((exX E p.kids[0]? l r).bind fun a l r=>(exX E p.kids[1]? l r).bind fun k l r=>g a k l r)=(a4k E p l r).bind fun z l r=>g z.1 z.2 l r:=by
 unfold a4k
 rw[a2i]
 congr 1
 funext a l r
 rw[a2i]
 rfl
theorem a0b.toBelow{S:Nat->Prop}{w1 W W':World}(hb:Bw w1 W)(hk:a0b S W W')(hS:∀k,S k->w1.heap.size<=k):Bw w1 W' :=
 ⟨hk.os.trans hb.os,hk.tape.trans hb.tape,hk.output.trans hb.output,Nat.le_trans hb.size hk.size,fun k z=>(hk.block k (Nat.lt_of_lt_of_le z hb.size) (fun e=>by have:=hS k e;omega)).trans (hb.block k z)⟩
theorem St.keep{S:Nat->Prop}{W':World}(h:St e D C l r W)(hk:a0b S W W')(hS:∀k,S k->¬D k/\k≠C/\e.w1.heap.size<=k):St e D C l r W' :=
 ⟨h.rq.on (fun k z=>hk.block k (h.rq.lo k z).2 (fun y=>(hS k y).1 z)) hk.size (a0b.toBelow h.rq.bl hk fun k y=>(hS k y).2.2),(hk.block C (block_lt h.lc) (fun y=>(hS C y).2.1 rfl)).trans h.lc,h.l30,h.vg,h.nC,h.lo⟩
theorem CK.keep{S X D1:Nat->Prop}{W1 W':World}(h:CK X D W D1 W1)(hk:a0b S W1 W')(hS:∀k,S k->W.heap.size<=k):CK X D W D1 W':=⟨h.k.then hk (fun j y z=>by have:=hS j z;omega),h.o⟩
theorem d9p{tm:Array Value}{W:World}{B B':Nat}{x y:Vl}(h:tm[4]?.getD undef=Po B 0)(h':tm[5]?.getD undef=Po B' 0)(hx:W.heap[B]?=some (bx x))(hy:W.heap[B']?=some (bx y)):(results Tryz.f76 tm).run Tryz.prog W=.ok (.tuple #[x.v,y.v]) W:=by
 obtain⟨c0,c1,c2,_,_,_⟩:=in3 hx
 obtain⟨s,u,z,_,_,_⟩:=in3 hy
 simp[results,Tryz.results76,go_sem,h,h',c0,c1,c2,s,u,z]
structure Ac (e:En) (C:Nat) (D0:Nat->Prop) (W0:World) (os:List (Nat×Obj)) (D:Nat->Prop) (l:List Vl) (r:Rn Tb) (W:World):Prop where
 st:St e D C l r W
 ck:CK (fun q=>q=C) D0 W0 D W
 bo:∀p∈os,W.heap[p.1]?=some p.2/\¬D p.1/\p.1≠C/\W0.heap.size<=p.1
section
variable {D0 D1:Nat->Prop} {W0 W1:World} {os:List (Nat×Obj)} {l1:List Vl} {r1:Rn Tb}
theorem Ac.begin(h:St e D C l r W0)(hb:Bw W0 W)(ho:∀p∈os,W.heap[p.1]?=some p.2/\W0.heap.size<=p.1):Ac e C D W0 os D l r W :=
 ⟨h.on hb,CK.below hb,fun p hp=>⟨(ho p hp).1,(h.new (ho p hp).2).1,(h.new (ho p hp).2).2,(ho p hp).2⟩⟩
theorem Ac.below(h:Ac e C D0 W0 os D l r W)(hb:Bw W W1):Ac e C D0 W0 os D l r W1 :=
 ⟨h.st.on hb,h.ck.trans (CK.below hb),fun p hp=>⟨block_below hb (h.bo p hp).1,(h.bo p hp).2⟩⟩
theorem Ac.add(h:Ac e C D0 W0 os D l r W)(hb:Bw W W1){t:Nat}{o:Obj}(ht:W.heap.size<=t)(g:W1.heap[t]?=some o):Ac e C D0 W0 ((t,o)::os) D l r W1:=by
 have h1:=h.below hb
 refine⟨h1.st,h1.ck,fun p hp=>?_⟩
 rcases List.mem_cons.1 hp with rfl|hp
 ·exact⟨g,(h.st.new ht).1,(h.st.new ht).2,Nat.le_trans h.ck.k.size ht⟩
 ·exact h1.bo p hp
theorem Ac.step(h:Ac e C D0 W0 os D l r W)(hS:St e D1 C l1 r1 W1)(hK:CK (fun q=>q=C) D W D1 W1):Ac e C D0 W0 os D1 l1 r1 W1 :=
 ⟨hS,h.ck.trans hK,fun p hp=>by
  obtain⟨g,n,c,lo⟩:=h.bo p hp
  obtain⟨y,z⟩:=hK.box g n c
  exact⟨y,z,c,lo⟩⟩
theorem Ac.re(h:Ac e C D0 W0 os D l r W)(hR:Rq e D1 r1 W1)(hK:CK ff D W D1 W1)(hn:r.tb.length<=r1.tb.length):Ac e C D0 W0 os D1 l r1 W1:=h.step (h.st.re hK hR hn) hK.ff
theorem Ac.wrote(h:Ac e C D0 W0 os D l r W){i t:Nat}{o o':Obj}(hi:os[i]?=some (t,o))(hd:∀(j:Nat) (p:Nat×Obj),os[j]?=some p->j≠i->p.1≠t)(hk:a0b (fun q=>q=t) W W1)(hg:W1.heap[t]?=some o')(hw:e.w1.heap.size<=t):Ac e C D0 W0 (os.set i (t,o')) D l r W1:=by
 obtain⟨g,n,c,lo⟩:=h.bo _ (List.mem_of_getElem? hi)
 refine⟨h.st.wrote hk n hw c,h.ck.wrote hk (.inl lo),fun p hp=>?_⟩
 obtain⟨j,z⟩:=List.getElem?_of_mem hp
 by_cases e:j=i
 ·subst e
  rw[List.getElem?_set_self (List.getElem?_eq_some_iff.1 hi).1]at z
  cases z
  exact⟨hg,n,c,lo⟩
 ·rw[List.getElem?_set_ne (fun x=>e x.symm)]at z
  obtain⟨v,u,s,y⟩:=h.bo _ (List.mem_of_getElem? z)
  exact⟨(hk.block _ (block_lt v) (hd j p z e)).trans v,u,s,y⟩
theorem Ac.put(h:Ac e C D0 W0 os D l r W){i t:Nat}{x:Vl}(y:Vl)(h0:e.w1.heap.size<=W0.heap.size)(hi:os[i]?=some (t,bx x))(hd:∀(j:Nat) (p:Nat×Obj),os[j]?=some p->j≠i->p.1≠t):Ac e C D0 W0 (os.set i (t,bx y)) D l r (put3 W t y) :=
 h.wrote hi hd (a0r _ _ _) (put3_same y (h.bo _ (List.mem_of_getElem? hi)).1) (Nat.le_trans (Nat.le_trans (Nat.le_of_eq rfl) (by
  have h1:=(h.bo _ (List.mem_of_getElem? hi)).2.2.2
  exact Nat.le_trans h0 h1)) (Nat.le_refl _))
theorem Ac.at(h:Ac e C D0 W0 os D l r W)(i:Nat){t:Nat}{o:Obj}(hi:os[i]?=some (t,o)):W.heap[t]?=some o:=(h.bo _ (List.mem_of_getElem? hi)).1
theorem Ac.bad{α:Type}{x:Res Vl Tb α}{pv:List PanicEntry}(h:Ac e C D0 W0 os D l r W)(hb:Bd (fun q=>q=C) e D W x pv W1):Bd (fun q=>q=C) e D0 W0 x pv W1:=hb.pre h.ck
theorem Ac.stop{α:Type}(h:Ac e C D0 W0 os D l r W)(c a:Int):Bd (fun q=>q=C) e D0 W0 (Res.stop c a r:Res Vl Tb α) (pan (endV c a)) W:=Bd.stop h.st.rq h.ck
end
theorem hd_e{a:Nat}{o o':Obj}(j:Nat)(p:Nat×Obj)(hj:[(a+1,o),(a,o')][j]?=some p)(hne:j≠0):p.1≠a+1:=by
 match j,hj with
 | 0,hj=>exact absurd rfl hne
 | 1,hj=>cases hj;show a≠_;omega
def PQ (gq:World->(Nat->Prop)->Nat->Vl->Value->Prop) (e:En) (D:Nat->Prop) (C:Nat) (W:World) (os:List (Nat×Obj)) (nt:Nat) (l:List Vl) (r:Rn Tb) (R:Res Vl Tb Vl) (G:List Vl->Rn Tb->Res Vl Tb Vl) (en:Ending) (w1:World):Prop :=
 (en=.panicked (pan (endV 0 0))/\XQ gq e D C W nt R (.panicked (pan (endV 0 0))) w1)\/(en=.returned (.tuple #[])/\∃r1:Rn Tb,{ r with st:=r.st+1 }=r1/\r1.st=r.st+1/\nt<=r1.tb.length/\G l r1=R/\Ac e C D W os D l r1 w1)
theorem d8b(gq:World->(Nat->Prop)->Nat->Vl->Value->Prop){os:List (Nat×Obj)}{w0:World}{R:Res Vl Tb Vl}{G:List Vl->Rn Tb->Res Vl Tb Vl}(hA:Ac e C D W os D l r w0)(hR:R=tick e.lim l r G):Cl 48 #[pR e] w0 (PQ gq e D C W os r.tb.length l r R G):=by
 refine(b7z hA.st.rq).mono ?_
 unfold tick at hR
 rintro en w1 (⟨u,rfl,z⟩|⟨u,rfl,y,v⟩)
 ·exact .inl ⟨rfl,.inl ⟨_,rfl,((hA.below z).stop 0 0).eq (by rw[hR,if_pos u])⟩⟩
 ·rw[if_neg (by omega)]at hR
  exact .inr ⟨rfl,_,rfl,rfl,Nat.le_refl _,hR.symm,hA.re y v (Nat.le_refl _)⟩
theorem a6u(o:Obj){R:Res Vl Tb Vl}{G:List Vl->Rn Tb->Res Vl Tb Vl}(h:St e D C l r W)(hR:R=tick e.lim l r G):e.w1.heap.size<=W.heap.size/\∃w0,(W.alloc o).alloc (.cells #[vi 0,vi 0,.string ⟨#[]⟩] 52)=w0/\w0.cell? (Ad C 0)=some (pR e)/\Cl 48 #[pR e] w0 (PQ (gV e) e D C W [(W.heap.size+1,bx nilV),(W.heap.size,o)] r.tb.length l r R G):=by
 have z:=Ac.begin (os:=[(W.heap.size+1,bx nilV),(W.heap.size,o)]) h (ext_alloc (ext_alloc (Below.refl W.heap.size W) o) (bx nilV)) (fun p hp=>by simp at hp;rcases hp with rfl|rfl;exact⟨new2 _ _ _,by omega⟩;exact⟨block_alloc _ (new1 _ _),Nat.le_refl _⟩)
 exact⟨h.size,_,rfl,z.st.ptr,d8b _ z hR⟩
theorem b4l(o:Obj){R:Res Vl Tb Vl}{G:List Vl->Rn Tb->Res Vl Tb Vl}(h:St e D C l r W)(hR:R=tick e.lim l r G):e.w1.heap.size<=W.heap.size/\∃w0,W.alloc o=w0/\w0.cell? (Ad C 0)=some (pR e)/\Cl 48 #[pR e] w0 (PQ g0 e D C W [(W.heap.size,o)] r.tb.length l r R G):=by
 have z:=Ac.begin (os:=[(W.heap.size,o)]) h (ext_alloc (Below.refl W.heap.size W) o) (fun p hp=>by simp at hp;subst hp;exact⟨new1 _ _,Nat.le_refl _⟩)
 exact⟨h.size,_,rfl,z.st.ptr,d8b _ z hR⟩
theorem a9h{n:Nat}(hE:EC F e n)(q:Pt)(b:Option Addr)(cap:Nat)(hn:e.lim<n+r.st)(hw:Wf (nf e) q)(hy0:q.kids[0]?=some y0)(hy1:q.kids[1]?=some y1)(hk0:a2s y0.k)(hk1:a2s y1.k)(hk:PK tt e.w1 q.kids b cap)(h:St e D C l r W):Cl 76 #[pC C,ptv q b cap] W (XQ (g2 e) e D C W r.tb.length (a4k (zE F e) q l r)):=by
 have hx:a4k (zE F e) q l r=(ZX F e 0 y0 0 0 l r).bind fun a l r=>(ZX F e 0 y1 0 0 l r).bind fun k l r=>Res.ok (a,k) l r:=by unfold a4k;rw[hy0,hy1];rfl
 rw[hx]
 obtain⟨g,z3,b0,z6,rfl,v9,z0⟩:=PK.kid hk hy0
 obtain⟨g',v6,b1,z7,e1,w3,v7⟩:=PK.kid hk hy1
 cases e1
 have hL:1<q.kids.length:=(List.getElem?_eq_some_iff.1 hy1).1
 obtain⟨L,y6⟩:=exq (q.kids.length)
 rw[y6]at hL
 have w5:=(hw.kid hy0).2
 have w6:=(hw.kid hy1).2
 obtain⟨w0,o⟩:=exq (((W.alloc (.cells #[vi q.k,.string q.t,vi q.n,vi q.sl,.slice (some (Ad g z3)) L cap] 34)).alloc (.cells #[vi 0,vi 0,.string ⟨#[]⟩] 52)).alloc (.cells #[vi 0,vi 0,.string ⟨#[]⟩] 52))
 have y8:Bw W w0:=by rw[<- o];exact ext_alloc (ext_alloc (ext_alloc (Below.refl _ _) _) _) _
 have q3:w0.heap[W.heap.size]?=some (.cells #[vi q.k,.string q.t,vi q.n,vi q.sl,.slice (some (Ad g z3)) L cap] 34):=by rw[<- o];exact block_alloc _ (block_alloc _ (new1 _ _))
 have q4:w0.heap[W.heap.size+1]?=some (bx nilV):=by rw[<- o];exact block_alloc _ (new2 _ _ _)
 have q5:w0.heap[W.heap.size+1+1]?=some (bx nilV):=by rw[<- o];exact new3 _ _ _ _
 have h0:=h.on y8
 have p:=hE y0 b0 z6 C l r D w0 hn w5 hk0 v9 h0
 obtain⟨n3,w9⟩:=h.new (t:=W.heap.size) (Nat.le_refl _)
 obtain⟨n4,f⟩:=h.new (t:=W.heap.size+1) (by omega)
 obtain⟨n5,i⟩:=h.new (t:=W.heap.size+1+1) (by omega)
 obtain⟨_,k0,k1,k2,k3,k4⟩:=z0 w0 h0.rq.bl
 simp only[Nat.zero_mul,Nat.add_zero]at k0 k1 k2 k3 k4
 obtain⟨_,_,_,_,p4,_,_,_,_,_⟩:=in5 q3
 have u8:=h.size
 have u7:=(z0 w0 h0.rq.bl).lt
 have u4:(0:Int)<(L:Int):=by omega
 have u5:(1:Int)<(L:Int):=by omega
 have z1:∀(a:Vl) (l':List Vl) (r':Rn Tb),ZX F e 0 y0 0 0 l r=Res.ok a l' r'->e.lim<n+r'.st:=fun _ _ _ hz=>by have:=a5b hz;omega
 have u6:(L:Int)<=(cap:Int):=by have:=hk.1;omega
 replace z1:Hid _:=z1
 replace hE:Hid (EC F e n):=hE
 replace h0:Hid _:=h0
 clear hx hk hw hy0 hy1 z0 h
 show Cl 76 #[pC C,.agg #[vi q.k,.string q.t,vi q.n,vi q.sl,.slice (some (Ad g z3)) q.kids.length cap]] W _
 rw[y6]
 replace p:Cl 49 #[pC C,.agg #[vi y0.k,.string y0.t,vi y0.n,vi y0.sl,.slice b0 y0.kids.length z6]] w0 _:=p
 clear y6
 go_enter Tryz.func76,Tryz.ntmps76
 go_wp2_with (go_at_call 49;refine p.mono ?_;intro en w1 hq;rcases hq.par with⟨pv,rfl,y9⟩|⟨a,l1,r1,D1,vv,z2,rfl,x6,j,v8,rfl,w4⟩;(exact⟨rfl,.inl ⟨pv,rfl,(y9.pre (CK.below y8)).bind _⟩⟩);refine Hid.out ?_)
 obtain⟨s3,m3⟩:=j.box q3 n3 w9
 obtain⟨s4,m4⟩:=j.box q4 n4 f
 obtain⟨s5,m5⟩:=j.box q5 n5 i
 obtain⟨_,_,_,_,u9,_,_,_,_,_⟩:=in5 s3
 obtain⟨c0,c1,c2,f0,f1,f2⟩:=in3 s4
 have d:=x6.wrote (a0r w1 (W.heap.size+1) a) m4 (by omega) f
 have z8:CK (fun q=>q=C) D W D1 (put3 w1 (W.heap.size+1) a):=((CK.below y8).trans j).wrote (a0r _ _ _) (.inl (by omega))
 have t3:=(a0l w1 (B:=W.heap.size+1) (C:=W.heap.size) a (by omega)).trans s3
 have t4:=put3_same a s4
 have t5:=(a0l w1 (B:=W.heap.size+1) (C:=W.heap.size+1+1) a (by omega)).trans s5
 obtain⟨u,hu⟩:=exq (put3 w1 (W.heap.size+1) a)
 rw[hu]at d z8 t3 t4 t5
 replace hu:((w1.setCell (Ad (W.heap.size+1) 0) (vi a.k)).setCell (Ad (W.heap.size+1) 1) (vi a.n)).setCell (Ad (W.heap.size+1) 2) (.string a.s)=u:=hu
 have y:=hE.out y1 b1 z7 C l1 r1 D1 u (z1.out _ _ _ z2) w6 hk1 w3 d
 replace y:Cl 49 #[pC C,.agg #[vi y1.k,.string y1.t,vi y1.n,vi y1.sl,.slice b1 y1.kids.length z7]] u _:=y
 obtain⟨_,j0,j1,j2,j3,j4⟩:=v7 u d.rq.bl
 simp only[Nat.one_mul]at j0 j1 j2 j3 j4
 obtain⟨_,_,_,_,p5,_,_,_,_,_⟩:=in5 t3
 clear k0 k1 k2 k3 k4 p4 p s3 s4 s5 x6 j q3 q4 q5
 refine Lib.hid ?_
 go_wp2_with (go_at_call 49;refine y.mono ?_;intro en w2 hq;rcases hq.par with⟨pv,rfl,y9⟩|⟨a2,l2,r2,D2,vv,w7,rfl,x7,z9,x9,rfl,y2⟩;(exact⟨rfl,.inl ⟨pv,rfl,by rw[z2];exact(y9.pre z8).bind _⟩⟩);refine Hid.out ?_)
 obtain⟨s4,w8⟩:=z9.box t4 m4 f
 obtain⟨s5,y4⟩:=z9.box t5 m5 i
 obtain⟨t8,t9,u0,u1,u2,u3⟩:=in3 s5
 obtain⟨d0,d1,d2,e0,e1,e2⟩:=in3 s4
 have y7:=x7.wrote (a0r w2 (W.heap.size+1+1) a2) y4 (by omega) i
 have y5:CK (fun q=>q=C) D W D2 (put3 w2 (W.heap.size+1+1) a2):=(z8.trans z9).wrote (a0r _ _ _) (.inl (by omega))
 have z4:=(a0l w2 (B:=W.heap.size+1+1) (C:=W.heap.size+1) a2 (by omega)).trans s4
 have z5:=put3_same a2 s5
 obtain⟨z,hz⟩:=exq (put3 w2 (W.heap.size+1+1) a2)
 rw[hz]at y7 y5 z4 z5
 replace hz:((w2.setCell (Ad (W.heap.size+1+1) 0) (vi a2.k)).setCell (Ad (W.heap.size+1+1) 1) (vi a2.n)).setCell (Ad (W.heap.size+1+1) 2) (.string a2.s)=z:=hz
 obtain⟨x0,x1,x2,v0,v1,v2⟩:=in3 z4
 obtain⟨x3,x4,x5,v3,v4,v5⟩:=in3 z5
 have y3:=w4.mono x9
 have m:∀V,a0b (fun q=>q=W.heap.size+1\/q=W.heap.size+1+1) z V->XQ (g2 e) e D C W r.tb.length ((ZX F e 0 y0 0 0 l r).bind fun a l r=>(ZX F e 0 y1 0 0 l r).bind fun k l r=>Res.ok (a,k) l r) (.returned (.tuple #[a.v,a2.v])) V:=fun V x8=>by
  refine .inr ⟨(a,a2),l2,r2,D2,_,by rw[z2];show(ZX F e 0 y1 0 0 l1 r1).bind _=_;rw[w7];rfl,rfl,?_,?_,Nat.le_trans v8 x9,rfl,y3,y2⟩
  ·exact y7.keep x8 (fun k ee=>by rcases ee with rfl|rfl;exact⟨w8,f,by omega⟩;exact⟨y4,i,by omega⟩)
  ·exact y5.keep x8 (fun k ee=>by rcases ee with rfl|rfl <;> omega)
 have m:Hid _:=m
 clear d0 d1 d2 e0 e1 e2 s4 s5 t4 t5 y z8 z9 y5 d x7 y7 j0 j1 j2 j3 j4
 refine Lib.hid ?_
 go_wp2
 have r1:=(a0l (put3 z (W.heap.size+1) a) (B:=W.heap.size+1+1) (C:=W.heap.size+1) a2 (by omega)).trans (put3_same a z4)
 have r2:=put3_same a2 ((a0l z (B:=W.heap.size+1) (C:=W.heap.size+1+1) a (by omega)).trans z5)
 have r3:=(((a0r z (W.heap.size+1) a).mono (S':=fun q=>q=W.heap.size+1\/q=W.heap.size+1+1) (fun _ _ h=>.inl h)).then (a0r _ (W.heap.size+1+1) a2) (fun _ _ h=>.inr h))
 obtain⟨X,hX⟩:=exq (put3 (put3 z (W.heap.size+1) a) (W.heap.size+1+1) a2)
 rw[hX]at r1 r2 r3
 replace hX:(((((z.setCell (Ad (W.heap.size+1) 0) (vi a.k)).setCell (Ad (W.heap.size+1) 1) (vi a.n)).setCell (Ad (W.heap.size+1) 2) (.string a.s)).setCell (Ad (W.heap.size+1+1) 0) (vi a2.k)).setCell (Ad (W.heap.size+1+1) 1) (vi a2.n)).setCell (Ad (W.heap.size+1+1) 2) (.string a2.s)=X:=hX
 replace r3:Hid _:=r3
 replace hX:Hid _:=hX
 go_region
 all_goals
  go_wp2
  rw[hX.out]
  exact bodyPost_ret (d9p (W:=X.drew) rfl rfl r1 r2) rfl (m.out _ r3.out.drew)
end
section
variable {F:Int->Vl->Vl->Vl×Int} {e:En} {D:Nat->Prop} {C:Nat} {l:List Vl} {r:Rn Tb} {W:World}
def a7v (E:Pt->List Vl->Rn Tb->Res Vl Tb Vl) (q:Pt) (l:List Vl) (r:Rn Tb):Res Vl Tb Bool:=(E q l r).bind fun c l r=>Res.ok (tr c) l r
theorem b4m{n:Nat}(hE:EC F e n)(q:Pt)(b:Option Addr)(cap:Nat)(hn:e.lim<n+r.st)(hw:Wf (nf e) q)(hk0:a2s q.k)(hk:PK tt e.w1 q.kids b cap)(h:St e D C l r W):Cl 52 #[pC C,ptv q b cap] W (XQ gB e D C W r.tb.length (a7v (zE F e) q l r)):=by
 have m:=ext_alloc (Below.refl W.heap.size W) (pbx q b cap)
 have o:=Ac.begin (os:=[]) h m (fun p hp=>by cases hp)
 have z:=hE q b cap C l r D _ hn hw hk0 hk o.st
 replace z:Cl 49 #[pC C,.agg #[vi q.k,.string q.t,vi q.n,vi q.sl,.slice b q.kids.length cap]] (W.alloc (.cells #[vi q.k,.string q.t,vi q.n,vi q.sl,.slice b q.kids.length cap] 34)) _:=z
 replace o:Ac e C D W [] D l r (W.alloc (.cells #[vi q.k,.string q.t,vi q.n,vi q.sl,.slice b q.kids.length cap] 34)):=o
 show Cl 52 #[pC C,.agg #[vi q.k,.string q.t,vi q.n,vi q.sl,.slice b q.kids.length cap]] W _
 unfold a7v
 clear hE h m
 replace o:Hid _:=o
 go_enter Tryz.func52,Tryz.ntmps52
 go_wp2_with (go_at_call 49;refine z.mono ?_;intro en w1 hq;rcases hq.par with⟨pv,rfl,z9⟩|⟨a,l1,r1,D1,vv,f,rfl,j,i,d,rfl,z7⟩;(exact⟨rfl,.inl ⟨pv,rfl,(o.out.bad z9).bind _⟩⟩);refine Hid.out ?_)
 have u:=o.out.step j i
 have ht:=a7p a.k a.n a.s
 obtain⟨g,v⟩:=exq (truthB a.k a.n a.s)
 rw[v]at ht
 have y:∀V,Bw w1 V->XQ gB e D C W r.tb.length ((zE F e q l r).bind fun c l r=>Res.ok (tr c) l r) (.returned (.bool g)) V:=fun V hb=>.inr ⟨g,l1,r1,D1,_,by show(ZX F e 0 q 0 0 l r).bind _=_;rw[f,<- v];rfl,rfl,(u.below hb).st,(u.below hb).ck,d,rfl⟩
 replace y:Hid _:=y
 clear u z v j i
 refine Lib.hid ?_
 go_wp2_with (go_at_call 84;refine(ht _).mono ?_;rintro en w2 ⟨rfl,z8⟩)
 go_ret
 exact y.out _ z8
theorem k3{B c o:Nat}{r:Vl}(h:c≠B):(put3 w B r).cell? (Ad c o)=w.cell? (Ad c o):=World.cell?_of_block (a:=(Ad c o)) (a0l w r h)
theorem d3v{tm:Array Value}{W:World}{B:Nat}{x:Vl}(h:tm[4]?.getD undef=Po B 0)(hx:W.heap[B]?=some (bx x)):(results Tryz.f82 tm).run Tryz.prog W=.ok x.v W:=by
 obtain⟨c0,c1,c2,_,_,_⟩:=in3 hx
 simp[results,Tryz.results82,go_sem,h,c0,c1,c2]
theorem Ac.two{D0:Nat->Prop}{W0:World}{os:List (Nat×Obj)}(h:Ac e C D0 W0 os D l r W)(x y:Vl):Ac e C D0 W0 ((W.heap.size+1,bx y)::(W.heap.size,bx x)::os) D l r ((W.alloc (bx x)).alloc (bx y)):=by
 have h1:=h.add (ext_alloc (Below.refl W.heap.size W) (bx x)) (Nat.le_refl _) (new1 W (bx x))
 exact h1.add (ext_alloc (Below.refl _ _) (bx y)) (by rw[World.size_alloc];exact Nat.le_refl _) (new2 _ _ _)
def b4n (F:Int->Vl->Vl->Vl×Int) (a k:Vl) (l:List Vl) (r:Rn Tb):Res Vl Tb Vl:=need (if a.k=4 then 0 else 3) r (need ((Oz F).next (tabAt (Oz F) r a) k).2 r (Res.ok ((Oz F).next (tabAt (Oz F) r a) k).1 l r))
end
section
variable {F:Int->Vl->Vl->Vl×Int} {e:En} {D:Nat->Prop} {C:Nat} {l:List Vl} {r:Rn Tb} {W:World}
theorem c4n{n:Nat}(hE:EC F e n)(q:Pt)(b:Option Addr)(cap:Nat)(hn:e.lim<n+r.st)(hw:Wf (nf e) q)(hy0:q.kids[0]?=some y0)(hy1:q.kids[1]?=some y1)(hk0:a2s y0.k)(hk1:a2s y1.k)(hk:PK tt e.w1 q.kids b cap)(h:St e D C l r W):Cl 82 #[pC C,ptv q b cap] W (XQ (gV e) e D C W r.tb.length ((a4k (zE F e) q l r).bind fun z l r=>b4n F z.1 z.2 l r)):=by
 obtain⟨w0,y4⟩:=exq ((W.alloc (.cells #[vi q.k,.string q.t,vi q.n,vi q.sl,.slice b q.kids.length cap] 34)).alloc (.cells #[vi 0,vi 0,.string ⟨#[]⟩] 52))
 have t5:Bw W w0:=by rw[<- y4];exact ext_alloc (ext_alloc (Below.refl _ _) _) _
 have q3:w0.heap[W.heap.size]?=some (pbx q b cap):=by rw[<- y4];exact block_alloc _ (new1 _ _)
 have q4:w0.heap[W.heap.size+1]?=some (bx nilV):=by rw[<- y4];exact new2 _ _ _
 have hA:=Ac.begin (os:=[(W.heap.size+1,bx nilV)]) h t5 (fun p hp=>by simp at hp;subst hp;exact⟨q4,by omega⟩)
 have z7:=a9h hE q b cap hn hw hy0 hy1 hk0 hk1 hk hA.st
 replace z7:Cl 76 #[pC C,.agg #[vi q.k,.string q.t,vi q.n,vi q.sl,.slice b q.kids.length cap]] w0 _:=z7
 show Cl 82 #[pC C,.agg #[vi q.k,.string q.t,vi q.n,vi q.sl,.slice b q.kids.length cap]] W _
 obtain⟨p0,p1,p2,p3,p4,_,_,_,_,_⟩:=in5 q3
 have s7:=h.size
 clear hE h t5 q3 q4
 replace hA:Hid _:=hA
 obtain⟨R,hR⟩:=exq ((a4k (zE F e) q l r).bind (fun z l r=>b4n F z.1 z.2 l r))
 rw[hR]
 go_enter Tryz.func82,Tryz.ntmps82
 go_wp2_with (go_at_call 76;refine z7.mono ?_;intro en w1 hq;rcases hq.par with⟨pv,rfl,s6⟩|⟨⟨a,k⟩,l1,r1,D1,vv,t9,rfl,w9,u4,s8,rfl,u7,u8⟩;(exact⟨rfl,.inl ⟨pv,rfl,((hA.out.bad s6).bind _).eq hR.symm⟩⟩);refine Hid.out ?_)
 have m:=(hA.out.step w9 u4).two a k
 rw[t9]at hR
 replace hR:b4n F a k l1 r1=R:=hR
 replace u7:VG r1.tb.length (nf e) a:=u7
 replace u8:VG r1.tb.length (nf e) k:=u8
 have s3:=w9.size
 obtain⟨w2,t0⟩:=exq ((w1.alloc (.cells #[vi a.k,vi a.n,.string a.s] 52)).alloc (.cells #[vi k.k,vi k.n,.string k.s] 52))
 replace m:Ac e C D W [(w1.heap.size+1,bx k),(w1.heap.size,bx a),(W.heap.size+1,bx nilV)] D1 l1 r1 w2:=by rw[<- t0];exact m
 have t7:W.heap.size+1<w1.heap.size:=block_lt ((hA.out.step w9 u4).at 0 rfl)
 obtain⟨T,tc,ta,y2,t,y8⟩:=m.st.rq.tv u7
 have o:∀V,Bw w2 V->Cl 78 #[pR e,a.v] V (TabA T a V):=fun V f=>a7t e.R T tc r1.tb.length a V (fun h4=>(y8.on m.st.rq f h4).1) y8.bd y8.n
 have t6:=m.st.ptr
 have d:∀V,Bw w2 V->a.k=4->V.cell? (Ad T (a.n.toNat*2))=some ta/\V.cell? (Ad T (a.n.toNat*2+1))=some y2/\Cl 113 #[.agg #[ta,y2],k.v] V fun en V'=>en=.returned (.tuple #[(a5p t.ks t.vs k).1.v,vi (a5p t.ks t.vs k).2])/\Bw V V':=fun V f h4=>by
  obtain⟨_,c1,c2,c3⟩:=y8.on m.st.rq f h4
  exact⟨c1,c2,c6w ta y2 t.ks t.vs k V c3⟩
 have y:∀V,Bw w2 V->(In3 V w1.heap.size a/\In3 V (w1.heap.size+1) k)/\V.cell? (Ad C 0)=some (pR e):=fun V f=>⟨⟨in3 (block_below f (m.at 1 rfl)),in3 (block_below f (m.at 0 rfl))⟩,(f.cell (p:=(Ad C 0)) m.st.lt).trans t6⟩
 have y7:¬a.k=4->∀V,Bw w2 V->XQ (gV e) e D C W r.tb.length R (.panicked (pan (endV 2 3))) V:=fun h4 V f=>.inl ⟨_,rfl,((m.below f).stop 2 3).eq (by rw[<- hR];unfold b4n;rw[if_neg h4];rfl)⟩
 have z8:a.k=4->(a5p t.ks t.vs k).2≠0->∀V,Bw w2 V->XQ (gV e) e D C W r.tb.length R (.panicked (pan (endV 2 (a5p t.ks t.vs k).2))) V:=fun h4 hc V f=>.inl ⟨_,rfl,((m.below f).stop 2 _).eq (by rw[<- hR];unfold b4n;rw[if_pos h4,y8.eq F h4];show need (a5p t.ks t.vs k).2 _ _=_;unfold need;rw[if_neg hc])⟩
 have g:a.k=4->(a5p t.ks t.vs k).2=0->∀V,Bw w2 V->XQ (gV e) e D C W r.tb.length R (.returned (a5p t.ks t.vs k).1.v) (put3 V (W.heap.size+1) (a5p t.ks t.vs k).1):=fun h4 hc V f=>by
  have t4:=(m.below f).put (i:=2) (a5p t.ks t.vs k).1 s7 rfl (fun j p hj s9=>by
   match j,hj with
   | 0,hj=>cases hj;show w1.heap.size+1≠_;omega
   | 1,hj=>cases hj;show w1.heap.size≠_;omega
   | 2,hj=>exact absurd rfl s9)
  exact .inr ⟨_,l1,r1,D1,_,by rw[<- hR];unfold b4n;rw[if_pos h4,y8.eq F h4];show need (a5p t.ks t.vs k).2 _ _=_;unfold need;rw[if_pos hc];rfl,rfl,t4.st,t4.ck,s8,rfl,VG.next (y8.tg h4) k⟩
 have y6:∀V,Bw w2 V->V.heap[W.heap.size+1]?=some (bx nilV):=fun V f=>block_below f (m.at 2 rfl)
 have y9:w1.heap.size+1<w2.heap.size:=block_lt (m.at 0 rfl)
 clear hA t9 w9 u4 u8 z7 hR y8
 obtain⟨⟨⟨z0,z1,z2,_,_,_⟩,z3,z4,z5,_,_,_⟩,z6⟩:=y w2 (Below.refl _ _)
 by_cases h4:a.k=4
 ·obtain⟨N,hN⟩:=exq (a5p t.ks t.vs k)
  rw[hN]at d z8 g
  obtain⟨nv,nc⟩:=N
  have d:=fun V f=>d V f h4
  replace z8:=z8 h4
  replace g:=g h4
  simp only at d z8 g
  have o:∀V,Bw w2 V->Cl 78 #[pR e,.agg #[vi a.k,vi a.n,.string a.s]] V (fun en V'=>en=.returned (Po T (a.n.toNat*2))/\Bw V V'):=fun V f=>(o V f).mono fun en V' q=>⟨by rcases q.w with⟨x,_⟩|⟨_,x⟩;exact absurd h4 x;exact x,q.b⟩
  replace d:Hid _:=d
  replace z8:Hid _:=z8
  replace g:Hid _:=g
  replace o:Hid _:=o
  replace y:Hid _:=y
  replace y6:Hid _:=y6
  clear y7 hN m h4
  obtain⟨ti,t8⟩:=exq (a.n.toNat*2)
  rw[t8]at d o
  clear t8
  obtain⟨t1,s2,_⟩:=d.out w2 (Below.refl _ _)
  have s5:=World.block_lt_of_cell? _ _ t1
  have w7:=World.block_lt_of_cell? _ _ z6
  simp only at s5 w7
  obtain⟨A,hA⟩:=exq (w1.heap.size)
  rw[hA]at z0 z1 z2 z3 z4 z5 y9 y t7
  have w6:A<w2.heap.size:=by omega
  have a1:¬w2.heap.size=A:=by omega
  have a2:¬w2.heap.size=A+1:=by omega
  have a3:¬w2.heap.size=C:=by omega
  have a4:¬w2.heap.size=T:=by omega
  refine Lib.hid ?_
  go_wp2
  clear hA
  have u9:A≠w2.heap.size:=by omega
  have v9:A+1≠w2.heap.size:=by omega
  have t2:C≠w2.heap.size:=by omega
  have t3:T≠w2.heap.size:=by omega
  go_region_held3 (fun u=>u.cell? (Ad C 0)=some (pR e)/\u.cell? (Ad A 0)=some (vi a.k)/\u.cell? (Ad A 1)=some (vi a.n)/\u.cell? (Ad A 2)=some (.string a.s)/\u.cell? (Ad (A+1) 0)=some (vi k.k)/\u.cell? (Ad (A+1) 1)=some (vi k.n)/\u.cell? (Ad (A+1) 2)=some (.string k.s)/\u.cell? (Ad T ti)=some ta/\u.cell? (Ad T (ti+1))=some y2) (first|go_keep|(with_reducible exact⟨(k3 t2).trans x6,(k3 u9).trans x0,(k3 u9).trans x1,(k3 u9).trans x2,(k3 v9).trans x3,(k3 v9).trans x4,(k3 v9).trans x5,(k3 t3).trans x7,(k3 t3).trans x8⟩)|(with_reducible exact⟨(k3 b3).trans x6,(k3 b1).trans x0,(k3 b1).trans x1,(k3 b1).trans x2,(k3 b2).trans x3,(k3 b2).trans x4,(k3 b2).trans x5,(k3 b4).trans x7,(k3 b4).trans x8⟩)) (first
   | (go_at_call 78;refine(o.out _ (by repeat(first|with_reducible exact(Below.refl _ _)|with_reducible refine a1x ?_|with_reducible refine ext_alloc ?_ _))).mono ?_;rintro en w3 ⟨rfl,y5⟩;have E3:=ext_trans (show Bw w2 _ from(by repeat(first|with_reducible exact(Below.refl _ _)|with_reducible refine a1x ?_|with_reducible refine ext_alloc ?_ _))) y5;(try(have gA:w3.heap[w2.drew.heap.size]?=some (.cells #[vi 0,vi 0,.string ⟨#[]⟩] 52):=(by with_reducible exact block_below y5 (new1 _ _));replace gA:w3.heap[w2.heap.size]?=some (bx nilV):=gA));obtain⟨⟨⟨v0,v1,v2,_,_,_⟩,v3,v4,v5,_,_,_⟩,v6⟩:=y.out w3 E3;obtain⟨v7,v8,_⟩:=d.out w3 E3;have s1:=E3.size;have b1:A≠w3.heap.size:=(by omega);have b2:A+1≠w3.heap.size:=(by omega);have b3:C≠w3.heap.size:=(by omega);have b4:T≠w3.heap.size:=(by omega))
   | (go_at_call 113;refine((d.out _ (by repeat(first|with_reducible exact E3|with_reducible refine a1x ?_|with_reducible refine ext_alloc ?_ _))).2.2).mono ?_;rintro en w4 ⟨rfl,u5⟩;have E4:=ext_trans (show Bw w2 _ from(by repeat(first|with_reducible exact E3|with_reducible refine a1x ?_|with_reducible refine ext_alloc ?_ _))) u5;(try(have gD:w4.heap[w2.heap.size]?=some (bx nilV):=(by with_reducible exact block_below u5 gA);obtain⟨m0,m1,m2,n0,n1,n2⟩:=in3 gD));(try(have gC:w4.heap[w3.heap.size]?=some (.cells #[vi 0,vi 0,.string ⟨#[]⟩] 52):=(by with_reducible exact block_below u5 (new1 _ _));replace gC:w4.heap[w3.heap.size]?=some (bx nilV):=gC;obtain⟨m0,m1,m2,n0,n1,n2⟩:=in3 gC));obtain⟨⟨⟨x0,x1,x2,_,_,_⟩,x3,x4,x5,_,_,_⟩,x6⟩:=y.out w4 E4;obtain⟨x7,x8,_⟩:=d.out w4 E4))
  all_goals have u6:=b3b (pR e) nc
  ·obtain⟨X,hX⟩:=exq (w4.alloc (.cells #[vi nv.k,vi nv.n,.string nv.s] 52))
   have EX:Bw w2 X:=by rw[<- hX];exact ext_alloc E4 _
   have gK:X.heap[w4.heap.size]?=some (bx nv):=by rw[<- hX];exact new1 _ _
   rw[hX]
   clear hX
   obtain⟨⟨_,_⟩,c6⟩:=y.out X EX
   have gR:=y6.out X EX
   obtain⟨u0,u1,u2,_,_,_⟩:=in3 gK
   obtain⟨d0,d1,d2,o0,o1,o2⟩:=in3 gR
   go_wp2_with (go_at_call 32;refine(u6 _).mono ?_;rintro en w5 ⟨(⟨hc,rfl⟩|⟨hc,rfl⟩),z9⟩;(rw[z9];exact⟨rfl,z8.out hc _ EX⟩);rw[z9];clear z9)
   exact bodyPost_ret (d3v (B:=W.heap.size+1) rfl (put3_same nv gR)) rfl (g.out hc _ EX)
  ·obtain⟨X,hX⟩:=exq (((w4.setCell (Ad w3.heap.size 0) (vi nv.k)).setCell (Ad w3.heap.size 1) (vi nv.n)).setCell (Ad w3.heap.size 2) (.string nv.s))
   have EX:Bw w2 X:=by rw[<- hX];exact put3_below nv E4 (by omega)
   have gK:X.heap[w3.heap.size]?=some (bx nv):=by rw[<- hX];exact put3_same nv gC
   rw[hX]
   clear hX
   obtain⟨⟨_,_⟩,c6⟩:=y.out X EX
   have gR:=y6.out X EX
   obtain⟨u0,u1,u2,_,_,_⟩:=in3 gK
   obtain⟨d0,d1,d2,o0,o1,o2⟩:=in3 gR
   go_wp2_with (go_at_call 32;refine(u6 _).mono ?_;rintro en w5 ⟨(⟨hc,rfl⟩|⟨hc,rfl⟩),z9⟩;(rw[z9];exact⟨rfl,z8.out hc _ EX⟩);rw[z9];clear z9)
   exact bodyPost_ret (d3v (B:=W.heap.size+1) rfl (put3_same nv gR)) rfl (g.out hc _ EX)
  ·obtain⟨X,hX⟩:=exq (((w4.setCell (Ad w2.heap.size 0) (vi nv.k)).setCell (Ad w2.heap.size 1) (vi nv.n)).setCell (Ad w2.heap.size 2) (.string nv.s))
   have EX:Bw w2 X:=by rw[<- hX];exact put3_below nv E4 (Nat.le_refl _)
   have gK:X.heap[w2.heap.size]?=some (bx nv):=by rw[<- hX];exact put3_same nv gD
   rw[hX]
   clear hX
   obtain⟨⟨_,_⟩,c6⟩:=y.out X EX
   have gR:=y6.out X EX
   obtain⟨u0,u1,u2,_,_,_⟩:=in3 gK
   obtain⟨d0,d1,d2,o0,o1,o2⟩:=in3 gR
   go_wp2_with (go_at_call 32;refine(u6 _).mono ?_;rintro en w5 ⟨(⟨hc,rfl⟩|⟨hc,rfl⟩),z9⟩;(rw[z9];exact⟨rfl,z8.out hc _ EX⟩);rw[z9];clear z9)
   exact bodyPost_ret (d3v (B:=W.heap.size+1) rfl (put3_same nv gR)) rfl (g.out hc _ EX)
 ·have x9:=y7 h4
  have o:∀V,Bw w2 V->Cl 78 #[pR e,.agg #[vi a.k,vi a.n,.string a.s]] V (fun en V'=>(en=.panicked (pan (endV 2 3))/\Bw V V')\/(Hid False/\en=.returned (Po T 0))):=fun V f=>(o V f).mono fun en V' q=>.inl ⟨by rcases q.w with⟨_,x⟩|⟨x,_⟩;exact x;exact absurd x h4,q.b⟩
  replace x9:Hid _:=x9
  replace o:Hid _:=o
  have w7:=World.block_lt_of_cell? _ _ z6
  simp only at w7
  obtain⟨A,hA⟩:=exq (w1.heap.size)
  rw[hA]at z0 z1 z2 z3 z4 z5 y9 t7
  have w6:A<w2.heap.size:=by omega
  clear y7 m h4 z8 g d y y6
  refine Lib.hid ?_
  go_wp2
  clear hA
  have u9:A≠w2.heap.size:=by omega
  have v9:A+1≠w2.heap.size:=by omega
  have t2:C≠w2.heap.size:=by omega
  have hS:∀V,Bw w2 V->V.cell? (Ad C 0)=some (pR e)/\V.cell? (Ad A 0)=some (vi a.k)/\V.cell? (Ad A 1)=some (vi a.n)/\V.cell? (Ad A 2)=some (.string a.s)/\V.cell? (Ad (A+1) 0)=some (vi k.k)/\V.cell? (Ad (A+1) 1)=some (vi k.n)/\V.cell? (Ad (A+1) 2)=some (.string k.s):=fun V f=>⟨(f.cell (p:=(Ad C 0)) w7).trans z6,(f.cell (p:=(Ad A 0)) w6).trans z0,(f.cell (p:=(Ad A 1)) w6).trans z1,(f.cell (p:=(Ad A 2)) w6).trans z2,(f.cell (p:=(Ad (A+1) 0)) y9).trans z3,(f.cell (p:=(Ad (A+1) 1)) y9).trans z4,(f.cell (p:=(Ad (A+1) 2)) y9).trans z5⟩
  replace hS:Hid _:=hS
  have w8:Bw w2 w2.drew:=(Below.refl _ _).drew
  refine wp_region_held_drew (S:=fun V=>V.cell? (Ad C 0)=some (pR e)/\V.cell? (Ad A 0)=some (vi a.k)/\V.cell? (Ad A 1)=some (vi a.n)/\V.cell? (Ad A 2)=some (.string a.s)/\V.cell? (Ad (A+1) 0)=some (vi k.k)/\V.cell? (Ad (A+1) 1)=some (vi k.n)/\V.cell? (Ad (A+1) 2)=some (.string k.s)) (by kernel_rfl) (hS.out _ w8) (fun y3=>?_)
  change wpAnyH _ _ _ _ _ 16 _ _ _
  iterate 5 (refine tkH 0 (by simp only[nx,gq1,gq2,gq3];rfl) (by kernel_rfl) (by rfl) y3 ⟨_,by intro w ⟨_,_,_,_,_,_,_⟩;go_simp;try with_reducible rfl,by exact fun _ _ _ h=>h,?_⟩;try simp only[Act.put,sq1,sq2,sq3])
  iterate 1 (refine tkH 3 (by simp only[nx,gq1,gq2,gq3];rfl) (by kernel_rfl) (by rfl) y3 ⟨_,by intro w ⟨_,_,_,_,_,_,_⟩;go_simp;try with_reducible rfl,by exact fun _ _ _ h=>h,?_⟩;try simp only[Act.put,sq1,sq2,sq3])
  refine wpAnyH_ready (rs:=[5,13]) (by kernel_rfl) (by simp) ?_
  refine AllReadyH.cons rfl (fun K hK=>?_) ?_
  ·go_simp
   go_at_call 78
   refine(o.out _ w8).mono ?_
   rintro en w3 (⟨rfl,y5⟩|⟨hF,_⟩)
   ·exact⟨rfl,x9.out _ (ext_trans w8 y5)⟩
   exact hF.out.elim
  refine AllReadyH.cons rfl (fun K hK=>?_) .nil
  go_simp
  have u3:=ext_alloc w8 (.cells #[vi 0,vi 0,.string ⟨#[]⟩] 52)
  have s4:=hS.out _ u3
  refine hK.out _ _ s4 (fun _=>?_)
  clear hK K
  try simp only[Act.put,sq1,sq2,sq3]
  refine wpAnyH_ready (rs:=[5]) (by kernel_rfl) (by simp) ?_
  refine AllReadyH.cons rfl (fun K hK=>?_) .nil
  go_simp
  go_at_call 78
  refine(o.out _ u3).mono ?_
  rintro en w3 (⟨rfl,y5⟩|⟨hF,_⟩)
  ·exact⟨rfl,x9.out _ (ext_trans u3 y5)⟩
  exact hF.out.elim
end
end
end Go.Proofs.YtfbpdbndejefdaaGreatDoor.V
