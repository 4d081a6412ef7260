/- A run of the model in memory: values, tables, texts; what is left alone. -/
import Derived.Test.YtfbpdbndejefdaaGreatDoorS16
import Derived.Test.YtfbpdbndejefdaaGreatDoorS35
import Derived.Test.YtfbpdbndejefdaaGreatDoorS25
namespace Go.Proofs.YtfbpdbndejefdaaGreatDoor.V
open Go.RowKit Go
set_option maxRecDepth 100000
set_option maxHeartbeats 8000000
set_option linter.all false
variable {xs:List Vl} {nt nt' nf n i base:Nat} {v x k:Vl} {o:Obj} {O:Nat->Prop} {sv:Value}
section
variable [DecidableEq Vl]
structure Tb where
 ks:List Vl
 vs:List Vl
def lenG (xs:List Vl):Nat->Nat->Nat
 | 0,n=>n
 | f+1,n=>if numV (n+1)∈xs then lenG xs f (n+1) else n
def lenZ (xs ys:List Vl):Nat:=if mayT xs ys=true then lenG xs 101 0 else 0
theorem c3x{xs:List Vl}{m:Nat}(h:d2i xs m):∀(f n:Nat),n<=m->m<=n+f->lenG xs f n=m
 | 0,n,h1,h2=>by simp only[lenG];omega
 | f+1,n,h1,h2=>by
  rw[lenG]
  split
  ·rename_i hin
   by_cases e:n=m
   ·subst e;exact absurd hin h.2
   ·exact c3x h f (n+1) (by omega) (by omega)
  ·rename_i hin
   by_cases e:n=m
   ·exact e
   ·exact absurd (h.1 n (by omega)) hin
theorem d3i{ys:List Vl}{m:Nat}(h:LenT xs ys m):m=lenZ xs ys:=by
 unfold LenT at h
 unfold lenZ
 split at h
 ·rename_i hm
  rw[if_pos hm,c3x h 101 0 (by omega)]
  have:=c9s (a4y hm).2 h.1
  have:=(a4y hm).2
  omega
 ·rename_i hm
  rw[if_neg hm];exact h
def intV (i:Int):Vl:=if h:(Lit.int .i64 i).wf=true then ⟨2,i,E0,by decide,h,by decide⟩ else nilV
def txtV (s:ByteArray):Vl:=if h:s.size<=300 then ⟨3,0,s,by decide,by decide,by unfold maxLen;omega⟩ else nilV
def booV (b:Bool):Vl:=⟨1,if b then 1 else 0,E0,by decide,by cases b <;> decide,by decide⟩
def fnV (i:Int):Vl:=if h:0<=i/\i<=1000 then ⟨5,i,E0,by decide,WalkArith.wf_i64 (by omega),by decide⟩ else nilV
def tbV (n:Nat):Vl:=if h:n<=1000 then ⟨4,n,E0,by decide,WalkArith.wf_i64 (by omega),by decide⟩ else nilV
abbrev tx (v:Vl):ByteArray:=b4h v.k v.n v.s
abbrev tr (v:Vl):Bool:=truthB v.k v.n v.s
def Oz (F:Int->Vl->Vl->Vl×Int):Vals Vl Tb where
 nil:=nilV
 num:=intV
 txt:=txtV
 boo:=booV
 fn:=fnV
 tab:=tbV
 kind:=fun v=>v.k
 int:=fun v=>v.n
 truth:=fun v=>tr v
 text:=fun v=>tx v
 size:=fun v=>v.s.size
 op:=F
 get:=fun t k=>getT t.ks t.vs k
 set:=fun t k v=>(⟨a0g (setT t.ks t.vs k v).1,a1d (setT t.ks t.vs k v).1⟩,(setT t.ks t.vs k v).2)
 next:=fun t k=>a5p t.ks t.vs k
 len:=fun t=>lenZ t.ks t.vs
 none:=⟨[],[]⟩
structure VG (nt nf:Nat) (v:Vl):Prop where
 m:mayB v.k v.n v.s=true
 t:v.k=4->v.n<nt
 f:v.k=5->v.n<nf
structure TG (nt nf:Nat) (t:Tb):Prop where
 m:mayT t.ks t.vs=true
 k:∀v∈t.ks,VG nt nf v
 v:∀v∈t.vs,VG nt nf v
theorem VG.nil(nt nf:Nat):VG nt nf nilV:=⟨by simp[mayB,nilV],fun(h:(0:Int)=4)=>by omega,fun(h:(0:Int)=5)=>by omega⟩
theorem VG.mono(h:VG nt nf v)(hn:nt<=nt'):VG nt' nf v:=⟨h.m,fun e=>by have:=h.t e;omega,h.f⟩
theorem TG.mono{t:Tb}(h:TG nt nf t)(hn:nt<=nt'):TG nt' nf t:=⟨h.m,fun v hv=>(h.k v hv).mono hn,fun v hv=>(h.v v hv).mono hn⟩
theorem TG.nil(nt nf:Nat):TG nt nf ⟨[],[]⟩:=⟨by simp[mayT],by simp,by simp⟩
theorem VG.num(i:Int):VG nt nf (intV i):=by
 unfold intV
 split
 ·exact⟨by simp[mayB],fun h=>by simp at h,fun h=>by simp at h⟩
 ·exact VG.nil _ _
theorem VG.boo(b:Bool):VG nt nf (booV b):=⟨by cases b <;> simp[mayB,booV],fun h=>by simp[booV]at h,fun h=>by simp[booV]at h⟩
theorem VG.txt(s:ByteArray):VG nt nf (txtV s):=by
 unfold txtV
 split
 ·exact⟨by simp[mayB];omega,fun h=>by simp at h,fun h=>by simp at h⟩
 ·exact VG.nil _ _
theorem VG.tab(h:n<=1000):VG (n+1) nf (tbV n):=by
 unfold tbV
 rw[dif_pos h]
 exact⟨by simp[mayB];omega,fun _=>by show(n:Int)<_;omega,fun h=>by simp at h⟩
theorem VG.fn{i:Int}(h0:0<=i)(h:i<nf):VG nt nf (fnV i):=by
 unfold fnV
 split
 ·exact⟨by simp[mayB];omega,fun h=>by simp at h,fun _=>h⟩
 ·exact VG.nil _ _
theorem VG.op{F:Int->Vl->Vl->Vl×Int}(hF:OpF F){op:Int}{y:Vl}(h:(F op x y).2=0):VG nt nf (F op x y).1:=by
 obtain⟨h1,h2,h3⟩:=hF.m op x y h
 exact⟨h1,fun e=>absurd e h2,fun e=>absurd e h3⟩
theorem VG.n0(h:VG nt nf v)(hk:v.k=4\/v.k=5):0<=v.n:=by
 have:=h.m
 rcases hk with hk|hk <;> simp[mayB,hk]at this <;> omega
theorem VG.get{t:Tb}(h:TG nt nf t)(k:Vl):VG nt nf (getT t.ks t.vs k):=by
 unfold getT
 rw[if_pos h.m]
 unfold look
 cases e:(t.ks.zip t.vs).find? (fun p=>decide (p.1=k)) with
 | none=>exact VG.nil _ _
 | some p =>
  have:=List.mem_of_find?_eq_some e
  exact h.v _ (List.of_mem_zip this).2
theorem c3y{nt nf:Nat}{k:Vl} : ∀{p:Bool} {z:List Vl},(∀v∈z,VG nt nf v)->VG nt nf (scan p k z).1
 | _,[],_=>VG.nil _ _
 | p,x::z,h=>by
  unfold scan
  split
  ·exact h x (by simp)
  ·exact c3y (fun v hv=>h v (by simp[hv]))
theorem VG.next{t:Tb}(h:TG nt nf t)(k:Vl):VG nt nf (a5p t.ks t.vs k).1:=by
 unfold a5p
 split
 ·exact c3y h.k
 ·exact VG.nil _ _
theorem setZ_mem{zs:List (Vl×Vl)}{p:Vl×Vl}(h:p∈setZ k v zs):(p.1=k\/p.1∈a0g zs)/\(p.2=v\/p.2∈a1d zs):=by
 unfold setZ at h
 rcases List.mem_append.1 h with h|h
 ·obtain⟨h1,h2⟩:=b7j h
  refine⟨.inr h1,?_⟩
  rcases h2 with h2|h2
  ·exact .inl h2.1
  ·exact .inr (List.mem_map.2 ⟨p,h2,rfl⟩)
 ·split at h
  ·simp at h
  ·have:=(List.mem_filter.1 h).1
   simp at this
   subst this
   exact⟨.inl rfl,.inl rfl⟩
theorem TG.set{t:Tb}(h:TG nt nf t)(hk:VG nt nf k)(hv:VG nt nf v)(h0:(setT t.ks t.vs k v).2=0):TG nt nf ⟨a0g (setT t.ks t.vs k v).1,a1d (setT t.ks t.vs k v).1⟩:=by
 have z:=h.m
 obtain⟨o,n⟩:=a4y z
 have y:=a2m o
 have s:=a3j o
 unfold setT at h0⊢
 rw[if_neg (by simp[z,hk.m,hv.m])]at h0⊢
 by_cases hk0:k.k=0
 ·rw[if_pos hk0]at h0;simp at h0
 rw[if_neg hk0]at h0⊢
 by_cases hb:100<(setZ k v (t.ks.zip t.vs)).length
 ·rw[if_pos hb]at h0;simp at h0
 rw[if_neg hb]
 have j:Fine k v (t.ks.zip t.vs):=by
  simp only[mayT,Bool.and_eq_true,decide_eq_true_eq,List.all_eq_true]at z
  refine⟨fun p hp=>z.1.2.1 _ (List.of_mem_zip hp).1,fun p hp=>z.1.2.2 _ (List.of_mem_zip hp).2,by rw[y];exact z.2,?_,hv.m⟩
  simp[stB,hk.m,hk0]
 refine⟨d2w j hb,fun u q=>?_,fun u q=>?_⟩
 ·obtain⟨p,hp,rfl⟩:=List.mem_map.1 q
  rcases(setZ_mem hp).1 with e|e
  ·rw[e];exact hk
  ·rw[y]at e;exact h.k _ e
 ·obtain⟨p,hp,rfl⟩:=List.mem_map.1 q
  rcases(setZ_mem hp).2 with e|e
  ·rw[e];exact hv
  ·rw[s]at e;exact h.v _ e
theorem block_lt{W:World}{B:Nat}(h:W.heap[B]?=some o):B<W.heap.size:=(Array.getElem?_eq_some_iff.1 h).1
structure CK (X:Nat->Prop) (D:Nat->Prop) (W:World) (D':Nat->Prop) (W':World):Prop where
 k:a0b (fun q=>D q\/X q) W W'
 o:∀k,D' k->D k\/W.heap.size<=k
section
variable {X D D1 D2:Nat->Prop} {W W1 W2:World}
theorem CK.trans(h:CK X D W D1 W1)(k:CK X D1 W1 D2 W2):CK X D W D2 W2:=by
 refine⟨h.k.then k.k (fun j z h1=>?_),fun j z=>?_⟩
 ·rcases h1 with h1|h1
  ·rcases h.o j h1 with h2|h2
   ·exact .inl h2
   ·omega
  ·exact .inr h1
 ·rcases k.o j z with h2|h2
  ·exact h.o j h2
  ·exact .inr (Nat.le_trans h.k.size h2)
theorem CK.below(hb:Bw W W1):CK X D W D W1:=⟨a0b.of_below hb,fun _ h=>.inl h⟩
theorem CK.refl:CK X D W D W:=⟨a0b.refl _ _,fun _ h=>.inl h⟩
theorem CK.mono{X':Nat->Prop}(h:CK X D W D1 W1)(hx:∀k,k<W.heap.size->X k->X' k):CK X' D W D1 W1:=⟨h.k.mono fun k hk e=>e.elim .inl (fun e=>.inr (hx k hk e)),h.o⟩
theorem CK.box(h:CK X D W D1 W1){t:Nat}(g:W.heap[t]?=some o)(hn:¬D t)(hx:¬X t):W1.heap[t]?=some o/\¬D1 t:=by
 refine⟨(h.k.block t (block_lt g) (fun e=>e.elim hn hx)).trans g,fun h1=>?_⟩
 rcases h.o t h1 with h2|h2
 ·exact hn h2
 ·have:=block_lt g
  omega
theorem CK.wrote(h:CK X D W D1 W1){t:Nat}(hk:a0b (fun q=>q=t) W1 W2)(ht:W.heap.size<=t\/X t):CK X D W D1 W2 :=
 ⟨h.k.then hk (fun j z e=>by rcases ht with ht|ht;omega;exact .inr (e▸ht)),h.o⟩
end
structure En where
 w1:World
 R:Nat
 u:Pt
 b:Option Addr
 cap:Nat
 lim:Nat
abbrev rnb (e:En) (st calls:Nat) (tv uv:Value):Obj :=
 .cells #[vi 0,vi 0,.string ⟨#[]⟩,uv,vi st,vi e.u.k,.string e.u.t,vi e.u.n,vi e.u.sl,.slice e.b e.u.kids.length e.cap,vi e.lim,vi calls,tv] 40
structure Tw where
 t:Tb
 a:Value
 b:Value
def a1m (l:List Tw):List Value:=l.flatMap fun q=>[q.a,q.b]
def Ow (R:Nat) (tv uv:Value) (k:Nat):Prop:=k=R\/tv.ownBlock=some k\/uv.ownBlock=some k
def Rw (W:World) (D O:Nat->Prop) (sv:Value) (xs:List Vl):Prop :=
 ∃(a:Option Addr) (cap:Nat),sv=.slice a xs.length cap/\xs.length<=maxLen /\
  (xs≠[]->∃b off,a=some (Ad b off)/\D b/\¬O b/\b<W.heap.size/\∀j x,xs[j]?=some x->a3d W b (off+j*3) x)
theorem Rw.row{W:World}{D:Nat->Prop}(h:Rw W D O sv xs):Row W.heap.size W sv xs:=by
 obtain⟨a,cap,e,u,v⟩:=h
 refine⟨a,cap,e,u,fun y=>?_⟩
 obtain⟨b,z,p,_,_,q,s⟩:=v y
 exact⟨b,z,p,q,s⟩
theorem Rw.re{W W':World}{D D' O':Nat->Prop}(h:Rw W D O sv xs)(hW:∀k,D k->¬O k->k<W.heap.size->D' k/\¬O' k/\W'.heap[k]?=W.heap[k]?):Rw W' D' O' sv xs:=by
 obtain⟨a,cap,e,o,p⟩:=h
 refine⟨a,cap,e,o,fun v=>?_⟩
 obtain⟨b,y,g,i,hn,u,m⟩:=p v
 obtain⟨d,f,z⟩:=hW b i hn u
 refine⟨b,y,g,d,f,?_,fun j x n=>?_⟩
 ·have:W'.heap[b]?=some W.heap[b]:=z.trans (Array.getElem?_eq_getElem u)
  exact block_lt this
 ·obtain⟨t1,q,s⟩:=m j x n
  exact⟨(World.cell?_of_block (a:=(Ad b _)) z).trans t1,(World.cell?_of_block (a:=(Ad b _)) z).trans q,(World.cell?_of_block (a:=(Ad b _)) z).trans s⟩
theorem c9y(W:World)(D O:Nat->Prop):Rw W D O (.slice none 0 0) []:=⟨none,0,rfl,by simp,fun h=>absurd rfl h⟩
structure Gd (nf lim:Nat) (r:Rn Tb):Prop where
 st:r.st<=lim
 l1:lim<=1000
 ca:r.calls<=40
 tb:r.tb.length<=200
 ou:r.out.length<=r.st
 sz:∀t∈r.out,t.size<=300
 tg:∀t∈r.tb,TG r.tb.length nf t
structure Rq (e:En) (D:Nat->Prop) (r:Rn Tb) (W:World):Prop where
 mem:∃ta tc ua uc tw,W.heap[e.R]?=some (rnb e r.st r.calls (.slice ta r.tb.length tc) (.slice ua r.out.length uc))/\W.ownsRow e.w1.heap.size 143 2 (.slice ta r.tb.length tc) r.tb.length (a1m tw)/\W.ownsRow e.w1.heap.size 9 1 (.slice ua r.out.length uc) r.out.length (r.out.map Value.string) /\
  (∀b,Value.ownBlock (.slice ta r.tb.length tc)=some b->D b/\b≠e.R)/\(∀b,Value.ownBlock (.slice ua r.out.length uc)=some b->D b/\b≠e.R/\Value.ownBlock (.slice ta r.tb.length tc)≠some b)/\tw.map Tw.t=r.tb /\
  ∀q∈tw,Rw W D (Ow e.R (.slice ta r.tb.length tc) (.slice ua r.out.length uc)) q.a q.t.ks/\Rw W D (Ow e.R (.slice ta r.tb.length tc) (.slice ua r.out.length uc)) q.b q.t.vs
 dr:D e.R
 lo:∀k,D k->e.w1.heap.size<=k/\k<W.heap.size
 bl:Below e.w1.heap.size e.w1 W
 gd:Gd e.u.kids.length e.lim r
theorem a2r{W W':World}{T s:Nat}{v:Value}{xs:List Value}(h:W.ownsRow base T s v n xs)(hw:∀b,v.ownBlock=some b->W'.heap[b]?=W.heap[b]?):W'.ownsRow base T s v n xs:=by
 obtain⟨h1,h2⟩:=h
 refine⟨h1,?_⟩
 rcases h2 with h2|⟨g,cap',y,e,z,u,h3⟩
 ·exact .inl h2
 ·exact .inr ⟨g,cap',y,e,z,(hw g (by rw[e];rfl)).trans u,h3⟩
section
variable {e:En} {D:Nat->Prop} {r:Rn Tb} {W W':World}
theorem Rq.on(h:Rq e D r W)(hW:∀k,D k->W'.heap[k]?=W.heap[k]?)(hs:W.heap.size<=W'.heap.size)(z:Below e.w1.heap.size e.w1 W'):Rq e D r W':=by
 obtain⟨n,o,s,u,p,h1,h2,h3,h4,h5,m,v⟩:=h.mem
 refine⟨⟨n,o,s,u,p,(hW _ h.dr).trans h1,a2r h2 fun b z=>hW b (h4 b z).1,a2r h3 fun b z=>hW b (h5 b z).1,h4,h5,m,fun q hq=>⟨(v q hq).1.re fun k hk y _=>⟨hk,y,hW k hk⟩,(v q hq).2.re fun k hk y _=>⟨hk,y,hW k hk⟩⟩⟩,h.dr,fun k hk=>⟨(h.lo k hk).1,Nat.lt_of_lt_of_le (h.lo k hk).2 hs⟩,z,h.gd⟩
theorem Rq.below(h:Rq e D r W)(hb:Bw W W'):Rq e D r W':=h.on (fun k hk=>hb.block k (h.lo k hk).2) hb.size (ext_trans h.bl hb)
theorem Rq.wrote(h:Rq e D r W){t:Nat}(hk:a0b (fun q=>q=t) W W')(hn:¬D t)(ht:e.w1.heap.size<=t):Rq e D r W' :=
 h.on (fun k z=>hk.block k (h.lo k z).2 (fun e=>hn (e▸z))) hk.size ⟨hk.os.trans h.bl.os,hk.tape.trans h.bl.tape,hk.output.trans h.bl.output,Nat.le_trans h.bl.size hk.size,fun k z=>(hk.block k (Nat.lt_of_lt_of_le z h.bl.size) (fun e=>by omega)).trans (h.bl.block k z)⟩
theorem Rq.lt(h:Rq e D r W):e.R<W.heap.size:=(h.lo _ h.dr).2
theorem Rq.cells(h:Rq e D r W):∃u v y z,W.heap[e.R]?=some (rnb e r.st r.calls (.slice u r.tb.length v) (.slice y r.out.length z)):=by
 obtain⟨u,v,y,z,s,h1,_⟩:=h.mem
 exact⟨u,v,y,z,h1⟩
theorem a1e(W:World)(B i:Nat)(v:Value):a0b (fun q=>q=B) W (W.setCell (Ad B i) v):=(a0b.refl _ _).set B i v (fun _=>rfl)
theorem a7r{w1 W W':World}{t:Nat}(hb:Bw w1 W)(hk:a0b (fun q=>q=t) W W')(ht:w1.heap.size<=t):Bw w1 W' :=
 ⟨hk.os.trans hb.os,hk.tape.trans hb.tape,hk.output.trans hb.output,Nat.le_trans hb.size hk.size,fun k z=>(hk.block k (Nat.lt_of_lt_of_le z hb.size) (fun e=>by omega)).trans (hb.block k z)⟩
theorem Rq.num(h:Rq e D r W){r':Rn Tb}(e1:r'.tb=r.tb)(e2:r'.out=r.out)(hg:Gd e.u.kids.length e.lim r')(hk:a0b (fun q=>q=e.R) W W')(box:∀m n o p,W.heap[e.R]?=some (rnb e r.st r.calls (.slice m r.tb.length n) (.slice o r.out.length p))->W'.heap[e.R]?=some (rnb e r'.st r'.calls (.slice m r.tb.length n) (.slice o r.out.length p))):Rq e D r' W':=by
 obtain⟨m,n,o,p,i,h1,h2,h3,h4,h5,f,j⟩:=h.mem
 have z:∀k,D k->k≠e.R->W'.heap[k]?=W.heap[k]?:=fun k g hn=>hk.block k (h.lo k g).2 hn
 refine⟨⟨m,n,o,p,i,by rw[e1,e2];exact box _ _ _ _ h1,by rw[e1];exact a2r h2 fun b s=>z b (h4 b s).1 (h4 b s).2,by rw[e2];exact a2r h3 fun b s=>z b (h5 b s).1 (h5 b s).2.1,by rw[e1];exact h4,by rw[e1,e2];exact h5,by rw[e1];exact f,fun q hq=>?_⟩,h.dr,fun k v=>⟨(h.lo k v).1,Nat.lt_of_lt_of_le (h.lo k v).2 hk.size⟩,a7r h.bl hk (h.lo _ h.dr).1,hg⟩
 rw[e1,e2]
 exact⟨(j q hq).1.re fun k hk y _=>⟨hk,y,z k hk fun e=>y (.inl e)⟩,(j q hq).2.re fun k hk y _=>⟨hk,y,z k hk fun e=>y (.inl e)⟩⟩
theorem Rq.setSt(h:Rq e D r W)(hl:r.st<e.lim):Rq e D { r with st:=r.st+1 } (W.setCell (Ad e.R 4) (vi ((r.st+1:Nat):Int))):=by
 refine h.num rfl rfl ⟨hl,h.gd.l1,h.gd.ca,h.gd.tb,Nat.le_succ_of_le h.gd.ou,h.gd.sz,h.gd.tg⟩ (a1e _ _ _ _) fun s u v y z=>?_
 refine(set_block _ z).trans ?_
 simp[rnb]
theorem Rq.setCalls(h:Rq e D r W)(c:Nat)(hc:c<=40):Rq e D { r with calls:=c } (W.setCell (Ad e.R 11) (vi (c:Int))):=by
 refine h.num rfl rfl ⟨h.gd.st,h.gd.l1,hc,h.gd.tb,h.gd.ou,h.gd.sz,h.gd.tg⟩ (a1e _ _ _ _) fun s u v y z=>?_
 refine(set_block _ z).trans ?_
 simp[rnb]
theorem CK.run{X:Nat->Prop}{v:Value}(h:Rq e D r W):CK X D W D (W.setCell (Ad e.R i) v):=⟨(a1e _ _ _ _).mono (fun _ _ e=>.inl (e▸h.dr)),fun _ h=>.inl h⟩
theorem b0w(l m:List Tw):a1m (l++m)=a1m l++a1m m:=by simp[a1m]
structure d7i (e:En) (D:Nat->Prop) (r:Rn Tb) (W:World) (ta:Option Addr) (tc:Nat) (tw:List Tw):Prop where
 own:W.ownsRow e.w1.heap.size 143 2 (.slice ta r.tb.length tc) r.tb.length (a1m tw)
 ld:W.cell? (Ad e.R 12)=some (.slice ta r.tb.length tc)
 fr:W.frozen? (Ad e.R 12)=false
 rt:∀(w3:World) (g cap:Nat),w3.ownsRow e.w1.heap.size 143 2 (.slice (some (Ad g 0)) (r.tb.length+1) cap) (r.tb.length+1) (a1m tw++[.slice none 0 0,.slice none 0 0])->W.grownBy w3 (Value.ownBlock (.slice ta r.tb.length tc))->(Value.ownBlock (.slice ta r.tb.length tc)=some g\/g=W.heap.size)->r.tb.length<200 ->
  ∃D',Rq e D' { r with tb:=r.tb++[⟨[],[]⟩] } (w3.setCell (Ad e.R 12) (.slice (some (Ad g 0)) (r.tb.length+1) cap))/\CK (fun _=>False) D W D' (w3.setCell (Ad e.R 12) (.slice (some (Ad g 0)) (r.tb.length+1) cap))/\w3.frozen? (Ad e.R 12)=false/\w3.cell? (Ad e.R 12)=some (.slice ta r.tb.length tc)
theorem Rq.tabs(h:Rq e D r W):∃n p tw,d7i e D r W n p tw:=by
 obtain⟨n,p,ua,uc,tw,h1,h2,h3,h4,h5,h6,h7⟩:=h.mem
 refine⟨n,p,tw,h2,cell_block h1 rfl,frozen_block h1,fun m g cap s hg d z1=>?_⟩
 have hR:∀k,D k->¬Value.ownBlock (.slice n r.tb.length p)=some k->m.heap[k]?=W.heap[k]?:=fun k hk hn=>hg.block k (h.lo k hk).2 (fun e=>hn e.symm)
 have z3:¬Value.ownBlock (.slice n r.tb.length p)=some e.R:=fun y=>(h4 _ y).2 rfl
 have f:=(hR _ h.dr z3).trans h1
 have z4:g≠e.R:=fun y=>by
  rcases d with i|i
  ·exact(h4 g i).2 y
  ·have:=h.lt;omega
 have z5:∀k,D k->¬Value.ownBlock (.slice n r.tb.length p)=some k->k≠g:=fun k hk hn y=>by
  rcases d with i|i
  ·exact hn (y▸i)
  ·have:=(h.lo k hk).2;omega
 have j:∀k,D k->¬Value.ownBlock (.slice n r.tb.length p)=some k->k≠e.R->(m.setCell (Ad e.R 12) (.slice (some (Ad g 0)) (r.tb.length+1) cap)).heap[k]?=W.heap[k]?:=fun k hk h1 h2=>(set1_other _ _ h2).trans (hR k hk h1)
 have z7:g<m.heap.size:=by
  rcases s.2 with⟨y,_⟩|⟨g',cap',z2,y,u,hh,_⟩
  ·cases y
  ·cases y;exact block_lt hh
 have z6:e.w1.heap.size<=g:=by
  rcases s.2 with⟨y,_⟩|⟨g',cap',z2,y,u,hh,_⟩
  ·cases y
  ·cases y;exact u
 have z9:(m.setCell (Ad e.R 12) (.slice (some (Ad g 0)) (r.tb.length+1) cap)).heap.size=m.heap.size:=by simp
 have z:a0b (fun q=>D q\/False) W (m.setCell (Ad e.R 12) (.slice (some (Ad g 0)) (r.tb.length+1) cap)):=((a0b.grown hg).mono (S':=fun q=>D q\/False) (fun k _ y=>.inl (h4 k y.symm).1)).set e.R 12 _ (fun _=>.inl h.dr)
 refine⟨fun k=>D k\/k=g,⟨⟨some (Ad g 0),cap,ua,uc,tw++[⟨⟨[],[]⟩,.slice none 0 0,.slice none 0 0⟩],?_,?_,?_,?_,?_,?_,?_⟩,.inl h.dr,?_,?_,?_⟩,⟨z,?_⟩,frozen_block f,cell_block f rfl⟩
 ·refine(set_block _ f).trans ?_
  simp[rnb]
 ·show World.ownsRow _ _ _ _ (.slice _ (r.tb++[(⟨[],[]⟩:Tb)]).length _) (r.tb++[(⟨[],[]⟩:Tb)]).length _
  rw[b0w,List.length_append]
  refine a2r (W:=m) (v:=.slice (some (Ad g 0)) (r.tb.length+1) cap) ?_ (fun b u=>?_)
  ·simpa[a1m]using s
  ·have a:g=b:=by simpa[Value.ownBlock]using u
   subst a
   exact set1_other _ _ z4
 ·exact a2r h3 fun b u=>j b (h5 b u).1 (h5 b u).2.2 (h5 b u).2.1
 ·intro b u
  have a:g=b:=by simpa[Value.ownBlock]using u
  subst a
  exact⟨.inr rfl,z4⟩
 ·intro b u
  obtain⟨d1,d2,d3⟩:=h5 b u
  refine⟨.inl d1,d2,fun y=>?_⟩
  have a:g=b:=by simpa[Value.ownBlock]using y
  exact z5 b d1 d3 a.symm
 ·show(tw++[_]).map Tw.t=r.tb++[_]
  rw[List.map_append,h6];rfl
 ·intro q hq
  have key:∀{sv:Value} {xs:List Vl},Rw W D (Ow e.R (.slice n r.tb.length p) (.slice ua r.out.length uc)) sv xs->Rw (m.setCell (Ad e.R 12) (.slice (some (Ad g 0)) (r.tb.length+1) cap)) (fun k=>D k\/k=g) (Ow e.R (.slice (some (Ad g 0)) (r.tb++[(⟨[],[]⟩:Tb)]).length cap) (.slice ua r.out.length uc)) sv xs:=fun hr =>
   hr.re fun k hk ho _=>by
    have n1:¬Value.ownBlock (.slice n r.tb.length p)=some k:=fun y=>ho (.inr (.inl y))
    have n2:k≠e.R:=fun y=>ho (.inl y)
    refine⟨.inl hk,fun o=>?_,j k hk n1 n2⟩
    rcases o with o|o|o
    ·exact n2 o
    ·have a:g=k:=by simpa[Value.ownBlock]using o
     exact z5 k hk n1 a.symm
    ·exact ho (.inr (.inr o))
  rcases List.mem_append.1 hq with hq|hq
  ·exact⟨key (h7 q hq).1,key (h7 q hq).2⟩
  ·simp only[List.mem_singleton]at hq
   subst hq
   exact⟨c9y _ _ _,c9y _ _ _⟩
 ·rintro k (hk|rfl)
  ·exact⟨(h.lo k hk).1,by rw[z9];exact Nat.lt_of_lt_of_le (h.lo k hk).2 hg.size⟩
  ·exact⟨z6,by rw[z9];exact z7⟩
 ·exact⟨z.os.trans h.bl.os,z.tape.trans h.bl.tape,z.output.trans h.bl.output,Nat.le_trans h.bl.size z.size,fun k z8=>(z.block k (Nat.lt_of_lt_of_le z8 h.bl.size) (fun y=>by rcases y with y|y;have:=(h.lo k y).1;omega;exact y)).trans (h.bl.block k z8)⟩
 ·refine⟨h.gd.st,h.gd.l1,h.gd.ca,by simp;omega,h.gd.ou,h.gd.sz,fun t ht=>?_⟩
  simp only[List.length_append,List.length_cons,List.length_nil]
  rcases List.mem_append.1 ht with ht|ht
  ·exact(h.gd.tg t ht).mono (by omega)
  ·simp only[List.mem_singleton]at ht
   subst ht
   exact TG.nil _ _
 ·rintro k (hk|rfl)
  ·exact .inl hk
  ·rcases d with i|i
   ·exact .inl (h4 k i).1
   ·exact .inr (by omega)
end
section
variable {e:En} {D:Nat->Prop} {r:Rn Tb} {W W':World}
structure d7j (e:En) (D:Nat->Prop) (r:Rn Tb) (W:World) (ua:Option Addr) (uc:Nat):Prop where
 own:W.ownsRow e.w1.heap.size 9 1 (.slice ua r.out.length uc) r.out.length (r.out.map Value.string)
 ld:W.cell? (Ad e.R 3)=some (.slice ua r.out.length uc)
 fr:W.frozen? (Ad e.R 3)=false
 rt:∀(w3:World) (t:ByteArray) (g cap:Nat),w3.ownsRow e.w1.heap.size 9 1 (.slice (some (Ad g 0)) (r.out.length+1) cap) (r.out.length+1) (r.out.map Value.string++[.string t])->W.grownBy w3 (Value.ownBlock (.slice ua r.out.length uc))->(Value.ownBlock (.slice ua r.out.length uc)=some g\/g=W.heap.size)->r.out.length<r.st->t.size<=300 ->
  ∃D',Rq e D' { r with out:=r.out++[t] } (w3.setCell (Ad e.R 3) (.slice (some (Ad g 0)) (r.out.length+1) cap))/\CK (fun _=>False) D W D' (w3.setCell (Ad e.R 3) (.slice (some (Ad g 0)) (r.out.length+1) cap))/\w3.frozen? (Ad e.R 3)=false/\w3.cell? (Ad e.R 3)=some (.slice ua r.out.length uc)
theorem Rq.outs(h:Rq e D r W):∃n p,d7j e D r W n p:=by
 obtain⟨ta,tc,n,p,tw,h1,h2,h3,h4,h5,h6,h7⟩:=h.mem
 refine⟨n,p,h3,cell_block h1 rfl,frozen_block h1,fun m t g cap s hg d z0 z3=>?_⟩
 have hR:∀k,D k->¬Value.ownBlock (.slice n r.out.length p)=some k->m.heap[k]?=W.heap[k]?:=fun k hk hn=>hg.block k (h.lo k hk).2 (fun e=>hn e.symm)
 have z2:¬Value.ownBlock (.slice n r.out.length p)=some e.R:=fun z=>(h5 _ z).2.1 rfl
 have f:=(hR _ h.dr z2).trans h1
 have z4:g≠e.R:=fun z=>by
  rcases d with i|i
  ·exact(h5 g i).2.1 z
  ·have:=h.lt;omega
 have z5:∀k,D k->¬Value.ownBlock (.slice n r.out.length p)=some k->k≠g:=fun k hk hn z=>by
  rcases d with i|i
  ·exact hn (z▸i)
  ·have:=(h.lo k hk).2;omega
 have j:∀k,D k->¬Value.ownBlock (.slice n r.out.length p)=some k->k≠e.R->(m.setCell (Ad e.R 3) (.slice (some (Ad g 0)) (r.out.length+1) cap)).heap[k]?=W.heap[k]?:=fun k hk h1 h2=>(set1_other _ _ h2).trans (hR k hk h1)
 have z7:g<m.heap.size:=by
  rcases s.2 with⟨z,_⟩|⟨g',cap',z1,z,u,hh,_⟩
  ·cases z
  ·cases z;exact block_lt hh
 have z6:e.w1.heap.size<=g:=by
  rcases s.2 with⟨z,_⟩|⟨g',cap',z1,z,u,hh,_⟩
  ·cases z
  ·cases z;exact u
 have z9:(m.setCell (Ad e.R 3) (.slice (some (Ad g 0)) (r.out.length+1) cap)).heap.size=m.heap.size:=by simp
 have y:a0b (fun q=>D q\/False) W (m.setCell (Ad e.R 3) (.slice (some (Ad g 0)) (r.out.length+1) cap)):=((a0b.grown hg).mono (S':=fun q=>D q\/False) (fun k _ z=>.inl (h5 k z.symm).1)).set e.R 3 _ (fun _=>.inl h.dr)
 have a:∀b,Value.ownBlock (.slice ta r.tb.length tc)=some b->¬Value.ownBlock (.slice n r.out.length p)=some b:=fun b u hu=>(h5 b hu).2.2 u
 refine⟨fun k=>D k\/k=g,⟨⟨ta,tc,some (Ad g 0),cap,tw,?_,?_,?_,?_,?_,h6,?_⟩,.inl h.dr,?_,?_,?_⟩,⟨y,?_⟩,frozen_block f,cell_block f rfl⟩
 ·refine(set_block _ f).trans ?_
  simp[rnb]
 ·exact a2r h2 fun b u=>j b (h4 b u).1 (a b u) (h4 b u).2
 ·show World.ownsRow _ _ _ _ (.slice _ (r.out++[t]).length _) (r.out++[t]).length ((r.out++[t]).map Value.string)
  rw[List.map_append,List.length_append]
  refine a2r (W:=m) (v:=.slice (some (Ad g 0)) (r.out.length+1) cap) s (fun b u=>?_)
  have e3:g=b:=by simpa[Value.ownBlock]using u
  subst e3
  exact set1_other _ _ z4
 ·intro b u
  exact⟨.inl (h4 b u).1,(h4 b u).2⟩
 ·intro b u
  have e3:g=b:=by simpa[Value.ownBlock]using u
  subst e3
  exact⟨.inr rfl,z4,fun z=>z5 g (h4 g z).1 (a g z) rfl⟩
 ·intro q hq
  have key:∀{sv:Value} {xs:List Vl},Rw W D (Ow e.R (.slice ta r.tb.length tc) (.slice n r.out.length p)) sv xs->Rw (m.setCell (Ad e.R 3) (.slice (some (Ad g 0)) (r.out.length+1) cap)) (fun k=>D k\/k=g) (Ow e.R (.slice ta r.tb.length tc) (.slice (some (Ad g 0)) (r.out++[t]).length cap)) sv xs:=fun hr =>
   hr.re fun k hk ho _=>by
    have n1:¬Value.ownBlock (.slice n r.out.length p)=some k:=fun z=>ho (.inr (.inr z))
    have n2:k≠e.R:=fun z=>ho (.inl z)
    refine⟨.inl hk,fun o=>?_,j k hk n1 n2⟩
    rcases o with o|o|o
    ·exact n2 o
    ·exact ho (.inr (.inl o))
    ·have e3:g=k:=by simpa[Value.ownBlock]using o
     exact z5 k hk n1 e3.symm
  exact⟨key (h7 q hq).1,key (h7 q hq).2⟩
 ·rintro k (hk|rfl)
  ·exact⟨(h.lo k hk).1,by rw[z9];exact Nat.lt_of_lt_of_le (h.lo k hk).2 hg.size⟩
  ·exact⟨z6,by rw[z9];exact z7⟩
 ·exact⟨y.os.trans h.bl.os,y.tape.trans h.bl.tape,y.output.trans h.bl.output,Nat.le_trans h.bl.size y.size,fun k z8=>(y.block k (Nat.lt_of_lt_of_le z8 h.bl.size) (fun z=>by rcases z with z|z;have:=(h.lo k z).1;omega;exact z)).trans (h.bl.block k z8)⟩
 ·refine⟨h.gd.st,h.gd.l1,h.gd.ca,h.gd.tb,by simp;omega,fun t' ht=>?_,h.gd.tg⟩
  rcases List.mem_append.1 ht with ht|ht
  ·exact h.gd.sz t' ht
  ·simp only[List.mem_singleton]at ht
   subst ht
   exact z3
 ·rintro k (hk|rfl)
  ·exact .inl hk
  ·rcases d with i|i
   ·exact .inl (h5 k i).1
   ·exact .inr (by omega)
theorem b0i(l:List Tw)(i:Nat)(q:Tw):a1m (l.set i q)=((a1m l).set (i*2) q.a).set (i*2+1) q.b:=by
 induction l generalizing i with
 | nil=>simp[a1m]
 | cons x xs ih =>
  cases i with
  | zero=>simp[a1m]
  | succ i =>
   have e:∀(y:Tw) (z:List Tw),a1m (y::z)=y.a::y.b::a1m z:=fun y z=>by simp[a1m]
   rw[List.set_cons_succ,e,ih,e,show(i+1)*2=i*2+1+1 by omega]
   simp only[List.set_cons_succ]
theorem c9z{q:Tw} : ∀(l:List Tw) (i:Nat),l[i]?=some q->(a1m l)[i*2]?=some q.a/\(a1m l)[i*2+1]?=some q.b
 | [],i,hi=>by simp at hi
 | x::xs,i,hi=>by
  have e:a1m (x::xs)=x.a::x.b::a1m xs:=by simp[a1m]
  rw[e]
  cases i with
  | zero=>simp at hi;subst hi;simp
  | succ i =>
   rw[show(i+1)*2=i*2+1+1 by omega]
   simp only[List.getElem?_cons_succ]at hi⊢
   exact c9z xs i hi
theorem a9f{j:Nat}(h:xs[j]?=some x)(i:Nat)(hi:i<3):(flat xs)[j*3+i]?=(trio x)[i]?:=by
 induction xs generalizing j with
 | nil=>simp at h
 | cons y xs ih =>
  cases j with
  | zero =>
   simp at h
   subst h
   simp only[flat,List.flatMap_cons]
   rw[List.getElem?_append_left (by simp;omega)]
   congr 1
   omega
  | succ j =>
   simp at h
   simp only[flat,List.flatMap_cons]
   rw[List.getElem?_append_right (by simp;omega)]
   have:=ih h
   rw[<- this]
   simp only[flat]
   congr 1
   simp
   omega
theorem b9x{W:World}{v:Value}(h:W.ownsRow base 52 3 v xs.length (flat xs)):Row W.heap.size W v xs:=by
 rcases h.2 with⟨rfl,h0⟩|⟨g,cap,p,rfl,_,u,hn,o,_,ht⟩
 ·have:xs=[]:=List.length_eq_zero_iff.1 h0
  subst this
  exact⟨none,0,rfl,by simp,fun h=>absurd rfl h⟩
 ·refine⟨some (Ad g 0),cap,rfl,by omega,fun _=>⟨g,0,rfl,(Array.getElem?_eq_some_iff.1 u).1,fun j x y=>?_⟩⟩
  have s:j<xs.length:=(List.getElem?_eq_some_iff.1 y).1
  have z:∀i,i<3->W.cell? (Ad g (0+j*3+i))=(trio x)[i]?:=fun i q=>by
   rw[<- a9f y i q,<- ht]
   rw[List.getElem?_take_of_lt (by omega)]
   simp[World.cell?,u]
  exact⟨z 0 (by omega),z 1 (by omega),z 2 (by omega)⟩
theorem b4i{W:World}{D:Nat->Prop}{v:Value}(h:W.ownsRow base 52 3 v xs.length (flat xs))(hD:∀k,v.ownBlock=some k->D k/\¬O k):Rw W D O v xs:=by
 obtain⟨a,cap,e,q,s⟩:=b9x h
 refine⟨a,cap,e,q,fun y=>?_⟩
 obtain⟨b,z,u,o,p⟩:=s y
 obtain⟨m,n⟩:=hD b (by rw[e,u];rfl)
 exact⟨b,z,u,m,n,o,p⟩
structure d7k (e:En) (D:Nat->Prop) (r:Rn Tb) (W:World) (i:Nat) (t:Tb) (T:Nat) (a b:Value):Prop where
 ca:W.cell? (Ad T (i*2))=some a
 cb:W.cell? (Ad T (i*2+1))=some b
 fa:W.frozen? (Ad T (i*2))=false
 fb:W.frozen? (Ad T (i*2+1))=false
 ld:∃tc,W.cell? (Ad e.R 12)=some (.slice (some (Ad T 0)) r.tb.length tc)
 ra:Row W.heap.size W a t.ks
 rb:Row W.heap.size W b t.vs
 dT:D T
 rt:∀(V:World) (t':Tb) (a' b':Value),Bw W V->Own2 W.heap.size V a' b' t'.ks t'.vs->TG r.tb.length e.u.kids.length t'->∃D',Rq e D' { r with tb:=r.tb.set i t' } ((V.setCell (Ad T (i*2)) a').setCell (Ad T (i*2+1)) b')/\CK (fun _=>False) D W D' ((V.setCell (Ad T (i*2)) a').setCell (Ad T (i*2+1)) b')
theorem Rq.tabAt(h:Rq e D r W){t:Tb}(ht:r.tb[i]?=some t):∃T a b,d7k e D r W i t T a b:=by
 obtain⟨ta,f,ua,uc,tw,h1,h2,h3,h4,h5,h6,h7⟩:=h.mem
 have y6:i<r.tb.length:=(List.getElem?_eq_some_iff.1 ht).1
 obtain⟨T,cap,p,ev,z7,hT,z2,z5,z0,z6⟩:∃T cap p,(Value.slice ta r.tb.length f)=.slice (some (Ad T 0)) r.tb.length cap/\e.w1.heap.size<=T/\W.heap[T]?=some (.cells p 143 (0,0))/\r.tb.length<=cap/\cap<=maxLen/\p.size=cap*2/\p.toList.take (r.tb.length*2)=a1m tw:=by
  rcases h2.2 with⟨_,h0⟩|⟨g,cap,p,e1,e2,e3,e4,e5,e6,e7⟩
  ·omega
  ·exact⟨g,cap,p,e1,e2,e3,e4,e5,e6,e7⟩
 cases ev
 rw[<- h6,List.getElem?_map]at ht
 obtain⟨q,hq,rfl⟩:=Option.map_eq_some_iff.1 ht
 obtain⟨k1,k2⟩:=c9z _ _ hq
 have hm:=List.mem_of_getElem? hq
 have z8:∀j v,(a1m tw)[j]?=some v->Ce W T j v:=fun j v hv=>by
  have hj:j<r.tb.length*2:=by
   have:=(List.getElem?_eq_some_iff.1 hv).1
   rw[h2.1]at this
   exact this
  rw[<- z6,List.getElem?_take_of_lt hj]at hv
  exact cell_block hT (by simpa using hv)
 obtain⟨dT,y7⟩:=h4 T rfl
 refine⟨T,q.a,q.b,z8 _ _ k1,z8 _ _ k2,frozen_block hT,frozen_block hT,⟨f,cell_block h1 rfl⟩,(h7 q hm).1.row,(h7 q hm).2.row,dT,fun V t' o b' u ho z1=>?_⟩
 have hV:=h.below u
 have z4:a0b (fun k=>k=T) V ((V.setCell (Ad T (i*2)) o).setCell (Ad T (i*2+1)) b'):=(a1e _ _ _ _).trans (a1e _ _ _ _)
 have d:∀c,c<V.heap.size->c≠T->((V.setCell (Ad T (i*2)) o).setCell (Ad T (i*2+1)) b').heap[c]?=V.heap[c]?:=fun c hc hn=>z4.block c hc hn
 have s:∀c,D c->c≠T->((V.setCell (Ad T (i*2)) o).setCell (Ad T (i*2+1)) b').heap[c]?=W.heap[c]?:=fun c hc hn=>(d c (Nat.lt_of_lt_of_le (h.lo c hc).2 u.size) hn).trans (u.block c (h.lo c hc).2)
 have y9:=(u.block T (block_lt hT)).trans hT
 have m:∀k,(o.ownBlock=some k\/b'.ownBlock=some k)->W.heap.size<=k/\k<V.heap.size:=fun k hk=>by
  rcases hk with hk|hk
  ·exact⟨(own_ge ho.k hk).1,(own_ge ho.k hk).2.1⟩
  ·exact⟨(own_ge ho.v hk).1,(own_ge ho.v hk).2.1⟩
 have z9:∀k,D k->k<W.heap.size:=fun k hk=>(h.lo k hk).2
 have y8:∀k,Ow e.R (.slice (some (Ad T 0)) r.tb.length f) (.slice ua r.out.length uc) k->D k:=fun k hk=>by
  rcases hk with rfl|hk|hk
  ·exact h.dr
  ·exact(h4 k hk).1
  ·exact(h5 k hk).1
 have y:a0b (fun q=>D q\/False) W ((V.setCell (Ad T (i*2)) o).setCell (Ad T (i*2+1)) b'):=(a0b.of_below u).then z4 (fun j _ n=>.inl (n▸dT))
 refine⟨fun k=>D k\/o.ownBlock=some k\/b'.ownBlock=some k,⟨⟨some (Ad T 0),f,ua,uc,tw.set i ⟨t',o,b'⟩,?_,?_,?_,?_,?_,?_,?_⟩,.inl h.dr,?_,?_,?_⟩,⟨y,?_⟩⟩
 ·simp only[List.length_set]
  exact(s _ h.dr y7.symm).trans h1
 ·simp only[List.length_set]
  refine⟨?_,.inr ⟨T,f,_,rfl,z7,set_block _ (set_block _ y9),z2,z5,by simpa using z0,?_⟩⟩
  ·rw[b0i,List.length_set,List.length_set];exact h2.1
  ·rw[b0i,Array.toList_setIfInBounds,Array.toList_setIfInBounds,List.take_set,List.take_set,z6]
 ·exact a2r h3 fun b u=>s b (h5 b u).1 (fun n=>(h5 b u).2.2 (by rw[n];rfl))
 ·simp only[List.length_set]
  exact fun b u=>⟨.inl (h4 b u).1,(h4 b u).2⟩
 ·simp only[List.length_set]
  exact fun b u=>⟨.inl (h5 b u).1,(h5 b u).2⟩
 ·show(tw.set i ⟨t',o,b'⟩).map Tw.t=r.tb.set i t'
  rw[List.map_set,h6]
 ·simp only[List.length_set]
  intro z hz
  rcases List.mem_or_eq_of_mem_set hz with hz|rfl
  ·have key:∀{sv:Value} {xs:List Vl},Rw W D (Ow e.R (.slice (some (Ad T 0)) r.tb.length f) (.slice ua r.out.length uc)) sv xs->Rw ((V.setCell (Ad T (i*2)) o).setCell (Ad T (i*2+1)) b') (fun k=>D k\/o.ownBlock=some k\/b'.ownBlock=some k) (Ow e.R (.slice (some (Ad T 0)) r.tb.length f) (.slice ua r.out.length uc)) sv xs:=fun hr =>
    hr.re fun k hk hn _=>⟨.inl hk,hn,s k hk (fun n=>hn (.inr (.inl (by rw[n];rfl))))⟩
   exact⟨key (h7 z hz).1,key (h7 z hz).2⟩
  ·have key:∀{sv:Value} {xs:List Vl},(∀k,sv.ownBlock=some k->o.ownBlock=some k\/b'.ownBlock=some k)->V.ownsRow W.heap.size 52 3 sv xs.length (flat xs)->Rw ((V.setCell (Ad T (i*2)) o).setCell (Ad T (i*2+1)) b') (fun k=>D k\/o.ownBlock=some k\/b'.ownBlock=some k) (Ow e.R (.slice (some (Ad T 0)) r.tb.length f) (.slice ua r.out.length uc)) sv xs:=fun hs hr=>by
    have hn:∀k,(Value.ownBlock _=some k)->W.heap.size<=k/\k<V.heap.size:=fun k hk=>m k (hs k hk)
    refine b4i (a2r hr fun b u=>d b (hn b u).2 (fun n=>?_)) (fun k hk=>⟨.inr (hs k hk),fun ho=>?_⟩)
    ·have:=(hn b u).1;have:=z9 T dT;omega
    ·have:=(hn k hk).1;have:=z9 k (y8 k ho);omega
   exact⟨key (fun k hk=>.inl hk) ho.k,key (fun k hk=>.inr hk) ho.v⟩
 ·rintro k (hk|hk)
  ·exact⟨(h.lo k hk).1,Nat.lt_of_lt_of_le (h.lo k hk).2 y.size⟩
  ·have:=m k hk
   exact⟨Nat.le_trans h.bl.size this.1,by simpa using this.2⟩
 ·exact⟨y.os.trans h.bl.os,y.tape.trans h.bl.tape,y.output.trans h.bl.output,Nat.le_trans h.bl.size y.size,fun k z3=>(y.block k (Nat.lt_of_lt_of_le z3 h.bl.size) (fun n=>by rcases n with n|n;have:=(h.lo k n).1;omega;exact n)).trans (h.bl.block k z3)⟩
 ·refine⟨h.gd.st,h.gd.l1,h.gd.ca,by simpa using h.gd.tb,h.gd.ou,h.gd.sz,fun x hx=>?_⟩
  simp only[List.length_set]
  rcases List.mem_or_eq_of_mem_set hx with hx|rfl
  ·exact h.gd.tg x hx
  ·exact z1
 ·rintro k (hk|hk)
  ·exact .inl hk
  ·exact .inr (m k hk).1
end
end
end Go.Proofs.YtfbpdbndejefdaaGreatDoor.V
