import Derived.Test.YtomniogfpfbolaaGreatDoorS13
import Derived.Deep.RegionWith
namespace Go.Proofs.YtomniogfpfbolaaGreatDoor.V
open Go.RowKit Go
set_option maxRecDepth 100000
set_option maxHeartbeats 8000000
set_option linter.all false
variable {W B W' A:World} {i o n₀ b m:Nat} {c:Array Value} {t:TypeId} {v:Value} {a:Option Addr} {xs:List Vl} {f:Fd}
theorem a1e{B:Nat}{z:Nat×Nat}(h:W.heap[B]?=some (.cells c t z))(hv:c[i]?=some v):W.cell? (Ad B i)=some v:=by
 simp[World.cell?,h,hv]
theorem a9d(w:World)(o:Obj):(w.alloc o).heap[w.heap.size]?=some o:=by
 show(w.heap.push o)[w.heap.size]?=some o
 simp
theorem q0z{B:Nat}{o:Obj}(hb:Bw W W')(h:W.heap[B]?=some o):W'.heap[B]?=some o:=(hb.block B (Array.getElem?_eq_some_iff.1 h).1).trans h
def a1r (f:Fd) (x:Od) (i:Nat):Bool :=
 match a4b x.op with
 | none=>false
 | some l =>
  if l=[109,109] then (belB x.a f.r)&&(belB x.b f.r)&&(x.c == 0)
  else if l=[109,110] then (belB x.a f.r)&&(belB x.b f.cs.length)&&(x.c == 0)
  else if l=[109] then (belB x.a f.r)&&(x.b == 0)&&(x.c == 0)
  else if l=[109,109,109] then (belB x.a f.r)&&(belB x.b f.r)&&(belB x.c f.r)
  else if l=[111] then (belB x.a f.is.length)&&(x.b == 0)&&(x.c == 0)
  else if l=[109,111] then (belB x.a f.r)&&(belB x.b f.is.length)&&(x.c == 0)
  else if l=[112] then (frB 0 x.a i)&&(x.b == 0)&&(x.c == 0)
  else if l=[109,109,113] then (belB x.a f.r)&&(belB x.b f.r)&&(argB f x x.c)
  else false
theorem b3l{n:Int}(h1:-9223372036854775808<=n)(h2:n<=9223372036854775807):wrap64 n=n:=by
 unfold wrap64
 omega
structure Four (W:World) (b o:Nat) (x:Od):Prop where
 op:W.cell? (Ad b o)=some (vi x.op)
 a:W.cell? (Ad b (o+1))=some (vi x.a)
 bb:W.cell? (Ad b (o+2))=some (vi x.b)
 c:W.cell? (Ad b (o+3))=some (vi x.c)
theorem Four.below(h:Below n₀ A B){x:Od}(hb:b<n₀)(t:Four A b o x):Four B b o x :=
 ⟨(h.cell (p:=(Ad b o)) hb).trans t.op,(h.cell (p:=(Ad b (o+1))) hb).trans t.a,(h.cell (p:=(Ad b (o+2))) hb).trans t.bb,(h.cell (p:=(Ad b (o+3))) hb).trans t.c⟩
def RowV (n₀:Nat) (W:World) (a:Option Addr) (xs:List Vl):Prop :=
 xs.length<=maxLen/\(xs≠[]->∃b off,a=some (Ad b off)/\b<n₀/\∀j x,xs[j]?=some x->b8o W b (off+j*3) x)
def RowI (n₀:Nat) (W:World) (a:Option Addr) (xs:List Od):Prop :=
 xs.length<=maxLen/\(xs≠[]->∃b off,a=some (Ad b off)/\b<n₀/\∀j x,xs[j]?=some x->Four W b (off+j*4) x)
theorem RowV.below(h:Below n₀ A B)(r:RowV n₀ A a xs):RowV n₀ B a xs:=by
 refine⟨r.1,fun y=>?_⟩
 obtain⟨b,z,t,w,u⟩:=r.2 y
 exact⟨b,z,t,w,fun j x v=>(u j x v).below h w⟩
theorem RowI.below(h:Below n₀ A B){xs:List Od}(r:RowI n₀ A a xs):RowI n₀ B a xs:=by
 refine⟨r.1,fun y=>?_⟩
 obtain⟨b,z,t,w,u⟩:=r.2 y
 exact⟨b,z,t,w,fun j x v=>(u j x v).below h w⟩
theorem RowV.mono(hm:n₀<=m)(r:RowV n₀ A a xs):RowV m A a xs:=by
 refine⟨r.1,fun y=>?_⟩
 obtain⟨b,z,w,v,x⟩:=r.2 y
 exact⟨b,z,w,by omega,x⟩
theorem RowI.mono(hm:n₀<=m){xs:List Od}(r:RowI n₀ A a xs):RowI m A a xs:=by
 refine⟨r.1,fun y=>?_⟩
 obtain⟨b,z,w,v,x⟩:=r.2 y
 exact⟨b,z,w,by omega,x⟩
theorem c9w{wr w3:World}(hb:Below (wr.alloc (.cells c t)).heap.size (wr.alloc (.cells c t)) w3)(h:c[i]?=some v):w3.cell? (Ad wr.heap.size i)=some v :=
 (hb.cell (p:=(Ad wr.heap.size i)) (by simp)).trans (a1e (a9d _ _) h)
def a3y (nf:Int) (x:Vl):Bool:=mayB x.k x.n x.s && !(x.k == 4) && !(x.k == 5&&decide (nf<=x.n))
def a5z {α:Type} (p:Nat->α->Bool) (xs:List α) (m:Nat):Prop:=∀j x,j<m->xs[j]?=some x->p j x=true
def allB {α:Type} (p:Nat->α->Bool) (xs:List α):Bool:=(List.range xs.length).all fun j=>match xs[j]? with|some x=>p j x|none=>true
theorem a5h{α:Type}{p:Nat->α->Bool}{xs:List α}(h:a5z p xs xs.length):allB p xs=true:=by
 unfold allB
 rw[List.all_eq_true]
 intro j z
 cases e:xs[j]? with
 | none=>rfl
 | some x=>exact h j x (List.mem_range.1 z) e
theorem a8m{α:Type}{p:Nat->α->Bool}{xs:List α}{j:Nat}{x:α}(hx:xs[j]?=some x)(h:p j x=false):allB p xs=false:=by
 cases e:allB p xs
 ·rfl
 ·unfold allB at e
  rw[List.all_eq_true]at e
  have:=e j (List.mem_range.2 (List.getElem?_eq_some_iff.1 hx).1)
  simp only[hx]at this
  rw[h]at this
  cases this
theorem a5z.zero{α:Type}{p:Nat->α->Bool}{xs:List α} : a5z p xs 0:=fun _ _ h=>by omega
theorem a5z.next{α:Type}{p:Nat->α->Bool}{xs:List α}{x:α}(hx:xs[m]?=some x)(hp:p m x=true)(h:a5z p xs m):a5z p xs (m+1):=fun j y v z=>by
 rcases Nat.lt_or_ge j m with w|w
 ·exact h j y w z
 ·obtain rfl:j=m:=by omega
  rw[hx]at z
  cases z
  exact hp
def a7w (f:Fd):Bool:=frB 0 f.p 5&&frB (max 1 f.p) f.r 250&&decide ((f.cs.length:Int)<=700)&&frB 1 f.is.length 3000
def b3m (x:Od):Bool:=x.op == 12||x.op == 8||x.op == 10
def b0u (f:Fd):Bool:=allB (fun i x=>a1r f x i) f.is&&(match f.is[f.is.length-1]? with|some x=>b3m x|none=>false)
structure FAt (W:World) (b o:Nat) (f:Fd):Prop where
 p:W.cell? (Ad b o)=some (vi f.p)
 r:W.cell? (Ad b (o+1))=some (vi f.r)
 c:W.cell? (Ad b (o+2))=some (.slice f.ca f.cs.length f.cc)
 i:W.cell? (Ad b (o+3))=some (.slice f.ia f.is.length f.ic)
theorem FAt.below(h:Below n₀ A B){x:Fd}(hb:b<n₀)(t:FAt A b o x):FAt B b o x :=
 ⟨(h.cell (p:=(Ad b o)) hb).trans t.p,(h.cell (p:=(Ad b (o+1))) hb).trans t.r,(h.cell (p:=(Ad b (o+2))) hb).trans t.c,(h.cell (p:=(Ad b (o+3))) hb).trans t.i⟩
def FdIn (n₀:Nat) (W:World) (f:Fd):Prop:=RowV n₀ W f.ca f.cs/\RowI n₀ W f.ia f.is
theorem FdIn.below(h:Below n₀ A B)(t:FdIn n₀ A f):FdIn n₀ B f:=⟨t.1.below h,t.2.below h⟩
theorem FdIn.mono(hm:n₀<=m)(t:FdIn n₀ A f):FdIn m A f:=⟨t.1.mono hm,t.2.mono hm⟩
theorem FdIn.at{w:World}(h:Bw w W)(t:FdIn w.heap.size w f):FdIn W.heap.size W f:=(t.below h).mono h.size
def RowF (n₀:Nat) (W:World) (a:Option Addr) (fs:List Fd):Prop :=
 fs.length<=maxLen/\(fs≠[]->∃b off,a=some (Ad b off)/\b<n₀/\∀j f,fs[j]?=some f->FAt W b (off+j*4) f/\FdIn n₀ W f)
theorem RowF.below(h:Below n₀ A B){xs:List Fd}(r:RowF n₀ A a xs):RowF n₀ B a xs:=by
 refine⟨r.1,fun y=>?_⟩
 obtain⟨b,z,t,u,v⟩:=r.2 y
 exact⟨b,z,t,u,fun j x w=>⟨(v j x w).1.below h u,(v j x w).2.below h⟩⟩
theorem RowF.mono(hm:n₀<=m){xs:List Fd}(r:RowF n₀ A a xs):RowF m A a xs:=by
 refine⟨r.1,fun y=>?_⟩
 obtain⟨b,z,u,t,v⟩:=r.2 y
 exact⟨b,z,u,by omega,fun j x w=>⟨(v j x w).1,(v j x w).2.mono hm⟩⟩
def fnB (nf:Int) (f:Fd):Bool:=a7w f&&allB (fun _=>a3y nf) f.cs&&b0u f
def b7k (fs:List Fd) (main:Int):Bool:=match fs[main.toNat]? with|some f=>f.p == 0|none=>false
def a9x (fs:List Fd) (main:Int):Bool :=
 decide (1<=fs.length)&&decide (fs.length<=12)&&belB main fs.length&&b7k fs main&&allB (fun _=>fnB fs.length) fs
theorem cellB(hb:Bw W W')(h:W.cell? (Ad b i)=some v):W'.cell? (Ad b i)=some v :=
 (hb.cell (p:=(Ad b i)) (World.block_lt_of_cell? _ _ h)).trans h
abbrev PV (a:Option Addr) (n c:Nat) (main:Int):Value:=.agg #[.slice a n c,vi main]
end Go.Proofs.YtomniogfpfbolaaGreatDoor.V
