/- A step leaves a state that may be. -/
import Derived.Test.YthljpnmhddfblaaGreatDoorS25
import Derived.Test.YthljpnmhddfblaaGreatDoorS23
namespace Go.Proofs.YthljpnmhddfblaaGreatDoor
open Go Go.RowKit
set_option maxRecDepth 100000
set_option maxHeartbeats 8000000
set_option linter.all false
section
variable [DecidableEq Vl]
structure Keeps (S:Nat->Prop) (W W':World):Prop where
 os:W'.os=W.os
 tape:W'.tape=W.tape
 output:W'.output=W.output
 size:W.heap.size<=W'.heap.size
 block:∀k,k<W.heap.size->¬S k->W'.heap[k]?=W.heap[k]?
theorem Keeps.refl(S:Nat->Prop)(W:World):Keeps S W W:=⟨rfl,rfl,rfl,Nat.le_refl _,fun _ _ _=>rfl⟩
theorem Keeps.trans{S:Nat->Prop}{a b c:World}(h:Keeps S a b)(k:Keeps S b c):Keeps S a c :=
 ⟨k.os.trans h.os,k.tape.trans h.tape,k.output.trans h.output,Nat.le_trans h.size k.size,fun i hi hs=>(k.block i (Nat.lt_of_lt_of_le hi h.size) hs).trans (h.block i hi hs)⟩
theorem Keeps.mono{S S':Nat->Prop}{a b:World}(h:Keeps S a b)(hs:∀k,k<a.heap.size->S k->S' k):Keeps S' a b:=⟨h.os,h.tape,h.output,h.size,fun k hk hn=>h.block k hk fun c=>hn (hs k hk c)⟩
theorem Keeps.then{S S':Nat->Prop}{a b c:World}(h:Keeps S a b)(k:Keeps S' b c)(hs:∀j,j<a.heap.size->S' j->S j):Keeps S a c :=
 ⟨k.os.trans h.os,k.tape.trans h.tape,k.output.trans h.output,Nat.le_trans h.size k.size,fun i hi hn=>(k.block i (Nat.lt_of_lt_of_le hi h.size) fun q=>hn (hs i hi q)).trans (h.block i hi hn)⟩
theorem Keeps.of_below{S:Nat->Prop}{a b:World}(h:Below a.heap.size a b):Keeps S a b:=⟨h.os,h.tape,h.output,h.size,fun k hk _=>h.block k hk⟩
theorem Keeps.grown{a b:World}{row:Option Nat}(h:a.grownBy b row):Keeps (fun k=>some k=row) a b:=⟨h.os,h.tape,h.output,h.size,fun k hk hn=>h.block k hk hn⟩
theorem Keeps.drew{S:Nat->Prop}{a b:World}(h:Keeps S a b):Keeps S a b.drew:=h.trans (Keeps.of_below ((Below.refl _ _).drew))
theorem Keeps.set{S:Nat->Prop}{a b:World}(h:Keeps S a b)(B i:Nat)(v:Value)(hB:B<a.heap.size->S B):Keeps S a (b.setCell ⟨B,i,none⟩ v) :=
 h.then (Keeps.grown (Lib.grownBy_setCell b B i v)) (fun j hj e=>by cases e;exact hB hj)
theorem Keeps.below{S:Nat->Prop}{a b:World}{m:Nat}(h:Keeps S a b)(hm:m<=a.heap.size)(hs:∀k,k<m->¬S k):Below m a b:=⟨h.os,h.tape,h.output,h.size,fun k hk=>h.block k (by omega) (hs k hk)⟩
theorem Keeps.cell{S:Nat->Prop}{a b:World}(h:Keeps S a b){g o:Nat}{v:Value}(hc:a.cell? ⟨g,o,none⟩=some v)(hs:¬S g):b.cell? ⟨g,o,none⟩=some v :=
 (World.cell?_of_block (a:=⟨g,o,none⟩) (h.block g (World.block_lt_of_cell? _ _ hc) hs)).trans hc
theorem block_lt{W:World}{B:Nat}{o:Obj}(h:W.heap[B]?=some o):B<W.heap.size:=(Array.getElem?_eq_some_iff.1 h).1
structure MK (O:List Nat) (W:World) (O':List Nat) (W':World):Prop where
 k:Keeps (·∈O) W W'
 o:∀k∈O',k∈O\/W.heap.size<=k
theorem MK.trans{O O1 O2:List Nat}{W W1 W2:World}(h:MK O W O1 W1)(k:MK O1 W1 O2 W2):MK O W O2 W2:=by
 refine⟨h.k.then k.k (fun j hj h1=>?_),fun j hj=>?_⟩
 ·rcases h.o j h1 with h2|h2
  ·exact h2
  ·omega
 ·rcases k.o j hj with h2|h2
  ·exact h.o j h2
  ·exact .inr (Nat.le_trans h.k.size h2)
theorem MK.below{O:List Nat}{W W':World}(hb:Below W.heap.size W W'):MK O W O W':=⟨Keeps.of_below hb,fun _ h=>.inl h⟩
theorem MK.refl(O:List Nat)(W:World):MK O W O W:=⟨Keeps.refl _ _,fun _ h=>.inl h⟩
theorem MK.box{O O':List Nat}{W W':World}(h:MK O W O' W'){t:Nat}{o:Obj}(g:W.heap[t]?=some o)(hn:t∉O):W'.heap[t]?=some o/\t∉O':=by
 refine⟨(h.k.block t (block_lt g) hn).trans g,fun h1=>?_⟩
 rcases h.o t h1 with h2|h2
 ·exact hn h2
 ·have:=block_lt g
  omega
def OwnR (W:World) (g:Nat) (e:TypeId) (sz n cap:Nat) (xs:List Value):Prop :=
 xs.length=n*sz/\∃cur,W.heap[g]?=some (.cells cur e (0,0))/\n<=cap/\cap<=maxLen/\cur.size=cap*sz/\cur.toList.take (n*sz)=xs
theorem OwnR.owns{W:World}{g:Nat}{e:TypeId}{sz n cap base:Nat}{xs:List Value}(h:OwnR W g e sz n cap xs)(hb:base<=g):W.ownsRow base e sz (.slice (some ⟨g,0,none⟩) n cap) n xs:=by
 obtain⟨h1,cur,h2,h3,h4,h5,h6⟩:=h
 exact⟨h1,.inr ⟨g,cap,cur,rfl,hb,h2,h3,h4,h5,h6⟩⟩
theorem OwnR.of{W:World}{g:Nat}{e:TypeId}{sz n cap base:Nat}{xs:List Value}(h:W.ownsRow base e sz (.slice (some ⟨g,0,none⟩) n cap) n xs):OwnR W g e sz n cap xs/\base<=g:=by
 obtain⟨h1,h2⟩:=h
 rcases h2 with⟨e,_⟩|⟨g',cap',cur,e,hb,h2,h3,h4,h5,h6⟩
 ·cases e
 ·cases e;exact⟨⟨h1,cur,h2,h3,h4,h5,h6⟩,hb⟩
theorem OwnR.same{W W':World}{g:Nat}{e:TypeId}{sz n cap:Nat}{xs:List Value}(h:OwnR W g e sz n cap xs)(hs:W'.heap[g]?=W.heap[g]?):OwnR W' g e sz n cap xs:=by
 obtain⟨h1,cur,h2,hr⟩:=h
 exact⟨h1,cur,hs.trans h2,hr⟩
theorem OwnR.lt{W:World}{g:Nat}{e:TypeId}{sz n cap:Nat}{xs:List Value}(h:OwnR W g e sz n cap xs):g<W.heap.size:=by
 obtain⟨h1,cur,h2,hr⟩:=h
 exact block_lt h2
theorem OwnR.cell{W:World}{g:Nat}{e:TypeId}{sz n cap:Nat}{xs:List Value}(h:OwnR W g e sz n cap xs){j:Nat}{v:Value}(hv:xs[j]?=some v):W.cell? ⟨g,j,none⟩=some v/\W.frozen? ⟨g,j,none⟩=false:=by
 obtain⟨h1,cur,h2,h3,h4,h5,h6⟩:=h
 have hj:=(List.getElem?_eq_some_iff.1 hv).1
 rw[<- h6,List.getElem?_take_of_lt (by omega)]at hv
 have hc:cur[j]?=some v:=by simpa using hv
 exact⟨cell_block h2 hc,frozen_block h2⟩
theorem OwnR.set{W:World}{g:Nat}{e:TypeId}{sz n cap:Nat}{xs:List Value}(h:OwnR W g e sz n cap xs)(j:Nat)(v:Value):OwnR (W.setCell ⟨g,j,none⟩ v) g e sz n cap (xs.set j v):=by
 obtain⟨h1,cur,h2,h3,h4,h5,h6⟩:=h
 refine⟨by simpa using h1,_,set_block v h2,h3,h4,by simpa using h5,?_⟩
 rw[Array.toList_setIfInBounds,List.take_set,h6]
def Rw (W:World) (O:List Nat) (sv:Value) (xs:List Vl):Prop :=
 ∃(a:Option Addr) (cap:Nat),sv=.slice a xs.length cap/\xs.length<=maxLen /\
  (xs≠[]->∃b off,a=some ⟨b,off,none⟩/\b∉O/\b<W.heap.size/\∀j x,xs[j]?=some x->Three W b (off+j*3) x)
structure Fw where
 x:Frm
 g:Nat
 c:Nat
structure Tw where
 t:Tb
 a:Value
 b:Value
abbrev Fw.cells (q:Fw):List Value:=[.int .i64 q.x.f,.int .i64 q.x.pc,.int .i64 q.x.d,.slice (some ⟨q.g,0,none⟩) q.x.rs.length q.c]
def frCells (l:List Fw):List Value:=l.flatMap Fw.cells
def tbCells (l:List Tw):List Value:=l.flatMap fun q=>[q.a,q.b]
structure Mp where
 B:Nat
 F:Nat
 fc:Nat
 T:Nat
 tc:Nat
 U:Nat
 uc:Nat
 fw:List Fw
 tw:List Tw
 ap:List Nat
def Mp.own (p:Mp):List Nat:=p.B::p.F::p.T::p.U::p.fw.map Fw.g
abbrev mcb (fv:Value) (mn:Int) (p:Mp) (nf nt nu:Nat) (st en er k n:Int) (t:ByteArray):Obj :=
 .cells #[fv,.int .i64 mn,.slice (some ⟨p.F,0,none⟩) nf p.fc,.slice (some ⟨p.T,0,none⟩) nt p.tc,.slice (some ⟨p.U,0,none⟩) nu p.uc,.int .i64 st,.int .i64 en,.int .i64 er,.int .i64 k,.int .i64 n,.string t] 64
structure Mc (w0:World) (p:Mp) (fv:Value) (mn:Int) (s:St) (W:World):Prop where
 box:W.heap[p.B]?=some (mcb fv mn p s.fr.length s.tb.length s.out.length s.st s.en s.er s.la.k s.la.n s.la.s)
 fo:OwnR W p.F 66 4 s.fr.length p.fc (frCells p.fw)
 to:OwnR W p.T 79 2 s.tb.length p.tc (tbCells p.tw)
 uo:OwnR W p.U 9 1 s.out.length p.uc (s.out.map Value.string)
 rg:∀q∈p.fw,OwnR W q.g 25 3 q.x.rs.length q.c (flat q.x.rs)
 hf:p.fw.map Fw.x=s.fr
 ht:p.tw.map Tw.t=s.tb
 tr:∀q∈p.tw,Rw W (p.own++p.ap) q.a q.t.ks/\Rw W (p.own++p.ap) q.b q.t.vs
 al:∀k∈p.ap,k<W.heap.size/\k∉p.own
 nd:p.own.Nodup
 lo:∀k∈p.own,w0.heap.size<=k
 bl:Below w0.heap.size w0 W
theorem below_keep{O:List Nat}{w0 V W':World}(hb:Below w0.heap.size w0 V)(hk:Keeps (·∈O) V W')(hO:∀k∈O,w0.heap.size<=k):Below w0.heap.size w0 W' :=
 ⟨hk.os.trans hb.os,hk.tape.trans hb.tape,hk.output.trans hb.output,Nat.le_trans hb.size hk.size,fun k hk'=>(hk.block k (Nat.lt_of_lt_of_le hk' hb.size) (fun h=>by have:=hO k h;omega)).trans (hb.block k hk')⟩
theorem MK.set{O:List Nat}{W:World}{g i:Nat}{v:Value}(hg:g∈O):MK O W O (W.setCell ⟨g,i,none⟩ v):=⟨(Keeps.refl _ _).set g i v (fun _=>hg),fun _ h=>.inl h⟩
section
variable {w0:World} {p:Mp} {fv:Value} {mn:Int} {s:St} {W:World}
theorem frCells_append(l m:List Fw):frCells (l++m)=frCells l++frCells m:=by simp[frCells]
theorem tbCells_append(l m:List Tw):tbCells (l++m)=tbCells l++tbCells m:=by simp[tbCells]
theorem flat_set(xs:List Vl)(i:Nat)(v:Vl):flat (xs.set i v)=(((flat xs).set (i*3) (.int .i64 v.k)).set (i*3+1) (.int .i64 v.n)).set (i*3+2) (.string v.s):=by
 induction xs generalizing i with
 | nil=>simp[flat]
 | cons x xs ih =>
  cases i with
  | zero=>simp[flat]
  | succ i =>
   have e:∀y:Vl,flat (y::xs)=.int .i64 y.k :: .int .i64 y.n :: .string y.s::flat xs:=fun y=>by simp[flat]
   have e':∀(y:Vl) (zs:List Vl),flat (y::zs)=.int .i64 y.k :: .int .i64 y.n :: .string y.s::flat zs:=fun y zs=>by simp[flat]
   rw[List.set_cons_succ,e',ih,e,show(i+1)*3=i*3+1+1+1 by omega]
   simp only[List.set_cons_succ]
end
section
variable {w0:World} {p:Mp} {fv:Value} {mn:Int} {s:St} {W:World}
end
abbrev pan (v:Value):List PanicEntry:=[{ v:=v,recovered:=false }]
abbrev flr (c:Int):Value:=.iface 124 (.agg #[.int .i64 c])
theorem need_ok(W:World):Calls Tryz.prog 91 #[.int .i64 0] W fun e W'=>e=.returned (.tuple #[])/\W'=W:=by
 go_enter Tryz.func91,Tryz.ntmps91
 go_wp2
 go_end0
 exact⟨rfl,rfl⟩
section
variable {w0:World} {p:Mp} {fv:Value} {mn:Int} {s:St} {W:World}
theorem top_cell(B F fc k:Nat)(W:World)(c2:W.cell? ⟨B,2,none⟩=some (.slice (some ⟨F,0,none⟩) (k+1) fc))(hk:k<=1000) :
  Calls Tryz.prog 39 #[.pointer (some ⟨B,0,none⟩)] W fun e W'=>e=.returned (.pointer (some ⟨F,k*4,none⟩))/\∃n,W'=W.drewN n:=by
 go_enter Tryz.func39,Tryz.ntmps39
 go_wp2
 go_quiet ((fail))
 go_wp2
 go_ret
 exact⟨rfl,_,rfl⟩
end
def VQ (W:World) (R:Int⊕Vl) (e:Ending) (W':World):Prop :=
 Below W.heap.size W W'/\match R with
 | .inl c=>e=.panicked (pan (flr c))
 | .inr v=>e=.returned v.v
theorem res104{tm:Array Value}{W:World}{B:Nat}{x:Vl}(h:tm[8]?.getD undef=.pointer (some ⟨B,0,none⟩))(hx:W.heap[B]?=some (bx x)):(results Tryz.f80 tm).run Tryz.prog W=.ok x.v W:=by
 obtain⟨c0,c1,c2,_,_,_⟩:=in3 hx
 simp[results,Tryz.results80,go_sem,h,c0,c1,c2]
theorem new3(W:World)(a b c:Obj):(((W.alloc a).alloc b).alloc c).heap[W.heap.size+1+1]?=some c:=by
 have:=heap_new ((W.alloc a).alloc b) c
 simpa using this
theorem mop_ok(pt:Value)(op:Int)(x y r:Vl)(W:World)(hc:∀w,Below W.heap.size W w->Calls Tryz.prog 98 #[.int .i64 op,x.v,y.v] w fun e w'=>e=.returned (.tuple #[r.v,.int .i64 0])/\Below w.heap.size w w') :
  Calls Tryz.prog 80 #[pt,.int .i64 op,x.v,y.v] W (VQ W (.inr r)):=by
 have E0:=below3 W (bx x) (bx y) (bx nilV)
 have g0:=new3 W (bx x) (bx y) (bx nilV)
 go_enter Tryz.func80,Tryz.ntmps80
 go_wp2_with (go_at_call 98;refine(hc _ E0).mono ?_;rintro e w2 ⟨rfl,hb2⟩;have g2:=block_below hb2 g0;obtain⟨c0,c1,c2,f0,f1,f2⟩:=in3 g2;refine Hid.out ?_)
 refine Lib.hid ?_
 have hz:W.heap.size+1+1<w2.heap.size:=block_lt g2
 have E2:=ext_trans E0 hb2
 go_wp2_with (go_at_call 91;refine(need_ok _).mono ?_;rintro e w' ⟨rfl,rfl⟩)
 exact bodyPost_ret (res104 (B:=W.heap.size+1+1) rfl (block_alloc _ (put3_same r g2))) rfl ⟨ext_alloc (put3_below r E2 (by omega)) _,rfl⟩
section
variable {w0:World} {p:Mp} {fv:Value} {mn:Int} {s:St} {W:World}
theorem res54{tm:Array Value}{W:World}{B:Nat}{x:Od}(h:tm[2]?.getD undef=.pointer (some ⟨B,0,none⟩))(hx:W.heap[B]?=some (.cells #[.int .i64 x.op,.int .i64 x.a,.int .i64 x.b,.int .i64 x.c] 32)):(results Tryz.f32 tm).run Tryz.prog W=.ok x.v W:=by
 have d0:W.cell? ⟨B,0,none⟩=some (.int .i64 x.op):=cell_block hx rfl
 have d1:W.cell? ⟨B,1,none⟩=some (.int .i64 x.a):=cell_block hx rfl
 have d2:W.cell? ⟨B,2,none⟩=some (.int .i64 x.b):=cell_block hx rfl
 have d3:W.cell? ⟨B,3,none⟩=some (.int .i64 x.c):=cell_block hx rfl
 simp[results,Tryz.results32,go_sem,h,d0,d1,d2,d3]
theorem order_cells(B F fc k:Nat)(b off cf:Nat)(nf:Nat)(fn pc:Nat)(ib ioff il ic:Nat)(o:Od)(W:World)
  (c0:W.cell? ⟨B,0,none⟩=some (.slice (some ⟨b,off,none⟩) nf cf)) (c2:W.cell? ⟨B,2,none⟩=some (.slice (some ⟨F,0,none⟩) (k+1) fc)) (hk:k<=1000)
  (d0:W.cell? ⟨F,k*4,none⟩=some (.int .i64 fn)) (d1:W.cell? ⟨F,k*4+1,none⟩=some (.int .i64 pc)) (hfn:fn<nf) (hpc:pc<il)
  (e3:W.cell? ⟨b,off+fn*4+3,none⟩=some (.slice (some ⟨ib,ioff,none⟩) il ic)) (hi:Four W ib (ioff+pc*4) o) :
  Calls Tryz.prog 32 #[.pointer (some ⟨B,0,none⟩)] W fun e W'=>e=.returned o.v/\Below W.heap.size W W':=by
 have hB:=World.block_lt_of_cell? _ _ c0
 have hF:=World.block_lt_of_cell? _ _ d0
 have hb:=World.block_lt_of_cell? _ _ e3
 obtain⟨i0,i1,i2,i3⟩:=hi
 have hib:=World.block_lt_of_cell? _ _ i0
 simp only at hB hF hb hib
 have c2':(W.alloc (.cells #[.int .i64 0,.int .i64 0,.int .i64 0,.int .i64 0] 32)).cell? ⟨B,2,none⟩=some (.slice (some ⟨F,0,none⟩) (k+1) fc):=(World.cell?_alloc_past _ _ _ hB).trans c2
 have ht:=top_cell B F fc k _ c2' hk
 go_enter Tryz.func32,Tryz.ntmps32
 go_wp2_with (go_at_call 39;refine ht.mono ?_;rintro e w1 ⟨rfl,n,rfl⟩)
 go_region
 all_goals
  go_wp2
  refine bodyPost_ret (res54 (B:=W.heap.size) (x:=o) rfl ?_) rfl ⟨rfl,?_⟩
  ·exact set_block _ (set_block _ (set_block _ (set_block (W:=(W.alloc _).drewN (n+1)) _ (heap_new W _))))
  ·exact((((drewN_below (n:=n+1) (ext_alloc (Below.refl W.heap.size W) _)).setCell (p:=⟨W.heap.size,0,none⟩) (Nat.le_refl _) _).setCell (p:=⟨W.heap.size,1,none⟩) (Nat.le_refl _) _).setCell (p:=⟨W.heap.size,2,none⟩) (Nat.le_refl _) _).setCell (p:=⟨W.heap.size,3,none⟩) (Nat.le_refl _) _
end
abbrev putg (W:World) (g a:Nat) (v:Vl):World:=((W.setCell ⟨g,a*3,none⟩ (.int .i64 v.k)).setCell ⟨g,a*3+1,none⟩ (.int .i64 v.n)).setCell ⟨g,a*3+2,none⟩ (.string v.s)
structure RegAt (W:World) (g a:Nat) (v:Vl):Prop where
 t:Three W g (a*3) v
 f0:W.frozen? ⟨g,a*3,none⟩=false
 f1:W.frozen? ⟨g,a*3+1,none⟩=false
 f2:W.frozen? ⟨g,a*3+2,none⟩=false
theorem RegAt.on{W W':World}{g a:Nat}{v:Vl}(h:RegAt W g a v)(hb:Below W.heap.size W W'):RegAt W' g a v:=by
 have hg:=World.block_lt_of_cell? _ _ h.t.k
 exact⟨h.t.below hb hg,(hb.frozen (p:=⟨g,a*3,none⟩) hg).trans h.f0,(hb.frozen (p:=⟨g,a*3+1,none⟩) hg).trans h.f1,(hb.frozen (p:=⟨g,a*3+2,none⟩) hg).trans h.f2⟩
structure VT (W:World) (R:Int⊕Vl) (e:Ending) (W':World):Prop where
 b:Below W.heap.size W W'
 w:(∃c,R=.inl c/\e=.panicked (pan (flr c)))\/(∃r,R=.inr r/\e=.returned r.v)
theorem VQ.two{W W':World}{R:Int⊕Vl}{e:Ending}(h:VQ W R e W'):VT W R e W':=by
 obtain⟨h1,h2⟩:=h
 cases R with
 | inl c=>exact⟨h1,.inl ⟨c,rfl,h2⟩⟩
 | inr r=>exact⟨h1,.inr ⟨r,rfl,h2⟩⟩
def PQ (W:World) (g a:Nat) (R:Int⊕Vl) (e:Ending) (W':World):Prop :=
 (∃c,R=.inl c/\e=.panicked (pan (flr c))/\Below W.heap.size W W')\/(∃r,R=.inr r/\e=.returned (.tuple #[])/\∃V,Below W.heap.size W V/\W'=putg V g a r)
end
end Go.Proofs.YthljpnmhddfblaaGreatDoor
