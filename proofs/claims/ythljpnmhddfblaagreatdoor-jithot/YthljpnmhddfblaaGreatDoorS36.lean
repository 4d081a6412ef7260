/- Plain orders that change more than a register: a table is set, a text is told, a table is made; a constant. -/
import Derived.Test.YthljpnmhddfblaaGreatDoorS30
import Derived.Test.YthljpnmhddfblaaGreatDoorS34
namespace Go.Proofs.YthljpnmhddfblaaGreatDoor
open Go.RowKit Go
set_option maxRecDepth 100000
set_option maxHeartbeats 8000000
set_option linter.all false
section
variable [DecidableEq Vl]
theorem flat_at{rs:List Vl}{i:Nat}{v:Vl}(hi:rs[i]?=some v):(flat rs)[i*3]?=some (.int .i64 v.k)/\(flat rs)[i*3+1]?=some (.int .i64 v.n)/\(flat rs)[i*3+2]?=some (.string v.s):=by
 induction rs generalizing i with
 | nil=>simp at hi
 | cons x xs ih =>
  have e:flat (x::xs)=.int .i64 x.k :: .int .i64 x.n :: .string x.s::flat xs:=by simp[flat]
  rw[e]
  cases i with
  | zero=>simp at hi;subst hi;simp
  | succ i =>
   rw[show(i+1)*3=i*3+1+1+1 by omega]
   simp only[List.getElem?_cons_succ]at hi⊢
   exact ih hi
section
variable {w0:World} {p:Mp} {fv:Value} {mn:Int} {s:St} {W:World}
end
theorem kg{w:World}{B a c o:Nat}{r:Vl}(h:c≠B):(putg w B a r).cell? ⟨c,o,none⟩=w.cell? ⟨c,o,none⟩:=World.cell?_of_block (a:=⟨c,o,none⟩) ((set1_other _ _ h).trans ((set1_other _ _ h).trans (set1_other _ _ h)))
theorem pl_const(B F fc k g n cp a b fn nf:Nat)(c:Int)(fb off cf cb coff cl cc:Nat)(va vb:Vl)(W:World)(ha:RegAt W g a va)(hla:a<n)(c0:W.cell? ⟨B,0,none⟩=some (.slice (some ⟨fb,off,none⟩) nf cf))(c2:W.cell? ⟨B,2,none⟩=some (.slice (some ⟨F,0,none⟩) (k+1) fc))(hk:k<=1000)
  (d0:W.cell? ⟨F,k*4,none⟩=some (.int .i64 (fn:Nat))) (hfn:fn<nf) (d2:W.cell? ⟨fb,off+fn*4+2,none⟩=some (.slice (some ⟨cb,coff,none⟩) cl cc)) (hbl:b<cl) (hv:Three W cb (coff+b*3) vb)
  (n1:B≠g) (n2:F≠g) (n3:fb≠g) (n4:cb≠g) :
  Calls Tryz.prog 54 #[.pointer (some ⟨B,0,none⟩),.slice (some ⟨g,0,none⟩) n cp,.agg #[.int .i64 2,.int .i64 (a:Nat),.int .i64 (b:Nat),.int .i64 c]] W fun e W'=>e=.returned (.tuple #[])/\∃V,Below W.heap.size W V/\W'=putg V g a vb:=by
 have hb1:=ext_alloc (Below.refl W.heap.size W) (.cells #[.int .i64 2,.int .i64 (a:Nat),.int .i64 (b:Nat),.int .i64 c] 32)
 have g1:(W.alloc (.cells #[.int .i64 2,.int .i64 (a:Nat),.int .i64 (b:Nat),.int .i64 c] 32)).heap[W.heap.size]?=some (.cells #[.int .i64 2,.int .i64 (a:Nat),.int .i64 (b:Nat),.int .i64 c] 32):=heap_new _ _
 obtain⟨w1,hw1⟩:∃w1,W.alloc (.cells #[.int .i64 2,.int .i64 (a:Nat),.int .i64 (b:Nat),.int .i64 c] 32)=w1:=⟨_,rfl⟩
 rw[hw1]at hb1 g1
 have o0:w1.cell? ⟨W.heap.size,0,none⟩=some (.int .i64 2):=cell_block g1 rfl
 have o1:w1.cell? ⟨W.heap.size,1,none⟩=some (.int .i64 (a:Nat)):=cell_block g1 rfl
 have o2:w1.cell? ⟨W.heap.size,2,none⟩=some (.int .i64 (b:Nat)):=cell_block g1 rfl
 have hgl:=World.block_lt_of_cell? _ _ ha.t.k
 have hcl:=World.block_lt_of_cell? _ _ hv.k
 simp only at hgl hcl
 obtain⟨⟨a0,a1,a2⟩,f0,f1,f2⟩:=ha.on hb1
 have k0:=cellB hb1 c0
 have k2:=cellB hb1 c2
 have e0:=cellB hb1 d0
 have e2:=cellB hb1 d2
 obtain⟨v0,v1,v2⟩:=hv.below hb1 hcl
 have ht:∀m:Nat,Calls Tryz.prog 39 #[.pointer (some ⟨B,0,none⟩)] (w1.drewN m) fun e W'=>e=.returned (.pointer (some ⟨F,k*4,none⟩))/\∃n,W'=(w1.drewN m).drewN n:=fun m=>top_cell B F fc k _ k2 hk
 have n5:W.heap.size≠g:=by omega
 clear ha c0 c2 d0 d2 hv g1
 go_enter Tryz.func54,Tryz.ntmps54
 go_wp2
 go_region_held3 (fun u=>u.cell? ⟨W.heap.size,1,none⟩=some (.int .i64 (a:Nat))/\u.cell? ⟨W.heap.size,2,none⟩=some (.int .i64 (b:Nat))/\u.cell? ⟨B,0,none⟩=some (.slice (some ⟨fb,off,none⟩) nf cf)/\u.cell? ⟨F,k*4,none⟩=some (.int .i64 (fn:Nat))/\u.cell? ⟨fb,off+fn*4+2,none⟩=some (.slice (some ⟨cb,coff,none⟩) cl cc)/\u.cell? ⟨cb,coff+b*3,none⟩=some (.int .i64 vb.k)/\u.cell? ⟨cb,coff+b*3+1,none⟩=some (.int .i64 vb.n)/\u.cell? ⟨cb,coff+b*3+2,none⟩=some (.string vb.s)) (first|go_keep|with_reducible exact⟨(kg n5).trans o1,(kg n5).trans o2,(kg n1).trans k0,(kg n2).trans e0,(kg n3).trans e2,(kg n4).trans v0,(kg n4).trans v1,(kg n4).trans v2⟩|exact⟨(kg n5).trans o1,(kg n5).trans o2,(kg n1).trans k0,(kg n2).trans e0,(kg n3).trans e2,(kg n4).trans v0,(kg n4).trans v1,(kg n4).trans v2⟩) (first|(go_at_call 39;refine(ht 1).mono ?_;rintro e w2 ⟨rfl,m,rfl⟩))
 all_goals
  go_wp2
  go_end0
  exact⟨rfl,w1.drewN (1+m),drewN_below hb1,rfl⟩
structure Hm where
 B:Nat
 F:Nat
 fc:Nat
 g:Nat
 c:Nat
 fv:Value
 tv:Value
 uv:Value
 mn:Int
abbrev Hm.own (m:Hm):List Nat:=[m.B,m.F,m.g]
structure Ms where
 x:Frm
 st:Int
 en:Int
 er:Int
 la:Vl
abbrev hbox (m:Hm) (s:Ms):Obj:=.cells #[m.fv,.int .i64 m.mn,.slice (some ⟨m.F,0,none⟩) 1 m.fc,m.tv,m.uv,.int .i64 s.st,.int .i64 s.en,.int .i64 s.er,.int .i64 s.la.k,.int .i64 s.la.n,.string s.la.s] 64
abbrev hfr (m:Hm) (x:Frm):List Value:=[.int .i64 x.f,.int .i64 x.pc,.int .i64 x.d,.slice (some ⟨m.g,0,none⟩) x.rs.length m.c]
structure Mh (w0:World) (m:Hm) (s:Ms) (W:World):Prop where
 box:W.heap[m.B]?=some (hbox m s)
 fr:OwnR W m.F 66 4 1 m.fc (hfr m s.x)
 rg:OwnR W m.g 25 3 s.x.rs.length m.c (flat s.x.rs)
 bf:m.B≠m.F
 bg:m.B≠m.g
 fg:m.F≠m.g
 lo:∀k∈m.own,w0.heap.size<=k
 bl:Below w0.heap.size w0 W
section
variable {w0:World} {m:Hm} {s:Ms} {W W':World}
theorem Mh.lt(h:Mh w0 m s W):m.B<W.heap.size/\m.F<W.heap.size/\m.g<W.heap.size:=⟨block_lt h.box,h.fr.lt,h.rg.lt⟩
theorem Mh.ltm(h:Mh w0 m s W):∀k∈m.own,k<W.heap.size:=fun k hk=>by
 simp only[Hm.own,List.mem_cons,List.not_mem_nil,or_false]at hk
 obtain⟨a,b,c⟩:=h.lt
 rcases hk with rfl|rfl|rfl <;> assumption
theorem Mh.blk(h:Mh w0 m s W)(h1:W'.heap[m.B]?=W.heap[m.B]?)(h2:W'.heap[m.F]?=W.heap[m.F]?)(h3:W'.heap[m.g]?=W.heap[m.g]?)(hb:Below w0.heap.size w0 W'):Mh w0 m s W' :=
 ⟨h1.trans h.box,h.fr.same h2,h.rg.same h3,h.bf,h.bg,h.fg,h.lo,hb⟩
theorem Mh.on(h:Mh w0 m s W)(hb:Below W.heap.size W W'):Mh w0 m s W' :=
 h.blk (hb.block _ h.lt.1) (hb.block _ h.lt.2.1) (hb.block _ h.lt.2.2) (ext_trans h.bl hb)
theorem Mh.wrote{S:Nat->Prop}(h:Mh w0 m s W)(hk:Keeps S W W')(hn:∀k,S k->k∉m.own)(hl:∀k,S k->w0.heap.size<=k):Mh w0 m s W':=by
 refine h.blk (hk.block _ h.lt.1 fun e=>hn _ e (by simp)) (hk.block _ h.lt.2.1 fun e=>hn _ e (by simp)) (hk.block _ h.lt.2.2 fun e=>hn _ e (by simp)) ?_
 exact⟨hk.os.trans h.bl.os,hk.tape.trans h.bl.tape,hk.output.trans h.bl.output,Nat.le_trans h.bl.size hk.size,fun k hk'=>(hk.block k (Nat.lt_of_lt_of_le hk' h.bl.size) (fun e=>by have:=hl k e;omega)).trans (h.bl.block k hk')⟩
structure Hc (m:Hm) (s:Ms) (W:World):Prop where
 c0:W.cell? ⟨m.B,0,none⟩=some m.fv
 c1:W.cell? ⟨m.B,1,none⟩=some (.int .i64 m.mn)
 c2:W.cell? ⟨m.B,2,none⟩=some (.slice (some ⟨m.F,0,none⟩) 1 m.fc)
 c3:W.cell? ⟨m.B,3,none⟩=some m.tv
 c4:W.cell? ⟨m.B,4,none⟩=some m.uv
 c5:W.cell? ⟨m.B,5,none⟩=some (.int .i64 s.st)
 c6:W.cell? ⟨m.B,6,none⟩=some (.int .i64 s.en)
 c7:W.cell? ⟨m.B,7,none⟩=some (.int .i64 s.er)
 c8:W.cell? ⟨m.B,8,none⟩=some (.int .i64 s.la.k)
 c9:W.cell? ⟨m.B,9,none⟩=some (.int .i64 s.la.n)
 c10:W.cell? ⟨m.B,10,none⟩=some (.string s.la.s)
 zb:∀i,W.frozen? ⟨m.B,i,none⟩=false
 d0:W.cell? ⟨m.F,0,none⟩=some (.int .i64 s.x.f)
 d1:W.cell? ⟨m.F,1,none⟩=some (.int .i64 s.x.pc)
 d2:W.cell? ⟨m.F,2,none⟩=some (.int .i64 s.x.d)
 d3:W.cell? ⟨m.F,3,none⟩=some (.slice (some ⟨m.g,0,none⟩) s.x.rs.length m.c)
 z1:W.frozen? ⟨m.F,1,none⟩=false
 rg:∀i v,s.x.rs[i]?=some v->RegAt W m.g i v
theorem Mh.cs(h:Mh w0 m s W):Hc m s W :=
 ⟨cell_block h.box rfl,cell_block h.box rfl,cell_block h.box rfl,cell_block h.box rfl,cell_block h.box rfl,cell_block h.box rfl,cell_block h.box rfl,cell_block h.box rfl,cell_block h.box rfl,cell_block h.box rfl,cell_block h.box rfl,fun _=>frozen_block h.box,
  (h.fr.cell (j:=0) rfl).1,(h.fr.cell (j:=1) rfl).1,(h.fr.cell (j:=2) rfl).1,(h.fr.cell (j:=3) rfl).1,(h.fr.cell (j:=1) rfl).2,fun i v hi=>by
   obtain⟨h0,h1,h2⟩:=flat_at hi
   exact⟨⟨(h.rg.cell h0).1,(h.rg.cell h1).1,(h.rg.cell h2).1⟩,(h.rg.cell h0).2,(h.rg.cell h1).2,(h.rg.cell h2).2⟩⟩
theorem Mh.setPC(h:Mh w0 m s W)(pc:Int):Mh w0 m { s with x:={ s.x with pc:=pc } } (W.setCell ⟨m.F,1,none⟩ (.int .i64 pc))/\MK m.own W m.own (W.setCell ⟨m.F,1,none⟩ (.int .i64 pc)):=by
 have hk:MK m.own W m.own (W.setCell ⟨m.F,1,none⟩ (.int .i64 pc)):=MK.set (by simp)
 refine⟨⟨(set1_other _ _ h.bf).trans h.box,?_,h.rg.same (set1_other _ _ h.fg.symm),h.bf,h.bg,h.fg,h.lo,below_keep h.bl hk.k h.lo⟩,hk⟩
 exact h.fr.set 1 (.int .i64 pc)
theorem Mh.setReg(h:Mh w0 m s W)(i:Nat)(v:Vl):Mh w0 m { s with x:={ s.x with rs:=s.x.rs.set i v } } (putg W m.g i v)/\MK m.own W m.own (putg W m.g i v):=by
 have hk:MK m.own W m.own (putg W m.g i v):=((MK.set (by simp)).trans (MK.set (by simp))).trans (MK.set (by simp))
 have hoth:∀b,b≠m.g->(putg W m.g i v).heap[b]?=W.heap[b]?:=fun b hb=>(set1_other _ _ hb).trans ((set1_other _ _ hb).trans (set1_other _ _ hb))
 refine⟨⟨(hoth _ h.bg).trans h.box,?_,?_,h.bf,h.bg,h.fg,h.lo,below_keep h.bl hk.k h.lo⟩,hk⟩
 ·have:=h.fr.same (hoth _ h.fg)
  simpa[hfr]using this
 ·have:=((h.rg.set (i*3) (.int .i64 v.k)).set (i*3+1) (.int .i64 v.n)).set (i*3+2) (.string v.s)
  rw[<- flat_set]at this
  simpa using this
theorem Mh.scal(h:Mh w0 m s W){s':Ms}(e:s'.x=s.x)(hk:MK m.own W m.own W')(hoth:∀b,b≠m.B->W'.heap[b]?=W.heap[b]?)(hbx:W'.heap[m.B]?=some (hbox m s')):Mh w0 m s' W' :=
 ⟨hbx,by rw[e];exact h.fr.same (hoth _ h.bf.symm),by rw[e];exact h.rg.same (hoth _ h.bg.symm),h.bf,h.bg,h.fg,h.lo,below_keep h.bl hk.k h.lo⟩
theorem Mh.setSt(h:Mh w0 m s W)(n:Int):Mh w0 m { s with st:=n } (W.setCell ⟨m.B,5,none⟩ (.int .i64 n))/\MK m.own W m.own (W.setCell ⟨m.B,5,none⟩ (.int .i64 n)):=by
 have hk:MK m.own W m.own (W.setCell ⟨m.B,5,none⟩ (.int .i64 n)):=MK.set (by simp)
 exact⟨h.scal rfl hk (fun b hb=>set1_other _ _ hb) (by have:=set_block (i:=5) (.int .i64 n) h.box;simpa[hbox]using this),hk⟩
end
theorem top0{B F fc:Nat}{W:World}(c2:W.cell? ⟨B,2,none⟩=some (.slice (some ⟨F,0,none⟩) 1 fc)):Calls Tryz.prog 39 #[.pointer (some ⟨B,0,none⟩)] W fun e W'=>e=.returned (.pointer (some ⟨F,0,none⟩))/\∃n,W'=W.drewN n:=by
 have:=top_cell B F fc 0 W c2 (by omega)
 simpa using this
structure Pg (w0:World) (m:Hm) (fs:List Fd):Prop where
 ex:∃a c,m.fv=.slice a fs.length c/\RowF w0.heap.size w0 a fs
section
variable {w0:World} {m:Hm} {s:Ms} {W:World}
theorem h_order{fs:List Fd}(hP:Pg w0 m fs)(h:Mh w0 m s W){f:Fd}{o:Od}{fn pc:Nat}(hfn:s.x.f=fn)(hpc:s.x.pc=pc)(hf:fs[fn]?=some f)(ho:f.is[pc]?=some o) :
  Calls Tryz.prog 32 #[.pointer (some ⟨m.B,0,none⟩)] W fun e W'=>e=.returned o.v/\Below W.heap.size W W':=by
 obtain⟨a,c,hv,hR⟩:=hP.ex
 have hc:=h.cs
 have hlt:=(List.getElem?_eq_some_iff.1 hf).1
 have hli:=(List.getElem?_eq_some_iff.1 ho).1
 have hR':=hR.below h.bl
 obtain⟨b,off,rfl,hb,hel⟩:=hR'.2 (fun e=>by rw[e]at hlt;simp at hlt)
 obtain⟨h1,h2,h3⟩:=hel _ _ hf
 obtain⟨ib,ioff,e4,hib,hes⟩:=h3.2 (fun e=>by rw[e]at hli;simp at hli)
 have e5:=h1.i
 rw[e4]at e5
 have c0:=hc.c0
 have d0:=hc.d0
 have d1:=hc.d1
 rw[hv]at c0
 rw[hfn]at d0
 rw[hpc]at d1
 exact order_cells m.B m.F m.fc 0 b off c fs.length fn pc ib ioff f.is.length f.ic o W c0 hc.c2 (by omega) d0 d1 hlt hli e5 (hes _ _ ho)
end
end
end Go.Proofs.YthljpnmhddfblaaGreatDoor
