/- A driver in memory: its numbers and maps are written. -/
import Derived.Test.YthljpnmhddfblaaGreatDoorS52
import Derived.Test.YthljpnmhddfblaaGreatDoorS50
import Derived.Test.YthljpnmhddfblaaGreatDoorS47
namespace Go.Proofs.YthljpnmhddfblaaGreatDoor
open Go.RowKit Go.Shelf Go
set_option maxRecDepth 100000
set_option maxHeartbeats 8000000
set_option linter.all false
section
variable [DecidableEq Vl]
section
variable {w0:World} {m:Hm} {s s':Ms} {D mt mc mr:Nat} {y:Po} {x x':Sx} {hv hv':Value} {T T' C R R':DataW Value} {W W':World}
theorem Dr.put(h:Dr w0 m s D mt mc mr y x hv T C R W)(i:Nat)(v:Value)(e:(W.setCell ⟨D,i,none⟩ v).heap[D]?=some (dbox m.B y x' mt mc mr hv')):Dr w0 m s D mt mc mr y x' hv' T C R (W.setCell ⟨D,i,none⟩ v):=by
 obtain⟨a1,a2,a3,a4,a5,a6,a7,a8,a9,a10⟩:=h.ap
 obtain⟨a,ha,hT⟩:=h.ht
 obtain⟨b,hb',hC⟩:=h.hc
 obtain⟨c,hc,hR⟩:=h.hr
 have hK:=keeps_one W D i v
 exact⟨h.mh.wrote hK (fun k e=>by have e':k=D:=e;rw[e'];exact a7) (fun k e=>by have e':k=D:=e;rw[e'];exact h.lo.1),e,⟨a,ha,hd_same hT (hK.block _ (hd_lt hT) a1.symm)⟩,⟨b,hb',hd_same hC (hK.block _ (hd_lt hC) a2.symm)⟩,⟨c,hc,hd_same hR (hK.block _ (hd_lt hR) a3.symm)⟩,h.nd,h.lo⟩
theorem Dr.kpt(h:Dr w0 m s D mt mc mr y x hv T C R W)(z:Int):Dr w0 m s D mt mc mr y { x with kept:=z } hv T C R (W.setCell ⟨D,5,none⟩ (.int .i64 z)):=h.put 5 _ (set_block _ h.bx)
theorem Dr.tri(h:Dr w0 m s D mt mc mr y x hv T C R W)(z:Int):Dr w0 m s D mt mc mr y { x with tried:=z } hv T C R (W.setCell ⟨D,6,none⟩ (.int .i64 z)):=h.put 6 _ (set_block _ h.bx)
theorem Dr.hds(h:Dr w0 m s D mt mc mr y x hv T C R W)(v:Value):Dr w0 m s D mt mc mr y x v T C R (W.setCell ⟨D,11,none⟩ v):=h.put 11 _ (set_block _ h.bx)
theorem Dr.trc(h:Dr w0 m s D mt mc mr y x hv T C R W){n:Nat}(hn:n<=10)(hT:Hd W' mt n T')(hK:Keeps (fun k=>k=mt) W W'):Dr w0 m s D mt mc mr y x hv T' C R W':=by
 obtain⟨a1,a2,a3,a4,a5,a6,a7,a8,a9,a10⟩:=h.ap
 obtain⟨b,hb',hC⟩:=h.hc
 obtain⟨c,hc,hR⟩:=h.hr
 exact⟨h.mh.wrote hK (fun k e=>by have e':k=mt:=e;rw[e'];exact a8) (fun k e=>by have e':k=mt:=e;rw[e'];exact h.lo.2.1),(hK.block _ (block_lt h.bx) a1).trans h.bx,⟨n,hn,hT⟩,⟨b,hb',hd_same hC (hK.block _ (hd_lt hC) (fun e=>a4 e.symm))⟩,⟨c,hc,hd_same hR (hK.block _ (hd_lt hR) (fun e=>a5 e.symm))⟩,h.nd,h.lo⟩
theorem Dr.trs(h:Dr w0 m s D mt mc mr y x hv T C R W){n:Nat}(hn:n<=1000)(hR:Hd W' mr n R')(hK:Keeps (fun k=>k=mr) W W'):Dr w0 m s D mt mc mr y x hv T C R' W':=by
 obtain⟨a1,a2,a3,a4,a5,a6,a7,a8,a9,a10⟩:=h.ap
 obtain⟨a,ha,hT⟩:=h.ht
 obtain⟨b,hb',hC⟩:=h.hc
 exact⟨h.mh.wrote hK (fun k e=>by have e':k=mr:=e;rw[e'];exact a10) (fun k e=>by have e':k=mr:=e;rw[e'];exact h.lo.2.2.2),(hK.block _ (block_lt h.bx) a3).trans h.bx,⟨a,ha,hd_same hT (hK.block _ (hd_lt hT) a5)⟩,⟨b,hb',hd_same hC (hK.block _ (hd_lt hC) a6)⟩,⟨n,hn,hR⟩,h.nd,h.lo⟩
theorem Rn.wrote{lo R vb:Nat}{iv sv:Value}{vs:List Value}{vals:List Vl}{S:Nat->Prop}(h:Rn w0 m s R vb lo iv sv vs vals W)(hM:Mh w0 m s W')(hk:Keeps S W W')(h1:¬S R)(h2:¬S vb)(h3:∀k∈blks (trR trH iv sv vs),¬S k):Rn w0 m s R vb lo iv sv vs vals W' :=
 ⟨hM,(hk.block _ (block_lt h.bx) h1).trans h.bx,h.vr.same (hk.block _ h.vr.lt h2),h.vl,h.tr.wrote hk h3,h.nd,h.lR⟩
end
theorem res56(tm:Array Value)(W:World):(results Tryz.f56 tm).run Tryz.prog W=.ok (.tuple #[]) W:=by
 simp[results,Tryz.results56,go_sem]
theorem hd_news{W:World}{g:Nat}{a b:Value}(h:W.heap[g]?=some (.cells #[a,b] 86)):∀j u,[a,b][j]?=some u->W.cell? ((⟨g,0,none⟩:Addr).add j)=some u:=World.news_of_block (cs:=#[a,b]) h
theorem below_none{a b:World}(h:a.grownBy b none):Below a.heap.size a b:=⟨h.os,h.tape,h.output,h.size,fun k hk=>h.block k hk (by simp)⟩
section
variable {w0:World} {m:Hm} {s s':Ms} {D mt mc mr:Nat} {y:Po} {x:Sx} {C R:DataW Value} {W W':World} {lo:Nat} {iv sv:Value} {vs:List Value}
structure KpF (w0:World) (m:Hm) (s:Ms) (D mt mc mr:Nat) (y:Po) (x:Sx) (hv:Value) (C R:DataW Value) (lo:Nat) (iv sv:Value) (vs:List Value) (W:World) (Rb:Nat) (W':World):Prop where
 d:Dr w0 m s D mt mc mr y x hv (D3 (.pointer (some ⟨Rb,0,none⟩))) C R W'
 r:∃vb,Rn w0 m s Rb vb lo iv sv vs [nilV,nilV,nilV,nilV,nilV,nilV] W'/\W.heap.size<=Rb/\W.heap.size<=vb
 t:Hd W' mt 1 (D3 (.pointer (some ⟨Rb,0,none⟩)))
 k:Keeps (fun k=>k=D\/k=mt) W W'
theorem KpF.mk2{x':Sx}{hv hv':Value}{Rb:Nat}{U:World}(h:KpF w0 m s D mt mc mr y x hv C R lo iv sv vs W Rb U)(hd:Dr w0 m s D mt mc mr y x' hv' (D3 (.pointer (some ⟨Rb,0,none⟩))) C R W')(hk:Keeps (fun k=>k=D) U W')(hDW:D<W.heap.size)(hb:∀k∈blks (trR trH iv sv vs),k≠D):KpF w0 m s D mt mc mr y x' hv' C R lo iv sv vs W Rb W':=by
 obtain⟨vb,h1,h2,h3⟩:=h.r
 obtain⟨a1,a2,a3,a4,a5,a6,a7,a8,a9,a10⟩:=h.d.ap
 exact⟨hd,⟨vb,h1.wrote hd.mh hk (by show ¬Rb=D;omega) (by show ¬vb=D;omega) hb,h2,h3⟩,hd_same h.t (hk.block _ (hd_lt h.t) a1.symm),h.k.trans (hk.mono fun k _ e=>.inl e)⟩
theorem KpF.on{x:Sx}{hv:Value}{Rb:Nat}{U V:World}(h:KpF w0 m s D mt mc mr y x hv C R lo iv sv vs W Rb U)(hb:Below U.heap.size U V):KpF w0 m s D mt mc mr y x hv C R lo iv sv vs W Rb V:=by
 obtain⟨vb,h1,h2,h3⟩:=h.r
 exact⟨h.d.on hb,⟨vb,h1.on hb,h2,h3⟩,hd_same h.t (hb.block _ (hd_lt h.t)),h.k.trans (Keeps.of_below hb)⟩
theorem keep_any(h:Dr w0 m s D mt mc mr y x (.slice none 0 0) D0 C R W)(hT0:Hd W mt 0 D0)(hT:TrV lo trH iv sv vs W)(hlo:D<lo/\mt<lo/\mc<lo/\mr<lo)(hown:∀k∈m.own,k<lo)(hca:1<=y.cache)(hx:x.kept=0) :
  Calls Tryz.prog 56 #[.pointer (some ⟨D,0,none⟩),.agg #[.int .i64 0,.int .i64 3],.agg #[.int .i64 0,.int .i64 3,iv,sv]] W fun e W'=>e=.returned (.tuple #[])/\∃Rb hv,KpF w0 m s D mt mc mr y { x with kept:=1 } hv C R lo iv sv vs W Rb W':=by
 obtain⟨⟨ia,ic,rfl⟩,sa,sc,rfl⟩:=trV_slices hT
 obtain⟨a1,a2,a3,a4,a5,a6,a7,a8,a9,a10⟩:=h.ap
 obtain⟨n6,hn6⟩:∃n,trH.ins.length=n:=⟨_,rfl⟩
 obtain⟨n4,hn4⟩:∃n,trH.sns.length=n:=⟨_,rfl⟩
 have hbD:∀k∈blks (trR trH (.slice ia trH.ins.length ic) (.slice sa trH.sns.length sc) vs),k≠D:=fun k hk e=>by have:=(hT.lt k hk).1;omega
 have hbm:∀k∈blks (trR trH (.slice ia trH.ins.length ic) (.slice sa trH.sns.length sc) vs),k≠mt:=fun k hk e=>by have:=(hT.lt k hk).1;omega
 obtain⟨W2,hW2⟩:∃W2,(W.alloc (.cells #[.int .i64 0,.int .i64 3] 86)).alloc (.cells #[.int .i64 0,.int .i64 3,.slice ia trH.ins.length ic,.slice sa trH.sns.length sc] 102)=W2:=⟨_,rfl⟩
 have E2:Below W.heap.size W W2:=by rw[<- hW2];exact ext_alloc (ext_alloc (Below.refl _ _) _) _
 have g1:W2.heap[W.heap.size]?=some (.cells #[.int .i64 0,.int .i64 3] 86):=by rw[<- hW2];exact block_alloc _ (heap_new _ _)
 have g2:W2.heap[W.heap.size+1]?=some (.cells #[.int .i64 0,.int .i64 3,.slice ia trH.ins.length ic,.slice sa trH.sns.length sc] 102):=by rw[<- hW2];exact new2' W _ _
 have hDW:D<W.heap.size:=block_lt h.bx
 have hmW:mt<W.heap.size:=hd_lt hT0
 have nd:(m.own++blks (trR trH (.slice ia trH.ins.length ic) (.slice sa trH.sns.length sc) vs)).Nodup:=by
  refine List.nodup_append.2 ⟨?_,by simpa using hT.rs.nd,fun a ha b hb e=>by have:=hown a ha;have:=(hT.lt b hb).1;omega⟩
  have hm1:=h.mh.bf
  have hm2:=h.mh.bg
  have hm3:=h.mh.fg
  simp[Hm.own,hm1,hm2,hm3]
 have hon:∀u,Below W2.heap.size W2 u->Calls Tryz.prog 84 #[.pointer (some ⟨m.B,0,none⟩),.agg #[.int .i64 0,.int .i64 3,.slice ia trH.ins.length ic,.slice sa trH.sns.length sc]] u fun e W'=>∃Rb,e=.returned (.pointer (some ⟨Rb,0,none⟩))/\(W'.cell? ⟨D,8,none⟩=some (.map (some mt))/\W'.cell? ⟨D,0,none⟩=some (.pointer (some ⟨m.B,0,none⟩))/\W'.cell? ⟨W.heap.size,0,none⟩=some (.int .i64 0)/\W'.cell? ⟨W.heap.size,1,none⟩=some (.int .i64 3)/\W'.cell? ⟨W.heap.size+1,0,none⟩=some (.int .i64 0)/\W'.cell? ⟨W.heap.size+1,1,none⟩=some (.int .i64 3)/\W'.cell? ⟨W.heap.size+1,2,none⟩=some (.slice ia trH.ins.length ic)/\W'.cell? ⟨W.heap.size+1,3,none⟩=some (.slice sa trH.sns.length sc))/\∃W3,(Instr.mapUpdate 57 (.map (some mt)) (.agg #[.int .i64 0,.int .i64 3]) (.pointer (some ⟨Rb,0,none⟩))).run Tryz.prog W'=.ok () W3/\(W3.cell? ⟨D,8,none⟩=some (.map (some mt))/\W3.cell? ⟨D,0,none⟩=some (.pointer (some ⟨m.B,0,none⟩))/\W3.cell? ⟨W.heap.size,0,none⟩=some (.int .i64 0)/\W3.cell? ⟨W.heap.size,1,none⟩=some (.int .i64 3)/\W3.cell? ⟨W.heap.size+1,0,none⟩=some (.int .i64 0)/\W3.cell? ⟨W.heap.size+1,1,none⟩=some (.int .i64 3)/\W3.cell? ⟨W.heap.size+1,2,none⟩=some (.slice ia trH.ins.length ic)/\W3.cell? ⟨W.heap.size+1,3,none⟩=some (.slice sa trH.sns.length sc))/\W3.heap[W.heap.size]?=some (.cells #[.int .i64 0,.int .i64 3] 86)/\Hid (KpF w0 m s D mt mc mr y x (.slice none 0 0) C R lo (.slice ia trH.ins.length ic) (.slice sa trH.sns.length sc) vs W Rb W3):=fun u hu=>by
  have hb:=ext_trans E2 hu
  have hDu:=h.on hb
  refine(on_any hDu.mh (hT.below hb) nd).mono fun e W' q=>?_
  obtain⟨Rb,vb,q1,q2,q3,q4⟩:=q.h
  have hb':=ext_trans hb q.k
  have hD':=h.on hb'
  have hT':Hd W' mt 0 D0:=hd_same hT0 (hb'.block _ hmW)
  obtain⟨W3,r1,r2,r3⟩:=store_p hT' (by omega) (pc:=3) (by omega) (.pointer (some ⟨Rb,0,none⟩))
  rw[put_0]at r2
  have hD3:=hD'.trc (by omega) r2 r3
  have hbs:=hb.size
  have g3:=block_below (ext_trans hu q.k) g1
  have g4:=block_below (ext_trans hu q.k) g2
  have g3':=(r3.block _ (block_lt g3) (by show ¬W.heap.size=mt;omega)).trans g3
  have g4':=(r3.block _ (block_lt g4) (by show ¬W.heap.size+1=mt;omega)).trans g4
  have hS:∀U,Dr w0 m s D mt mc mr y x (.slice none 0 0) D0 C R U\/Dr w0 m s D mt mc mr y x (.slice none 0 0) (D3 (.pointer (some ⟨Rb,0,none⟩))) C R U->U.heap[W.heap.size]?=some (.cells #[.int .i64 0,.int .i64 3] 86)->U.heap[W.heap.size+1]?=some (.cells #[.int .i64 0,.int .i64 3,.slice ia trH.ins.length ic,.slice sa trH.sns.length sc] 102)->(U.cell? ⟨D,8,none⟩=some (.map (some mt))/\U.cell? ⟨D,0,none⟩=some (.pointer (some ⟨m.B,0,none⟩))/\U.cell? ⟨W.heap.size,0,none⟩=some (.int .i64 0)/\U.cell? ⟨W.heap.size,1,none⟩=some (.int .i64 3)/\U.cell? ⟨W.heap.size+1,0,none⟩=some (.int .i64 0)/\U.cell? ⟨W.heap.size+1,1,none⟩=some (.int .i64 3)/\U.cell? ⟨W.heap.size+1,2,none⟩=some (.slice ia trH.ins.length ic)/\U.cell? ⟨W.heap.size+1,3,none⟩=some (.slice sa trH.sns.length sc)):=fun U hU h1 h2=>by
   have hbx:U.heap[D]?=some (dbox m.B y x mt mc mr (.slice none 0 0)):=by rcases hU with h|h <;> exact h.bx
   exact⟨cell_block hbx rfl,cell_block hbx rfl,cell_block h1 rfl,cell_block h1 rfl,cell_block h2 rfl,cell_block h2 rfl,cell_block h2 rfl,cell_block h2 rfl⟩
  exact⟨Rb,q1,hS W' (.inl hD') g3 g4,W3,r1,hS W3 (.inr hD3) g3' g4',(r3.block _ (block_lt g3) (by show ¬W.heap.size=mt;omega)).trans g3,hD3,⟨vb,q4.wrote hD3.mh r3 (by show ¬Rb=mt;omega) (by show ¬vb=mt;omega) hbm,by omega,by omega⟩,r2,(Keeps.of_below hb').trans (r3.mono fun k _ e=>.inr e)⟩
 have hh:=h.on E2
 have c8:W2.cell? ⟨D,8,none⟩=some (.map (some mt)):=cell_block hh.bx rfl
 have c0:W2.cell? ⟨D,0,none⟩=some (.pointer (some ⟨m.B,0,none⟩)):=cell_block hh.bx rfl
 have e0:=cell_block (i:=0) g1 rfl
 have e1:=cell_block (i:=1) g1 rfl
 have f0:=cell_block (i:=0) g2 rfl
 have f1:=cell_block (i:=1) g2 rfl
 have f2:=cell_block (i:=2) g2 rfl
 have f3:=cell_block (i:=3) g2 rfl
 replace hon:Hid _:=hon
 replace hbD:Hid _:=hbD
 clear h hT0 hT hh g1 g2 nd hbm hlo hown E2
 rw[hn6,hn4]at hon hW2 f2 f3
 rw[hn6,hn4]
 replace hn6:Hid _:=hn6
 replace hn4:Hid _:=hn4
 obtain⟨i0,hi0,hz0,hz1,hz2⟩:=info_parts (T:=86) (z:=.agg #[.int .i64 0,.int .i64 0]) (sz:=2) (by':=16) (by kernel_rfl)
 go_enter Tryz.func56,Tryz.ntmps56
 go_wp2
 refine wp_region_held_drew (S:=fun V=>V.cell? ⟨D,8,none⟩=some (.map (some mt))/\V.cell? ⟨D,0,none⟩=some (.pointer (some ⟨m.B,0,none⟩))/\V.cell? ⟨W.heap.size,0,none⟩=some (.int .i64 0)/\V.cell? ⟨W.heap.size,1,none⟩=some (.int .i64 3)/\V.cell? ⟨W.heap.size+1,0,none⟩=some (.int .i64 0)/\V.cell? ⟨W.heap.size+1,1,none⟩=some (.int .i64 3)/\V.cell? ⟨W.heap.size+1,2,none⟩=some (.slice ia n6 ic)/\V.cell? ⟨W.heap.size+1,3,none⟩=some (.slice sa n4 sc)) (by kernel_rfl) ⟨c8,c0,e0,e1,f0,f1,f2,f3⟩ (fun hS0=>?_)
 change wpAnyH _ _ _ _ _ 12 _ _ _
 refine' wpAnyH_take (i := 0) (oi := { dst := some 6, op := Op.move (Operand.tmp 0), type := 51, pos := "driver.go:91", after := #[], guard := none }) (v := _) (fuel := 11) rfl (by kernel_rfl) (by kernel_rfl) (by kernel_rfl) (fun _ _ _ h => h) (Or.inl ⟨by rfl, ?hy1⟩) hS0 ?rest1
 case hy1=>(intro w ⟨_,_,_,_,_,_,_,_⟩;go_simp;try with_reducible rfl)
 try simp only[Act.put,List.setIfInBounds_toArray,List.set_cons_zero,List.set_cons_succ]
 refine' wpAnyH_take (i := 1) (oi := { dst := some 7, op := Op.nilCheck (Operand.tmp 6), type := 0, pos := "driver.go:91", after := #[{ on := 0, ground := Ground.data }], guard := none }) (v := _) (fuel := 10) rfl (by kernel_rfl) (by kernel_rfl) (by kernel_rfl) (fun _ _ _ h => h) (Or.inl ⟨by rfl, ?hy2⟩) hS0 ?rest2
 case hy2=>(intro w ⟨_,_,_,_,_,_,_,_⟩;go_simp;try with_reducible rfl)
 try simp only[Act.put,List.setIfInBounds_toArray,List.set_cons_zero,List.set_cons_succ]
 refine' wpAnyH_take (i := 2) (oi := { dst := some 8, op := Op.fieldAddr 61 (Operand.tmp 7) 3, type := 0, pos := "driver.go:91", after := #[{ on := 1, ground := Ground.data }], guard := none }) (v := _) (fuel := 9) rfl (by kernel_rfl) (by kernel_rfl) (by kernel_rfl) (fun _ _ _ h => h) (Or.inl ⟨by rfl, ?hy3⟩) hS0 ?rest3
 case hy3=>(intro w ⟨_,_,_,_,_,_,_,_⟩;go_simp;try with_reducible rfl)
 try simp only[Act.put,List.setIfInBounds_toArray,List.set_cons_zero,List.set_cons_succ]
 refine' wpAnyH_take (i := 3) (oi := { dst := some 9, op := Op.load 57 (Operand.tmp 8), type := 57, pos := "driver.go:91", after := #[{ on := 2, ground := Ground.data }], guard := none }) (v := _) (fuel := 8) rfl (by kernel_rfl) (by kernel_rfl) (by kernel_rfl) (fun _ _ _ h => h) (Or.inl ⟨by rfl, ?hy4⟩) hS0 ?rest4
 case hy4=>(intro w ⟨_,_,_,_,_,_,_,_⟩;go_simp;try with_reducible rfl)
 try simp only[Act.put,List.setIfInBounds_toArray,List.set_cons_zero,List.set_cons_succ]
 refine' wpAnyH_take (i := 4) (oi := { dst := some 10, op := Op.load 86 (Operand.tmp 4), type := 86, pos := "driver.go:91", after := #[], guard := none }) (v := _) (fuel := 7) rfl (by kernel_rfl) (by kernel_rfl) (by kernel_rfl) (fun _ _ _ h => h) (Or.inl ⟨by rfl, ?hy5⟩) hS0 ?rest5
 case hy5=>(intro w ⟨_,_,_,_,_,_,_,_⟩;go_simp;try with_reducible rfl)
 try simp only[Act.put,List.setIfInBounds_toArray,List.set_cons_zero,List.set_cons_succ]
 refine' wpAnyH_take (i := 5) (oi := { dst := some 11, op := Op.move (Operand.tmp 0), type := 51, pos := "driver.go:91", after := #[], guard := none }) (v := _) (fuel := 6) rfl (by kernel_rfl) (by kernel_rfl) (by kernel_rfl) (fun _ _ _ h => h) (Or.inl ⟨by rfl, ?hy6⟩) hS0 ?rest6
 case hy6=>(intro w ⟨_,_,_,_,_,_,_,_⟩;go_simp;try with_reducible rfl)
 try simp only[Act.put,List.setIfInBounds_toArray,List.set_cons_zero,List.set_cons_succ]
 refine' wpAnyH_take (i := 6) (oi := { dst := some 12, op := Op.nilCheck (Operand.tmp 11), type := 0, pos := "driver.go:91", after := #[{ on := 5, ground := Ground.data }], guard := none }) (v := _) (fuel := 5) rfl (by kernel_rfl) (by kernel_rfl) (by kernel_rfl) (fun _ _ _ h => h) (Or.inl ⟨by rfl, ?hy7⟩) hS0 ?rest7
 case hy7=>(intro w ⟨_,_,_,_,_,_,_,_⟩;go_simp;try with_reducible rfl)
 try simp only[Act.put,List.setIfInBounds_toArray,List.set_cons_zero,List.set_cons_succ]
 refine' wpAnyH_take (i := 7) (oi := { dst := some 13, op := Op.fieldAddr 61 (Operand.tmp 12) 0, type := 0, pos := "driver.go:91", after := #[{ on := 6, ground := Ground.data }], guard := none }) (v := _) (fuel := 4) rfl (by kernel_rfl) (by kernel_rfl) (by kernel_rfl) (fun _ _ _ h => h) (Or.inl ⟨by rfl, ?hy8⟩) hS0 ?rest8
 case hy8=>(intro w ⟨_,_,_,_,_,_,_,_⟩;go_simp;try with_reducible rfl)
 try simp only[Act.put,List.setIfInBounds_toArray,List.set_cons_zero,List.set_cons_succ]
 refine' wpAnyH_take (i := 8) (oi := { dst := some 14, op := Op.load 53 (Operand.tmp 13), type := 53, pos := "driver.go:91", after := #[{ on := 7, ground := Ground.data }], guard := none }) (v := _) (fuel := 3) rfl (by kernel_rfl) (by kernel_rfl) (by kernel_rfl) (fun _ _ _ h => h) (Or.inl ⟨by rfl, ?hy9⟩) hS0 ?rest9
 case hy9=>(intro w ⟨_,_,_,_,_,_,_,_⟩;go_simp;try with_reducible rfl)
 try simp only[Act.put,List.setIfInBounds_toArray,List.set_cons_zero,List.set_cons_succ]
 refine' wpAnyH_take (i := 9) (oi := { dst := some 15, op := Op.load 102 (Operand.tmp 5), type := 102, pos := "driver.go:91", after := #[], guard := none }) (v := _) (fuel := 2) rfl (by kernel_rfl) (by kernel_rfl) (by kernel_rfl) (fun _ _ _ h => h) (Or.inl ⟨by rfl, ?hy10⟩) hS0 ?rest10
 case hy10=>(intro w ⟨_,_,_,_,_,_,_,_⟩;go_simp;try with_reducible rfl)
 try simp only[Act.put,List.setIfInBounds_toArray,List.set_cons_zero,List.set_cons_succ]
 refine wpAnyH_ready (rs:=[10]) (by kernel_rfl) (by simp) ?_
 refine AllReadyH.cons (o := { dst := some 16, op := Op.call { callee := Callee.value (Operand.func 84), args := #[Operand.tmp 14, Operand.tmp 15], argTypes := #[53, 102] }, type := 83, pos := "driver.go:91", after := #[{ on := 8, ground := Ground.data }, { on := 9, ground := Ground.data }], guard := none }) rfl (fun K hK => ?_) AllReadyH.nil
 go_simp
 go_at_call 84
 refine(hon.out _ (ext_drew (Below.refl _ _))).mono ?_
 rintro e W' ⟨Rb,rfl,hS1,W3,hmu,hS3,g3,hF⟩
 refine hK.out _ _ hS1 (fun _=>?_)
 clear hK K
 try simp only[Act.put,List.setIfInBounds_toArray,List.set_cons_zero,List.set_cons_succ]
 refine wpAnyH_ready (rs:=[11]) (by kernel_rfl) (by simp) ?_
 refine AllReadyH.cons (o := { dst := none, op := Op.mapUpdate 57 (Operand.tmp 9) (Operand.tmp 10) (Operand.tmp 16), type := 0, pos := "driver.go:91", after := #[{ on := 3, ground := Ground.data }, { on := 4, ground := Ground.data }, { on := 10, ground := Ground.data }, { on := 10, ground := Ground.chain }, { on := 0, ground := Ground.phase }, { on := 1, ground := Ground.phase }, { on := 2, ground := Ground.phase }, { on := 3, ground := Ground.phase }, { on := 4, ground := Ground.phase }, { on := 5, ground := Ground.phase }, { on := 6, ground := Ground.phase }, { on := 7, ground := Ground.phase }, { on := 8, ground := Ground.phase }, { on := 9, ground := Ground.phase }, { on := 10, ground := Ground.phase }], guard := none }) rfl (fun K hK => ?_) AllReadyH.nil
 go_simp
 refine hK.out _ _ hS3 (fun _=>?_)
 clear hK K
 try simp only[Act.put,List.setIfInBounds_toArray,List.set_cons_zero,List.set_cons_succ]
 refine wpAnyH_done (by kernel_rfl) ?_ _
 have hD3:=hF.out.d
 have c11:W3.cell? ⟨D,11,none⟩=some (.slice none 0 0):=cell_block hD3.bx rfl
 have z11:W3.frozen? ⟨D,11,none⟩=false:=frozen_block hD3.bx
 have h0:=cell_block (i:=0) g3 rfl
 have h1:=cell_block (i:=1) g3 rfl
 have hW3:W.heap.size<W3.heap.size:=block_lt g3
 have own:((W3.alloc (.cells #[.int .i64 0,.int .i64 3] 86)).drew).ownsRow W.heap.size 86 2 (.slice none 0 0) 0 []:=⟨rfl,.inl ⟨rfl,rfl⟩⟩
 have hnews:=hd_news (W:=(W3.alloc (.cells #[.int .i64 0,.int .i64 3] 86)).drew) (g:=W3.heap.size) (heap_new W3 _)
 have loY:W.heap.size<=((W3.alloc (.cells #[.int .i64 0,.int .i64 3] 86)).drew).heap.size:=by simp;omega
 have hrt:∀w4 g cap,((W3.alloc (.cells #[.int .i64 0,.int .i64 3] 86)).drew).grownBy w4 none->w4.cell? ⟨D,11,none⟩=some (.slice none 0 0)/\w4.frozen? ⟨D,11,none⟩=false/\Hid (KpF w0 m s D mt mc mr y x (.slice (some ⟨g,0,none⟩) 1 cap) C R lo (.slice ia n6 ic) (.slice sa n4 sc) vs W Rb (w4.setCell ⟨D,11,none⟩ (.slice (some ⟨g,0,none⟩) 1 cap))):=fun w4 g cap hg=>by
  have hb4:Below W3.heap.size W3 w4:=ext_trans (ext_drew (ext_alloc (Below.refl _ _) _)) (below_none hg)
  have hF4:=hF.out.on hb4
  exact⟨cell_block hF4.d.bx rfl,frozen_block hF4.d.bx,hF4.mk2 (hF4.d.hds _) (keeps_one w4 D 11 _) hDW (by rw[hn6.out,hn4.out]at hbD;exact hbD.out)⟩
 have nd1:D<W3.heap.size:=by omega
 have nd2:¬W3.heap.size=D:=by omega
 have nd3:¬W3.heap.size=W.heap.size:=by omega
 replace hrt:Hid _:=hrt
 clear hon c8 c0 e0 e1 f0 f1 f2 f3 hmu hD3 g3
 go_wp2
 go_region_law (first|(refine step_append_lies _ (by rfl) _ _ _ (by rfl) W.heap.size 86 i0 _ 2 16 Tryz.underlying59 hi0 hz0 hz1 hz2 rfl (by omega) (.slice none 0 0) 0 _ (by rfl) own ⟨W3.heap.size,0,none⟩ 1 1 [.int .i64 0,.int .i64 3] (by rfl) (by rfl) hnews (by simp[Value.oneCell']) (by omega) (by unfold maxLen;omega) (by omega) loY _ rfl ?_;intro g3 cap3 w4 hown3 hgrow hat hlt3;obtain⟨d11,y11,hF4⟩:=hrt.out w4 g3 cap3 hgrow))
 all_goals
  obtain⟨X,hX⟩:∃X,w4.setCell ⟨D,11,none⟩ (.slice (some ⟨g3,0,none⟩) 1 cap3)=X:=⟨_,rfl⟩
  rw[hX]at hF4⊢
  have hdX:=hF4.out.d
  have x11:X.cell? ⟨D,11,none⟩=some (.slice (some ⟨g3,0,none⟩) 1 cap3):=cell_block hdX.bx rfl
  have x3:X.cell? ⟨D,3,none⟩=some (.int .i64 y.cache):=cell_block hdX.bx rfl
  have x5:X.cell? ⟨D,5,none⟩=some (.int .i64 0):=by rw[<- hx];exact cell_block hdX.bx rfl
  have x8:X.cell? ⟨D,8,none⟩=some (.map (some mt)):=cell_block hdX.bx rfl
  have xz:X.frozen? ⟨D,5,none⟩=false:=frozen_block hdX.bx
  have hlen:∀k,(Builtin.len_ #[57] 3 #[.map (some mt)]).run Tryz.prog (X.drewN k)=.ok (.int .i64 1) (X.drewN k):=fun k=>len_p (hd_same (W':=X.drewN k) hF4.out.t rfl) 3
  have hnc:¬y.cache<1:=by omega
  have hfin:∀k,KpF w0 m s D mt mc mr y { x with kept:=1 } (.slice (some ⟨g3,0,none⟩) 1 cap3) C R lo (.slice ia n6 ic) (.slice sa n4 sc) vs W Rb ((X.drewN k).setCell ⟨D,5,none⟩ (.int .i64 1)):=fun k=>by
   have hFk:=hF4.out.on (drewN_below (n:=k) (Below.refl _ _))
   exact hFk.mk2 (hFk.d.kpt 1) (keeps_one _ D 5 _) hDW (by rw[hn6.out,hn4.out]at hbD;exact hbD.out)
  replace hfin:Hid _:=hfin
  clear hX hdX hF4 hF hrt own hnews loY d11 y11 hown3 hgrow hat hlt3 c11 z11 h0 h1
  go_wp2
  go_quiet (fail)
  go_wp2
  rename Nat=>nq
  have hl1:=hlen (nq+1)
  go_region
  all_goals
   go_wp2
   simp only[bodyPost]
   exact⟨trivial,.tuple #[],res56 _ _,rfl,Rb,_,hfin.out _⟩
end
theorem res44(tm:Array Value)(W:World):(results Tryz.f44 tm).run Tryz.prog W=.ok (.tuple #[]) W:=by
 simp[results,Tryz.results44,go_sem]
abbrev zb4:Obj:=.cells #[.int .i64 0,.int .i64 0,.slice none 0 0,.slice none 0 0] 102
section
variable {w0:World} {m:Hm} {s s':Ms} {D mt mc mr:Nat} {y:Po} {C R:DataW Value} {W W':World}
structure TyQ (w0:World) (m:Hm) (s:Ms) (D mt mc mr:Nat) (y:Po) (C R:DataW Value) (b:Bool) (W':World):Prop where
 no:b=false->Dr w0 m s D mt mc mr y ⟨0,1,0⟩ (.slice none 0 0) D0 C R W'/\Hd W' mt 0 D0
 yes:b=true->∃Rb hv vb lo iv sv vs,Dr w0 m s D mt mc mr y ⟨1,1,0⟩ hv (D3 (.pointer (some ⟨Rb,0,none⟩))) C R W'/\Rn w0 m s Rb vb lo iv sv vs [nilV,nilV,nilV,nilV,nilV,nilV] W'/\vb≠D/\vb≠mt/\vb≠mc/\vb≠mr
theorem try_any{t:Tr}{b:Bool}(hbt:b=true->t=trH)(h:Dr w0 m s D mt mc mr y ⟨0,0,0⟩ (.slice none 0 0) D0 C R W)(hT0:Hd W mt 0 D0){nR:Nat}(hnR:nR<=900)(hR0:Hd W mr nR R){r:Int}(hat:heldV (R.atKey (hl 3) (.held (.int .i64 0)))=.int .i64 r)(hr:0<=r/\r<=100)(hca:1<=y.cache)
  (hFr:∀u,Mh w0 m s u->Calls Tryz.prog 55 #[.pointer (some ⟨m.B,0,none⟩),.int .i64 y.most] u (FrQ u t b)) :
  Calls Tryz.prog 44 #[.pointer (some ⟨D,0,none⟩),.agg #[.int .i64 0,.int .i64 3]] W fun e W'=>e=.returned (.tuple #[])/\TyQ w0 m s D mt mc mr y C (R.put (hl 3) (.held (.int .i64 (r+1)))) b W':=by
 obtain⟨a1,a2,a3,a4,a5,a6,a7,a8,a9,a10⟩:=h.ap
 obtain⟨w1,hw1⟩:∃w1,(W.alloc (.cells #[.int .i64 0,.int .i64 3] 86))=w1:=⟨_,rfl⟩
 have E1:Below W.heap.size W w1:=by rw[<- hw1];exact ext_alloc (Below.refl _ _) _
 have g1:w1.heap[W.heap.size]?=some (.cells #[.int .i64 0,.int .i64 3] 86):=by rw[<- hw1];exact heap_new _ _
 have h1:=h.on E1
 have hR1:Hd w1.drew mr nR R:=hd_same hR0 (E1.block _ (hd_lt hR0))
 obtain⟨st,v1,v2,k1,k2,k3,k4,k5,k6,k7⟩:=count_h hR1 (by omega) (pc:=3) (by omega) hat (.int .i64 (r+1))
 have hmrl:mr<W.heap.size:=hd_lt hR0
 have hmtl:mt<W.heap.size:=hd_lt hT0
 have hmcl:mc<W.heap.size:=by obtain⟨_,_,hc⟩:=h.hc;exact hd_lt hc
 have hDl:D<W.heap.size:=block_lt h.bx
 have nb:¬W.heap.size=mr:=by omega
 have hsz:W.heap.size<w1.heap.size:=block_lt g1
 have g2:v2.heap[W.heap.size]?=some (.cells #[.int .i64 0,.int .i64 3] 86):=(k6.block _ hsz nb).trans g1
 have h2:Dr w0 m s D mt mc mr y ⟨0,0,0⟩ (.slice none 0 0) D0 C (R.put (hl 3) (.held (.int .i64 (r+1)))) v2:=(h1.on (ext_drew (Below.refl _ _))).trs (by omega) k5 k6
 have hT2:Hd v2 mt 0 D0:=hd_same hT0 ((k6.block mt (by have:=E1.size;show mt<w1.heap.size;omega) (by show ¬mt=mr;exact a5)).trans (E1.block mt hmtl))
 have d6:v2.cell? ⟨D,6,none⟩=some (.int .i64 0):=cell_block h2.bx rfl
 have z6:v2.frozen? ⟨D,6,none⟩=false:=frozen_block h2.bx
 obtain⟨X,hX⟩:∃X,v2.setCell ⟨D,6,none⟩ (.int .i64 1)=X:=⟨_,rfl⟩
 have hDX:Dr w0 m s D mt mc mr y ⟨0,1,0⟩ (.slice none 0 0) D0 C (R.put (hl 3) (.held (.int .i64 (r+1)))) X:=by rw[<- hX];exact h2.tri 1
 have hTX:Hd X mt 0 D0:=by rw[<- hX];exact hd_same hT2 (set1_other _ _ (fun e=>a1 e.symm))
 have gX:X.heap[W.heap.size]?=some (.cells #[.int .i64 0,.int .i64 3] 86):=by rw[<- hX];exact(set1_other _ _ (by omega)).trans g2
 have hXs:W.heap.size<X.heap.size:=block_lt gX
 have c10:w1.cell? ⟨D,10,none⟩=some (.map (some mr)):=cell_block h1.bx rfl
 have e0:=cell_block (i:=0) g1 rfl
 have e1:=cell_block (i:=1) g1 rfl
 have j1:(Instr.lookup 58 (.map (some mr)) (.agg #[.int .i64 0,.int .i64 3]) false).run Tryz.prog w1.drew=.ok (.int .i64 r) w1.drew:=k1
 have j2:(Instr.mapEntry 58 (.map (some mr)) (.agg #[.int .i64 0,.int .i64 3])).run Tryz.prog w1.drew=.ok (.tuple #[.int .i64 r,.int .i64 st]) v1:=k2
 have j3:(Instr.lookup 58 (.map (some mr)) (.agg #[.int .i64 0,.int .i64 3]) false).run Tryz.prog v1=.ok (.int .i64 r) v1:=k3
 have hws:IntKind.i64.wrap (r+1)=r+1:=IntWalk.i64_in _ ⟨by omega,by omega⟩
 have hC:∀u,Below X.heap.size X u->u.cell? ⟨D,0,none⟩=some (.pointer (some ⟨m.B,0,none⟩))/\u.cell? ⟨D,2,none⟩=some (.int .i64 y.most):=fun u hu=>⟨cell_block (hDX.on hu).bx rfl,cell_block (hDX.on hu).bx rfl⟩
 have hfr:∀u,Below X.heap.size X u->Calls Tryz.prog 55 #[.pointer (some ⟨m.B,0,none⟩),.int .i64 y.most] u fun e W'=>∃iv sv vs,e=.returned (.tuple #[trv t iv sv,.bool b])/\TrV u.heap.size t iv sv vs W'/\Below u.heap.size u W':=fun u hu=>(hFr u (hDX.on hu).mh).mono fun e W' q=>q.ex
 have hfin:∀(u:World) (G:Nat) (ia:Option Addr) (ic:Nat) (sa:Option Addr) (sc:Nat) (vs:List Value) (lo:Nat),Below X.heap.size X u->X.heap.size<=G->u.heap[G]?=some zb4->TrV lo t (.slice ia t.ins.length ic) (.slice sa t.sns.length sc) vs u->X.heap.size<=lo->(∀k∈blks (trR t (.slice ia t.ins.length ic) (.slice sa t.sns.length sc) vs),k=G->False)->(u.cell? ⟨G,0,none⟩=some (.int .i64 0)/\u.cell? ⟨G,1,none⟩=some (.int .i64 0)/\u.cell? ⟨G,2,none⟩=some (.slice none 0 0)/\u.cell? ⟨G,3,none⟩=some (.slice none 0 0))/\(u.frozen? ⟨G,0,none⟩=false/\u.frozen? ⟨G,1,none⟩=false/\u.frozen? ⟨G,2,none⟩=false/\u.frozen? ⟨G,3,none⟩=false)/\(((((u.setCell ⟨G,0,none⟩ (.int .i64 t.fn)).setCell ⟨G,1,none⟩ (.int .i64 t.hd)).setCell ⟨G,2,none⟩ (.slice ia t.ins.length ic)).setCell ⟨G,3,none⟩ (.slice sa t.sns.length sc)).cell? ⟨D,0,none⟩=some (.pointer (some ⟨m.B,0,none⟩))/\((((u.setCell ⟨G,0,none⟩ (.int .i64 t.fn)).setCell ⟨G,1,none⟩ (.int .i64 t.hd)).setCell ⟨G,2,none⟩ (.slice ia t.ins.length ic)).setCell ⟨G,3,none⟩ (.slice sa t.sns.length sc)).cell? ⟨D,2,none⟩=some (.int .i64 y.most))/\Hid (∃iv sv vs,((((u.setCell ⟨G,0,none⟩ (.int .i64 t.fn)).setCell ⟨G,1,none⟩ (.int .i64 t.hd)).setCell ⟨G,2,none⟩ (.slice ia t.ins.length ic)).setCell ⟨G,3,none⟩ (.slice sa t.sns.length sc)).heap[G]?=some (trb t iv sv)/\TrV X.heap.size t iv sv vs ((((u.setCell ⟨G,0,none⟩ (.int .i64 t.fn)).setCell ⟨G,1,none⟩ (.int .i64 t.hd)).setCell ⟨G,2,none⟩ (.slice ia t.ins.length ic)).setCell ⟨G,3,none⟩ (.slice sa t.sns.length sc))/\Below X.heap.size X ((((u.setCell ⟨G,0,none⟩ (.int .i64 t.fn)).setCell ⟨G,1,none⟩ (.int .i64 t.hd)).setCell ⟨G,2,none⟩ (.slice ia t.ins.length ic)).setCell ⟨G,3,none⟩ (.slice sa t.sns.length sc))/\X.heap.size<=G):=fun u G ia ic sa sc vs lo hu hG hz hT hlo hap=>by
  have hEY:Below X.heap.size X ((((u.setCell ⟨G,0,none⟩ (.int .i64 t.fn)).setCell ⟨G,1,none⟩ (.int .i64 t.hd)).setCell ⟨G,2,none⟩ (.slice ia t.ins.length ic)).setCell ⟨G,3,none⟩ (.slice sa t.sns.length sc)):=(((hu.setCell (p:=⟨G,0,none⟩) hG _).setCell (p:=⟨G,1,none⟩) hG _).setCell (p:=⟨G,2,none⟩) hG _).setCell (p:=⟨G,3,none⟩) hG _
  have hT':=hT.wrote (set4_keeps (B:=G) (a:=.int .i64 t.fn) (b:=.int .i64 t.hd) (c:=.slice ia t.ins.length ic) (d:=.slice sa t.sns.length sc)) (fun k hk e=>hap k hk e)
  exact⟨⟨cell_block hz rfl,cell_block hz rfl,cell_block hz rfl,cell_block hz rfl⟩,⟨frozen_block hz,frozen_block hz,frozen_block hz,frozen_block hz⟩,hC _ hEY,_,_,vs,set4_block hz,⟨hT'.ln,hT'.rs.mono hlo⟩,hEY,hG⟩
 replace hC:Hid _:=hC
 replace hfr:Hid _:=hfr
 replace hfin:Hid _:=hfin
 replace hDX:Hid _:=hDX
 replace hTX:Hid _:=hTX
 replace gX:Hid _:=gX
 replace hbt:Hid _:=hbt
 clear h hT0 hR0 hat hFr h1 hR1 k1 k2 k3 k5 k6 k7 g1 g2 h2 hT2 E1
 go_enter Tryz.func44,Tryz.ntmps44
 go_wp2
 go_cut [] from 6 (fun wr=>wr=v2)
 case first =>
  go_region
  all_goals
   go_wp2
   go_meet
   case rel=>rfl
 case rest =>
  subst hcut
  clear j1 j2 j3 c10 e0 e1 k4
  go_wp2
  go_cut [4,5] from 6 (fun p q wr=>Hid (∃G,p=.pointer (some ⟨G,0,none⟩)/\q=.bool b/\∃iv sv vs,wr.heap[G]?=some (trb t iv sv)/\TrV X.heap.size t iv sv vs wr/\Below X.heap.size X wr/\X.heap.size<=G))
  case first =>
   have E0:=ext_drew (Below.refl X.heap.size X)
   have hH0:=hC.out _ E0
   refine wp_region_held_drew (S:=fun V=>V.cell? ⟨D,0,none⟩=some (.pointer (some ⟨m.B,0,none⟩))/\V.cell? ⟨D,2,none⟩=some (.int .i64 y.most)) (by kernel_rfl) hH0 (fun hH0=>?_)
   change wpAnyH _ _ _ _ _ 16 _ _ _
   refine' wpAnyH_take (i := 0) (oi := { dst := some 25, op := Op.move (Operand.tmp 0), type := 51, pos := "driver.go:84", after := #[], guard := none }) (v := _) (fuel := 15) rfl (by kernel_rfl) (by kernel_rfl) (by kernel_rfl) (fun _ _ _ h => h) (Or.inl ⟨by rfl, ?hy1⟩) hH0 ?rest1
   case hy1=>(intro w ⟨_,_⟩;go_simp;try with_reducible rfl)
   try simp only[Act.put,List.setIfInBounds_toArray,List.set_cons_zero,List.set_cons_succ]
   refine' wpAnyH_take (i := 1) (oi := { dst := some 26, op := Op.nilCheck (Operand.tmp 25), type := 0, pos := "driver.go:84", after := #[{ on := 0, ground := Ground.data }], guard := none }) (v := _) (fuel := 14) rfl (by kernel_rfl) (by kernel_rfl) (by kernel_rfl) (fun _ _ _ h => h) (Or.inl ⟨by rfl, ?hy2⟩) hH0 ?rest2
   case hy2=>(intro w ⟨_,_⟩;go_simp;try with_reducible rfl)
   try simp only[Act.put,List.setIfInBounds_toArray,List.set_cons_zero,List.set_cons_succ]
   refine' wpAnyH_take (i := 2) (oi := { dst := some 27, op := Op.fieldAddr 61 (Operand.tmp 26) 0, type := 0, pos := "driver.go:84", after := #[{ on := 1, ground := Ground.data }], guard := none }) (v := _) (fuel := 13) rfl (by kernel_rfl) (by kernel_rfl) (by kernel_rfl) (fun _ _ _ h => h) (Or.inl ⟨by rfl, ?hy3⟩) hH0 ?rest3
   case hy3=>(intro w ⟨_,_⟩;go_simp;try with_reducible rfl)
   try simp only[Act.put,List.setIfInBounds_toArray,List.set_cons_zero,List.set_cons_succ]
   refine' wpAnyH_take (i := 3) (oi := { dst := some 28, op := Op.load 53 (Operand.tmp 27), type := 53, pos := "driver.go:84", after := #[{ on := 2, ground := Ground.data }], guard := none }) (v := _) (fuel := 12) rfl (by kernel_rfl) (by kernel_rfl) (by kernel_rfl) (fun _ _ _ h => h) (Or.inl ⟨by rfl, ?hy4⟩) hH0 ?rest4
   case hy4=>(intro w ⟨_,_⟩;go_simp;try with_reducible rfl)
   try simp only[Act.put,List.setIfInBounds_toArray,List.set_cons_zero,List.set_cons_succ]
   refine' wpAnyH_take (i := 4) (oi := { dst := some 29, op := Op.move (Operand.tmp 0), type := 51, pos := "driver.go:84", after := #[], guard := none }) (v := _) (fuel := 11) rfl (by kernel_rfl) (by kernel_rfl) (by kernel_rfl) (fun _ _ _ h => h) (Or.inl ⟨by rfl, ?hy5⟩) hH0 ?rest5
   case hy5=>(intro w ⟨_,_⟩;go_simp;try with_reducible rfl)
   try simp only[Act.put,List.setIfInBounds_toArray,List.set_cons_zero,List.set_cons_succ]
   refine' wpAnyH_take (i := 5) (oi := { dst := some 30, op := Op.nilCheck (Operand.tmp 29), type := 0, pos := "driver.go:84", after := #[{ on := 4, ground := Ground.data }], guard := none }) (v := _) (fuel := 10) rfl (by kernel_rfl) (by kernel_rfl) (by kernel_rfl) (fun _ _ _ h => h) (Or.inl ⟨by rfl, ?hy6⟩) hH0 ?rest6
   case hy6=>(intro w ⟨_,_⟩;go_simp;try with_reducible rfl)
   try simp only[Act.put,List.setIfInBounds_toArray,List.set_cons_zero,List.set_cons_succ]
   refine' wpAnyH_take (i := 6) (oi := { dst := some 31, op := Op.fieldAddr 61 (Operand.tmp 30) 1, type := 0, pos := "driver.go:84", after := #[{ on := 5, ground := Ground.data }], guard := none }) (v := _) (fuel := 9) rfl (by kernel_rfl) (by kernel_rfl) (by kernel_rfl) (fun _ _ _ h => h) (Or.inl ⟨by rfl, ?hy7⟩) hH0 ?rest7
   case hy7=>(intro w ⟨_,_⟩;go_simp;try with_reducible rfl)
   try simp only[Act.put,List.setIfInBounds_toArray,List.set_cons_zero,List.set_cons_succ]
   refine' wpAnyH_take (i := 7) (oi := { dst := some 32, op := Op.fieldAddr 23 (Operand.tmp 31) 1, type := 0, pos := "driver.go:84", after := #[{ on := 6, ground := Ground.data }], guard := none }) (v := _) (fuel := 8) rfl (by kernel_rfl) (by kernel_rfl) (by kernel_rfl) (fun _ _ _ h => h) (Or.inl ⟨by rfl, ?hy8⟩) hH0 ?rest8
   case hy8=>(intro w ⟨_,_⟩;go_simp;try with_reducible rfl)
   try simp only[Act.put,List.setIfInBounds_toArray,List.set_cons_zero,List.set_cons_succ]
   refine' wpAnyH_take (i := 8) (oi := { dst := some 33, op := Op.load 3 (Operand.tmp 32), type := 3, pos := "driver.go:84", after := #[{ on := 7, ground := Ground.data }], guard := none }) (v := _) (fuel := 7) rfl (by kernel_rfl) (by kernel_rfl) (by kernel_rfl) (fun _ _ _ h => h) (Or.inl ⟨by rfl, ?hy9⟩) hH0 ?rest9
   case hy9=>(intro w ⟨_,_⟩;go_simp;try with_reducible rfl)
   try simp only[Act.put,List.setIfInBounds_toArray,List.set_cons_zero,List.set_cons_succ]
   refine wpAnyH_ready (rs:=[9,13]) (by kernel_rfl) (by simp) ?_
   refine AllReadyH.cons (o := { dst := some 34, op := Op.call { callee := Callee.value (Operand.func 55), args := #[Operand.tmp 28, Operand.tmp 33], argTypes := #[53, 3] }, type := 128, pos := "driver.go:84", after := #[{ on := 3, ground := Ground.data }, { on := 8, ground := Ground.data }], guard := none }) rfl (fun K hK => ?_) ?_
   ·go_simp
    go_at_call 55
    refine(hfr.out _ E0).mono ?_
    rintro e wq1 ⟨iv,sv,vs,rfl,hTq5,hbq2⟩
    obtain⟨⟨ia,ic,rfl⟩,sa,sc,rfl⟩:=trV_slices hTq5
    have Eq3:=ext_trans E0 hbq2
    have hHq4:=hC.out _ Eq3
    refine hK.out _ _ hHq4 (fun _=>?_)
    clear hK K
    try simp only[Act.put,List.setIfInBounds_toArray,List.set_cons_zero,List.set_cons_succ]
    refine' wpAnyH_take (i := 10) (oi := { dst := some 24, op := Op.move (Operand.tmp 34), type := 128, pos := "driver.go:84", after := #[{ on := 9, ground := Ground.data }], guard := none }) (v := _) (fuel := 5) rfl (by kernel_rfl) (by kernel_rfl) (by kernel_rfl) (fun _ _ _ h => h) (Or.inl ⟨by rfl, ?hy10⟩) hHq4 ?rest10
    case hy10=>(intro w ⟨_,_⟩;go_simp;try with_reducible rfl)
    try simp only[Act.put,List.setIfInBounds_toArray,List.set_cons_zero,List.set_cons_succ]
    refine' wpAnyH_take (i := 11) (oi := { dst := some 35, op := Op.extract (Operand.tmp 24) 0, type := 102, pos := "driver.go:84", after := #[{ on := 10, ground := Ground.data }], guard := none }) (v := _) (fuel := 4) rfl (by kernel_rfl) (by kernel_rfl) (by kernel_rfl) (fun _ _ _ h => h) (Or.inl ⟨by rfl, ?hy11⟩) hHq4 ?rest11
    case hy11=>(intro w ⟨_,_⟩;go_simp;try with_reducible rfl)
    try simp only[Act.put,List.setIfInBounds_toArray,List.set_cons_zero,List.set_cons_succ]
    refine' wpAnyH_take (i := 12) (oi := { dst := some 36, op := Op.extract (Operand.tmp 24) 1, type := 4, pos := "driver.go:84", after := #[{ on := 10, ground := Ground.data }, { on := 14, ground := Ground.gcOnly Departure.lateStores }], guard := none }) (v := _) (fuel := 3) rfl (by kernel_rfl) (by kernel_rfl) (by kernel_rfl) (fun _ _ _ h => h) (Or.inl ⟨by rfl, ?hy12⟩) hHq4 ?rest12
    case hy12=>(intro w ⟨_,_⟩;go_simp;try with_reducible rfl)
    try simp only[Act.put,List.setIfInBounds_toArray,List.set_cons_zero,List.set_cons_succ]
    refine wpAnyH_ready (rs:=[13]) (by kernel_rfl) (by simp) ?_
    refine AllReadyH.cons (o := { dst := some 4, op := Op.alloc 102, type := 0, pos := "driver.go:84", after := #[], guard := none }) rfl (fun K hK => ?_) AllReadyH.nil
    go_simp
    have Eq6:=ext_alloc Eq3 (.cells #[.int .i64 0,.int .i64 0,.slice none 0 0,.slice none 0 0] 102)
    have hHq7:=hC.out _ Eq6
    have gzq8:=heap_new wq1 (.cells #[.int .i64 0,.int .i64 0,.slice none 0 0,.slice none 0 0] 102)
    have hzG:=Eq3.size
    have hap:=fun k (hk:k∈blks (trR t (.slice ia t.ins.length ic) (.slice sa t.sns.length sc) vs)) (e:k=wq1.heap.size)=>(by have h9:=(hTq5.lt k hk).2;omega:False)
    have hTq9:=hTq5.below (ext_alloc (Below.refl _ _) (.cells #[.int .i64 0,.int .i64 0,.slice none 0 0,.slice none 0 0] 102))
    refine hK.out _ _ hHq7 (fun _=>?_)
    clear hK K
    try simp only[Act.put,List.setIfInBounds_toArray,List.set_cons_zero,List.set_cons_succ]
    refine wpAnyH_ready (rs:=[14]) (by kernel_rfl) (by simp) ?_
    refine AllReadyH.cons (o := { dst := none, op := Op.store 102 (Operand.tmp 4) (Operand.tmp 35), type := 0, pos := "driver.go:84", after := #[{ on := 13, ground := Ground.data }, { on := 11, ground := Ground.data }, { on := 9, ground := Ground.chain }, { on := 0, ground := Ground.phase }, { on := 1, ground := Ground.phase }, { on := 2, ground := Ground.phase }, { on := 3, ground := Ground.phase }, { on := 4, ground := Ground.phase }, { on := 5, ground := Ground.phase }, { on := 6, ground := Ground.phase }, { on := 7, ground := Ground.phase }, { on := 8, ground := Ground.phase }, { on := 9, ground := Ground.phase }, { on := 10, ground := Ground.phase }, { on := 11, ground := Ground.phase }, { on := 12, ground := Ground.textOnly Departure.lateStores }, { on := 13, ground := Ground.phase }], guard := none }) rfl (fun K hK => ?_) AllReadyH.nil
    obtain⟨⟨s0,s1,s2,s3⟩,⟨y0,y1,y2,y3⟩,hH9,hR9⟩:=hfin.out _ (wq1.heap.size) _ _ _ _ _ _ Eq6 hzG gzq8 hTq9 E0.size hap
    clear hap hzG gzq8 hTq9
    clear Eq6 hHq7
    generalize hUe:(wq1.alloc (.cells #[.int .i64 0,.int .i64 0,.slice none 0 0,.slice none 0 0] 102))=U at s0 s1 s2 s3 y0 y1 y2 y3 hH9 hR9⊢
    clear hUe
    generalize hGe:wq1.heap.size=G at s0 s1 s2 s3 y0 y1 y2 y3 hH9 hR9⊢
    clear hGe
    go_simp
    refine hK.out _ _ hH9 (fun _=>?_)
    clear hK K
    try simp only[Act.put,List.setIfInBounds_toArray,List.set_cons_zero,List.set_cons_succ]
    refine' wpAnyH_take (i := 15) (oi := { dst := some 5, op := Op.assign (Operand.tmp 36), type := 4, pos := "driver.go:84", after := #[{ on := 12, ground := Ground.data }, { on := 14, ground := Ground.chain }, { on := 0, ground := Ground.phase }, { on := 1, ground := Ground.phase }, { on := 2, ground := Ground.phase }, { on := 3, ground := Ground.phase }, { on := 4, ground := Ground.phase }, { on := 5, ground := Ground.phase }, { on := 6, ground := Ground.phase }, { on := 7, ground := Ground.phase }, { on := 8, ground := Ground.phase }, { on := 9, ground := Ground.phase }, { on := 10, ground := Ground.phase }, { on := 11, ground := Ground.phase }, { on := 12, ground := Ground.phase }, { on := 13, ground := Ground.phase }, { on := 14, ground := Ground.phase }], guard := none }) (v := _) (fuel := 0) rfl (by kernel_rfl) (by kernel_rfl) (by kernel_rfl) (fun _ _ _ h => h) (Or.inl ⟨by rfl, ?hy13⟩) hH9 ?rest13
    case hy13=>(intro w ⟨_,_⟩;go_simp;try with_reducible rfl)
    try simp only[Act.put,List.setIfInBounds_toArray,List.set_cons_zero,List.set_cons_succ]
    refine wpAnyH_done (by kernel_rfl) ?_ _
    go_wp2
    go_meet
    case rel=>exact⟨_,rfl,rfl,hR9.out⟩
   refine AllReadyH.cons (o := { dst := some 4, op := Op.alloc 102, type := 0, pos := "driver.go:84", after := #[], guard := none }) rfl (fun K hK => ?_) AllReadyH.nil
   go_simp
   have Eq10:=ext_alloc E0 (.cells #[.int .i64 0,.int .i64 0,.slice none 0 0,.slice none 0 0] 102)
   have hHq11:=hC.out _ Eq10
   have gzq12:=heap_new X.drew (.cells #[.int .i64 0,.int .i64 0,.slice none 0 0,.slice none 0 0] 102)
   have hzG:=E0.size
   refine hK.out _ _ hHq11 (fun _=>?_)
   clear hK K
   try simp only[Act.put,List.setIfInBounds_toArray,List.set_cons_zero,List.set_cons_succ]
   refine wpAnyH_ready (rs:=[9]) (by kernel_rfl) (by simp) ?_
   refine AllReadyH.cons (o := { dst := some 34, op := Op.call { callee := Callee.value (Operand.func 55), args := #[Operand.tmp 28, Operand.tmp 33], argTypes := #[53, 3] }, type := 128, pos := "driver.go:84", after := #[{ on := 3, ground := Ground.data }, { on := 8, ground := Ground.data }], guard := none }) rfl (fun K hK => ?_) AllReadyH.nil
   go_simp
   go_at_call 55
   refine(hfr.out _ Eq10).mono ?_
   rintro e wq13 ⟨iv,sv,vs,rfl,hTq17,hbq14⟩
   obtain⟨⟨ia,ic,rfl⟩,sa,sc,rfl⟩:=trV_slices hTq17
   have Eq15:=ext_trans Eq10 hbq14
   have hHq16:=hC.out _ Eq15
   have gzq18:=block_below hbq14 gzq12
   have hap:=fun k (hk:k∈blks (trR t (.slice ia t.ins.length ic) (.slice sa t.sns.length sc) vs)) (e:k=X.drew.heap.size)=>(by have h9:=(hTq17.lt k hk).1;rw[e]at h9;simp only[World.size_alloc]at h9;omega:False)
   refine hK.out _ _ hHq16 (fun _=>?_)
   clear hK K
   try simp only[Act.put,List.setIfInBounds_toArray,List.set_cons_zero,List.set_cons_succ]
   refine' wpAnyH_take (i := 10) (oi := { dst := some 24, op := Op.move (Operand.tmp 34), type := 128, pos := "driver.go:84", after := #[{ on := 9, ground := Ground.data }], guard := none }) (v := _) (fuel := 4) rfl (by kernel_rfl) (by kernel_rfl) (by kernel_rfl) (fun _ _ _ h => h) (Or.inl ⟨by rfl, ?hy14⟩) hHq16 ?rest14
   case hy14=>(intro w ⟨_,_⟩;go_simp;try with_reducible rfl)
   try simp only[Act.put,List.setIfInBounds_toArray,List.set_cons_zero,List.set_cons_succ]
   refine' wpAnyH_take (i := 11) (oi := { dst := some 35, op := Op.extract (Operand.tmp 24) 0, type := 102, pos := "driver.go:84", after := #[{ on := 10, ground := Ground.data }], guard := none }) (v := _) (fuel := 3) rfl (by kernel_rfl) (by kernel_rfl) (by kernel_rfl) (fun _ _ _ h => h) (Or.inl ⟨by rfl, ?hy15⟩) hHq16 ?rest15
   case hy15=>(intro w ⟨_,_⟩;go_simp;try with_reducible rfl)
   try simp only[Act.put,List.setIfInBounds_toArray,List.set_cons_zero,List.set_cons_succ]
   refine' wpAnyH_take (i := 12) (oi := { dst := some 36, op := Op.extract (Operand.tmp 24) 1, type := 4, pos := "driver.go:84", after := #[{ on := 10, ground := Ground.data }, { on := 14, ground := Ground.gcOnly Departure.lateStores }], guard := none }) (v := _) (fuel := 2) rfl (by kernel_rfl) (by kernel_rfl) (by kernel_rfl) (fun _ _ _ h => h) (Or.inl ⟨by rfl, ?hy16⟩) hHq16 ?rest16
   case hy16=>(intro w ⟨_,_⟩;go_simp;try with_reducible rfl)
   try simp only[Act.put,List.setIfInBounds_toArray,List.set_cons_zero,List.set_cons_succ]
   refine wpAnyH_ready (rs:=[14]) (by kernel_rfl) (by simp) ?_
   refine AllReadyH.cons (o := { dst := none, op := Op.store 102 (Operand.tmp 4) (Operand.tmp 35), type := 0, pos := "driver.go:84", after := #[{ on := 13, ground := Ground.data }, { on := 11, ground := Ground.data }, { on := 9, ground := Ground.chain }, { on := 0, ground := Ground.phase }, { on := 1, ground := Ground.phase }, { on := 2, ground := Ground.phase }, { on := 3, ground := Ground.phase }, { on := 4, ground := Ground.phase }, { on := 5, ground := Ground.phase }, { on := 6, ground := Ground.phase }, { on := 7, ground := Ground.phase }, { on := 8, ground := Ground.phase }, { on := 9, ground := Ground.phase }, { on := 10, ground := Ground.phase }, { on := 11, ground := Ground.phase }, { on := 12, ground := Ground.textOnly Departure.lateStores }, { on := 13, ground := Ground.phase }], guard := none }) rfl (fun K hK => ?_) AllReadyH.nil
   obtain⟨⟨s0,s1,s2,s3⟩,⟨y0,y1,y2,y3⟩,hH9,hR9⟩:=hfin.out _ (X.heap.size) _ _ _ _ _ _ Eq15 hzG gzq18 hTq17 Eq10.size hap
   clear hap hzG gzq18 hTq17
   go_simp
   refine hK.out _ _ hH9 (fun _=>?_)
   clear hK K
   try simp only[Act.put,List.setIfInBounds_toArray,List.set_cons_zero,List.set_cons_succ]
   refine' wpAnyH_take (i := 15) (oi := { dst := some 5, op := Op.assign (Operand.tmp 36), type := 4, pos := "driver.go:84", after := #[{ on := 12, ground := Ground.data }, { on := 14, ground := Ground.chain }, { on := 0, ground := Ground.phase }, { on := 1, ground := Ground.phase }, { on := 2, ground := Ground.phase }, { on := 3, ground := Ground.phase }, { on := 4, ground := Ground.phase }, { on := 5, ground := Ground.phase }, { on := 6, ground := Ground.phase }, { on := 7, ground := Ground.phase }, { on := 8, ground := Ground.phase }, { on := 9, ground := Ground.phase }, { on := 10, ground := Ground.phase }, { on := 11, ground := Ground.phase }, { on := 12, ground := Ground.phase }, { on := 13, ground := Ground.phase }, { on := 14, ground := Ground.phase }], guard := none }) (v := _) (fuel := 0) rfl (by kernel_rfl) (by kernel_rfl) (by kernel_rfl) (fun _ _ _ h => h) (Or.inl ⟨by rfl, ?hy17⟩) hH9 ?rest17
   case hy17=>(intro w ⟨_,_⟩;go_simp;try with_reducible rfl)
   try simp only[Act.put,List.setIfInBounds_toArray,List.set_cons_zero,List.set_cons_succ]
   refine wpAnyH_done (by kernel_rfl) ?_ _
   go_wp2
   go_meet
   case rel=>exact⟨_,rfl,rfl,hR9.out⟩
  case rest =>
   obtain⟨G,rfl,rfl,iv,sv,vs,gG,hT,hbc,hXG⟩:=hcut.out
   have hDc:=hDX.out.on hbc
   have gWc:wc.heap[W.heap.size]?=some (.cells #[.int .i64 0,.int .i64 3] 86):=(hbc.block _ hXs).trans gX.out
   have hTc:Hd wc mt 0 D0:=hd_same hTX.out (hbc.block _ (hd_lt hTX.out))
   have hXc:=hbc.size
   clear hcut
   rcases b with _|_
   ·have hend:TyQ w0 m s D mt mc mr y C (R.put (hl 3) (.held (.int .i64 (r+1)))) false wc:=⟨fun _=>⟨hDc,hTc⟩,fun e=>nomatch e⟩
    replace hend:Hid _:=hend
    clear hDc gWc hTc gG hT hbc hX hw1 hfr hfin hC
    go_wp2
    simp only[bodyPost]
    exact⟨trivial,.tuple #[],res44 _ _,rfl,hend.out⟩
   ·have ht:=hbt.out rfl
    subst ht
    have hown:∀k∈m.own,k<wc.heap.size:=fun k hk=>hDc.mh.ltm k hk
    have hS5:∀u,Below wc.heap.size wc u->u.cell? ⟨W.heap.size,0,none⟩=some (.int .i64 0)/\u.cell? ⟨W.heap.size,1,none⟩=some (.int .i64 3)/\u.cell? ⟨G,0,none⟩=some (.int .i64 0)/\u.cell? ⟨G,1,none⟩=some (.int .i64 3)/\u.cell? ⟨G,2,none⟩=some iv/\u.cell? ⟨G,3,none⟩=some sv:=fun u hu=>by
     have z1:=block_below hu gWc
     have z2:=block_below hu gG
     exact⟨cell_block z1 rfl,cell_block z1 rfl,cell_block z2 rfl,cell_block z2 rfl,cell_block z2 rfl,cell_block z2 rfl⟩
    have h57:∀u,Below wc.heap.size wc u->Calls Tryz.prog 57 #[.agg #[.int .i64 0,.int .i64 3,iv,sv]] u fun e w7=>∃iv sv vs,e=.returned (.agg #[.int .i64 0,.int .i64 3,iv,sv])/\TrV wc.heap.size trH iv sv vs w7/\Below u.heap.size u w7:=fun u hu=>(better_trH (hT.below hu)).mono fun e w7 q=>by
     obtain⟨iv,sv,vs,e1,e2,e3⟩:=q.ex
     exact⟨iv,sv,vs,e1,⟨e2.ln,e2.rs.mono hu.size⟩,e3⟩
    have h56:∀u iv' sv' vs',Below wc.heap.size wc u->TrV wc.heap.size trH iv' sv' vs' u->Calls Tryz.prog 56 #[.pointer (some ⟨D,0,none⟩),.agg #[.int .i64 0,.int .i64 3],.agg #[.int .i64 0,.int .i64 3,iv',sv']] u fun e u=>e=.returned (.tuple #[])/\(u.cell? ⟨W.heap.size,0,none⟩=some (.int .i64 0)/\u.cell? ⟨W.heap.size,1,none⟩=some (.int .i64 3)/\u.cell? ⟨G,0,none⟩=some (.int .i64 0)/\u.cell? ⟨G,1,none⟩=some (.int .i64 3)/\u.cell? ⟨G,2,none⟩=some iv/\u.cell? ⟨G,3,none⟩=some sv)/\Hid (TyQ w0 m s D mt mc mr y C (R.put (hl 3) (.held (.int .i64 (r+1)))) true u)   := fun u iv' sv' vs' hu hT9=>(keep_any (hDc.on hu) (hd_same hTc (hu.block _ (hd_lt hTc))) hT9 ⟨by omega,by omega,by omega,by omega⟩ hown hca rfl).mono fun e w8 q=>by
     obtain⟨e1,Rb,hv,K⟩:=q
     obtain⟨vb,r1,r2,r3⟩:=K.r
     have hus:=hu.size
     have nW:¬(W.heap.size=D\/W.heap.size=mt):=by omega
     have nG:¬(G=D\/G=mt):=by omega
     have z1:=(K.k.block _ (Nat.lt_of_lt_of_le (block_lt gWc) hus) nW).trans (block_below hu gWc)
     have z2:=(K.k.block _ (Nat.lt_of_lt_of_le (block_lt gG) hus) nG).trans (block_below hu gG)
     exact⟨e1,⟨cell_block z1 rfl,cell_block z1 rfl,cell_block z2 rfl,cell_block z2 rfl,cell_block z2 rfl,cell_block z2 rfl⟩,⟨fun e=>(nomatch e),fun _=>⟨Rb,hv,vb,_,iv',sv',vs',K.d,r1,by omega,by omega,by omega,by omega⟩⟩⟩
    have hS0:=hS5 _ (ext_drew (Below.refl _ _))
    replace hS5:Hid _:=hS5
    replace h57:Hid _:=h57
    replace h56:Hid _:=h56
    clear hDc gWc hTc gG hT hbc hX hw1 hfr hfin hC hown hDX hTX gX hbt
    go_wp2
    refine wp_region_held_drew (S:=fun u=>u.cell? ⟨W.heap.size,0,none⟩=some (.int .i64 0)/\u.cell? ⟨W.heap.size,1,none⟩=some (.int .i64 3)/\u.cell? ⟨G,0,none⟩=some (.int .i64 0)/\u.cell? ⟨G,1,none⟩=some (.int .i64 3)/\u.cell? ⟨G,2,none⟩=some iv/\u.cell? ⟨G,3,none⟩=some sv) (by kernel_rfl) hS0 (fun hS0=>?_)
    change wpAnyH _ _ _ _ _ 5 _ _ _
    refine' wpAnyH_take (i := 0) (oi := { dst := some 38, op := Op.move (Operand.tmp 0), type := 51, pos := "driver.go:85", after := #[], guard := none }) (v := _) (fuel := 4) rfl (by kernel_rfl) (by kernel_rfl) (by kernel_rfl) (fun _ _ _ h => h) (Or.inl ⟨by rfl, ?hy501⟩) hS0 ?rest501
    case hy501=>(intro w ⟨_,_,_,_,_,_⟩;go_simp;try with_reducible rfl)
    try simp only[Act.put,List.setIfInBounds_toArray,List.set_cons_zero,List.set_cons_succ]
    refine' wpAnyH_take (i := 1) (oi := { dst := some 39, op := Op.load 86 (Operand.tmp 3), type := 86, pos := "driver.go:85", after := #[], guard := none }) (v := _) (fuel := 3) rfl (by kernel_rfl) (by kernel_rfl) (by kernel_rfl) (fun _ _ _ h => h) (Or.inl ⟨by rfl, ?hy502⟩) hS0 ?rest502
    case hy502=>(intro w ⟨_,_,_,_,_,_⟩;go_simp;try with_reducible rfl)
    try simp only[Act.put,List.setIfInBounds_toArray,List.set_cons_zero,List.set_cons_succ]
    refine' wpAnyH_take (i := 2) (oi := { dst := some 40, op := Op.load 102 (Operand.tmp 4), type := 102, pos := "driver.go:85", after := #[], guard := none }) (v := _) (fuel := 2) rfl (by kernel_rfl) (by kernel_rfl) (by kernel_rfl) (fun _ _ _ h => h) (Or.inl ⟨by rfl, ?hy503⟩) hS0 ?rest503
    case hy503=>(intro w ⟨_,_,_,_,_,_⟩;go_simp;try with_reducible rfl)
    try simp only[Act.put,List.setIfInBounds_toArray,List.set_cons_zero,List.set_cons_succ]
    refine wpAnyH_ready (rs:=[3]) (by kernel_rfl) (by simp) ?_
    refine AllReadyH.cons (o := { dst := some 41, op := Op.call { callee := Callee.value (Operand.func 57), args := #[Operand.tmp 40], argTypes := #[102] }, type := 102, pos := "driver.go:85", after := #[{ on := 2, ground := Ground.data }], guard := none }) rfl (fun K hK => ?_) AllReadyH.nil
    go_simp
    go_at_call 57
    refine(h57.out _ (ext_drew (Below.refl _ _))).mono ?_
    rintro e w7 ⟨iv7,sv7,vs7,rfl,hT7,hb7⟩
    have E7:=ext_trans (ext_drew (Below.refl wc.heap.size wc)) hb7
    refine hK.out _ _ (hS5.out _ E7) (fun _=>?_)
    clear hK K
    try simp only[Act.put,List.setIfInBounds_toArray,List.set_cons_zero,List.set_cons_succ]
    refine wpAnyH_ready (rs:=[4]) (by kernel_rfl) (by simp) ?_
    refine AllReadyH.cons (o := { dst := some 42, op := Op.call { callee := Callee.value (Operand.func 56), args := #[Operand.tmp 38, Operand.tmp 39, Operand.tmp 41], argTypes := #[51, 86, 102] }, type := 0, pos := "driver.go:85", after := #[{ on := 0, ground := Ground.data }, { on := 1, ground := Ground.data }, { on := 3, ground := Ground.data }, { on := 3, ground := Ground.chain }], guard := none }) rfl (fun K hK => ?_) AllReadyH.nil
    go_simp
    go_at_call 56
    refine(h56.out _ _ _ _ E7 hT7).mono ?_
    rintro e w8 ⟨rfl,hS8,hK8⟩
    refine hK.out _ _ hS8 (fun _=>?_)
    clear hK K
    try simp only[Act.put,List.setIfInBounds_toArray,List.set_cons_zero,List.set_cons_succ]
    refine wpAnyH_done (by kernel_rfl) ?_ _
    go_wp2
    simp only[bodyPost]
    exact⟨trivial,.tuple #[],res44 _ _,rfl,hK8.out⟩
end
theorem res11(tm:Array Value)(W:World):(results Tryz.f11 tm).run Tryz.prog W=.ok (.tuple #[]) W:=by
 simp[results,Tryz.results11,go_sem]
structure DvP (B D E:Nat) (P:Nat->World->Prop):Prop where
 c0:∀p W,P p W->W.cell? ⟨D,0,none⟩=some (.pointer (some ⟨B,0,none⟩))
 c5:∀p W,P p W->W.cell? ⟨B,5,none⟩=some (.int .i64 p)
 c6:∀p W,P p W->W.cell? ⟨B,6,none⟩=some (.int .i64 (if p=E then 1 else 0))
 le:∀p W,P p W->p<=E
 go:∀p W,P p W->p<E->∃b,Calls Tryz.prog 16 #[.pointer (some ⟨D,0,none⟩),.int .i64 4000] W fun e W'=>e=.returned (.bool b)/\(b=true->∃q,p<q/\P q W')/\(b=false->Calls Tryz.prog 17 #[.pointer (some ⟨D,0,none⟩)] W' fun e W2=>e=.returned (.tuple #[])/\∃q,p<q/\P q W2)
theorem DvP.st{B D E:Nat}{P:Nat->World->Prop}(h:DvP B D E P){p:Nat}{W:World}(hp:P p W):stepsIn B W=p:=by
 simp[stepsIn,h.c5 p W hp]
theorem drive_gen{B D E:Nat}{P:Nat->World->Prop}(h:DvP B D E P)(hE:E<4000){p:Nat}{W:World}(hp:P p W) :
  Calls Tryz.prog 11 #[.pointer (some ⟨D,0,none⟩),.int .i64 4000] W fun e W'=>e=.returned (.tuple #[])/\P E W':=by
 replace hp:Hid _:=hp
 replace h:Hid _:=h
 go_enter Tryz.func11,Tryz.ntmps11
 go_wp2
 go_loopw [] (fun wr=>∃q:Nat,Hid (P q wr)) (fun wr=>E+1-stepsIn B wr)
 case atStart=>exact⟨p,hp⟩
 case round =>
  rename World=>v
  obtain⟨q,hq⟩:=hrel
  have e0:=h.out.c0 _ _ hq.out
  have e5:=h.out.c5 _ _ hq.out
  have e6:=h.out.c6 _ _ hq.out
  have hle:=h.out.le _ _ hq.out
  have hst:=h.out.st hq.out
  by_cases hqE:q=E
  ·rw[if_pos hqE]at e6
   subst hqE
   replace hst:Hid _:=hst
   go_wp2
   simp only[bodyPost]
   exact⟨trivial,.tuple #[],res11 _ _,rfl,hq.out⟩
  ·rw[if_neg hqE]at e6
   have hlt:((q:Nat):Int)<4000:=(by have h4:q<4000:=(by omega);omega)
   obtain⟨b,hgo⟩:=h.out.go _ _ hq.out (by omega)
   replace hst:Hid _:=hst
   replace hgo:Hid _:=hgo
   rcases b with _|_
   ·go_wp2_with (go_at_call 16;refine(show Calls Tryz.prog 16 _ _ _ from hgo.out).mono ?_;rintro e w4 ⟨rfl,_,hn⟩;refine Hid.out ?_)
    replace hn:Hid _:=hn (by first|exact trivial|rfl)
    refine Lib.hid ?_
    go_wp2_with (go_at_call 17;refine(show Calls Tryz.prog 17 _ _ _ from hn.out).mono ?_;rintro e w5 ⟨rfl,q',hq',hP'⟩;refine Hid.out ?_)
    replace hP':Hid _:=hP'
    refine Lib.hid ?_
    go_wp2
    go_roundw
    case measure=>rw[hst.out,h.out.st hP'.out];omega
    case rel=>exact⟨q',hP'⟩
   ·go_wp2_with (go_at_call 16;refine(show Calls Tryz.prog 16 _ _ _ from hgo.out).mono ?_;rintro e w4 ⟨rfl,hy,_⟩;refine Hid.out ?_)
    obtain⟨q',hq',hP'⟩:=hy (by first|exact trivial|rfl)
    replace hP':Hid _:=hP'
    clear hy
    refine Lib.hid ?_
    go_wp2
    go_roundw
    case measure=>rw[hst.out,h.out.st hP'.out];omega
    case rel=>exact⟨q',hP'⟩
inductive Sh (n:Nat):Nat->Nat->Ms->Prop
 | k0:Sh n 0 0 (stS 0 [nilV,nilV,nilV,nilV] 0)
 | k1:Sh n 1 0 (stS 1 [numV 0,nilV,nilV,nilV] 1)
 | k2:Sh n 2 0 (stS 2 [numV 0,numV n,nilV,nilV] 2)
 | h3 (i:Nat) (d:Vl):i<=n->Sh n (4*i+3) i (stS 3 [numV i,numV n,numV 1,d] (4*i+3))
 | h4 (i:Nat):i<=n->Sh n (4*i+4) i (stS 4 [numV i,numV n,numV 1,boV (decide (i<n))] (4*i+4))
 | h5 (i:Nat) (d:Vl):i<n->Sh n (4*i+5) i (stS 5 [numV i,numV n,numV 1,d] (4*i+5))
 | h6 (i:Nat) (d:Vl):i<n->Sh n (4*i+6) i (stS 6 [numV (i+1),numV n,numV 1,d] (4*i+6))
 | h7:Sh n (4*n+5) n (stS 7 [numV n,numV n,numV 1,boV (decide (n<n))] (4*n+5))
 | e:Sh n (4*n+6) n ⟨⟨0,(7:Nat),0,[numV n,numV n,numV 1,boV (decide (n<n))]⟩,((4*n+5+1:Nat):Int),1,0,numV n⟩
section
variable {w0:World} {m:Hm} {s s':Ms} {D mt mc mr:Nat} {y:Po} {x:Sx} {hv:Value} {T C R:DataW Value} {W W':World} {n p i:Nat}
theorem Sh.le(h:Sh n p i s):p<=4*n+6:=by cases h <;> omega
theorem Sh.st(h:Sh n p i s):s.st=(p:Nat):=by cases h <;> rfl
theorem Sh.en(h:Sh n p i s):s.en=if p=4*n+6 then 1 else 0:=by
 cases h <;> first|exact(if_neg (by omega)).symm|exact(if_pos rfl).symm
theorem Sh.next(hP:Ph w0 m n)(hn:n<=200)(h:Sh n p i s)(hE:p<4*n+6)(h6:s.x.pc≠6):∃(pc:Nat) (o:Od) (s':Ms),s.x.f=0/\s.x.pc=pc/\pc<8/\odL[pc]?=some o/\o.op≠10/\(4*n+4<=p->pc=4\/pc=7)/\Sh n (p+1) i s'/\∀u,Mh w0 m s u->Calls Tryz.prog 33 #[.pointer (some ⟨m.B,0,none⟩)] u (HQ w0 m u s'):=by
 cases h with
 | k0=>exact⟨0,_,_,rfl,rfl,by omega,rfl,(by show(2:Int)≠10;decide),by omega,.k1,fun u hu=>hq_eq (s_const hP 0 (by omega) rfl hu (by omega)) rfl⟩
 | k1=>exact⟨1,_,_,rfl,rfl,by omega,rfl,(by show(2:Int)≠10;decide),by omega,.k2,fun u hu=>hq_eq (s_const hP 1 (by omega) rfl hu (by omega)) rfl⟩
 | k2=>exact⟨2,_,_,rfl,rfl,by omega,rfl,(by show(2:Int)≠10;decide),by omega,.h3 0 nilV (by omega),fun u hu=>hq_eq (s_const hP 2 (by omega) rfl hu (by omega)) rfl⟩
 | h3 i d hi=>exact⟨3,_,_,rfl,rfl,by omega,rfl,(by show(28:Int)≠10;decide),by omega,.h4 _ hi,fun u hu=>hq_eq (s_less hP (by omega) (by omega) hu (by omega)) rfl⟩
 | h4 i hi =>
  by_cases hlt:i<n
  ·exact⟨4,_,_,rfl,rfl,by omega,rfl,(by show(9:Int)≠10;decide),by omega,.h5 _ (boV (decide (i<n))) hlt,fun u hu=>hq_eq (s_test hP hu (by omega)) (by rw[if_pos (by simpa using hlt)])⟩
  ·obtain rfl:i=n:=by omega
   exact⟨4,_,_,rfl,rfl,by omega,rfl,(by show(9:Int)≠10;decide),by omega,   .h7,fun u hu=>hq_eq (s_test hP hu (by omega)) (by rw[if_neg (by simp)])⟩
 | h5 i d hi=>exact⟨5,_,_,rfl,rfl,by omega,rfl,(by show(21:Int)≠10;decide),by omega,.h6 _ _ hi,fun u hu=>hq_eq (s_add hP (by omega) hu (by omega)) rfl⟩
 | h6 i d hi=>exact absurd rfl h6
 | h7=>exact⟨7,_,_,rfl,rfl,by omega,rfl,(by show(12:Int)≠10;decide),by omega,.e,fun u hu=>hq_eq (s_end hP hu (by omega)) rfl⟩
 | e=>omega
def Cn:Nat->DataW Value
 | 0=>D0
 | i+1=>(Cn i).put (hl 3) (.held (.int .i64 ((i:Nat)+1)))
theorem cn_3(i:Nat):Cn (i+1)=D3 (.int .i64 ((i:Nat)+1)):=by
 cases i with
 | zero=>exact put_0 _
 | succ i=>show(Cn (i+1)).put _ _=_;rw[cn_3 i];exact put_3 _ _
theorem cn_at(i:Nat):heldV ((Cn i).atKey (hl 3) (.held (.int .i64 0)))=.int .i64 (i:Nat):=by
 cases i with
 | zero=>rfl
 | succ i=>rw[cn_3,at_3];rfl
inductive Md (w0:World) (m:Hm) (D mt mc mr:Nat) (y:Po) (n p i:Nat) (s:Ms) (W:World):Prop
 | a (hx:((i:Nat):Int)<y.hot) (d:Dr w0 m s D mt mc mr y ⟨0,0,0⟩ (.slice none 0 0) D0 (Cn i) D0 W) (t:Hd W mt 0 D0) (c:Hd W mc i (Cn i)) (r:Hd W mr 0 D0)
 | b (hi:i=n) (hH:y.hot=(n:Nat)) (hv:Value) (C R:DataW Value) (d:Dr w0 m s D mt mc mr y ⟨0,1,0⟩ hv D0 C R W)
 | l (hi:i=n) (hp:4*n+4<=p) (k:Nat) (hk:y.hot=(k:Nat)) (hkn:k<n) (v hv:Value) (C R:DataW Value) (d:Dr w0 m s D mt mc mr y ⟨1,1,((4*n+4:Nat):Int)-((4*k+3:Nat):Int)⟩ hv (D3 v) C R W)
theorem Md.dr(h:Md w0 m D mt mc mr y n p i s W):∃x hv T C R,Dr w0 m s D mt mc mr y x hv T C R W/\(T=D0\/4*n+4<=p/\∃v,T=D3 v):=by
 cases h with
 | a hx d t c r=>exact⟨_,_,_,_,_,d,.inl rfl⟩
 | b hi hH hv C R d=>exact⟨_,_,_,_,_,d,.inl rfl⟩
 | l hi hp k hk hkn v hv C R d=>exact⟨_,_,_,_,_,d,.inr ⟨hp,v,rfl⟩⟩
theorem Md.on(h:Md w0 m D mt mc mr y n p i s W)(hb:Below W.heap.size W W'):Md w0 m D mt mc mr y n p i s W':=by
 cases h with
 | a hx d t c r=>exact .a hx (d.on hb) (hd_same t (hb.block _ (hd_lt t))) (hd_same c (hb.block _ (hd_lt c))) (hd_same r (hb.block _ (hd_lt r)))
 | b hi hH hv C R d=>exact .b hi hH hv C R (d.on hb)
 | l hi hp k hk hkn v hv C R d=>exact .l hi hp k hk hkn v hv C R (d.on hb)
theorem Md.step(h:Md w0 m D mt mc mr y n p i s W)(hM:Mh w0 m s' W')(hK:Keeps (·∈m.own) W W'):Md w0 m D mt mc mr y n (p+1) i s' W':=by
 cases h with
 | a hx d t c r =>
  obtain⟨a1,a2,a3,a4,a5,a6,a7,a8,a9,a10⟩:=d.ap
  exact .a hx (d.mach hM hK) (hd_same t (hK.block _ (hd_lt t) a8)) (hd_same c (hK.block _ (hd_lt c) a9)) (hd_same r (hK.block _ (hd_lt r) a10))
 | b hi hH hv C R d=>exact .b hi hH hv C R (d.mach hM hK)
 | l hi hp k hk hkn v hv C R d=>exact .l hi (by omega) k hk hkn v hv C R (d.mach hM hK)
def DvS (w0:World) (m:Hm) (D mt mc mr:Nat) (y:Po) (n p:Nat) (W:World):Prop :=
 (∃i s,Sh n p i s/\Md w0 m D mt mc mr y n p i s W) \/
 ∃k:Nat,y.hot=(k:Nat)/\k<n/\p=4*k+3/\∃Rb hv vb lo iv sv vs C R d,Dr w0 m (sI k n d (4*k+3)) D mt mc mr y ⟨1,1,0⟩ hv (D3 (.pointer (some ⟨Rb,0,none⟩))) C R W/\Rn w0 m (sI k n d (4*k+3)) Rb vb lo iv sv vs [nilV,nilV,nilV,nilV,nilV,nilV] W/\vb≠D/\vb≠mt/\vb≠mc/\vb≠mr
theorem DvS.dr(h:DvS w0 m D mt mc mr y n p W):∃s x hv T C R,Dr w0 m s D mt mc mr y x hv T C R W/\s.st=(p:Nat)/\s.en=(if p=4*n+6 then 1 else 0)/\p<=4*n+6:=by
 rcases h with⟨i,s,hS,hM⟩|⟨k,hk,hkn,rfl,Rb,hv,vb,lo,iv,sv,vs,C,R,d,hD,_⟩
 ·obtain⟨x,hv,T,C,R,hD,_⟩:=hM.dr
  exact⟨s,x,hv,T,C,R,hD,hS.st,hS.en,hS.le⟩
 ·exact⟨_,_,_,_,_,_,hD,rfl,(if_neg (by omega)).symm,by omega⟩
end
section
variable {w0:World} {m:Hm} {s s':Ms} {D mt mc mr:Nat} {y:Po} {x:Sx} {hv:Value} {T C R:DataW Value} {W W':World} {n p i:Nat}
theorem Sh.last(h:Sh n p i s)(hp:p=4*n+6):∃d:Vl,d.s.size<=300/\i=n/\s=⟨⟨0,(7:Nat),0,[numV n,numV n,numV 1,d]⟩,((4*n+5+1:Nat):Int),1,0,numV n⟩:=by
 cases h <;> first|exact⟨_,(by have e:boV (decide (n<n))=fV:=(by simp[boV]);rw[e];decide),rfl,rfl⟩|omega
theorem count_i(hP:Ph w0 m n)(hn:n<=200)(ht:∃a c,m.tv=.slice a 0 c)(hu:∃a c,m.uv=.slice a 0 c)(hh:y.hot<=60000){mo:Nat}(hmo:y.most=(mo:Nat))(hm1:16<=mo)(hm2:mo<=400)(hca:1<=y.cache)(htr:1<=y.tries){d:Vl}(hi:i<n)(hx:((i:Nat):Int)<y.hot)
  (h:Dr w0 m (sI (i+1) n d (4*(i+1)+3)) D mt mc mr y ⟨0,0,0⟩ (.slice none 0 0) D0 (Cn i) D0 W) (t:Hd W mt 0 D0) (c:Hd W mc i (Cn i)) (r:Hd W mr 0 D0) :
  Calls Tryz.prog 34 #[.pointer (some ⟨D,0,none⟩),hdV 3] W fun e W'=>e=.returned (.tuple #[])/\DvS w0 m D mt mc mr y n (4*(i+1)+3) W':=by
 obtain⟨a1,a2,a3,a4,a5,a6,a7,a8,a9,a10⟩:=h.ap
 have hat':heldV (((Cn i).put (hl 3) (.held (.int .i64 ((i:Nat)+1)))).atKey (hl 3) (.held (.int .i64 0)))=.int .i64 ((i:Nat)+1):=cn_at (i+1)
 by_cases hl:((i:Nat):Int)+1<y.hot
 ·refine(count_less h (by omega) c (cn_at i) ⟨by omega,by omega⟩ hat' hl).mono fun e W' q=>⟨q.1,.inl ⟨i+1,_,.h3 (i+1) d (by omega),.a (by omega) q.2.1.h (hd_same t (q.2.1.k.block _ (hd_lt t) a4)) q.2.2 (hd_same r (q.2.1.k.block _ (hd_lt r) (Ne.symm a6)))⟩⟩
 ·have hH:y.hot=((i+1:Nat):Int):=by omega
  refine count_hot h (n:=i) (by omega) c (cn_at i) ⟨by omega,by omega⟩ hat' (by omega) rfl (by omega) (r:=0) rfl (by omega) fun u q=>?_
  have t':=hd_same t (q.k.block _ (hd_lt t) a4)
  have r':=hd_same r (q.k.block _ (hd_lt r) (Ne.symm a6))
  by_cases hlt:i+1<n
  ·refine(try_any (t:=trH) (b:=true) (fun _=>rfl) q.h t' (nR:=0) (by omega) r' (r:=0) rfl ⟨by omega,by omega⟩ hca fun u hu'=>by rw[hmo];exact from_rec hP hu' ht hu hlt hn (by omega) hm1 hm2).mono fun e W' z=>⟨z.1,.inr ⟨i+1,hH,hlt,rfl,?_⟩⟩
   obtain⟨Rb,hv,vb,lo,iv,sv,vs,z1,z2,z3,z4,z5,z6⟩:=z.2.yes rfl
   exact⟨Rb,hv,vb,lo,iv,sv,vs,_,_,d,z1,z2,z3,z4,z5,z6⟩
  ·obtain rfl:n=i+1:=by omega
   refine(try_any (t:=tr0) (b:=false) (fun e=>(nomatch e)) q.h t' (nR:=0) (by omega) r' (r:=0) rfl ⟨by omega,by omega⟩ hca fun u hu'=>by rw[hmo];exact from_none hP hu' ht hu hn (by omega) hm1 hm2).mono fun e W' z=>⟨z.1,.inl ⟨i+1,_,.h3 (i+1) d (by omega),.b rfl hH _ _ _ (z.2.no rfl).1⟩⟩
theorem dvp(hP:Ph w0 m n)(hn:n<=200)(ht:∃a c,m.tv=.slice a 0 c)(hu:∃a c,m.uv=.slice a 0 c)(hh:y.hot<=60000){mo:Nat}(hmo:y.most=(mo:Nat))(hm1:16<=mo)(hm2:mo<=400)(hca:1<=y.cache)(htr:1<=y.tries):DvP m.B D (4*n+6) (DvS w0 m D mt mc mr y n):=by
 refine⟨fun p W h=>?_,fun p W h=>?_,fun p W h=>?_,fun p W h=>?_,fun p W h hlt=>?_⟩
 ·obtain⟨s,x,hv,T,C,R,hD,_⟩:=h.dr
  exact cell_block hD.bx rfl
 ·obtain⟨s,x,hv,T,C,R,hD,h1,_⟩:=h.dr
  rw[<- h1];exact hD.mh.cs.c5
 ·obtain⟨s,x,hv,T,C,R,hD,_,h1,_⟩:=h.dr
  rw[<- h1];exact hD.mh.cs.c6
 ·obtain⟨s,x,hv,T,C,R,hD,_,_,h1⟩:=h.dr
  exact h1
 ·rcases h with⟨i,s,hS,hM⟩|⟨k,hk,hkn,rfl,Rb,hv,vb,lo,iv,sv,vs,C,R,d,hD,hR,v1,v2,v3,v4⟩
  ·refine⟨false,?_⟩
   obtain⟨x,hv,T,C,R,hD,hT⟩:=hM.dr
   by_cases h6:s.x.pc=6
   ·cases hS with
    | h6 i d hi =>
     cases hM with
     | a hx dd t c r =>
      have ho:odL[6]?=some (od 10 3 0 0 rfl):=rfl
      refine(runTrace_no dd (pc:=6) (by omega) rfl rfl rfl 4000).mono fun e W' q=>⟨q.1,fun e=>(nomatch e),fun _=>?_⟩
      have e7:4*(i+1)+3=4*i+6+1:=by omega
      refine(step_loop hP (dd.on q.2) (pc:=6) rfl rfl ho rfl (pc':=3) (s':=stS 3 [numV (i+1),numV n,numV 1,d] (4*i+6+1)) rfl rfl (Q:=fun W'=>DvS w0 m D mt mc mr y n (4*(i+1)+3) W') (fun u du ku=>?_) (fun u hu=>hq_eq (s_loop hP hu (by omega)) rfl)).mono fun e W2 z=>⟨z.1,4*(i+1)+3,by omega,z.2⟩
      obtain⟨a1,a2,a3,a4,a5,a6,a7,a8,a9,a10⟩:=dd.ap
      have hK:Keeps (·∈m.own) W u:=(Keeps.of_below q.2).trans ku
      rw[<- e7]at du
      exact count_i hP hn ht hu hh hmo hm1 hm2 hca htr hi hx du (hd_same t (hK.block _ (hd_lt t) a8)) (hd_same c (hK.block _ (hd_lt c) a9)) (hd_same r (hK.block _ (hd_lt r) a10))
     | b hi'=>omega
     | l hi'=>omega
    | k0=>simp at h6
    | k1=>simp at h6
    | k2=>simp at h6
    | h3 i d hi=>simp at h6
    | h4 i hi=>simp at h6
    | h5 i d hi=>simp at h6
    | h7=>simp at h6
    | e=>simp at h6
   ·obtain⟨pc,o,s',f1,f2,f3,f4,f5,f6,f7,f8⟩:=hS.next hP hn hlt h6
    have hno:Maps.has T (hl pc)=false:=by
     rcases hT with rfl|⟨hp,v,rfl⟩
     ·rfl
     ·rcases f6 hp with rfl|rfl
      ·exact has_34 v
      ·exact has_37 v
    refine(runTrace_no hD f3 f1 f2 hno 4000).mono fun e W' q=>⟨q.1,fun e=>(nomatch e),fun _=>?_⟩
    exact(step_plain hP (hD.on q.2) f1 f2 f4 f5 f8).mono fun e W2 z=>⟨z.e,p+1,by omega,.inl ⟨i,s',f7,(hM.on q.2).step z.h.mh z.k⟩⟩
  ·refine⟨true,(runTrace_yes hn (by omega) hD hR v1 v2 v3 v4 rfl).mono fun e W' z=>⟨z.1,fun _=>⟨4*n+4,by omega,.inl ⟨n,stS 4 [numV n,numV n,numV 1,boV (decide (n<n))] (4*n+4),.h4 n (by omega),?_⟩⟩,fun e=>(nomatch e)⟩⟩
   have e:boV (decide (n<n))=boV false:=by simp
   rw[e]
   exact .l rfl (by omega) k hk hkn _ _ _ _ z.2
theorem drive_any(hP:Ph w0 m n)(hn:n<=200)(ht:∃a c,m.tv=.slice a 0 c)(hu:∃a c,m.uv=.slice a 0 c)(hh:1<=y.hot/\y.hot<=60000){mo:Nat}(hmo:y.most=(mo:Nat))(hm1:16<=mo)(hm2:mo<=400)(hca:1<=y.cache)(htr:1<=y.tries)
  (h:Dr w0 m (stS 0 [nilV,nilV,nilV,nilV] 0) D mt mc mr y ⟨0,0,0⟩ (.slice none 0 0) D0 D0 D0 W) (t:Hd W mt 0 D0) (c:Hd W mc 0 D0) (r:Hd W mr 0 D0) :
  Calls Tryz.prog 11 #[.pointer (some ⟨D,0,none⟩),.int .i64 4000] W fun e W'=>e=.returned (.tuple #[])/\∃(d:Vl) (x:Sx) (hv:Value) (T C R:DataW Value),d.s.size<=300/\Dr w0 m ⟨⟨0,(7:Nat),0,[numV n,numV n,numV 1,d]⟩,((4*n+5+1:Nat):Int),1,0,numV n⟩ D mt mc mr y x hv T C R W' /\
   (((n:Nat):Int)<y.hot->x=⟨0,0,0⟩)/\(((n:Nat):Int)=y.hot->x=⟨0,1,0⟩)/\(y.hot<((n:Nat):Int)->x.kept=1/\x.tried=1/\4*((n:Nat)-y.hot)<=x.inside):=by
 refine(drive_gen (dvp hP hn ht hu hh.2 hmo hm1 hm2 hca htr) (by omega) (p:=0) (.inl ⟨0,_,.k0,.a (by omega) h t c r⟩)).mono fun e W' z=>⟨z.1,?_⟩
 rcases z.2 with⟨i,s,hS,hM⟩|⟨k,hk,hkn,hp,_⟩
 ·have hs:∃d:Vl,d.s.size<=300/\i=n/\s=⟨⟨0,(7:Nat),0,[numV n,numV n,numV 1,d]⟩,((4*n+5+1:Nat):Int),1,0,numV n⟩:=hS.last rfl
  obtain⟨d,hds,rfl,rfl⟩:=hs
  cases hM with
  | a hx dd=>exact⟨d,_,_,_,_,_,hds,dd,fun _=>rfl,fun e=>by omega,fun e=>by omega⟩
  | b _ hH hv C R dd=>exact⟨d,_,_,_,_,_,hds,dd,fun e=>by omega,fun _=>rfl,fun e=>by omega⟩
  | l _ _ k hk hkn v hv C R dd=>exact⟨d,_,_,_,_,_,hds,dd,fun e=>by omega,fun e=>by omega,fun _=>⟨rfl,rfl,by show _<=((4*i+4:Nat):Int)-((4*k+3:Nat):Int);omega⟩⟩
 ·omega
end
def set9 (W:World) (B:Nat) (a b c d e f g h i:Value):World:=((((((((W.setCell ⟨B,0,none⟩ a).setCell ⟨B,1,none⟩ b).setCell ⟨B,2,none⟩ c).setCell ⟨B,3,none⟩ d).setCell ⟨B,4,none⟩ e).setCell ⟨B,5,none⟩ f).setCell ⟨B,6,none⟩ g).setCell ⟨B,7,none⟩ h).setCell ⟨B,8,none⟩ i
theorem set9_block{W:World}{B:Nat}{a b c d e f g h i a' b' c' d' e' f' g' h' i':Value}(hx:W.heap[B]?=some (.cells #[a',b',c',d',e',f',g',h',i'] 38)):(set9 W B a b c d e f g h i).heap[B]?=some (.cells #[a,b,c,d,e,f,g,h,i] 38):=by
 have k:=set_block (i:=8) i (set_block (i:=7) h (set_block (i:=6) g (set_block (i:=5) f (set_block (i:=4) e (set_block (i:=3) d (set_block (i:=2) c (set_block (i:=1) b (set_block (i:=0) a hx))))))))
 simp only[List.setIfInBounds_toArray,List.set_cons_zero,List.set_cons_succ]at k
 exact k
theorem set9_below{w W:World}{B m:Nat}(hb:Below m w W)(hB:m<=B)(a b c d e f g h i:Value):Below m w (set9 W B a b c d e f g h i) :=
 ((((((((hb.setCell (p:=⟨B,0,none⟩) hB _).setCell (p:=⟨B,1,none⟩) hB _).setCell (p:=⟨B,2,none⟩) hB _).setCell (p:=⟨B,3,none⟩) hB _).setCell (p:=⟨B,4,none⟩) hB _).setCell (p:=⟨B,5,none⟩) hB _).setCell (p:=⟨B,6,none⟩) hB _).setCell (p:=⟨B,7,none⟩) hB _).setCell (p:=⟨B,8,none⟩) hB _
theorem frz{W:World}{B:Nat}{c:Array Value}{t:TypeId}(h:W.heap[B]?=some (.cells c t)):W.frozen? ⟨B,0,none⟩=false/\W.frozen? ⟨B,1,none⟩=false/\W.frozen? ⟨B,2,none⟩=false/\W.frozen? ⟨B,3,none⟩=false/\W.frozen? ⟨B,4,none⟩=false/\W.frozen? ⟨B,5,none⟩=false/\W.frozen? ⟨B,6,none⟩=false/\W.frozen? ⟨B,7,none⟩=false/\W.frozen? ⟨B,8,none⟩=false :=
 ⟨frozen_block h,frozen_block h,frozen_block h,frozen_block h,frozen_block h,frozen_block h,frozen_block h,frozen_block h,frozen_block h⟩
theorem set9_other{W:World}{B k:Nat}{a b c d e f g h i:Value}(hk:k≠B):(set9 W B a b c d e f g h i).heap[k]?=W.heap[k]?:=by
 unfold set9
 rw[set1_other _ _ hk,set1_other _ _ hk,set1_other _ _ hk,set1_other _ _ hk,set1_other _ _ hk,set1_other _ _ hk,set1_other _ _ hk,set1_other _ _ hk,set1_other _ _ hk]
def begS (n r:Nat):St:={ fr:=[⟨n,0,0,List.replicate r nilV⟩],tb:=[],out:=[],st:=0,en:=0,er:=0,la:=nilV }
theorem res6{tm:Array Value}{W:World}{B:Nat}{a b c d e f g h i x:Value}(hp:tm[2]?.getD undef=.pointer (some ⟨B,0,none⟩))(hq:tm[3]?.getD undef=x)(hx:W.heap[B]?=some (.cells #[a,b,c,d,e,f,g,h,i] 38)):(results Tryz.f6 tm).run Tryz.prog W=.ok (.tuple #[.agg #[a,b,c,d,e,f,g,h,i],x]) W:=by
 obtain⟨d0,d1,d2,d3,d4,d5,d6,d7,d8⟩:=nine hx
 simp[results,Tryz.results6,go_sem,hp,hq,d0,d1,d2,d3,d4,d5,d6,d7,d8]
theorem begin_cells(b off nf cf n r:Nat)(W:World)(hn:n<nf)(d1:W.cell? ⟨b,off+n*4+1,none⟩=some (.int .i64 (r:Nat)))(hr:r<=250)
  (hmay:∀u,Below W.heap.size W u->Calls Tryz.prog 13 #[PV (some ⟨b,off,none⟩) nf cf n] u fun e w'=>e=.returned (.bool true)/\Below u.heap.size u w') :
  Calls Tryz.prog 6 #[PV (some ⟨b,off,none⟩) nf cf n] W fun e W'=>∃F g,e=.returned (.tuple #[stv (.slice (some ⟨F,0,none⟩) 1 1) (.slice none 0 0) (.slice none 0 0) (begS n r),.int .i64 0])/\OwnR W' g 25 3 r r (flat (List.replicate r nilV))/\W'.heap[F]?=some (.cells #[.int .i64 (n:Nat),.int .i64 0,.int .i64 0,.slice (some ⟨g,0,none⟩) r r] 66)/\W.heap.size<=F/\W.heap.size<=g/\F≠g/\Below W.heap.size W W':=by
 have hb:=World.block_lt_of_cell? _ _ d1
 simp only at hb
 obtain⟨w1,hw1⟩:∃w1,(W.alloc (.cells #[.slice (some ⟨b,off,none⟩) nf cf,.int .i64 (n:Nat)] 45)).alloc zst=w1:=⟨_,rfl⟩
 have E1:Below W.heap.size W w1:=by rw[<- hw1];exact ext_alloc (ext_alloc (Below.refl _ _) _) _
 have g1:w1.heap[W.heap.size]?=some (.cells #[.slice (some ⟨b,off,none⟩) nf cf,.int .i64 (n:Nat)] 45):=by rw[<- hw1];exact block_alloc _ (heap_new _ _)
 have g2:w1.heap[W.heap.size+1]?=some zst:=by rw[<- hw1];simpa using heap_new (W.alloc _) _
 have c0:=cell_block (i:=0) g1 rfl
 have c1:=cell_block (i:=1) g1 rfl
 replace hmay:Hid _:=hmay
 go_enter Tryz.func6,Tryz.ntmps6
 go_wp2_with (go_at_call 13;refine(hmay.out _ E1).mono ?_;rintro e w2 ⟨rfl,hb2⟩;refine Hid.out ?_)
 refine Lib.hid ?_
 have G1:=block_below hb2 g1
 clear c0 c1
 have c0:=cell_block (i:=0) G1 rfl
 have c1:=cell_block (i:=1) G1 rfl
 obtain⟨w3,hw3⟩:∃w3,w2.alloc (.cells #[.slice (some ⟨b,off,none⟩) nf cf,.int .i64 (n:Nat),.slice none 0 0,.slice none 0 0,.slice none 0 0,.int .i64 0,.int .i64 0,.int .i64 0,.int .i64 0,.int .i64 0,.string ⟨#[]⟩] 64)=w3:=⟨_,rfl⟩
 have E3:Below w2.heap.size w2 w3:=by rw[<- hw3];exact ext_alloc (Below.refl _ _) _
 have M3:w3.heap[w2.heap.size]?=some (.cells #[.slice (some ⟨b,off,none⟩) nf cf,.int .i64 (n:Nat),.slice none 0 0,.slice none 0 0,.slice none 0 0,.int .i64 0,.int .i64 0,.int .i64 0,.int .i64 0,.int .i64 0,.string ⟨#[]⟩] 64):=by rw[<- hw3];exact heap_new _ _
 have b0:=cellB E3 c0
 have b1:=cellB E3 c1
 have hfr:=frame_cells w2.heap.size b off nf cf n r w3 (cell_block (i:=0) M3 rfl) hn (cellB E3 (cellB (ext_trans E1 hb2) d1)) hr
 have hfr':Hid (∀u,u=w3->Calls Tryz.prog 14 #[.pointer (some ⟨w2.heap.size,0,none⟩),.int .i64 (n:Nat)] u _):=fun u e=>by subst e;exact hfr
 clear hfr
 go_wp2_with (go_at_call 14;refine(hfr'.out _ rfl).mono ?_;rintro e w4 ⟨g,rfl,hO,hg,hb4⟩;refine Hid.out ?_)
 refine Lib.hid ?_
 clear b0 b1 c0 c1 hw3 hfr' hmay
 obtain⟨B,hB⟩:∃B,w2.heap.size=B:=⟨_,rfl⟩
 have s1:=block_lt g2
 have s2:=hb2.size
 have s3:=block_lt M3
 have s4:=hb4.size
 have s5:=hO.lt
 have M4:=(hb4.block _ s3).trans M3
 have R4:w4.heap[W.heap.size+1]?=some zst:=(hb4.block _ (by omega)).trans ((E3.block _ (by omega)).trans ((hb2.block _ s1).trans g2))
 have E4:=ext_trans (ext_trans (ext_trans E1 hb2) E3) hb4
 rw[hB]at M4 s3⊢
 have b1:W.heap.size+1<B:=by omega
 clear E1 hb2 E3 hb4 g1 g2 G1 M3 hw1 hB
 obtain⟨w5,hw5⟩:∃w5,w4.alloc (.cells #[.int .i64 (n:Nat),.int .i64 0,.int .i64 0,.slice (some ⟨g,0,none⟩) r r] 66)=w5:=⟨_,rfl⟩
 have E5:Below w4.heap.size w4 w5:=by rw[<- hw5];exact ext_alloc (Below.refl _ _) _
 have F5:w5.heap[w4.heap.size]?=some (.cells #[.int .i64 (n:Nat),.int .i64 0,.int .i64 0,.slice (some ⟨g,0,none⟩) r r] 66):=by rw[<- hw5];exact heap_new _ _
 have M5:=(E5.block _ (by omega)).trans M4
 have R5:=(E5.block _ (block_lt R4)).trans R4
 have O5:=hO.same (E5.block _ s5)
 have k2:w5.cell? ⟨B,2,none⟩=some (.slice none 0 0):=cell_block M5 rfl
 have f2:w5.frozen? ⟨B,2,none⟩=false:=frozen_block M5
 obtain⟨w6,hw6⟩:∃w6,w5.setCell ⟨B,2,none⟩ (.slice (some ⟨w4.heap.size,0,none⟩) 1 1)=w6:=⟨_,rfl⟩
 have M6:w6.heap[B]?=some (.cells #[.slice (some ⟨b,off,none⟩) nf cf,.int .i64 (n:Nat),.slice (some ⟨w4.heap.size,0,none⟩) 1 1,.slice none 0 0,.slice none 0 0,.int .i64 0,.int .i64 0,.int .i64 0,.int .i64 0,.int .i64 0,.string ⟨#[]⟩] 64):=by
  rw[<- hw6]
  have:=set_block (i:=2) (.slice (some ⟨w4.heap.size,0,none⟩) 1 1) M5
  simpa using this
 have R6:w6.heap[W.heap.size+1]?=some zst:=by rw[<- hw6];exact(set1_other _ _ (by omega)).trans R5
 have F6:w6.heap[w4.heap.size]?=some (.cells #[.int .i64 (n:Nat),.int .i64 0,.int .i64 0,.slice (some ⟨g,0,none⟩) r r] 66):=by rw[<- hw6];exact(set1_other _ _ (by omega)).trans F5
 have O6:OwnR w6 g 25 3 r r (flat (List.replicate r nilV)):=O5.same (by rw[<- hw6];exact set1_other _ _ (by omega))
 have E6:Below W.heap.size W w6:=by rw[<- hw6];exact(ext_trans E4 E5).setCell (p:=⟨B,2,none⟩) (by show _<=B;omega) _
 clear M5 R5 F5 O5 E5 M4 R4 E4 hO
 have m2:=cell_block (i:=2) M6 rfl
 have m3:=cell_block (i:=3) M6 rfl
 have m4:=cell_block (i:=4) M6 rfl
 have m5:=cell_block (i:=5) M6 rfl
 have m6:=cell_block (i:=6) M6 rfl
 have m7:=cell_block (i:=7) M6 rfl
 have m8:=cell_block (i:=8) M6 rfl
 have m9:=cell_block (i:=9) M6 rfl
 have m10:=cell_block (i:=10) M6 rfl
 obtain⟨r0,r1,r2,r3,r4,r5,r6,r7,r8⟩:=nine R6
 obtain⟨z0,z1,z2,z3,z4,z5,z6,z7,z8⟩:=frz R6
 obtain⟨Y,hY⟩:∃Y,set9 w6 (W.heap.size+1) (.slice (some ⟨w4.heap.size,0,none⟩) 1 1) (.slice none 0 0) (.slice none 0 0) (.int .i64 0) (.int .i64 0) (.int .i64 0) (.int .i64 0) (.int .i64 0) (.string ⟨#[]⟩)=Y:=⟨_,rfl⟩
 have P1:Y.heap[W.heap.size+1]?=some (.cells #[.slice (some ⟨w4.heap.size,0,none⟩) 1 1,.slice none 0 0,.slice none 0 0,.int .i64 0,.int .i64 0,.int .i64 0,.int .i64 0,.int .i64 0,.string ⟨#[]⟩] 38):=by rw[<- hY];exact set9_block R6
 have E7:Below W.heap.size W Y:=by rw[<- hY];exact set9_below E6 (by omega) _ _ _ _ _ _ _ _ _
 have F7:Y.heap[w4.heap.size]?=some (.cells #[.int .i64 (n:Nat),.int .i64 0,.int .i64 0,.slice (some ⟨g,0,none⟩) r r] 66):=by rw[<- hY];exact(set9_other (by omega)).trans F6
 have O7:OwnR Y g 25 3 r r (flat (List.replicate r nilV)):=O6.same (by rw[<- hY];exact set9_other (by omega))
 unfold set9 at hY
 clear M6 R6 F6 O6 E6
 go_wp2
 exact bodyPost_ret (res6 (B:=W.heap.size+1) rfl rfl P1) rfl ⟨w4.heap.size,g,rfl,O7,F7,by omega,by omega,by omega,E7⟩
theorem mh_new{W W':World}{p:Mp}{cv:Value}{mn:Int}(h:Mc W p cv mn (begS 0 4) W'):∃m:Hm,m.B=p.B/\m.fv=cv/\m.mn=mn/\(∃a c,m.tv=.slice a 0 c)/\(∃a c,m.uv=.slice a 0 c)/\Mh W m (stS 0 [nilV,nilV,nilV,nilV] 0) W':=by
 obtain⟨q,hq,hx⟩:∃q,p.fw=[q]/\q.x=⟨0,0,0,[nilV,nilV,nilV,nilV]⟩:=by
  have hf:p.fw.map Fw.x=[⟨0,0,0,[nilV,nilV,nilV,nilV]⟩]:=h.hf
  rcases e:p.fw with _|⟨q,_|⟨r,l⟩⟩
  ·rw[e]at hf;simp at hf
  ·rw[e]at hf;simp at hf;exact⟨q,rfl,hf⟩
  ·rw[e]at hf;simp at hf
 have hnd:=h.nd
 simp only[Mp.own,hq,List.map_cons,List.map_nil,List.nodup_cons,List.mem_cons,List.not_mem_nil,or_false,not_or]at hnd
 have hlo:=h.lo
 have hfo:=h.fo
 have hrg:=h.rg q (by rw[hq];simp)
 rw[hx]at hrg
 have hc:frCells p.fw=[.int .i64 0,.int .i64 0,.int .i64 0,.slice (some ⟨q.g,0,none⟩) 4 q.c]:=by rw[hq];simp[frCells,hx]
 rw[hc]at hfo
 refine⟨⟨p.B,p.F,p.fc,q.g,q.c,cv,.slice (some ⟨p.T,0,none⟩) 0 p.tc,.slice (some ⟨p.U,0,none⟩) 0 p.uc,mn⟩,rfl,rfl,rfl,⟨_,_,rfl⟩,⟨_,_,rfl⟩,⟨h.box,hfo,hrg,?_,?_,?_,?_,h.bl⟩⟩
 ·exact hnd.1.1
 ·exact hnd.1.2.2.2
 ·exact hnd.2.1.2.2
 ·intro k hk
  simp only[Hm.own,List.mem_cons,List.not_mem_nil,or_false]at hk
  rcases hk with rfl|rfl|rfl
  ·exact hlo _ (by simp[Mp.own])
  ·exact hlo _ (by simp[Mp.own])
  ·exact hlo _ (by simp[Mp.own,hq])
section
variable {w0:World} {m:Hm} {s:Ms} {W:World}
abbrev Ms.to (s:Ms):St:=⟨[s.x],[],[],s.st,s.en,s.er,s.la⟩
theorem Mh.stin(h:Mh w0 m s W)(ht:∃a c,m.tv=.slice a 0 c)(hu:∃a c,m.uv=.slice a 0 c):StIn W.heap.size W (.slice (some ⟨m.F,0,none⟩) 1 m.fc) m.tv m.uv s.to:=by
 obtain⟨a,c,ht⟩:=ht
 obtain⟨a',c',hu⟩:=hu
 have hc:=h.cs
 refine⟨⟨_,_,rfl,by simp[maxLen],fun _=>⟨m.F,0,rfl,h.fr.lt,fun j x hj=>?_⟩⟩,⟨_,_,ht,by simp[maxLen],fun e=>absurd rfl e⟩,⟨_,_,hu,by simp[maxLen],fun e=>absurd rfl e⟩⟩
 rcases j with _|j
 ·simp at hj
  subst hj
  exact⟨hc.d0,hc.d1,hc.d2,_,hc.d3,h.rg.row⟩
 ·simp at hj
theorem res12{tm:Array Value}{W:World}{B:Nat}{a b c d e f g h i:Value}(hp:tm[2]?.getD undef=.pointer (some ⟨B,0,none⟩))(hx:W.heap[B]?=some (.cells #[a,b,c,d,e,f,g,h,i] 38)):(results Tryz.f12 tm).run Tryz.prog W=.ok (.agg #[a,b,c,d,e,f,g,h,i]) W:=by
 obtain⟨d0,d1,d2,d3,d4,d5,d6,d7,d8⟩:=nine hx
 simp[results,Tryz.results12,go_sem,hp,d0,d1,d2,d3,d4,d5,d6,d7,d8]
theorem mfresh_h(h:Mh w0 m s W)(ht:∃a c,m.tv=.slice a 0 c)(hu:∃a c,m.uv=.slice a 0 c)(hS:Small s.to) :
  Calls Tryz.prog 12 #[.pointer (some ⟨m.B,0,none⟩)] W fun e W'=>∃F fc T tc U uc,e=.returned (.agg #[.slice (some ⟨F,0,none⟩) 1 fc,.slice (some ⟨T,0,none⟩) 0 tc,.slice (some ⟨U,0,none⟩) 0 uc,.int .i64 s.st,.int .i64 s.en,.int .i64 s.er,.int .i64 s.la.k,.int .i64 s.la.n,.string s.la.s])/\Below W.heap.size W W':=by
 have hI:=h.stin ht hu
 have hbox:=h.box
 obtain⟨w1,hw1⟩:∃w1,W.alloc zst=w1:=⟨_,rfl⟩
 have E0:Below W.heap.size W w1:=by rw[<- hw1];exact ext_alloc (Below.refl W.heap.size W) _
 have g0:w1.heap[W.heap.size]?=some zst:=by rw[<- hw1];exact heap_new _ _
 have g1:=block_below E0 hbox
 have hf:Calls Tryz.prog 15 #[.agg #[.slice (some ⟨m.F,0,none⟩) 1 m.fc,m.tv,m.uv,.int .i64 s.st,.int .i64 s.en,.int .i64 s.er,.int .i64 s.la.k,.int .i64 s.la.n,.string s.la.s]] w1 fun e W'=>∃F fc T tc U uc,e=.returned (.agg #[.slice (some ⟨F,0,none⟩) 1 fc,.slice (some ⟨T,0,none⟩) 0 tc,.slice (some ⟨U,0,none⟩) 0 uc,.int .i64 s.st,.int .i64 s.en,.int .i64 s.er,.int .i64 s.la.k,.int .i64 s.la.n,.string s.la.s])/\Below w1.heap.size w1 W':=(fresh_any _ _ _ s.to w1 (hI.at E0) hS).mono fun e W' q=>by
  obtain⟨F,fc,T,tc,U,uc,fw,tw,rfl,_,hb⟩:=q
  exact⟨F,fc,T,tc,U,uc,rfl,hb⟩
 replace hf:Hid _:=hf
 clear hI hS hbox h ht hu
 obtain⟨a0,a1,a2,a3,a4,a5,a6,a7,a8,a9,a10⟩:w1.cell? ⟨m.B,0,none⟩=some m.fv/\w1.cell? ⟨m.B,1,none⟩=some (.int .i64 m.mn)/\w1.cell? ⟨m.B,2,none⟩=some (.slice (some ⟨m.F,0,none⟩) 1 m.fc)/\w1.cell? ⟨m.B,3,none⟩=some m.tv/\w1.cell? ⟨m.B,4,none⟩=some m.uv/\w1.cell? ⟨m.B,5,none⟩=some (.int .i64 s.st)/\w1.cell? ⟨m.B,6,none⟩=some (.int .i64 s.en)/\w1.cell? ⟨m.B,7,none⟩=some (.int .i64 s.er)/\w1.cell? ⟨m.B,8,none⟩=some (.int .i64 s.la.k)/\w1.cell? ⟨m.B,9,none⟩=some (.int .i64 s.la.n)/\w1.cell? ⟨m.B,10,none⟩=some (.string s.la.s):=⟨cell_block g1 rfl,cell_block g1 rfl,cell_block g1 rfl,cell_block g1 rfl,cell_block g1 rfl,cell_block g1 rfl,cell_block g1 rfl,cell_block g1 rfl,cell_block g1 rfl,cell_block g1 rfl,cell_block g1 rfl⟩
 go_enter Tryz.func12,Tryz.ntmps12
 go_wp2_with (go_at_call 15;(try rw[hw1]);refine(show Calls Tryz.prog 15 _ _ _ from hf.out).mono ?_;rintro e w2 ⟨F,fc,T,tc,U,uc,rfl,hb2⟩;refine Hid.out ?_)
 refine Lib.hid ?_
 have G0:=block_below hb2 g0
 have E2:=ext_trans E0 hb2
 clear a0 a1 a2 a3 a4 a5 a6 a7 a8 a9 a10 g0 g1
 obtain⟨r0,r1,r2,r3,r4,r5,r6,r7,r8⟩:=nine G0
 obtain⟨z0,z1,z2,z3,z4,z5,z6,z7,z8⟩:=frz G0
 obtain⟨Y,hY⟩:∃Y,set9 w2 W.heap.size (.slice (some ⟨F,0,none⟩) 1 fc) (.slice (some ⟨T,0,none⟩) 0 tc) (.slice (some ⟨U,0,none⟩) 0 uc) (.int .i64 s.st) (.int .i64 s.en) (.int .i64 s.er) (.int .i64 s.la.k) (.int .i64 s.la.n) (.string s.la.s)=Y:=⟨_,rfl⟩
 have P1:Y.heap[W.heap.size]?=some (.cells #[.slice (some ⟨F,0,none⟩) 1 fc,.slice (some ⟨T,0,none⟩) 0 tc,.slice (some ⟨U,0,none⟩) 0 uc,.int .i64 s.st,.int .i64 s.en,.int .i64 s.er,.int .i64 s.la.k,.int .i64 s.la.n,.string s.la.s] 38):=by rw[<- hY];exact set9_block G0
 have E7:Below W.heap.size W Y:=by rw[<- hY];exact set9_below E2 (Nat.le_refl _) _ _ _ _ _ _ _ _ _
 unfold set9 at hY
 clear G0 E2 hb2 E0 hw1
 go_wp2
 exact bodyPost_ret (res12 (B:=W.heap.size) rfl P1) rfl ⟨F,fc,T,tc,U,uc,rfl,E7⟩
end
theorem num_ne{n i:Nat}{x:Vl}(hn:n<=1000)(h:(csL n)[i]?=some x):constB 1 x=true:=by
 have hk:∀j≤1000,constB 1 (numV j)=true:=fun j hj=>by
  obtain⟨a,b,c⟩:=numV_k hj
  unfold constB
  rw[may_num,a];rfl
 rcases i with _|_|_|i
 ·simp[csL]at h;rw[<- h];exact hk 0 (by omega)
 ·simp[csL]at h;rw[<- h];exact hk n hn
 ·simp[csL]at h;rw[<- h];exact hk 1 (by omega)
 ·simp[csL]at h
theorem code_loop{f:Fd}{n:Nat}(hfr:f.r=4)(hcs:f.cs=csL n)(his:f.is=odL):codeB f=true:=by
 obtain⟨p,r,wp,wr,ca,cc,cs,ia,ic,is⟩:=f
 simp only at hfr hcs his
 subst hfr hcs his
 kernel_rfl
theorem prog_loop{f:Fd}{n:Nat}(hn:n<=200)(hfp:f.p=0)(hfr:f.r=4)(hcs:f.cs=csL n)(his:f.is=odL):progB [f] 0=true:=by
 have h1:headB f=true:=by
  unfold headB
  rw[hfp,hfr,hcs,his]
  kernel_rfl
 have h2:allB (fun _=>constB 1) f.cs=true:=by
  rw[hcs]
  exact allB_true fun j x _ hx=>num_ne (by omega) hx
 have h3:=code_loop hfr hcs his
 have h4:fnB 1 f=true:=by
  unfold fnB
  rw[h1,h2,h3];rfl
 have h5:allB (fun _=>fnB 1) [f]=true:=allB_true fun j x hj hx=>by
  rcases j with _|j
  ·simp at hx;rw[<- hx];exact h4
  ·simp at hx
 unfold progB
 rw[show mainB [f] 0=true from by simp[mainB,hfp]]
 rw[show allB (fun _=>fnB ([f].length:Nat)) [f]=true from h5]
 rfl
end
end Go.Proofs.YthljpnmhddfblaaGreatDoor
