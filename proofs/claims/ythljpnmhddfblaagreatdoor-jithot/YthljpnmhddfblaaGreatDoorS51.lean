/- A recorder in memory. -/
import Derived.Test.YthljpnmhddfblaaGreatDoorS48
import Derived.Test.YthljpnmhddfblaaGreatDoorS42
import Derived.Test.YthljpnmhddfblaaGreatDoorS49
namespace Go.Proofs.YthljpnmhddfblaaGreatDoor
open Go.RowKit Go.Shelf Go
set_option maxRecDepth 100000
set_option maxHeartbeats 8000000
set_option linter.all false
section
variable [DecidableEq Vl]
structure Rec where
 R:Nat
 P:Nat
 Q:Nat
 M:Nat
 bg:Int
 tv:Value
structure Sy where
 t:Tr
 st:List Int
 f:Nat->Option Nat
 k:Nat
abbrev fxR (m:Hm) (c:Rec):List Nat:=c.R::c.P::c.Q::c.M::m.own
abbrev rbox (m:Hm) (c:Rec) (t:Tr) (iv sv tv:Value):Obj:=.cells #[.pointer (some ⟨m.B,0,none⟩),.int .i64 t.fn,.int .i64 t.hd,iv,sv,.int .i64 c.bg,tv,.func (.func 130) #[] #[.pointer (some ⟨c.P,0,none⟩),.pointer (some ⟨c.Q,0,none⟩)]] 146
abbrev rowsR (S:Sy) (iv sv tv:Value) (vs:List Value):List Rwo:=nowR S.st tv::trR S.t iv sv vs
abbrev kI (r:Nat):Lit:=.int .i64 (r:Nat)
theorem keyI(r:Nat)(h:r<=1000):keyOf Tryz.prog 3 (.int .i64 (r:Nat))=some (kI r):=by
 have u:=Tryz.underlying3
 have hw:(Lit.int .i64 (r:Nat)).wf=true:=WalkArith.wf_i64 (by omega)
 simp[keyOf,u,mapKey,hw]
theorem keyedI:Maps.Keyed Tryz.prog 3:=Maps.int_keyed Tryz.underlying3
abbrev Hi (W:World) (M nn:Nat) (D:DataW Value):Prop:=W.ownsMap Tryz.prog 3 heldE M nn D
structure RdF (D:DataW Value) (f:Nat->Option Nat):Prop where
 m:Maps.IsMap D
 h:∀r,r<=1000->Maps.has D (kI r)=(f r).isSome
 a:∀r n z,r<=1000->f r=some n->D.atKey (kI r) z=.held (.int .i64 (n:Nat))
 z:∀r z,r<=1000->f r=none->D.atKey (kI r) z=z
theorem kI_ne{r q:Nat}(h:q≠r):kI q≠kI r:=fun e=>by
 simp only[kI,Lit.int.injEq,true_and]at e
 omega
abbrev updF (f:Nat->Option Nat) (r n:Nat):Nat->Option Nat:=fun q=>if q=r then some n else f q
theorem RdF.put{D:DataW Value}{f:Nat->Option Nat}(h:RdF D f)(r n:Nat):RdF (D.put (kI r) (.held (.int .i64 (n:Nat)))) (updF f r n):=by
 have hm:=h.m
 refine⟨?_,fun q hq=>?_,fun q k z hq hk=>?_,fun q z hq hk=>?_⟩
 ·obtain⟨es,rfl⟩:=h.m
  exact⟨_,rfl⟩
 ·by_cases e:q=r
  ·subst e
   rw[Maps.has_put_same hm (show WideAt.IsKeyLit (kI q) from trivial)];simp[updF]
  ·rw[Maps.has_put_other (kI_ne e),h.h q hq];simp[updF,e]
 ·by_cases e:q=r
  ·subst e
   rw[Maps.atKey_put_same hm (show WideAt.IsKeyLit (kI q) from trivial)]
   simp[updF]at hk;subst hk;rfl
  ·rw[Maps.atKey_put_other (kI_ne e)]
   exact h.a q k z hq (by simpa[updF,e]using hk)
 ·by_cases e:q=r
  ·subst e;simp[updF]at hk
  ·rw[Maps.atKey_put_other (kI_ne e)]
   exact h.z q z hq (by simpa[updF,e]using hk)
theorem rdF_0:RdF D0 (fun _=>none):=⟨⟨[],rfl⟩,fun _ _=>rfl,fun _ _ _ _ h=>(by cases h),fun _ _ _ _=>rfl⟩
theorem hi_same{W W':World}{M nn:Nat}{D:DataW Value}(h:Hi W M nn D)(e:W'.heap[M]?=W.heap[M]?):Hi W' M nn D:=by
 obtain⟨es,clock,hb,F,hr⟩:=h
 exact⟨es,clock,e.trans hb,F,hr⟩
theorem hi_lt{W:World}{M nn:Nat}{D:DataW Value}(h:Hi W M nn D):M<W.heap.size:=by
 obtain⟨es,clock,hb,F,hr⟩:=h
 exact block_lt hb
theorem look_i{W:World}{M nn:Nat}{D:DataW Value}(h:Hi W M nn D){f:Nat->Option Nat}(hf:RdF D f){r:Nat}(hr:r<=1000):(Instr.lookup 202 (.map (some M)) (.int .i64 (r:Nat)) true).run Tryz.prog W=.ok (.tuple #[.int .i64 (((f r).getD 0:Nat):Int),.bool (f r).isSome]) W:=by
 obtain⟨v,ps,hrun,hv⟩:=h.look_ok keyedI Tryz.underlying202 (Tryz.zeroValue3 _) (zd:=.held (.int .i64 0)) (zp:=[]) rfl (keyI r hr)
 have e:=congrArg (fun o:Option (DataW Value×List MemPlace)=>o.map Prod.fst) hv
 simp only[Option.map_some,Option.some.injEq]at e
 rw[hf.h r hr]at hrun
 cases hfr:f r with
 | none =>
  rw[hf.z r _ hr hfr]at e
  rw[hfr]at hrun
  have e2:v=.int .i64 0:=by injection e
  rw[e2]at hrun
  simpa using hrun
 | some n =>
  rw[hf.a r n _ hr hfr]at e
  rw[hfr]at hrun
  have e2:v=.int .i64 (n:Nat):=by injection e
  rw[e2]at hrun
  simpa using hrun
theorem store_i{W:World}{M nn:Nat}{D:DataW Value}(h:Hi W M nn D)(hn:nn<=100000){r:Nat}(hr:r<=1000)(v:Value):∃W',(Instr.mapUpdate 202 (.map (some M)) (.int .i64 (r:Nat)) v).run Tryz.prog W=.ok () W'/\Hi W' M (nn+1) (D.put (kI r) (.held v))/\Keeps (fun k=>k=M) W W':=by
 obtain⟨W',h1,h2,h3⟩:=h.store keyedI Tryz.underlying202 (by unfold maxLen;omega) (keyI r hr) (val:=v) (d:=.held v) (ps:=[]) rfl
 exact⟨W',h1,h2,turned_keeps h3⟩
theorem nodup4{a b c d:Nat}{L:List Nat}(h:(a::b::c::d::L).Nodup):a≠b/\a≠c/\a≠d/\b≠c/\b≠d/\c≠d/\a∉L/\b∉L/\c∉L/\d∉L:=by
 simp only[List.nodup_cons,List.mem_cons,not_or]at h
 obtain⟨⟨a,b,d,e⟩,⟨f,g,i⟩,⟨j,k⟩,l,_⟩:=h
 exact⟨a,b,d,f,g,j,e,i,k,l⟩
theorem own_fx{m:Hm}{c:Rec}{k:Nat}(h:k∈m.own):k∈fxR m c:=List.mem_cons_of_mem _ (List.mem_cons_of_mem _ (List.mem_cons_of_mem _ (List.mem_cons_of_mem _ h)))
structure Rz (w0:World) (m:Hm) (s:Ms) (c:Rec) (S:Sy) (O:List Nat) (W:World):Prop where
 mh:Mh w0 m s W
 ex:∃iv sv tv vs,tv=c.tv/\W.heap[c.R]?=some (rbox m c S.t iv sv tv)/\vs.length=S.t.sns.length/\Rs w0.heap.size (fxR m c) (rowsR S iv sv tv vs) W/\O=fxR m c++blks (rowsR S iv sv tv vs)
 pp:W.heap[c.P]?=some (.cells #[.pointer (some ⟨c.R,0,none⟩)] 142)
 qq:W.heap[c.Q]?=some (.cells #[.map (some c.M)] 202)
 mm:∃D,Hi W c.M S.k D/\RdF D S.f
section
variable {w0:World} {m:Hm} {s s':Ms} {c:Rec} {S:Sy} {O:List Nat} {W W':World}
theorem Rz.on(h:Rz w0 m s c S O W)(hb:Below W.heap.size W W'):Rz w0 m s c S O W':=by
 obtain⟨iv,sv,tv,vs,h0,h1,h2,h3,h4⟩:=h.ex
 obtain⟨D,hD,hf⟩:=h.mm
 exact⟨h.mh.on hb,⟨iv,sv,tv,vs,h0,block_below hb h1,h2,h3.below hb,h4⟩,block_below hb h.pp,block_below hb h.qq,D,hi_same hD (hb.block _ (hi_lt hD)),hf⟩
theorem Rz.nd(h:Rz w0 m s c S O W):O.Nodup/\(∀k∈O,w0.heap.size<=k/\k<W.heap.size)/\∀k∈fxR m c,k∈O:=by
 obtain⟨iv,sv,tv,vs,h0,h1,h2,h3,rfl⟩:=h.ex
 exact⟨h3.nd,h3.lt,fun k hk=>List.mem_append_left _ hk⟩
theorem Rz.ne(h:Rz w0 m s c S O W):(fxR m c).Nodup:=by
 obtain⟨iv,sv,tv,vs,h0,h1,h2,h3,h4⟩:=h.ex
 exact(List.nodup_append.1 h3.nd).1
theorem Rz.apart(h:Rz w0 m s c S O W):c.R≠c.P/\c.R≠c.Q/\c.R≠c.M/\c.P≠c.Q/\c.P≠c.M/\c.Q≠c.M/\c.R∉m.own/\c.P∉m.own/\c.Q∉m.own/\c.M∉m.own:=by
 exact nodup4 h.ne
theorem Rz.mach(h:Rz w0 m s c S O W)(hM:Mh w0 m s' W')(hK:MK m.own W m.own W'):Rz w0 m s' c S O W'/\MK O W O W':=by
 obtain⟨a1,a2,a3,a4,a5,a6,a7,a8,a9,a10⟩:=h.apart
 obtain⟨iv,sv,tv,vs,h0,h1,h2,h3,h4⟩:=h.ex
 obtain⟨D,hD,hf⟩:=h.mm
 refine⟨⟨hM,⟨iv,sv,tv,vs,h0,(hK.k.block _ (block_lt h1) a7).trans h1,h2,h3.wrote hK.k (fun k hk e=>h3.fx_not (B:=k) (own_fx e) hk),h4⟩,(hK.k.block _ (block_lt h.pp) a8).trans h.pp,(hK.k.block _ (block_lt h.qq) a9).trans h.qq,D,hi_same hD (hK.k.block _ (hi_lt hD) a10),hf⟩,hK.k.mono (fun k hk e=>h.nd.2.2 k (own_fx e)),fun k hk=>.inl hk⟩
end
section
variable {w0:World} {m:Hm} {s s':Ms} {c:Rec} {S:Sy} {O:List Nat} {W W':World}
structure Rw8 (m:Hm) (c:Rec) (S:Sy) (W:World) (ia sa ta:Option Addr) (ic sc tc:Nat):Prop where
 c0:W.cell? ⟨c.R,0,none⟩=some (.pointer (some ⟨m.B,0,none⟩))
 c1:W.cell? ⟨c.R,1,none⟩=some (.int .i64 S.t.fn)
 c2:W.cell? ⟨c.R,2,none⟩=some (.int .i64 S.t.hd)
 c3:W.cell? ⟨c.R,3,none⟩=some (.slice ia S.t.ins.length ic)
 c4:W.cell? ⟨c.R,4,none⟩=some (.slice sa S.t.sns.length sc)
 c5:W.cell? ⟨c.R,5,none⟩=some (.int .i64 c.bg)
 c6:W.cell? ⟨c.R,6,none⟩=some (.slice ta S.st.length tc)
 cv:W.cell? ⟨c.R,6,none⟩=some c.tv
 c7:W.cell? ⟨c.R,7,none⟩=some (.func (.func 130) #[] #[.pointer (some ⟨c.P,0,none⟩),.pointer (some ⟨c.Q,0,none⟩)])
 z:∀i,W.frozen? ⟨c.R,i,none⟩=false
 p0:W.cell? ⟨c.P,0,none⟩=some (.pointer (some ⟨c.R,0,none⟩))
 q0:W.cell? ⟨c.Q,0,none⟩=some (.map (some c.M))
theorem Rz.vals{S:Sy}(h:Rz w0 m s c S O W):∃ia sa ta ic sc tc vs,Value.slice ta S.st.length tc=c.tv/\W.heap[c.R]?=some (rbox m c S.t (.slice ia S.t.ins.length ic) (.slice sa S.t.sns.length sc) (.slice ta S.st.length tc))/\vs.length=S.t.sns.length/\Rs w0.heap.size (fxR m c) (rowsR S (.slice ia S.t.ins.length ic) (.slice sa S.t.sns.length sc) (.slice ta S.st.length tc) vs) W/\O=fxR m c++blks (rowsR S (.slice ia S.t.ins.length ic) (.slice sa S.t.sns.length sc) (.slice ta S.st.length tc) vs):=by
 obtain⟨iv,sv,tv,vs,h0,h1,h2,h3,h4⟩:=h.ex
 obtain⟨_,_,ia,ic,ei⟩:=Rwo.len (h3.ok (insR S.t.ins iv) (by simp[rowsR,trR]))
 obtain⟨_,_,sa,sc,es⟩:=Rwo.len (h3.ok (snsR S.t.sns sv vs) (by simp[rowsR,trR]))
 obtain⟨_,_,ta,tc,et⟩:=Rwo.len (h3.ok (nowR S.st tv) (by simp[rowsR]))
 have ei':iv=.slice ia S.t.ins.length ic:=ei
 have es':sv=.slice sa S.t.sns.length sc:=es
 have et':tv=.slice ta S.st.length tc:=et
 subst ei' es' et'
 exact⟨ia,sa,ta,ic,sc,tc,vs,h0,h1,h2,h3,h4⟩
theorem Rz.rd{S:Sy}(h:Rz w0 m s c S O W):∃ia sa ta ic sc tc,Rw8 m c S W ia sa ta ic sc tc:=by
 obtain⟨ia,sa,ta,ic,sc,tc,vs,h0,h1,h2,h3,h4⟩:=h.vals
 exact⟨ia,sa,ta,ic,sc,tc,cell_block h1 rfl,cell_block h1 rfl,cell_block h1 rfl,cell_block h1 rfl,cell_block h1 rfl,cell_block h1 rfl,cell_block h1 rfl,by rw[<- h0];exact cell_block h1 rfl,cell_block h1 rfl,fun i=>frozen_block h1,cell_block h.pp rfl,cell_block h.qq rfl⟩
theorem perm_add(a b:Rwo)(L:List Rwo):(a::b::L).Perm (b::a::L):=List.Perm.swap _ _ _
abbrev Sy.add (S:Sy) (o:Ti):Sy:={ S with t:={ S.t with ins:=S.t.ins++[o] } }
abbrev Sy.sn (S:Sy) (q:Sn):Sy:={ S with t:={ S.t with sns:=S.t.sns++[q] } }
theorem Rz.grew{S S':Sy}{V X:World}{O':List Nat}{iv sv tv:Value}{vs:List Value}(h:Rz w0 m s c S O V)(hK:MK O V O' X)(htv:tv=c.tv)(hbx:X.heap[c.R]?=some (rbox m c S'.t iv sv tv))(hv:vs.length=S'.t.sns.length)(hr:Rs w0.heap.size (fxR m c) (rowsR S' iv sv tv vs) X)(hO:O'=fxR m c++blks (rowsR S' iv sv tv vs))(hfx:∀k∈fxR m c,k≠c.R->X.heap[k]?=V.heap[k]?)(ef:S'.f=S.f)(ek:S'.k=S.k):Rz w0 m s c S' O' X:=by
 obtain⟨a1,a2,a3,a4,a5,a6,a7,a8,a9,a10⟩:=h.apart
 obtain⟨D,hD,hf⟩:=h.mm
 have ho:∀k∈m.own,X.heap[k]?=V.heap[k]?:=fun k hk=>hfx k (own_fx hk) (fun e=>a7 (e▸hk))
 refine⟨h.mh.blk (ho _ (by simp)) (ho _ (by simp)) (ho _ (by simp)) (below_keep h.mh.bl hK.k (fun k hk=>(h.nd.2.1 k hk).1)),⟨iv,sv,tv,vs,htv,hbx,hv,hr,hO⟩,(hfx c.P (by simp) a1.symm).trans h.pp,(hfx c.Q (by simp) a2.symm).trans h.qq,D,?_,by rw[ef];exact hf⟩
 rw[ek]
 exact hi_same hD (hfx c.M (by simp) a3.symm)
structure AdX (w0:World) (m:Hm) (s:Ms) (c:Rec) (S:Sy) (O:List Nat) (o:Ti) (V:World) (ia:Option Addr) (ic:Nat):Prop where
 ld:V.cell? ⟨c.R,3,none⟩=some (.slice ia S.t.ins.length ic)
 own:V.ownsRow w0.heap.size 121 8 (.slice ia S.t.ins.length ic) S.t.ins.length (insc S.t.ins)
 lo:w0.heap.size<=V.heap.size
 rt:∀(w3:World) (g cap:Nat),w3.ownsRow w0.heap.size 121 8 (.slice (some ⟨g,0,none⟩) (S.t.ins.length+1) cap) (S.t.ins.length+1) (insc S.t.ins++tic o)->V.grownBy w3 (Value.ownBlock (.slice ia S.t.ins.length ic))->(Value.ownBlock (.slice ia S.t.ins.length ic)=some g\/g=V.heap.size) ->
  w3.cell? ⟨c.R,3,none⟩=some (.slice ia S.t.ins.length ic)/\w3.frozen? ⟨c.R,3,none⟩=false/\∃O',Rz w0 m s c (S.add o) O' (w3.setCell ⟨c.R,3,none⟩ (.slice (some ⟨g,0,none⟩) (S.t.ins.length+1) cap))/\MK O V O' (w3.setCell ⟨c.R,3,none⟩ (.slice (some ⟨g,0,none⟩) (S.t.ins.length+1) cap))
theorem Rz.addX{S:Sy}(h:Rz w0 m s c S O W)(o:Ti):∃ia ic,∀V,Below W.heap.size W V->AdX w0 m s c S O o V ia ic:=by
 obtain⟨ia,sa,ta,ic,sc,tc,vs,h0,h1,h2,h3,h4⟩:=h.vals
 refine⟨ia,ic,fun V hb=>?_⟩
 have hV:=h.on hb
 have h1V:=block_below hb h1
 have h5:=(h3.below hb).perm (perm_add _ _ _)
 have hnd:=hV.nd
 refine⟨cell_block h1V rfl,h5.ok (insR S.t.ins (.slice ia S.t.ins.length ic)) (by simp),hV.mh.bl.size,fun w3 g cap hown hg hat=>?_⟩
 obtain⟨r1,r2⟩:=h5.grow (r:=insR S.t.ins (.slice ia S.t.ins.length ic)) hown hg hat
 have hfx:∀k∈fxR m c,w3.heap[k]?=V.heap[k]?/\k≠g:=fun k hk=>r2 k (List.mem_append_left _ hk)
 have hB3:=(hfx c.R (by simp)).1.trans h1V
 obtain⟨X,hX⟩:∃X,w3.setCell ⟨c.R,3,none⟩ (.slice (some ⟨g,0,none⟩) (S.t.ins.length+1) cap)=X:=⟨_,rfl⟩
 have hk3:=keeps_one w3 c.R 3 (.slice (some ⟨g,0,none⟩) (S.t.ins.length+1) cap)
 have hBX:=set_block (i:=3) (.slice (some ⟨g,0,none⟩) (S.t.ins.length+1) cap) hB3
 have hRX:=r1.box (B:=c.R) (by simp) (i:=3) (v:=.slice (some ⟨g,0,none⟩) (S.t.ins.length+1) cap)
 rw[hX]at hk3 hBX hRX⊢
 have e1:insc S.t.ins++tic o=insc (S.t.ins++[o]):=by simp[insc]
 have hRs:Rs w0.heap.size (fxR m c) (rowsR (S.add o) (.slice (some ⟨g,0,none⟩) (S.t.ins.length+1) cap) (.slice sa S.t.sns.length sc) (.slice ta S.st.length tc) vs) X:=by
  refine(show Rs _ _ (_::_::_) _ from ?_:Rs w0.heap.size (fxR m c) (insR (S.t.ins++[o]) (.slice (some ⟨g,0,none⟩) (S.t.ins.length+1) cap)::nowR S.st (.slice ta S.st.length tc)::snsR S.t.sns (.slice sa S.t.sns.length sc) vs::rgr S.t.sns vs) X).perm (List.Perm.swap _ _ _)
  simpa[insR,insc]using hRX
 have hOm:∀k,k∈blks (insR S.t.ins (.slice ia S.t.ins.length ic)::nowR S.st (.slice ta S.st.length tc)::snsR S.t.sns (.slice sa S.t.sns.length sc) vs::rgr S.t.sns vs)->k∈O:=fun k hk=>by
  rw[h4]
  refine List.mem_append_right _ ?_
  obtain⟨r,hr,he⟩:=blks_mem.1 hk
  exact blks_mem.2 ⟨r,(perm_add _ _ _).mem_iff.1 hr,he⟩
 have hMK:MK O V (fxR m c++blks (rowsR (S.add o) (.slice (some ⟨g,0,none⟩) (S.t.ins.length+1) cap) (.slice sa S.t.sns.length sc) (.slice ta S.st.length tc) vs)) X:=by
  refine⟨((Keeps.grown hg).mono (S':=(·∈O)) (fun k _ e=>hOm k (blks_mem.2 ⟨_,List.mem_cons_self,e.symm⟩))).trans (hk3.mono (fun k _ e=>by have e':k=c.R:=e;rw[e'];exact hnd.2.2 _ (by simp))),fun k hk=>?_⟩
  rcases List.mem_append.1 hk with hk|hk
  ·exact .inl (hnd.2.2 k hk)
  ·obtain⟨r,hr,he⟩:=blks_mem.1 hk
   have hr':=(perm_add _ _ _).mem_iff.1 hr
   rcases List.mem_cons.1 hr' with rfl|hr'
   ·have hgk:k=g:=by
     have:some g=some k:=he
     exact(Option.some.inj this).symm
    subst hgk
    rcases hat with e|e
    ·exact .inl (hOm k (blks_mem.2 ⟨_,List.mem_cons_self,e⟩))
    ·exact .inr (Nat.le_of_eq e.symm)
   ·exact .inl (hOm k (blks_mem.2 ⟨r,List.mem_cons_of_mem _ hr',he⟩))
 refine⟨cell_block hB3 rfl,frozen_block hB3,_,hV.grew hMK h0 ?_ h2 hRs rfl (fun k hk hn=>(hk3.block k (Nat.lt_of_lt_of_le (hnd.2.1 k (hnd.2.2 k hk)).2 hg.size) hn).trans (hfx k hk).1) rfl rfl,hMK⟩
 simpa using hBX
structure SnX (w0:World) (m:Hm) (s:Ms) (c:Rec) (S:Sy) (O:List Nat) (W:World) (q:Sn) (g0 cap0:Nat) (V:World) (sa:Option Addr) (sc:Nat):Prop where
 ld:V.cell? ⟨c.R,4,none⟩=some (.slice sa S.t.sns.length sc)
 lo:w0.heap.size<=V.heap.size
 ex:∃xs,V.ownsRow w0.heap.size 98 3 (.slice sa S.t.sns.length sc) S.t.sns.length xs/\∀(w3:World) (g cap:Nat),w3.ownsRow w0.heap.size 98 3 (.slice (some ⟨g,0,none⟩) (S.t.sns.length+1) cap) (S.t.sns.length+1) (xs++[.int .i64 q.pc,.int .i64 q.st,.slice (some ⟨g0,0,none⟩) q.rg.length cap0])->V.grownBy w3 (Value.ownBlock (.slice sa S.t.sns.length sc))->(Value.ownBlock (.slice sa S.t.sns.length sc)=some g\/g=V.heap.size) ->
  w3.cell? ⟨c.R,4,none⟩=some (.slice sa S.t.sns.length sc)/\w3.frozen? ⟨c.R,4,none⟩=false/\(∀k∈fxR m c,w3.heap[k]?=V.heap[k]?)/\∃O',Rz w0 m s c (S.sn q) O' (w3.setCell ⟨c.R,4,none⟩ (.slice (some ⟨g,0,none⟩) (S.t.sns.length+1) cap))/\MK O W O' (w3.setCell ⟨c.R,4,none⟩ (.slice (some ⟨g,0,none⟩) (S.t.sns.length+1) cap))
theorem Rz.snX{S:Sy}(h:Rz w0 m s c S O W):∃sa sc,(∀V,Below W.heap.size W V->V.cell? ⟨c.R,4,none⟩=some (.slice sa S.t.sns.length sc))/\∀q g0 cap0 V V',Below W.heap.size W V->Below V.heap.size V V'->W.heap.size<=g0->OwnR V g0 3 1 q.rg.length cap0 (ints q.rg)->SnX w0 m s c S O W q g0 cap0 V' sa sc:=by
 obtain⟨ia,sa,ta,ic,sc,tc,vs,h0,h1,h2,h3,h4⟩:=h.vals
 refine⟨sa,sc,fun V hb=>cell_block (block_below hb h1) rfl,fun q g0 cap0 V V' hb hb' hg0 hO=>?_⟩
 have hbb:=ext_trans hb hb'
 have hV:=h.on hbb
 have h1V:=block_below hbb h1
 have hnd:=hV.nd
 have h5:=h3.add (r:=rgrow q (.slice (some ⟨g0,0,none⟩) q.rg.length cap0)) hb (hO.owns (Nat.le_trans h.mh.bl.size hg0)) rfl hg0
 have hperm:(rgrow q (.slice (some ⟨g0,0,none⟩) q.rg.length cap0)::rowsR S (.slice ia S.t.ins.length ic) (.slice sa S.t.sns.length sc) (.slice ta S.st.length tc) vs).Perm (snsR S.t.sns (.slice sa S.t.sns.length sc) vs::nowR S.st (.slice ta S.st.length tc)::insR S.t.ins (.slice ia S.t.ins.length ic)::rgrow q (.slice (some ⟨g0,0,none⟩) q.rg.length cap0)::rgr S.t.sns vs):=by
  unfold rowsR trR
  haveI:DecidableEq Rwo:=fun a b=>Classical.propDecidable (a=b)
  refine List.perm_iff_count.2 fun a=>?_
  simp only[List.count_cons]
  omega
 have h6:=(h5.below hb').perm hperm
 refine⟨cell_block h1V rfl,hV.mh.bl.size,snc S.t.sns vs,h6.ok (snsR S.t.sns (.slice sa S.t.sns.length sc) vs) (by simp),fun w3 g cap hown hg hat=>?_⟩
 obtain⟨r1,r2⟩:=h6.grow (r:=snsR S.t.sns (.slice sa S.t.sns.length sc) vs) hown hg hat
 have hfx:∀k∈fxR m c,w3.heap[k]?=V'.heap[k]?/\k≠g:=fun k hk=>r2 k (List.mem_append_left _ hk)
 have hB3:=(hfx c.R (by simp)).1.trans h1V
 obtain⟨X,hX⟩:∃X,w3.setCell ⟨c.R,4,none⟩ (.slice (some ⟨g,0,none⟩) (S.t.sns.length+1) cap)=X:=⟨_,rfl⟩
 have hk3:=keeps_one w3 c.R 4 (.slice (some ⟨g,0,none⟩) (S.t.sns.length+1) cap)
 have hBX:=set_block (i:=4) (.slice (some ⟨g,0,none⟩) (S.t.sns.length+1) cap) hB3
 have hRX:=r1.box (B:=c.R) (by simp) (i:=4) (v:=.slice (some ⟨g,0,none⟩) (S.t.sns.length+1) cap)
 rw[hX]at hk3 hBX hRX⊢
 have e9:snsR (S.t.sns++[q]) (.slice (some ⟨g,0,none⟩) (S.t.sns.length+1) cap) (vs++[.slice (some ⟨g0,0,none⟩) q.rg.length cap0])=⟨.slice (some ⟨g,0,none⟩) (S.t.sns.length+1) cap,98,3,S.t.sns.length+1,snc S.t.sns vs++[.int .i64 q.pc,.int .i64 q.st,.slice (some ⟨g0,0,none⟩) q.rg.length cap0]⟩:=by simp[snsR,snc_snoc q _ S.t.sns vs h2]
 have hp2:((⟨.slice (some ⟨g,0,none⟩) (S.t.sns.length+1) cap,98,3,S.t.sns.length+1,snc S.t.sns vs++[.int .i64 q.pc,.int .i64 q.st,.slice (some ⟨g0,0,none⟩) q.rg.length cap0]⟩:Rwo)::nowR S.st (.slice ta S.st.length tc)::insR S.t.ins (.slice ia S.t.ins.length ic)::rgrow q (.slice (some ⟨g0,0,none⟩) q.rg.length cap0)::rgr S.t.sns vs).Perm (rowsR (S.sn q) (.slice ia S.t.ins.length ic) (.slice (some ⟨g,0,none⟩) (S.t.sns.length+1) cap) (.slice ta S.st.length tc) (vs++[.slice (some ⟨g0,0,none⟩) q.rg.length cap0])):=by
  unfold rowsR trR
  rw[rgr_snoc q _ S.t.sns vs h2]
  show List.Perm _ (_::insR S.t.ins _::snsR (S.t.sns++[q]) _ _::_)
  rw[e9]
  haveI:DecidableEq Rwo:=fun a b=>Classical.propDecidable (a=b)
  refine List.perm_iff_count.2 fun a=>?_
  simp only[List.count_cons,List.count_append,List.count_nil]
  omega
 have hRs:=hRX.perm hp2
 have hOm:∀k,k∈blks (snsR S.t.sns (.slice sa S.t.sns.length sc) vs::nowR S.st (.slice ta S.st.length tc)::insR S.t.ins (.slice ia S.t.ins.length ic)::rgr S.t.sns vs)->k∈O:=fun k hk=>by
  rw[h4]
  refine List.mem_append_right _ ?_
  obtain⟨r,hr,he⟩:=blks_mem.1 hk
  refine blks_mem.2 ⟨r,?_,he⟩
  simp only[rowsR,trR,List.mem_cons]at hr⊢
  rcases hr with h|h|h|h
  ·exact .inr (.inr (.inl h))
  ·exact .inl h
  ·exact .inr (.inl h)
  ·exact .inr (.inr (.inr h))
 have hKV:Keeps (·∈O) V' X:=((Keeps.grown hg).mono (S':=(·∈O)) (fun k _ e=>hOm k (blks_mem.2 ⟨_,List.mem_cons_self,e.symm⟩))).trans (hk3.mono (fun k _ e=>by have e':k=c.R:=e;rw[e'];exact hnd.2.2 _ (by simp)))
 have hO':∀k∈fxR m c++blks (rowsR (S.sn q) (.slice ia S.t.ins.length ic) (.slice (some ⟨g,0,none⟩) (S.t.sns.length+1) cap) (.slice ta S.st.length tc) (vs++[.slice (some ⟨g0,0,none⟩) q.rg.length cap0])),k∈O\/W.heap.size<=k:=fun k hk=>by
  rcases List.mem_append.1 hk with hk|hk
  ·exact .inl (hnd.2.2 k hk)
  ·obtain⟨r,hr,he⟩:=blks_mem.1 hk
   have hr':=hp2.mem_iff.2 hr
   simp only[List.mem_cons]at hr'
   rcases hr' with rfl|rfl|rfl|rfl|hr'
   ·have hgk:k=g:=by
     have:some g=some k:=he
     exact(Option.some.inj this).symm
    subst hgk
    rcases hat with e|e
    ·exact .inl (hOm k (blks_mem.2 ⟨_,List.mem_cons_self,e⟩))
    ·exact .inr (by have:=hbb.size;omega)
   ·exact .inl (hOm k (blks_mem.2 ⟨_,List.mem_cons_of_mem _ List.mem_cons_self,he⟩))
   ·exact .inl (hOm k (blks_mem.2 ⟨_,List.mem_cons_of_mem _ (List.mem_cons_of_mem _ List.mem_cons_self),he⟩))
   ·have hgk:k=g0:=by
     have:some g0=some k:=he
     exact(Option.some.inj this).symm
    exact .inr (by omega)
   ·exact .inl (hOm k (blks_mem.2 ⟨r,List.mem_cons_of_mem _ (List.mem_cons_of_mem _ (List.mem_cons_of_mem _ hr')),he⟩))
 have hMW:MK O W _ X:=⟨(Keeps.of_below hbb).trans hKV,hO'⟩
 have hfX:∀k∈fxR m c,k≠c.R->X.heap[k]?=W.heap[k]?:=fun k hk hn=>((hk3.block k (Nat.lt_of_lt_of_le (hnd.2.1 k (hnd.2.2 k hk)).2 hg.size) hn).trans (hfx k hk).1).trans (hbb.block k (h.nd.2.1 k (h.nd.2.2 k hk)).2)
 refine⟨cell_block hB3 rfl,frozen_block hB3,fun k hk=>(hfx k hk).1,_,h.grew hMW h0 ?_ (by simp[h2]) hRs rfl hfX rfl rfl,hMW⟩
 simpa using hBX
end
section
variable {w0:World} {m:Hm} {s s':Ms} {c:Rec} {S:Sy} {O:List Nat} {W W':World}
structure StX (w0:World) (m:Hm) (s:Ms) (c:Rec) (S:Sy) (O:List Nat) (W:World) (tb tc:Nat):Prop where
 cv:c.tv=.slice (some ⟨tb,0,none⟩) S.st.length tc
 c6:W.cell? ⟨c.R,6,none⟩=some (.slice (some ⟨tb,0,none⟩) S.st.length tc)
 ce:∀(i:Nat) x,S.st[i]?=some x->W.cell? ⟨tb,i,none⟩=some (.int .i64 x)
 fr:∀i,W.frozen? ⟨tb,i,none⟩=false
 o:tb∈O
 nf:tb∉fxR m c
 lt:tb<W.heap.size
 ro:OwnR W tb 3 1 S.st.length tc (ints S.st)
 set:∀(V:World) (i:Nat) (x:Int),Below W.heap.size W V->Rz w0 m s c { S with st:=S.st.set i x } O (V.setCell ⟨tb,i,none⟩ (.int .i64 x))/\MK O V O (V.setCell ⟨tb,i,none⟩ (.int .i64 x))
theorem Rz.stX{S:Sy}(h:Rz w0 m s c S O W)(hn:S.st≠[]):∃tb tc,StX w0 m s c S O W tb tc:=by
 obtain⟨iv,sv,tv,vs,h0,h1,h2,h3,h4⟩:=h.ex
 have hok:=h3.ok (nowR S.st tv) (by simp[rowsR])
 obtain⟨tb,tc,hrd⟩:=Rwo.rd hok (by simpa using hn)
 have et:tv=.slice (some ⟨tb,0,none⟩) S.st.length tc:=hrd.v
 subst et
 have hnd:=h.nd
 have hbO:tb∈blks (rowsR S iv sv (.slice (some ⟨tb,0,none⟩) S.st.length tc) vs):=blks_mem.2 ⟨_,List.mem_cons_self,rfl⟩
 have hnf:tb∉fxR m c:=fun e=>(List.nodup_append.1 h3.nd).2.2 tb e tb hbO rfl
 have htO:tb∈O:=by rw[h4];exact List.mem_append_right _ hbO
 refine⟨tb,tc,h0.symm,cell_block h1 rfl,fun i x hi=>hrd.c i (.int .i64 x) (by simp[ints,hi]),hrd.z,htO,hnf,hrd.lt,(OwnR.of hok).1,fun V i x hb=>?_⟩
 have hV:=h.on hb
 have h1V:=block_below hb h1
 have h5:=(h3.below hb).set (r:=nowR S.st (.slice (some ⟨tb,0,none⟩) S.st.length tc)) rfl i (.int .i64 x)
 have hMK:MK O V O (V.setCell ⟨tb,i,none⟩ (.int .i64 x)):=MK.set htO
 have hRs:Rs w0.heap.size (fxR m c) (rowsR { S with st:=S.st.set i x } iv sv (.slice (some ⟨tb,0,none⟩) (S.st.set i x).length tc) vs) (V.setCell ⟨tb,i,none⟩ (.int .i64 x)):=by
  have e:ints (S.st.set i x)=(ints S.st).set i (.int .i64 x):=by simp[ints,List.map_set]
  have e2:nowR (S.st.set i x) (.slice (some ⟨tb,0,none⟩) (S.st.set i x).length tc)=⟨.slice (some ⟨tb,0,none⟩) S.st.length tc,3,1,S.st.length,(ints S.st).set i (.int .i64 x)⟩:=by
   simp[nowR,e]
  show Rs _ _ (nowR (S.st.set i x) _::_) _
  rw[e2]
  exact h5
 refine⟨hV.grew hMK (by simpa using h0) ?_ h2 hRs ?_ (fun k hk hn'=>set1_other _ _ (fun e=>hnf (e▸hk))) rfl rfl,hMK⟩
 ·have:(V.setCell ⟨tb,i,none⟩ (.int .i64 x)).heap[c.R]?=_:=(set1_other _ _ (fun e=>hnf (by rw[<- e];simp))).trans h1V
  rw[this]
  simp
 ·rw[h4]
  congr 1
abbrev Sy.rd (S:Sy) (r n:Nat):Sy:={ S with f:=updF S.f r n,k:=S.k+1 }
theorem Rz.put{S:Sy}(h:Rz w0 m s c S O W)(hk:S.k<=1000){r n:Nat}(hr:r<=1000):∃X,(Instr.mapUpdate 202 (.map (some c.M)) (.int .i64 (r:Nat)) (.int .i64 (n:Nat))).run Tryz.prog W=.ok () X/\Rz w0 m s c (S.rd r n) O X/\MK O W O X:=by
 obtain⟨iv,sv,tv,vs,h0,h1,h2,h3,h4⟩:=h.ex
 obtain⟨D,hD,hf⟩:=h.mm
 obtain⟨X,hrun,hX,hK⟩:=store_i hD (by omega) hr (.int .i64 (n:Nat))
 obtain⟨a1,a2,a3,a4,a5,a6,a7,a8,a9,a10⟩:=h.apart
 have hMO:c.M∈O:=h.nd.2.2 _ (by simp)
 have hMK:MK O W O X:=⟨hK.mono (fun k _ e=>by have e':k=c.M:=e;rw[e'];exact hMO),fun k hk=>.inl hk⟩
 have ho:∀k∈m.own,X.heap[k]?=W.heap[k]?:=fun k hk=>hK.block k (h.nd.2.1 k (h.nd.2.2 k (own_fx hk))).2 (fun e=>a10 (by have e':k=c.M:=e;exact e'▸hk))
 refine⟨X,hrun,⟨h.mh.blk (ho _ (by simp)) (ho _ (by simp)) (ho _ (by simp)) (below_keep h.mh.bl hMK.k (fun k hk=>(h.nd.2.1 k hk).1)),⟨iv,sv,tv,vs,h0,(hK.block _ (block_lt h1) a3).trans h1,h2,h3.wrote hK (fun k hk e=>h3.fx_not (B:=c.M) (by simp) (by have e':k=c.M:=e;exact e'▸hk)),h4⟩,(hK.block _ (block_lt h.pp) a5).trans h.pp,(hK.block _ (block_lt h.qq) a6).trans h.qq,_,hX,hf.put r n⟩,hMK⟩
theorem Rz.look{S:Sy}(h:Rz w0 m s c S O W){r:Nat}(hr:r<=1000):(Instr.lookup 202 (.map (some c.M)) (.int .i64 (r:Nat)) true).run Tryz.prog W=.ok (.tuple #[.int .i64 (((S.f r).getD 0:Nat):Int),.bool (S.f r).isSome]) W:=by
 obtain⟨D,hD,hf⟩:=h.mm
 exact look_i hD hf hr
end
section
variable {w0:World} {m:Hm} {s s':Ms} {c:Rec} {S:Sy} {O:List Nat} {W W':World}
structure AnQ (w0:World) (m:Hm) (s:Ms) (c:Rec) (n:Nat) (S':Sy) (O:List Nat) (W:World) (e:Ending) (W':World):Prop where
 e:e=.returned (.int .i64 (n:Nat))
 ex:∃O',Rz w0 m s c S' O' W'/\MK O W O' W'
theorem radd_any{S:Sy}(h:Rz w0 m s c S O W)(o:Ti)(hn:S.t.ins.length<=1000):Calls Tryz.prog 131 #[.pointer (some ⟨c.R,0,none⟩),o.val] W (AnQ w0 m s c S.t.ins.length (S.add o) O W):=by
 obtain⟨ia,ic,hA⟩:=h.addX o
 obtain⟨X,hX⟩:∃X,W.alloc o.box=X:=⟨_,rfl⟩
 have EX:Below W.heap.size W X:=by rw[<- hX];exact ext_alloc (Below.refl _ _) _
 have gX:X.heap[W.heap.size]?=some o.box:=by rw[<- hX];exact heap_new _ _
 obtain⟨i0,hi0,hz0,hz1,hz2⟩:=info_parts info121
 have hone:=tic_one o
 obtain⟨n,hnn⟩:∃n,S.t.ins.length=n:=⟨_,rfl⟩
 have hlen:∀V,AdX w0 m s c S O o V ia ic->V.cell? ⟨c.R,3,none⟩=some (.slice ia n ic)/\V.ownsRow w0.heap.size 121 8 (.slice ia n ic) n (insc S.t.ins)/\w0.heap.size<=V.heap.size:=fun V a=>by rw[<- hnn];exact⟨a.ld,a.own,a.lo⟩
 have hrt:∀V w3 g cap,Below W.heap.size W V->AdX w0 m s c S O o V ia ic->w3.ownsRow w0.heap.size 121 8 (.slice (some ⟨g,0,none⟩) (n+1) cap) (n+1) (insc S.t.ins++tic o)->V.grownBy w3 (Value.ownBlock (.slice ia n ic))->(Value.ownBlock (.slice ia n ic)=some g\/g=V.heap.size) ->
   w3.cell? ⟨c.R,3,none⟩=some (.slice ia n ic)/\w3.frozen? ⟨c.R,3,none⟩=false/\Hid (AnQ w0 m s c n (S.add o) O W (.returned (.int .i64 (n:Nat))) (w3.setCell ⟨c.R,3,none⟩ (.slice (some ⟨g,0,none⟩) (n+1) cap))):=fun V w3 g cap hb a x1 x2 x3=>by
  rw[<- hnn]at x1 x2 x3⊢
  obtain⟨y1,y2,O',y3,y4⟩:=a.rt w3 g cap x1 x2 x3
  exact⟨y1,y2,rfl,O',y3,(MK.below hb).trans y4⟩
 rw[hnn]at hn⊢
 have hn1:n+1<=maxLen:=by unfold maxLen;omega
 have hn2:(n+1)*72<=140737488355328:=by omega
 have hw:IntKind.i64.wrap ((n:Int)+1-1)=(n:Int):=by rw[IntKind.wrap_i64];omega
 have aX:=hA X EX
 obtain⟨ldX,_,_⟩:=hlen X aX
 have aA:=hA (X.alloc o.box) (ext_alloc EX _)
 obtain⟨ldA,_,_⟩:=hlen _ aA
 have aY:=hA (X.alloc o.box).drew (ext_drew (ext_alloc EX _))
 obtain⟨ldY,ownY,loY⟩:=hlen _ aY
 have hnews:=tic_news (W:=(X.alloc o.box).drew) (g:=X.heap.size) (o:=o) (heap_new X _)
 have o0:=cell_block (i:=0) gX rfl
 have o1:=cell_block (i:=1) gX rfl
 have o2:=cell_block (i:=2) gX rfl
 have o3:=cell_block (i:=3) gX rfl
 have o4:=cell_block (i:=4) gX rfl
 have o5:=cell_block (i:=5) gX rfl
 have o6:=cell_block (i:=6) gX rfl
 have o7:=cell_block (i:=7) gX rfl
 replace hA:Hid _:=hA
 replace hlen:Hid _:=hlen
 replace hrt:Hid _:=hrt
 replace hnn:Hid _:=hnn
 clear h ldY
 go_enter Tryz.func131,Tryz.ntmps131
 go_wp2
 go_region_law (first|(refine step_append_lies _ (by rfl) _ _ _ (by rfl) w0.heap.size 121 i0 _ 8 72 Tryz.underlying99 hi0 hz0 hz1 hz2 rfl (by omega) (.slice ia n ic) n _ (by rfl) ownY ⟨X.heap.size,0,none⟩ 1 1 (tic o) (by rfl) (by rfl) hnews hone (by omega) hn1 hn2 loY _ rfl ?_;intro g3 cap3 w3 hown3 hgrow hat hlt3;obtain⟨cl,fr,hM⟩:=hrt.out _ w3 g3 cap3 (ext_drew (ext_alloc EX _)) aY hown3 hgrow hat))
 all_goals
  go_wp2
  go_ret
  exact hM.out
end
abbrev trg (r:Nat):Ti:=⟨1,(r:Nat),0,0,nilV,-1⟩
def HasR (S:Sy) (r n:Nat) (S':Sy):Prop:=(S.st[r]?=some (n:Int)/\S'=S)\/(S.st[r]?=some (-1)/\S.f r=some n/\S'=S)\/(S.st[r]?=some (-1)/\S.f r=none/\n=S.t.ins.length/\S'=(S.add (trg r)).rd r n)
section
variable {w0:World} {m:Hm} {s s':Ms} {c:Rec} {S S':Sy} {O:List Nat} {W W':World}
theorem reader_any(h:Rz w0 m s c S O W){r n:Nat}(hr:r<=1000)(hR:HasR S r n S')(hl:S.t.ins.length<=1000)(hk:S.k<=1000):Calls Tryz.prog 130 #[.int .i64 (r:Nat),.pointer (some ⟨c.P,0,none⟩),.pointer (some ⟨c.Q,0,none⟩)] W (AnQ w0 m s c n S' O W):=by
 have hst:S.st≠[]:=fun e=>by rcases hR with⟨h1,_⟩|⟨h1,_⟩|⟨h1,_⟩ <;> simp[e]at h1
 have hrl:r<S.st.length:=by rcases hR with⟨h1,_⟩|⟨h1,_⟩|⟨h1,_⟩ <;> exact(List.getElem?_eq_some_iff.1 h1).1
 obtain⟨tb,tc,hx⟩:=h.stX hst
 obtain⟨ia,sa,ta,ic,sc,tc',hd⟩:=h.rd
 have p0:=hd.p0
 have q0:=hd.q0
 have c6:=hx.c6
 have hlk:=h.look hr
 have hlt:(r:Int)<(S.st.length:Int):=by omega
 obtain⟨L,hL⟩:∃L,S.st.length=L:=⟨_,rfl⟩
 rw[hL]at c6 hlt
 rcases hR with⟨h1,rfl⟩|⟨h1,h2,rfl⟩|⟨h1,h2,rfl,rfl⟩
 ·have ce:=hx.ce r n h1
  have hne:((n:Int) != -1)=true:=by simp
  have hfin:AnQ w0 m s c n S' O W (.returned (.int .i64 (n:Nat))) W:=⟨rfl,O,h,MK.refl _ _⟩
  replace hfin:Hid _:=hfin
  clear h hx hd hlk hL h1
  go_enter Tryz.func130,Tryz.ntmps130
  go_wp2
  go_ret
  exact hfin.out
 ·have ce:=hx.ce r (-1) h1
  rw[h2]at hlk
  simp only[Option.getD_some,Option.isSome_some]at hlk
  have hfin:AnQ w0 m s c n S' O W (.returned (.int .i64 (n:Nat))) W:=⟨rfl,O,h,MK.refl _ _⟩
  replace hfin:Hid _:=hfin
  clear h hx hd hL h1 h2
  go_enter Tryz.func130,Tryz.ntmps130
  go_wp2
  go_ret
  exact hfin.out
 ·have ce:=hx.ce r (-1) h1
  rw[h2]at hlk
  simp only[Option.getD_none,Option.isSome_none]at hlk
  have hadd:∀_:Unit,Calls Tryz.prog 131 #[.pointer (some ⟨c.R,0,none⟩),(trg r).val] W fun e W'=>e=.returned (.int .i64 (S.t.ins.length:Nat))/\W'.cell? ⟨c.Q,0,none⟩=some (.map (some c.M))/\∃X,(Instr.mapUpdate 202 (.map (some c.M)) (.int .i64 (r:Nat)) (.int .i64 (S.t.ins.length:Nat))).run Tryz.prog W'=.ok () X/\Hid (AnQ w0 m s c S.t.ins.length ((S.add (trg r)).rd r S.t.ins.length) O W (.returned (.int .i64 (S.t.ins.length:Nat))) X):=fun _=>(radd_any h (trg r) hl).mono fun e W' q=>by
   obtain⟨O1,hz,hk1⟩:=q.ex
   obtain⟨ia',sa',ta',ic',sc',tc'',hd'⟩:=hz.rd
   obtain⟨X,hrun,hX,hk2⟩:=hz.put (n:=S.t.ins.length) hk hr
   exact⟨q.e,hd'.q0,X,hrun,rfl,O1,hX,hk1.trans hk2⟩
  obtain⟨n,hn⟩:∃n,S.t.ins.length=n:=⟨_,rfl⟩
  rw[hn]at hadd⊢
  replace hadd:Hid _:=hadd
  clear h hx hd hL h1 h2 hn hl hk
  go_enter Tryz.func130,Tryz.ntmps130
  go_wp2_with (go_at_call 131;refine(hadd.out ()).mono ?_;rintro e w1 ⟨rfl,q1,X,hrun,hfin⟩)
  go_ret
  exact hfin.out
end
theorem sn_news{W:World}{g:Nat}{a b v:Value}(h:W.heap[g]?=some (.cells #[a,b,v] 98)):∀j u,[a,b,v][j]?=some u->W.cell? ((⟨g,0,none⟩:Addr).add j)=some u:=World.news_of_block (cs:=#[a,b,v]) h
section
variable {w0:World} {m:Hm} {s s':Ms} {c:Rec} {S:Sy} {O:List Nat} {W W':World}
theorem snap_any(h:Rz w0 m s c S O W)(hst:1<=S.st.length/\S.st.length<=250)(hn:S.t.sns.length<=1000){d:Nat}(hd:s.st-c.bg=(d:Nat))(hd2:d<=60000):Calls Tryz.prog 83 #[.pointer (some ⟨c.R,0,none⟩)] W (AnQ w0 m s c S.t.sns.length (S.sn ⟨s.x.pc,(d:Nat),S.st⟩) O W):=by
 obtain⟨tb,tc,hx⟩:=h.stX (fun e=>by rw[e]at hst;simp at hst)
 obtain⟨sa,sc,hls,hsn⟩:=h.snX
 obtain⟨i0,hi0,hz0,hz1,hz2⟩:=info_parts info98
 obtain⟨L,hL⟩:∃L,S.st.length=L:=⟨_,rfl⟩
 obtain⟨n,hnn⟩:∃n,S.t.sns.length=n:=⟨_,rfl⟩
 have hC:∀V,Below W.heap.size W V->(V.cell? ⟨c.R,0,none⟩=some (.pointer (some ⟨m.B,0,none⟩))/\V.cell? ⟨c.R,5,none⟩=some (.int .i64 c.bg)/\V.cell? ⟨c.R,6,none⟩=some (.slice (some ⟨tb,0,none⟩) L tc)/\V.cell? ⟨m.B,5,none⟩=some (.int .i64 s.st)/\V.cell? ⟨m.F,1,none⟩=some (.int .i64 s.x.pc))/\V.cell? ⟨c.R,4,none⟩=some (.slice sa n sc):=fun V hb=>by
  have hV:=h.on hb
  obtain⟨ia',sa',ta',ic',sc',tc',hr⟩:=hV.rd
  have hm:=hV.mh.cs
  have h6:=(hb.cell (p:=⟨c.R,6,none⟩) (h.nd.2.1 _ (h.nd.2.2 c.R (by simp))).2).trans hx.c6
  rw[<- hL,<- hnn]
  exact⟨⟨hr.c0,hr.c5,h6,hm.c5,hm.d1⟩,hls V hb⟩
 have htop:∀V,Below W.heap.size W V->Calls Tryz.prog 39 #[.pointer (some ⟨m.B,0,none⟩)] V fun e W'=>e=.returned (.pointer (some ⟨m.F,0,none⟩))/\Below V.heap.size V W':=fun V hb=>(top0 (h.on hb).mh.cs.c2).mono fun e W' ⟨h1,k,h2⟩=>⟨h1,by rw[h2];exact drewN_below (Below.refl _ _)⟩
 have hcl:∀V,Below W.heap.size W V->Calls Tryz.prog 103 #[.slice (some ⟨tb,0,none⟩) L tc] V fun e W'=>∃g cap,e=.returned (.slice (some ⟨g,0,none⟩) L cap)/\OwnR W' g 3 1 L cap (ints S.st)/\V.heap.size<=g/\Below V.heap.size V W':=fun V hb=>by
  have hxl:=hx.lt
  refine(cloneI tb 0 L tc (ints S.st) V (by omega) (by simp[hL]) (fun u hu=>by obtain⟨y,_,rfl⟩:=List.mem_map.1 hu;rfl) (fun j y hj=>?_)).mono fun e W' k=>k.ex
  rw[Nat.zero_add]
  exact(hb.cell (p:=⟨tb,j,none⟩) hxl).trans (hx.ro.cell hj).1
 have hAp:∀(V V':World) (g0 cap0:Nat),Below W.heap.size W V->Below V.heap.size V V'->W.heap.size<=g0->OwnR V g0 3 1 L cap0 (ints S.st)->∃xs,V'.ownsRow w0.heap.size 98 3 (.slice sa n sc) n xs/\w0.heap.size<=V'.heap.size/\∀(w5:World) (g cap:Nat),w5.ownsRow w0.heap.size 98 3 (.slice (some ⟨g,0,none⟩) (n+1) cap) (n+1) (xs++[.int .i64 s.x.pc,.int .i64 (d:Nat),.slice (some ⟨g0,0,none⟩) L cap0])->V'.grownBy w5 (Value.ownBlock (.slice sa n sc))->(Value.ownBlock (.slice sa n sc)=some g\/g=V'.heap.size) ->
   w5.cell? ⟨c.R,4,none⟩=some (.slice sa n sc)/\w5.frozen? ⟨c.R,4,none⟩=false/\(w5.cell? ⟨c.R,0,none⟩=some (.pointer (some ⟨m.B,0,none⟩))/\w5.cell? ⟨c.R,5,none⟩=some (.int .i64 c.bg)/\w5.cell? ⟨c.R,6,none⟩=some (.slice (some ⟨tb,0,none⟩) L tc)/\w5.cell? ⟨m.B,5,none⟩=some (.int .i64 s.st)/\w5.cell? ⟨m.F,1,none⟩=some (.int .i64 s.x.pc))/\((w5.setCell ⟨c.R,4,none⟩ (.slice (some ⟨g,0,none⟩) (n+1) cap)).cell? ⟨c.R,0,none⟩=some (.pointer (some ⟨m.B,0,none⟩))/\(w5.setCell ⟨c.R,4,none⟩ (.slice (some ⟨g,0,none⟩) (n+1) cap)).cell? ⟨c.R,5,none⟩=some (.int .i64 c.bg)/\(w5.setCell ⟨c.R,4,none⟩ (.slice (some ⟨g,0,none⟩) (n+1) cap)).cell? ⟨c.R,6,none⟩=some (.slice (some ⟨tb,0,none⟩) L tc)/\(w5.setCell ⟨c.R,4,none⟩ (.slice (some ⟨g,0,none⟩) (n+1) cap)).cell? ⟨m.B,5,none⟩=some (.int .i64 s.st)/\(w5.setCell ⟨c.R,4,none⟩ (.slice (some ⟨g,0,none⟩) (n+1) cap)).cell? ⟨m.F,1,none⟩=some (.int .i64 s.x.pc))/\Hid (AnQ w0 m s c n (S.sn ⟨s.x.pc,(d:Nat),S.st⟩) O W (.returned (.int .i64 (n:Nat))) (w5.setCell ⟨c.R,4,none⟩ (.slice (some ⟨g,0,none⟩) (n+1) cap))):=fun V V' g0 cap0 hb hb' hg0 hO=>by
  have hX:=hsn ⟨s.x.pc,(d:Nat),S.st⟩ g0 cap0 V V' hb hb' hg0 (by rw[hL];exact hO)
  obtain⟨xs,hown,hrt⟩:=hX.ex
  rw[hnn]at hown
  refine⟨xs,hown,hX.lo,fun w5 g cap x1 x2 x3=>?_⟩
  rw[<- hnn,<- hL]at x1
  rw[<- hnn]at x2 x3⊢
  obtain⟨y1,y2,y3,O',y4,y5⟩:=hrt w5 g cap x1 x2 x3
  obtain⟨b1,b2,b3,b4,b5⟩:=(hC V' (ext_trans hb hb')).1
  obtain⟨a1,a2,a3,a4,a5,a6,a7,a8,a9,a10⟩:=h.apart
  have e5:∀k∈fxR m c,∀i v,V'.cell? ⟨k,i,none⟩=some v->w5.cell? ⟨k,i,none⟩=some v:=fun k hk i v hv=>(World.cell?_of_block (a:=⟨k,i,none⟩) (y3 k hk)).trans hv
  have d0:=e5 c.R (by simp) 0 _ b1
  have d5:=e5 c.R (by simp) 5 _ b2
  have d6:=e5 c.R (by simp) 6 _ b3
  have dB:=e5 m.B (by simp) 5 _ b4
  have dF:=e5 m.F (by simp) 1 _ b5
  have hob:∃oc T,w5.heap[c.R]?=some (.cells oc T (0,0)):=by
   obtain⟨iv,sv,tv,vs,_,q1,_⟩:=(h.on (ext_trans hb hb')).ex
   exact⟨_,_,(y3 c.R (by simp)).trans q1⟩
  obtain⟨oc,T,hob⟩:=hob
  have f5:∀i v,i≠4->w5.cell? ⟨c.R,i,none⟩=some v->(w5.setCell ⟨c.R,4,none⟩ (.slice (some ⟨g,0,none⟩) (S.t.sns.length+1) cap)).cell? ⟨c.R,i,none⟩=some v:=fun i v hi hv=>by
   have h1:=set_block (i:=4) (.slice (some ⟨g,0,none⟩) (S.t.sns.length+1) cap) hob
   have h2:oc[i]?=some v:=by simpa[World.cell?,hob]using hv
   refine cell_block h1 ?_
   rw[Array.getElem?_setIfInBounds_ne (by omega)]
   exact h2
  have hBne:m.B≠c.R:=fun e=>a7 (by rw[<- e];simp)
  have hFne:m.F≠c.R:=fun e=>a7 (by rw[<- e];simp)
  have g5:∀k i v,k≠c.R->w5.cell? ⟨k,i,none⟩=some v->(w5.setCell ⟨c.R,4,none⟩ (.slice (some ⟨g,0,none⟩) (S.t.sns.length+1) cap)).cell? ⟨k,i,none⟩=some v:=fun k i v hk hv=>(World.cell?_of_block (a:=⟨k,i,none⟩) (set1_other _ _ hk)).trans hv
  exact⟨y1,y2,⟨d0,d5,d6,dB,dF⟩,⟨f5 0 _ (by omega) d0,f5 5 _ (by omega) d5,f5 6 _ (by omega) d6,g5 _ _ _ hBne dB,g5 _ _ _ hFne dF⟩,rfl,O',y4,y5⟩
 have E0:=ext_drew (Below.refl W.heap.size W)
 have hH0:=(hC _ E0).1
 have r0:=(hC _ E0).2
 have hR0:=(hC _ (Below.refl _ _)).1.1
 have hB5:=(hC _ (Below.refl _ _)).1.2.2.2.1
 have hn1:n+1<=maxLen:=by unfold maxLen;omega
 have hn2:(n+1)*40<=140737488355328:=by omega
 have hw:IntKind.i64.wrap ((n:Int)+1-1)=(n:Int):=by rw[IntKind.wrap_i64];omega
 have hw2:IntKind.i64.wrap (s.st-c.bg)=(d:Int):=by rw[hd,IntKind.wrap_i64];omega
 rw[hnn]
 replace hC:Hid _:=hC
 replace htop:Hid _:=htop
 replace hcl:Hid _:=hcl
 replace hAp:Hid _:=hAp
 replace hd:Hid _:=hd
 clear h hx hls hsn hL hnn hst
 go_enter Tryz.func83,Tryz.ntmps83
 go_wp2
 refine wp_region_held_drew (S:=fun V=>V.cell? ⟨c.R,0,none⟩=some (.pointer (some ⟨m.B,0,none⟩))/\V.cell? ⟨c.R,5,none⟩=some (.int .i64 c.bg)/\V.cell? ⟨c.R,6,none⟩=some (.slice (some ⟨tb,0,none⟩) L tc)/\V.cell? ⟨m.B,5,none⟩=some (.int .i64 s.st)/\V.cell? ⟨m.F,1,none⟩=some (.int .i64 s.x.pc)) (by kernel_rfl) hH0 (fun hH0=>?_)
 change wpAnyH _ _ _ _ _ 39 _ _ _
 refine' wpAnyH_take (i := 0) (oi := { dst := some 3, op := Op.move (Operand.tmp 0), type := 142, pos := "recorder.go:133", after := #[], guard := none }) (v := _) (fuel := 38) rfl (by kernel_rfl) (by kernel_rfl) (by kernel_rfl) (fun _ _ _ h => h) (Or.inl ⟨by rfl, ?hy1⟩) hH0 ?rest1
 case hy1=>(intro w ⟨_,_,_,_,_⟩;go_simp;try with_reducible rfl)
 try simp only[Act.put,List.setIfInBounds_toArray,List.set_cons_zero,List.set_cons_succ]
 refine' wpAnyH_take (i := 1) (oi := { dst := some 4, op := Op.move (Operand.tmp 0), type := 142, pos := "recorder.go:133", after := #[], guard := none }) (v := _) (fuel := 37) rfl (by kernel_rfl) (by kernel_rfl) (by kernel_rfl) (fun _ _ _ h => h) (Or.inl ⟨by rfl, ?hy2⟩) hH0 ?rest2
 case hy2=>(intro w ⟨_,_,_,_,_⟩;go_simp;try with_reducible rfl)
 try simp only[Act.put,List.setIfInBounds_toArray,List.set_cons_zero,List.set_cons_succ]
 refine' wpAnyH_take (i := 2) (oi := { dst := some 5, op := Op.nilCheck (Operand.tmp 4), type := 0, pos := "recorder.go:133", after := #[{ on := 1, ground := Ground.data }], guard := none }) (v := _) (fuel := 36) rfl (by kernel_rfl) (by kernel_rfl) (by kernel_rfl) (fun _ _ _ h => h) (Or.inl ⟨by rfl, ?hy3⟩) hH0 ?rest3
 case hy3=>(intro w ⟨_,_,_,_,_⟩;go_simp;try with_reducible rfl)
 try simp only[Act.put,List.setIfInBounds_toArray,List.set_cons_zero,List.set_cons_succ]
 refine' wpAnyH_take (i := 3) (oi := { dst := some 6, op := Op.fieldAddr 146 (Operand.tmp 5) 1, type := 0, pos := "recorder.go:133", after := #[{ on := 2, ground := Ground.data }], guard := none }) (v := _) (fuel := 35) rfl (by kernel_rfl) (by kernel_rfl) (by kernel_rfl) (fun _ _ _ h => h) (Or.inl ⟨by rfl, ?hy4⟩) hH0 ?rest4
 case hy4=>(intro w ⟨_,_,_,_,_⟩;go_simp;try with_reducible rfl)
 try simp only[Act.put,List.setIfInBounds_toArray,List.set_cons_zero,List.set_cons_succ]
 refine' wpAnyH_take (i := 4) (oi := { dst := some 7, op := Op.fieldAddr 102 (Operand.tmp 6) 3, type := 0, pos := "recorder.go:133", after := #[{ on := 3, ground := Ground.data }], guard := none }) (v := _) (fuel := 34) rfl (by kernel_rfl) (by kernel_rfl) (by kernel_rfl) (fun _ _ _ h => h) (Or.inl ⟨by rfl, ?hy5⟩) hH0 ?rest5
 case hy5=>(intro w ⟨_,_,_,_,_⟩;go_simp;try with_reducible rfl)
 try simp only[Act.put,List.setIfInBounds_toArray,List.set_cons_zero,List.set_cons_succ]
 refine' wpAnyH_take (i := 6) (oi := { dst := some 9, op := Op.move (Operand.tmp 0), type := 142, pos := "recorder.go:133", after := #[], guard := none }) (v := _) (fuel := 33) rfl (by kernel_rfl) (by kernel_rfl) (by kernel_rfl) (fun _ _ _ h => h) (Or.inl ⟨by rfl, ?hy6⟩) hH0 ?rest6
 case hy6=>(intro w ⟨_,_,_,_,_⟩;go_simp;try with_reducible rfl)
 try simp only[Act.put,List.setIfInBounds_toArray,List.set_cons_zero,List.set_cons_succ]
 refine' wpAnyH_take (i := 7) (oi := { dst := some 10, op := Op.nilCheck (Operand.tmp 9), type := 0, pos := "recorder.go:133", after := #[{ on := 6, ground := Ground.data }], guard := none }) (v := _) (fuel := 32) rfl (by kernel_rfl) (by kernel_rfl) (by kernel_rfl) (fun _ _ _ h => h) (Or.inl ⟨by rfl, ?hy7⟩) hH0 ?rest7
 case hy7=>(intro w ⟨_,_,_,_,_⟩;go_simp;try with_reducible rfl)
 try simp only[Act.put,List.setIfInBounds_toArray,List.set_cons_zero,List.set_cons_succ]
 refine' wpAnyH_take (i := 8) (oi := { dst := some 11, op := Op.fieldAddr 146 (Operand.tmp 10) 0, type := 0, pos := "recorder.go:133", after := #[{ on := 7, ground := Ground.data }], guard := none }) (v := _) (fuel := 31) rfl (by kernel_rfl) (by kernel_rfl) (by kernel_rfl) (fun _ _ _ h => h) (Or.inl ⟨by rfl, ?hy8⟩) hH0 ?rest8
 case hy8=>(intro w ⟨_,_,_,_,_⟩;go_simp;try with_reducible rfl)
 try simp only[Act.put,List.setIfInBounds_toArray,List.set_cons_zero,List.set_cons_succ]
 refine' wpAnyH_take (i := 9) (oi := { dst := some 12, op := Op.load 53 (Operand.tmp 11), type := 53, pos := "recorder.go:133", after := #[{ on := 8, ground := Ground.data }], guard := none }) (v := _) (fuel := 30) rfl (by kernel_rfl) (by kernel_rfl) (by kernel_rfl) (fun _ _ _ h => h) (Or.inl ⟨by rfl, ?hy9⟩) hH0 ?rest9
 case hy9=>(intro w ⟨_,_,_,_,_⟩;go_simp;try with_reducible rfl)
 try simp only[Act.put,List.setIfInBounds_toArray,List.set_cons_zero,List.set_cons_succ]
 refine' wpAnyH_take (i := 14) (oi := { dst := some 17, op := Op.move (Operand.tmp 0), type := 142, pos := "recorder.go:133", after := #[], guard := none }) (v := _) (fuel := 29) rfl (by kernel_rfl) (by kernel_rfl) (by kernel_rfl) (fun _ _ _ h => h) (Or.inl ⟨by rfl, ?hy10⟩) hH0 ?rest10
 case hy10=>(intro w ⟨_,_,_,_,_⟩;go_simp;try with_reducible rfl)
 try simp only[Act.put,List.setIfInBounds_toArray,List.set_cons_zero,List.set_cons_succ]
 refine' wpAnyH_take (i := 15) (oi := { dst := some 18, op := Op.nilCheck (Operand.tmp 17), type := 0, pos := "recorder.go:133", after := #[{ on := 14, ground := Ground.data }], guard := none }) (v := _) (fuel := 28) rfl (by kernel_rfl) (by kernel_rfl) (by kernel_rfl) (fun _ _ _ h => h) (Or.inl ⟨by rfl, ?hy11⟩) hH0 ?rest11
 case hy11=>(intro w ⟨_,_,_,_,_⟩;go_simp;try with_reducible rfl)
 try simp only[Act.put,List.setIfInBounds_toArray,List.set_cons_zero,List.set_cons_succ]
 refine' wpAnyH_take (i := 16) (oi := { dst := some 19, op := Op.fieldAddr 146 (Operand.tmp 18) 0, type := 0, pos := "recorder.go:133", after := #[{ on := 15, ground := Ground.data }], guard := none }) (v := _) (fuel := 27) rfl (by kernel_rfl) (by kernel_rfl) (by kernel_rfl) (fun _ _ _ h => h) (Or.inl ⟨by rfl, ?hy12⟩) hH0 ?rest12
 case hy12=>(intro w ⟨_,_,_,_,_⟩;go_simp;try with_reducible rfl)
 try simp only[Act.put,List.setIfInBounds_toArray,List.set_cons_zero,List.set_cons_succ]
 refine' wpAnyH_take (i := 17) (oi := { dst := some 20, op := Op.load 53 (Operand.tmp 19), type := 53, pos := "recorder.go:133", after := #[{ on := 16, ground := Ground.data }], guard := none }) (v := _) (fuel := 26) rfl (by kernel_rfl) (by kernel_rfl) (by kernel_rfl) (fun _ _ _ h => h) (Or.inl ⟨by rfl, ?hy13⟩) hH0 ?rest13
 case hy13=>(intro w ⟨_,_,_,_,_⟩;go_simp;try with_reducible rfl)
 try simp only[Act.put,List.setIfInBounds_toArray,List.set_cons_zero,List.set_cons_succ]
 refine' wpAnyH_take (i := 18) (oi := { dst := some 21, op := Op.nilCheck (Operand.tmp 20), type := 0, pos := "recorder.go:133", after := #[{ on := 17, ground := Ground.data }], guard := none }) (v := _) (fuel := 25) rfl (by kernel_rfl) (by kernel_rfl) (by kernel_rfl) (fun _ _ _ h => h) (Or.inl ⟨by rfl, ?hy14⟩) hH0 ?rest14
 case hy14=>(intro w ⟨_,_,_,_,_⟩;go_simp;try with_reducible rfl)
 try simp only[Act.put,List.setIfInBounds_toArray,List.set_cons_zero,List.set_cons_succ]
 refine' wpAnyH_take (i := 19) (oi := { dst := some 22, op := Op.fieldAddr 64 (Operand.tmp 21) 1, type := 0, pos := "recorder.go:133", after := #[{ on := 18, ground := Ground.data }], guard := none }) (v := _) (fuel := 24) rfl (by kernel_rfl) (by kernel_rfl) (by kernel_rfl) (fun _ _ _ h => h) (Or.inl ⟨by rfl, ?hy15⟩) hH0 ?rest15
 case hy15=>(intro w ⟨_,_,_,_,_⟩;go_simp;try with_reducible rfl)
 try simp only[Act.put,List.setIfInBounds_toArray,List.set_cons_zero,List.set_cons_succ]
 refine' wpAnyH_take (i := 20) (oi := { dst := some 23, op := Op.fieldAddr 38 (Operand.tmp 22) 3, type := 0, pos := "recorder.go:133", after := #[{ on := 19, ground := Ground.data }], guard := none }) (v := _) (fuel := 23) rfl (by kernel_rfl) (by kernel_rfl) (by kernel_rfl) (fun _ _ _ h => h) (Or.inl ⟨by rfl, ?hy16⟩) hH0 ?rest16
 case hy16=>(intro w ⟨_,_,_,_,_⟩;go_simp;try with_reducible rfl)
 try simp only[Act.put,List.setIfInBounds_toArray,List.set_cons_zero,List.set_cons_succ]
 refine' wpAnyH_take (i := 21) (oi := { dst := some 24, op := Op.load 3 (Operand.tmp 23), type := 3, pos := "recorder.go:133", after := #[{ on := 20, ground := Ground.data }], guard := none }) (v := _) (fuel := 22) rfl (by kernel_rfl) (by kernel_rfl) (by kernel_rfl) (fun _ _ _ h => h) (Or.inl ⟨by rfl, ?hy17⟩) hH0 ?rest17
 case hy17=>(intro w ⟨_,_,_,_,_⟩;go_simp;try with_reducible rfl)
 try simp only[Act.put,List.setIfInBounds_toArray,List.set_cons_zero,List.set_cons_succ]
 refine' wpAnyH_take (i := 22) (oi := { dst := some 25, op := Op.move (Operand.tmp 0), type := 142, pos := "recorder.go:133", after := #[], guard := none }) (v := _) (fuel := 21) rfl (by kernel_rfl) (by kernel_rfl) (by kernel_rfl) (fun _ _ _ h => h) (Or.inl ⟨by rfl, ?hy18⟩) hH0 ?rest18
 case hy18=>(intro w ⟨_,_,_,_,_⟩;go_simp;try with_reducible rfl)
 try simp only[Act.put,List.setIfInBounds_toArray,List.set_cons_zero,List.set_cons_succ]
 refine' wpAnyH_take (i := 23) (oi := { dst := some 26, op := Op.nilCheck (Operand.tmp 25), type := 0, pos := "recorder.go:133", after := #[{ on := 22, ground := Ground.data }], guard := none }) (v := _) (fuel := 20) rfl (by kernel_rfl) (by kernel_rfl) (by kernel_rfl) (fun _ _ _ h => h) (Or.inl ⟨by rfl, ?hy19⟩) hH0 ?rest19
 case hy19=>(intro w ⟨_,_,_,_,_⟩;go_simp;try with_reducible rfl)
 try simp only[Act.put,List.setIfInBounds_toArray,List.set_cons_zero,List.set_cons_succ]
 refine' wpAnyH_take (i := 24) (oi := { dst := some 27, op := Op.fieldAddr 146 (Operand.tmp 26) 2, type := 0, pos := "recorder.go:133", after := #[{ on := 23, ground := Ground.data }], guard := none }) (v := _) (fuel := 19) rfl (by kernel_rfl) (by kernel_rfl) (by kernel_rfl) (fun _ _ _ h => h) (Or.inl ⟨by rfl, ?hy20⟩) hH0 ?rest20
 case hy20=>(intro w ⟨_,_,_,_,_⟩;go_simp;try with_reducible rfl)
 try simp only[Act.put,List.setIfInBounds_toArray,List.set_cons_zero,List.set_cons_succ]
 refine' wpAnyH_take (i := 25) (oi := { dst := some 28, op := Op.load 3 (Operand.tmp 27), type := 3, pos := "recorder.go:133", after := #[{ on := 24, ground := Ground.data }], guard := none }) (v := _) (fuel := 18) rfl (by kernel_rfl) (by kernel_rfl) (by kernel_rfl) (fun _ _ _ h => h) (Or.inl ⟨by rfl, ?hy21⟩) hH0 ?rest21
 case hy21=>(intro w ⟨_,_,_,_,_⟩;go_simp;try with_reducible rfl)
 try simp only[Act.put,List.setIfInBounds_toArray,List.set_cons_zero,List.set_cons_succ]
 refine' wpAnyH_take (i := 26) (oi := { dst := some 29, op := Op.binOp BinOp.sub 3 (Operand.tmp 24) (Operand.tmp 28) 3, type := 3, pos := "recorder.go:133", after := #[{ on := 21, ground := Ground.data }, { on := 25, ground := Ground.data }], guard := none }) (v := _) (fuel := 17) rfl (by kernel_rfl) (by kernel_rfl) (by kernel_rfl) (fun _ _ _ h => h) (Or.inl ⟨by rfl, ?hy22⟩) hH0 ?rest22
 case hy22=>(intro w ⟨_,_,_,_,_⟩;go_simp;try with_reducible rfl)
 try simp only[Act.put,List.setIfInBounds_toArray,List.set_cons_zero,List.set_cons_succ]
 refine' wpAnyH_take (i := 27) (oi := { dst := some 30, op := Op.move (Operand.tmp 0), type := 142, pos := "recorder.go:133", after := #[], guard := none }) (v := _) (fuel := 16) rfl (by kernel_rfl) (by kernel_rfl) (by kernel_rfl) (fun _ _ _ h => h) (Or.inl ⟨by rfl, ?hy23⟩) hH0 ?rest23
 case hy23=>(intro w ⟨_,_,_,_,_⟩;go_simp;try with_reducible rfl)
 try simp only[Act.put,List.setIfInBounds_toArray,List.set_cons_zero,List.set_cons_succ]
 refine' wpAnyH_take (i := 28) (oi := { dst := some 31, op := Op.nilCheck (Operand.tmp 30), type := 0, pos := "recorder.go:133", after := #[{ on := 27, ground := Ground.data }], guard := none }) (v := _) (fuel := 15) rfl (by kernel_rfl) (by kernel_rfl) (by kernel_rfl) (fun _ _ _ h => h) (Or.inl ⟨by rfl, ?hy24⟩) hH0 ?rest24
 case hy24=>(intro w ⟨_,_,_,_,_⟩;go_simp;try with_reducible rfl)
 try simp only[Act.put,List.setIfInBounds_toArray,List.set_cons_zero,List.set_cons_succ]
 refine' wpAnyH_take (i := 29) (oi := { dst := some 32, op := Op.fieldAddr 146 (Operand.tmp 31) 3, type := 0, pos := "recorder.go:133", after := #[{ on := 28, ground := Ground.data }], guard := none }) (v := _) (fuel := 14) rfl (by kernel_rfl) (by kernel_rfl) (by kernel_rfl) (fun _ _ _ h => h) (Or.inl ⟨by rfl, ?hy25⟩) hH0 ?rest25
 case hy25=>(intro w ⟨_,_,_,_,_⟩;go_simp;try with_reducible rfl)
 try simp only[Act.put,List.setIfInBounds_toArray,List.set_cons_zero,List.set_cons_succ]
 refine' wpAnyH_take (i := 30) (oi := { dst := some 33, op := Op.load 96 (Operand.tmp 32), type := 96, pos := "recorder.go:133", after := #[{ on := 29, ground := Ground.data }], guard := none }) (v := _) (fuel := 13) rfl (by kernel_rfl) (by kernel_rfl) (by kernel_rfl) (fun _ _ _ h => h) (Or.inl ⟨by rfl, ?hy26⟩) hH0 ?rest26
 case hy26=>(intro w ⟨_,_,_,_,_⟩;go_simp;try with_reducible rfl)
 try simp only[Act.put,List.setIfInBounds_toArray,List.set_cons_zero,List.set_cons_succ]
 refine wpAnyH_ready (rs:=[5,10]) (by kernel_rfl) (by simp) ?_
 refine AllReadyH.cons (o := { dst := some 8, op := Op.load 100 (Operand.tmp 7), type := 100, pos := "recorder.go:133", after := #[{ on := 4, ground := Ground.data }], guard := none }) rfl (fun K hK => ?_) ?_
 ·go_simp
  refine hK.out _ _ hH0 (fun _=>?_)
  clear hK K
  try simp only[Act.put,List.setIfInBounds_toArray,List.set_cons_zero,List.set_cons_succ]
  refine wpAnyH_ready (rs:=[10]) (by kernel_rfl) (by simp) ?_
  refine AllReadyH.cons (o := { dst := some 13, op := Op.call { callee := Callee.value (Operand.func 39), args := #[Operand.tmp 12], argTypes := #[53] }, type := 94, pos := "recorder.go:133", after := #[{ on := 9, ground := Ground.data }], guard := none }) rfl (fun K hK => ?_) AllReadyH.nil
  go_simp
  go_at_call 39
  refine(htop.out _ E0).mono ?_
  rintro e w1 ⟨rfl,hb2⟩
  have E3:=ext_trans E0 hb2
  have hH4:=(hC.out _ E3).1
  have r5:=(hC.out _ E3).2
  refine hK.out _ _ hH4 (fun _=>?_)
  clear hK K
  try simp only[Act.put,List.setIfInBounds_toArray,List.set_cons_zero,List.set_cons_succ]
  refine' wpAnyH_take (i := 11) (oi := { dst := some 14, op := Op.nilCheck (Operand.tmp 13), type := 0, pos := "recorder.go:133", after := #[{ on := 10, ground := Ground.data }], guard := none }) (v := _) (fuel := 10) rfl (by kernel_rfl) (by kernel_rfl) (by kernel_rfl) (fun _ _ _ h => h) (Or.inl ⟨by rfl, ?hy27⟩) hH4 ?rest27
  case hy27=>(intro w ⟨_,_,_,_,_⟩;go_simp;try with_reducible rfl)
  try simp only[Act.put,List.setIfInBounds_toArray,List.set_cons_zero,List.set_cons_succ]
  refine' wpAnyH_take (i := 12) (oi := { dst := some 15, op := Op.fieldAddr 66 (Operand.tmp 14) 1, type := 0, pos := "recorder.go:133", after := #[{ on := 11, ground := Ground.data }], guard := none }) (v := _) (fuel := 9) rfl (by kernel_rfl) (by kernel_rfl) (by kernel_rfl) (fun _ _ _ h => h) (Or.inl ⟨by rfl, ?hy28⟩) hH4 ?rest28
  case hy28=>(intro w ⟨_,_,_,_,_⟩;go_simp;try with_reducible rfl)
  try simp only[Act.put,List.setIfInBounds_toArray,List.set_cons_zero,List.set_cons_succ]
  refine' wpAnyH_take (i := 13) (oi := { dst := some 16, op := Op.load 3 (Operand.tmp 15), type := 3, pos := "recorder.go:133", after := #[{ on := 12, ground := Ground.data }], guard := none }) (v := _) (fuel := 8) rfl (by kernel_rfl) (by kernel_rfl) (by kernel_rfl) (fun _ _ _ h => h) (Or.inl ⟨by rfl, ?hy29⟩) hH4 ?rest29
  case hy29=>(intro w ⟨_,_,_,_,_⟩;go_simp;try with_reducible rfl)
  try simp only[Act.put,List.setIfInBounds_toArray,List.set_cons_zero,List.set_cons_succ]
  refine wpAnyH_ready (rs:=[31]) (by kernel_rfl) (by simp) ?_
  refine AllReadyH.cons (o := { dst := some 34, op := Op.call { callee := Callee.value (Operand.func 103), args := #[Operand.tmp 33], argTypes := #[96] }, type := 96, pos := "recorder.go:133", after := #[{ on := 30, ground := Ground.data }, { on := 10, ground := Ground.chain }], guard := none }) rfl (fun K hK => ?_) AllReadyH.nil
  go_simp
  go_at_call 103
  refine(hcl.out _ E3).mono ?_
  rintro e w6 ⟨g0,cap0,rfl,hO0,hg0,hb7⟩
  have E8:=ext_trans E3 hb7
  have hH9:=(hC.out _ E8).1
  have r10:=(hC.out _ E8).2
  have hg1:W.heap.size<=g0:=Nat.le_trans E3.size hg0
  have F11:=Below.refl w6.heap.size w6
  refine hK.out _ _ hH9 (fun _=>?_)
  clear hK K
  try simp only[Act.put,List.setIfInBounds_toArray,List.set_cons_zero,List.set_cons_succ]
  refine' wpAnyH_take (i := 32) (oi := { dst := some 35, op := Op.build 98 #[(0, Operand.tmp 16), (1, Operand.tmp 29), (2, Operand.tmp 34)], type := 98, pos := "recorder.go:133", after := #[{ on := 13, ground := Ground.data }, { on := 26, ground := Ground.data }, { on := 31, ground := Ground.data }], guard := none }) (v := _) (fuel := 6) rfl (by kernel_rfl) (by kernel_rfl) (by kernel_rfl) (fun _ _ _ h => h) (Or.inl ⟨by rfl, ?hy30⟩) hH9 ?rest30
  case hy30=>(intro w ⟨_,_,_,_,_⟩;go_simp;try with_reducible rfl)
  try simp only[Act.put,List.setIfInBounds_toArray,List.set_cons_zero,List.set_cons_succ]
  refine wpAnyH_ready (rs:=[33]) (by kernel_rfl) (by simp) ?_
  refine AllReadyH.cons (o := { dst := some 36, op := Op.buildSlice 100 1 #[(0, Operand.tmp 35)], type := 100, pos := "recorder.go:133", after := #[{ on := 32, ground := Ground.data }], guard := none }) rfl (fun K hK => ?_) AllReadyH.nil
  go_simp
  have E12:=ext_alloc E8 (.cells #[.int .i64 s.x.pc,.int .i64 (d:Nat),.slice (some ⟨g0,0,none⟩) L cap0] 98)
  have F15:=ext_alloc F11 (.cells #[.int .i64 s.x.pc,.int .i64 (d:Nat),.slice (some ⟨g0,0,none⟩) L cap0] 98)
  have hH13:=(hC.out _ E12).1
  have r14:=(hC.out _ E12).2
  have hnews:=sn_news (heap_new w6 (.cells #[.int .i64 s.x.pc,.int .i64 (d:Nat),.slice (some ⟨g0,0,none⟩) L cap0] 98))
  refine hK.out _ _ hH13 (fun _=>?_)
  clear hK K
  try simp only[Act.put,List.setIfInBounds_toArray,List.set_cons_zero,List.set_cons_succ]
  refine wpAnyH_ready (rs:=[34]) (by kernel_rfl) (by simp) ?_
  refine AllReadyH.cons (o := { dst := some 37, op := Op.call { callee := Callee.builtin Builtin.append, args := #[Operand.tmp 8, Operand.tmp 36], argTypes := #[100, 100] }, type := 100, pos := "recorder.go:133", after := #[{ on := 5, ground := Ground.data }, { on := 33, ground := Ground.data }, { on := 31, ground := Ground.chain }], guard := none }) rfl (fun K hK => ?_) AllReadyH.nil
  obtain⟨xs,hown,hloV,hrt⟩:=hAp.out _ _ g0 cap0 E8 F15 hg1 hO0
  refine step_append_lies _ (by rfl) _ _ _ (by rfl) w0.heap.size 98 i0 _ 3 40 Tryz.underlying100 hi0 hz0 hz1 hz2 rfl (by omega) (.slice sa n sc) n _ (by rfl) hown ⟨w6.heap.size,0,none⟩ 1 1 [.int .i64 s.x.pc,.int .i64 (d:Nat),.slice (some ⟨g0,0,none⟩) L cap0] (by rfl) (by rfl) hnews (by simp[Value.oneCell']) (by omega) hn1 hn2 hloV _ rfl ?_
  intro g3 cap3 w5 hown3 hgrow hat hlt3
  obtain⟨q4,z4,hH5,hH6,hfin⟩:=hrt w5 g3 cap3 hown3 hgrow hat
  clear hrt
  refine hK.out _ _ hH5 (fun _=>?_)
  clear hK K
  try simp only[Act.put,List.setIfInBounds_toArray,List.set_cons_zero,List.set_cons_succ]
  refine' wpAnyH_take (i := 35) (oi := { dst := some 38, op := Op.nilCheck (Operand.tmp 3), type := 0, pos := "recorder.go:133", after := #[{ on := 0, ground := Ground.data }, { on := 0, ground := Ground.phase }, { on := 1, ground := Ground.phase }, { on := 2, ground := Ground.phase }, { on := 3, ground := Ground.phase }, { on := 4, ground := Ground.phase }, { on := 5, ground := Ground.phase }, { on := 6, ground := Ground.phase }, { on := 7, ground := Ground.phase }, { on := 8, ground := Ground.phase }, { on := 9, ground := Ground.phase }, { on := 10, ground := Ground.phase }, { on := 11, ground := Ground.phase }, { on := 12, ground := Ground.phase }, { on := 13, ground := Ground.phase }, { on := 14, ground := Ground.phase }, { on := 15, ground := Ground.phase }, { on := 16, ground := Ground.phase }, { on := 17, ground := Ground.phase }, { on := 18, ground := Ground.phase }, { on := 19, ground := Ground.phase }, { on := 20, ground := Ground.phase }, { on := 21, ground := Ground.phase }, { on := 22, ground := Ground.phase }, { on := 23, ground := Ground.phase }, { on := 24, ground := Ground.phase }, { on := 25, ground := Ground.phase }, { on := 26, ground := Ground.phase }, { on := 27, ground := Ground.phase }, { on := 28, ground := Ground.phase }, { on := 29, ground := Ground.phase }, { on := 30, ground := Ground.phase }, { on := 31, ground := Ground.phase }, { on := 32, ground := Ground.phase }, { on := 33, ground := Ground.phase }, { on := 34, ground := Ground.phase }], guard := none }) (v := _) (fuel := 3) rfl (by kernel_rfl) (by kernel_rfl) (by kernel_rfl) (fun _ _ _ h => h) (Or.inl ⟨by rfl, ?hy31⟩) hH5 ?rest31
  case hy31=>(intro w ⟨_,_,_,_,_⟩;go_simp;try with_reducible rfl)
  try simp only[Act.put,List.setIfInBounds_toArray,List.set_cons_zero,List.set_cons_succ]
  refine' wpAnyH_take (i := 36) (oi := { dst := some 39, op := Op.fieldAddr 146 (Operand.tmp 38) 1, type := 0, pos := "recorder.go:133", after := #[{ on := 35, ground := Ground.data }, { on := 0, ground := Ground.phase }, { on := 1, ground := Ground.phase }, { on := 2, ground := Ground.phase }, { on := 3, ground := Ground.phase }, { on := 4, ground := Ground.phase }, { on := 5, ground := Ground.phase }, { on := 6, ground := Ground.phase }, { on := 7, ground := Ground.phase }, { on := 8, ground := Ground.phase }, { on := 9, ground := Ground.phase }, { on := 10, ground := Ground.phase }, { on := 11, ground := Ground.phase }, { on := 12, ground := Ground.phase }, { on := 13, ground := Ground.phase }, { on := 14, ground := Ground.phase }, { on := 15, ground := Ground.phase }, { on := 16, ground := Ground.phase }, { on := 17, ground := Ground.phase }, { on := 18, ground := Ground.phase }, { on := 19, ground := Ground.phase }, { on := 20, ground := Ground.phase }, { on := 21, ground := Ground.phase }, { on := 22, ground := Ground.phase }, { on := 23, ground := Ground.phase }, { on := 24, ground := Ground.phase }, { on := 25, ground := Ground.phase }, { on := 26, ground := Ground.phase }, { on := 27, ground := Ground.phase }, { on := 28, ground := Ground.phase }, { on := 29, ground := Ground.phase }, { on := 30, ground := Ground.phase }, { on := 31, ground := Ground.phase }, { on := 32, ground := Ground.phase }, { on := 33, ground := Ground.phase }, { on := 34, ground := Ground.phase }], guard := none }) (v := _) (fuel := 2) rfl (by kernel_rfl) (by kernel_rfl) (by kernel_rfl) (fun _ _ _ h => h) (Or.inl ⟨by rfl, ?hy32⟩) hH5 ?rest32
  case hy32=>(intro w ⟨_,_,_,_,_⟩;go_simp;try with_reducible rfl)
  try simp only[Act.put,List.setIfInBounds_toArray,List.set_cons_zero,List.set_cons_succ]
  refine' wpAnyH_take (i := 37) (oi := { dst := some 40, op := Op.fieldAddr 102 (Operand.tmp 39) 3, type := 0, pos := "recorder.go:133", after := #[{ on := 36, ground := Ground.data }, { on := 0, ground := Ground.phase }, { on := 1, ground := Ground.phase }, { on := 2, ground := Ground.phase }, { on := 3, ground := Ground.phase }, { on := 4, ground := Ground.phase }, { on := 5, ground := Ground.phase }, { on := 6, ground := Ground.phase }, { on := 7, ground := Ground.phase }, { on := 8, ground := Ground.phase }, { on := 9, ground := Ground.phase }, { on := 10, ground := Ground.phase }, { on := 11, ground := Ground.phase }, { on := 12, ground := Ground.phase }, { on := 13, ground := Ground.phase }, { on := 14, ground := Ground.phase }, { on := 15, ground := Ground.phase }, { on := 16, ground := Ground.phase }, { on := 17, ground := Ground.phase }, { on := 18, ground := Ground.phase }, { on := 19, ground := Ground.phase }, { on := 20, ground := Ground.phase }, { on := 21, ground := Ground.phase }, { on := 22, ground := Ground.phase }, { on := 23, ground := Ground.phase }, { on := 24, ground := Ground.phase }, { on := 25, ground := Ground.phase }, { on := 26, ground := Ground.phase }, { on := 27, ground := Ground.phase }, { on := 28, ground := Ground.phase }, { on := 29, ground := Ground.phase }, { on := 30, ground := Ground.phase }, { on := 31, ground := Ground.phase }, { on := 32, ground := Ground.phase }, { on := 33, ground := Ground.phase }, { on := 34, ground := Ground.phase }], guard := none }) (v := _) (fuel := 1) rfl (by kernel_rfl) (by kernel_rfl) (by kernel_rfl) (fun _ _ _ h => h) (Or.inl ⟨by rfl, ?hy33⟩) hH5 ?rest33
  case hy33=>(intro w ⟨_,_,_,_,_⟩;go_simp;try with_reducible rfl)
  try simp only[Act.put,List.setIfInBounds_toArray,List.set_cons_zero,List.set_cons_succ]
  refine wpAnyH_ready (rs:=[38]) (by kernel_rfl) (by simp) ?_
  refine AllReadyH.cons (o := { dst := none, op := Op.store 100 (Operand.tmp 40) (Operand.tmp 37), type := 0, pos := "recorder.go:133", after := #[{ on := 37, ground := Ground.data }, { on := 34, ground := Ground.data }, { on := 34, ground := Ground.chain }, { on := 0, ground := Ground.phase }, { on := 1, ground := Ground.phase }, { on := 2, ground := Ground.phase }, { on := 3, ground := Ground.phase }, { on := 4, ground := Ground.phase }, { on := 5, ground := Ground.phase }, { on := 6, ground := Ground.phase }, { on := 7, ground := Ground.phase }, { on := 8, ground := Ground.phase }, { on := 9, ground := Ground.phase }, { on := 10, ground := Ground.phase }, { on := 11, ground := Ground.phase }, { on := 12, ground := Ground.phase }, { on := 13, ground := Ground.phase }, { on := 14, ground := Ground.phase }, { on := 15, ground := Ground.phase }, { on := 16, ground := Ground.phase }, { on := 17, ground := Ground.phase }, { on := 18, ground := Ground.phase }, { on := 19, ground := Ground.phase }, { on := 20, ground := Ground.phase }, { on := 21, ground := Ground.phase }, { on := 22, ground := Ground.phase }, { on := 23, ground := Ground.phase }, { on := 24, ground := Ground.phase }, { on := 25, ground := Ground.phase }, { on := 26, ground := Ground.phase }, { on := 27, ground := Ground.phase }, { on := 28, ground := Ground.phase }, { on := 29, ground := Ground.phase }, { on := 30, ground := Ground.phase }, { on := 31, ground := Ground.phase }, { on := 32, ground := Ground.phase }, { on := 33, ground := Ground.phase }, { on := 34, ground := Ground.phase }], guard := none }) rfl (fun K hK => ?_) AllReadyH.nil
  go_simp
  refine hK.out _ _ hH6 (fun _=>?_)
  clear hK K
  try simp only[Act.put,List.setIfInBounds_toArray,List.set_cons_zero,List.set_cons_succ]
  refine wpAnyH_done (by kernel_rfl) ?_ _
  go_wp2
  go_ret
  exact hfin.out
 refine AllReadyH.cons (o := { dst := some 13, op := Op.call { callee := Callee.value (Operand.func 39), args := #[Operand.tmp 12], argTypes := #[53] }, type := 94, pos := "recorder.go:133", after := #[{ on := 9, ground := Ground.data }], guard := none }) rfl (fun K hK => ?_) AllReadyH.nil
 go_simp
 go_at_call 39
 refine(htop.out _ E0).mono ?_
 rintro e w16 ⟨rfl,hb17⟩
 have E18:=ext_trans E0 hb17
 have hH19:=(hC.out _ E18).1
 have r20:=(hC.out _ E18).2
 refine hK.out _ _ hH19 (fun _=>?_)
 clear hK K
 try simp only[Act.put,List.setIfInBounds_toArray,List.set_cons_zero,List.set_cons_succ]
 refine' wpAnyH_take (i := 11) (oi := { dst := some 14, op := Op.nilCheck (Operand.tmp 13), type := 0, pos := "recorder.go:133", after := #[{ on := 10, ground := Ground.data }], guard := none }) (v := _) (fuel := 11) rfl (by kernel_rfl) (by kernel_rfl) (by kernel_rfl) (fun _ _ _ h => h) (Or.inl ⟨by rfl, ?hy34⟩) hH19 ?rest34
 case hy34=>(intro w ⟨_,_,_,_,_⟩;go_simp;try with_reducible rfl)
 try simp only[Act.put,List.setIfInBounds_toArray,List.set_cons_zero,List.set_cons_succ]
 refine' wpAnyH_take (i := 12) (oi := { dst := some 15, op := Op.fieldAddr 66 (Operand.tmp 14) 1, type := 0, pos := "recorder.go:133", after := #[{ on := 11, ground := Ground.data }], guard := none }) (v := _) (fuel := 10) rfl (by kernel_rfl) (by kernel_rfl) (by kernel_rfl) (fun _ _ _ h => h) (Or.inl ⟨by rfl, ?hy35⟩) hH19 ?rest35
 case hy35=>(intro w ⟨_,_,_,_,_⟩;go_simp;try with_reducible rfl)
 try simp only[Act.put,List.setIfInBounds_toArray,List.set_cons_zero,List.set_cons_succ]
 refine' wpAnyH_take (i := 13) (oi := { dst := some 16, op := Op.load 3 (Operand.tmp 15), type := 3, pos := "recorder.go:133", after := #[{ on := 12, ground := Ground.data }], guard := none }) (v := _) (fuel := 9) rfl (by kernel_rfl) (by kernel_rfl) (by kernel_rfl) (fun _ _ _ h => h) (Or.inl ⟨by rfl, ?hy36⟩) hH19 ?rest36
 case hy36=>(intro w ⟨_,_,_,_,_⟩;go_simp;try with_reducible rfl)
 try simp only[Act.put,List.setIfInBounds_toArray,List.set_cons_zero,List.set_cons_succ]
 refine wpAnyH_ready (rs:=[5,31]) (by kernel_rfl) (by simp) ?_
 refine AllReadyH.cons (o := { dst := some 8, op := Op.load 100 (Operand.tmp 7), type := 100, pos := "recorder.go:133", after := #[{ on := 4, ground := Ground.data }], guard := none }) rfl (fun K hK => ?_) ?_
 ·go_simp
  refine hK.out _ _ hH19 (fun _=>?_)
  clear hK K
  try simp only[Act.put,List.setIfInBounds_toArray,List.set_cons_zero,List.set_cons_succ]
  refine wpAnyH_ready (rs:=[31]) (by kernel_rfl) (by simp) ?_
  refine AllReadyH.cons (o := { dst := some 34, op := Op.call { callee := Callee.value (Operand.func 103), args := #[Operand.tmp 33], argTypes := #[96] }, type := 96, pos := "recorder.go:133", after := #[{ on := 30, ground := Ground.data }, { on := 10, ground := Ground.chain }], guard := none }) rfl (fun K hK => ?_) AllReadyH.nil
  go_simp
  go_at_call 103
  refine(hcl.out _ E18).mono ?_
  rintro e w21 ⟨g0,cap0,rfl,hO0,hg0,hb22⟩
  have E23:=ext_trans E18 hb22
  have hH24:=(hC.out _ E23).1
  have r25:=(hC.out _ E23).2
  have hg1:W.heap.size<=g0:=Nat.le_trans E18.size hg0
  have F26:=Below.refl w21.heap.size w21
  refine hK.out _ _ hH24 (fun _=>?_)
  clear hK K
  try simp only[Act.put,List.setIfInBounds_toArray,List.set_cons_zero,List.set_cons_succ]
  refine' wpAnyH_take (i := 32) (oi := { dst := some 35, op := Op.build 98 #[(0, Operand.tmp 16), (1, Operand.tmp 29), (2, Operand.tmp 34)], type := 98, pos := "recorder.go:133", after := #[{ on := 13, ground := Ground.data }, { on := 26, ground := Ground.data }, { on := 31, ground := Ground.data }], guard := none }) (v := _) (fuel := 6) rfl (by kernel_rfl) (by kernel_rfl) (by kernel_rfl) (fun _ _ _ h => h) (Or.inl ⟨by rfl, ?hy37⟩) hH24 ?rest37
  case hy37=>(intro w ⟨_,_,_,_,_⟩;go_simp;try with_reducible rfl)
  try simp only[Act.put,List.setIfInBounds_toArray,List.set_cons_zero,List.set_cons_succ]
  refine wpAnyH_ready (rs:=[33]) (by kernel_rfl) (by simp) ?_
  refine AllReadyH.cons (o := { dst := some 36, op := Op.buildSlice 100 1 #[(0, Operand.tmp 35)], type := 100, pos := "recorder.go:133", after := #[{ on := 32, ground := Ground.data }], guard := none }) rfl (fun K hK => ?_) AllReadyH.nil
  go_simp
  have E27:=ext_alloc E23 (.cells #[.int .i64 s.x.pc,.int .i64 (d:Nat),.slice (some ⟨g0,0,none⟩) L cap0] 98)
  have F30:=ext_alloc F26 (.cells #[.int .i64 s.x.pc,.int .i64 (d:Nat),.slice (some ⟨g0,0,none⟩) L cap0] 98)
  have hH28:=(hC.out _ E27).1
  have r29:=(hC.out _ E27).2
  have hnews:=sn_news (heap_new w21 (.cells #[.int .i64 s.x.pc,.int .i64 (d:Nat),.slice (some ⟨g0,0,none⟩) L cap0] 98))
  refine hK.out _ _ hH28 (fun _=>?_)
  clear hK K
  try simp only[Act.put,List.setIfInBounds_toArray,List.set_cons_zero,List.set_cons_succ]
  refine wpAnyH_ready (rs:=[34]) (by kernel_rfl) (by simp) ?_
  refine AllReadyH.cons (o := { dst := some 37, op := Op.call { callee := Callee.builtin Builtin.append, args := #[Operand.tmp 8, Operand.tmp 36], argTypes := #[100, 100] }, type := 100, pos := "recorder.go:133", after := #[{ on := 5, ground := Ground.data }, { on := 33, ground := Ground.data }, { on := 31, ground := Ground.chain }], guard := none }) rfl (fun K hK => ?_) AllReadyH.nil
  obtain⟨xs,hown,hloV,hrt⟩:=hAp.out _ _ g0 cap0 E23 F30 hg1 hO0
  refine step_append_lies _ (by rfl) _ _ _ (by rfl) w0.heap.size 98 i0 _ 3 40 Tryz.underlying100 hi0 hz0 hz1 hz2 rfl (by omega) (.slice sa n sc) n _ (by rfl) hown ⟨w21.heap.size,0,none⟩ 1 1 [.int .i64 s.x.pc,.int .i64 (d:Nat),.slice (some ⟨g0,0,none⟩) L cap0] (by rfl) (by rfl) hnews (by simp[Value.oneCell']) (by omega) hn1 hn2 hloV _ rfl ?_
  intro g3 cap3 w5 hown3 hgrow hat hlt3
  obtain⟨q4,z4,hH5,hH6,hfin⟩:=hrt w5 g3 cap3 hown3 hgrow hat
  clear hrt
  refine hK.out _ _ hH5 (fun _=>?_)
  clear hK K
  try simp only[Act.put,List.setIfInBounds_toArray,List.set_cons_zero,List.set_cons_succ]
  refine' wpAnyH_take (i := 35) (oi := { dst := some 38, op := Op.nilCheck (Operand.tmp 3), type := 0, pos := "recorder.go:133", after := #[{ on := 0, ground := Ground.data }, { on := 0, ground := Ground.phase }, { on := 1, ground := Ground.phase }, { on := 2, ground := Ground.phase }, { on := 3, ground := Ground.phase }, { on := 4, ground := Ground.phase }, { on := 5, ground := Ground.phase }, { on := 6, ground := Ground.phase }, { on := 7, ground := Ground.phase }, { on := 8, ground := Ground.phase }, { on := 9, ground := Ground.phase }, { on := 10, ground := Ground.phase }, { on := 11, ground := Ground.phase }, { on := 12, ground := Ground.phase }, { on := 13, ground := Ground.phase }, { on := 14, ground := Ground.phase }, { on := 15, ground := Ground.phase }, { on := 16, ground := Ground.phase }, { on := 17, ground := Ground.phase }, { on := 18, ground := Ground.phase }, { on := 19, ground := Ground.phase }, { on := 20, ground := Ground.phase }, { on := 21, ground := Ground.phase }, { on := 22, ground := Ground.phase }, { on := 23, ground := Ground.phase }, { on := 24, ground := Ground.phase }, { on := 25, ground := Ground.phase }, { on := 26, ground := Ground.phase }, { on := 27, ground := Ground.phase }, { on := 28, ground := Ground.phase }, { on := 29, ground := Ground.phase }, { on := 30, ground := Ground.phase }, { on := 31, ground := Ground.phase }, { on := 32, ground := Ground.phase }, { on := 33, ground := Ground.phase }, { on := 34, ground := Ground.phase }], guard := none }) (v := _) (fuel := 3) rfl (by kernel_rfl) (by kernel_rfl) (by kernel_rfl) (fun _ _ _ h => h) (Or.inl ⟨by rfl, ?hy38⟩) hH5 ?rest38
  case hy38=>(intro w ⟨_,_,_,_,_⟩;go_simp;try with_reducible rfl)
  try simp only[Act.put,List.setIfInBounds_toArray,List.set_cons_zero,List.set_cons_succ]
  refine' wpAnyH_take (i := 36) (oi := { dst := some 39, op := Op.fieldAddr 146 (Operand.tmp 38) 1, type := 0, pos := "recorder.go:133", after := #[{ on := 35, ground := Ground.data }, { on := 0, ground := Ground.phase }, { on := 1, ground := Ground.phase }, { on := 2, ground := Ground.phase }, { on := 3, ground := Ground.phase }, { on := 4, ground := Ground.phase }, { on := 5, ground := Ground.phase }, { on := 6, ground := Ground.phase }, { on := 7, ground := Ground.phase }, { on := 8, ground := Ground.phase }, { on := 9, ground := Ground.phase }, { on := 10, ground := Ground.phase }, { on := 11, ground := Ground.phase }, { on := 12, ground := Ground.phase }, { on := 13, ground := Ground.phase }, { on := 14, ground := Ground.phase }, { on := 15, ground := Ground.phase }, { on := 16, ground := Ground.phase }, { on := 17, ground := Ground.phase }, { on := 18, ground := Ground.phase }, { on := 19, ground := Ground.phase }, { on := 20, ground := Ground.phase }, { on := 21, ground := Ground.phase }, { on := 22, ground := Ground.phase }, { on := 23, ground := Ground.phase }, { on := 24, ground := Ground.phase }, { on := 25, ground := Ground.phase }, { on := 26, ground := Ground.phase }, { on := 27, ground := Ground.phase }, { on := 28, ground := Ground.phase }, { on := 29, ground := Ground.phase }, { on := 30, ground := Ground.phase }, { on := 31, ground := Ground.phase }, { on := 32, ground := Ground.phase }, { on := 33, ground := Ground.phase }, { on := 34, ground := Ground.phase }], guard := none }) (v := _) (fuel := 2) rfl (by kernel_rfl) (by kernel_rfl) (by kernel_rfl) (fun _ _ _ h => h) (Or.inl ⟨by rfl, ?hy39⟩) hH5 ?rest39
  case hy39=>(intro w ⟨_,_,_,_,_⟩;go_simp;try with_reducible rfl)
  try simp only[Act.put,List.setIfInBounds_toArray,List.set_cons_zero,List.set_cons_succ]
  refine' wpAnyH_take (i := 37) (oi := { dst := some 40, op := Op.fieldAddr 102 (Operand.tmp 39) 3, type := 0, pos := "recorder.go:133", after := #[{ on := 36, ground := Ground.data }, { on := 0, ground := Ground.phase }, { on := 1, ground := Ground.phase }, { on := 2, ground := Ground.phase }, { on := 3, ground := Ground.phase }, { on := 4, ground := Ground.phase }, { on := 5, ground := Ground.phase }, { on := 6, ground := Ground.phase }, { on := 7, ground := Ground.phase }, { on := 8, ground := Ground.phase }, { on := 9, ground := Ground.phase }, { on := 10, ground := Ground.phase }, { on := 11, ground := Ground.phase }, { on := 12, ground := Ground.phase }, { on := 13, ground := Ground.phase }, { on := 14, ground := Ground.phase }, { on := 15, ground := Ground.phase }, { on := 16, ground := Ground.phase }, { on := 17, ground := Ground.phase }, { on := 18, ground := Ground.phase }, { on := 19, ground := Ground.phase }, { on := 20, ground := Ground.phase }, { on := 21, ground := Ground.phase }, { on := 22, ground := Ground.phase }, { on := 23, ground := Ground.phase }, { on := 24, ground := Ground.phase }, { on := 25, ground := Ground.phase }, { on := 26, ground := Ground.phase }, { on := 27, ground := Ground.phase }, { on := 28, ground := Ground.phase }, { on := 29, ground := Ground.phase }, { on := 30, ground := Ground.phase }, { on := 31, ground := Ground.phase }, { on := 32, ground := Ground.phase }, { on := 33, ground := Ground.phase }, { on := 34, ground := Ground.phase }], guard := none }) (v := _) (fuel := 1) rfl (by kernel_rfl) (by kernel_rfl) (by kernel_rfl) (fun _ _ _ h => h) (Or.inl ⟨by rfl, ?hy40⟩) hH5 ?rest40
  case hy40=>(intro w ⟨_,_,_,_,_⟩;go_simp;try with_reducible rfl)
  try simp only[Act.put,List.setIfInBounds_toArray,List.set_cons_zero,List.set_cons_succ]
  refine wpAnyH_ready (rs:=[38]) (by kernel_rfl) (by simp) ?_
  refine AllReadyH.cons (o := { dst := none, op := Op.store 100 (Operand.tmp 40) (Operand.tmp 37), type := 0, pos := "recorder.go:133", after := #[{ on := 37, ground := Ground.data }, { on := 34, ground := Ground.data }, { on := 34, ground := Ground.chain }, { on := 0, ground := Ground.phase }, { on := 1, ground := Ground.phase }, { on := 2, ground := Ground.phase }, { on := 3, ground := Ground.phase }, { on := 4, ground := Ground.phase }, { on := 5, ground := Ground.phase }, { on := 6, ground := Ground.phase }, { on := 7, ground := Ground.phase }, { on := 8, ground := Ground.phase }, { on := 9, ground := Ground.phase }, { on := 10, ground := Ground.phase }, { on := 11, ground := Ground.phase }, { on := 12, ground := Ground.phase }, { on := 13, ground := Ground.phase }, { on := 14, ground := Ground.phase }, { on := 15, ground := Ground.phase }, { on := 16, ground := Ground.phase }, { on := 17, ground := Ground.phase }, { on := 18, ground := Ground.phase }, { on := 19, ground := Ground.phase }, { on := 20, ground := Ground.phase }, { on := 21, ground := Ground.phase }, { on := 22, ground := Ground.phase }, { on := 23, ground := Ground.phase }, { on := 24, ground := Ground.phase }, { on := 25, ground := Ground.phase }, { on := 26, ground := Ground.phase }, { on := 27, ground := Ground.phase }, { on := 28, ground := Ground.phase }, { on := 29, ground := Ground.phase }, { on := 30, ground := Ground.phase }, { on := 31, ground := Ground.phase }, { on := 32, ground := Ground.phase }, { on := 33, ground := Ground.phase }, { on := 34, ground := Ground.phase }], guard := none }) rfl (fun K hK => ?_) AllReadyH.nil
  go_simp
  refine hK.out _ _ hH6 (fun _=>?_)
  clear hK K
  try simp only[Act.put,List.setIfInBounds_toArray,List.set_cons_zero,List.set_cons_succ]
  refine wpAnyH_done (by kernel_rfl) ?_ _
  go_wp2
  go_ret
  exact hfin.out
 refine AllReadyH.cons (o := { dst := some 34, op := Op.call { callee := Callee.value (Operand.func 103), args := #[Operand.tmp 33], argTypes := #[96] }, type := 96, pos := "recorder.go:133", after := #[{ on := 30, ground := Ground.data }, { on := 10, ground := Ground.chain }], guard := none }) rfl (fun K hK => ?_) AllReadyH.nil
 go_simp
 go_at_call 103
 refine(hcl.out _ E18).mono ?_
 rintro e w31 ⟨g0,cap0,rfl,hO0,hg0,hb32⟩
 have E33:=ext_trans E18 hb32
 have hH34:=(hC.out _ E33).1
 have r35:=(hC.out _ E33).2
 have hg1:W.heap.size<=g0:=Nat.le_trans E18.size hg0
 have F36:=Below.refl w31.heap.size w31
 refine hK.out _ _ hH34 (fun _=>?_)
 clear hK K
 try simp only[Act.put,List.setIfInBounds_toArray,List.set_cons_zero,List.set_cons_succ]
 refine' wpAnyH_take (i := 32) (oi := { dst := some 35, op := Op.build 98 #[(0, Operand.tmp 16), (1, Operand.tmp 29), (2, Operand.tmp 34)], type := 98, pos := "recorder.go:133", after := #[{ on := 13, ground := Ground.data }, { on := 26, ground := Ground.data }, { on := 31, ground := Ground.data }], guard := none }) (v := _) (fuel := 7) rfl (by kernel_rfl) (by kernel_rfl) (by kernel_rfl) (fun _ _ _ h => h) (Or.inl ⟨by rfl, ?hy41⟩) hH34 ?rest41
 case hy41=>(intro w ⟨_,_,_,_,_⟩;go_simp;try with_reducible rfl)
 try simp only[Act.put,List.setIfInBounds_toArray,List.set_cons_zero,List.set_cons_succ]
 refine wpAnyH_ready (rs:=[5,33]) (by kernel_rfl) (by simp) ?_
 refine AllReadyH.cons (o := { dst := some 8, op := Op.load 100 (Operand.tmp 7), type := 100, pos := "recorder.go:133", after := #[{ on := 4, ground := Ground.data }], guard := none }) rfl (fun K hK => ?_) ?_
 ·go_simp
  refine hK.out _ _ hH34 (fun _=>?_)
  clear hK K
  try simp only[Act.put,List.setIfInBounds_toArray,List.set_cons_zero,List.set_cons_succ]
  refine wpAnyH_ready (rs:=[33]) (by kernel_rfl) (by simp) ?_
  refine AllReadyH.cons (o := { dst := some 36, op := Op.buildSlice 100 1 #[(0, Operand.tmp 35)], type := 100, pos := "recorder.go:133", after := #[{ on := 32, ground := Ground.data }], guard := none }) rfl (fun K hK => ?_) AllReadyH.nil
  go_simp
  have E37:=ext_alloc E33 (.cells #[.int .i64 s.x.pc,.int .i64 (d:Nat),.slice (some ⟨g0,0,none⟩) L cap0] 98)
  have F40:=ext_alloc F36 (.cells #[.int .i64 s.x.pc,.int .i64 (d:Nat),.slice (some ⟨g0,0,none⟩) L cap0] 98)
  have hH38:=(hC.out _ E37).1
  have r39:=(hC.out _ E37).2
  have hnews:=sn_news (heap_new w31 (.cells #[.int .i64 s.x.pc,.int .i64 (d:Nat),.slice (some ⟨g0,0,none⟩) L cap0] 98))
  refine hK.out _ _ hH38 (fun _=>?_)
  clear hK K
  try simp only[Act.put,List.setIfInBounds_toArray,List.set_cons_zero,List.set_cons_succ]
  refine wpAnyH_ready (rs:=[34]) (by kernel_rfl) (by simp) ?_
  refine AllReadyH.cons (o := { dst := some 37, op := Op.call { callee := Callee.builtin Builtin.append, args := #[Operand.tmp 8, Operand.tmp 36], argTypes := #[100, 100] }, type := 100, pos := "recorder.go:133", after := #[{ on := 5, ground := Ground.data }, { on := 33, ground := Ground.data }, { on := 31, ground := Ground.chain }], guard := none }) rfl (fun K hK => ?_) AllReadyH.nil
  obtain⟨xs,hown,hloV,hrt⟩:=hAp.out _ _ g0 cap0 E33 F40 hg1 hO0
  refine step_append_lies _ (by rfl) _ _ _ (by rfl) w0.heap.size 98 i0 _ 3 40 Tryz.underlying100 hi0 hz0 hz1 hz2 rfl (by omega) (.slice sa n sc) n _ (by rfl) hown ⟨w31.heap.size,0,none⟩ 1 1 [.int .i64 s.x.pc,.int .i64 (d:Nat),.slice (some ⟨g0,0,none⟩) L cap0] (by rfl) (by rfl) hnews (by simp[Value.oneCell']) (by omega) hn1 hn2 hloV _ rfl ?_
  intro g3 cap3 w5 hown3 hgrow hat hlt3
  obtain⟨q4,z4,hH5,hH6,hfin⟩:=hrt w5 g3 cap3 hown3 hgrow hat
  clear hrt
  refine hK.out _ _ hH5 (fun _=>?_)
  clear hK K
  try simp only[Act.put,List.setIfInBounds_toArray,List.set_cons_zero,List.set_cons_succ]
  refine' wpAnyH_take (i := 35) (oi := { dst := some 38, op := Op.nilCheck (Operand.tmp 3), type := 0, pos := "recorder.go:133", after := #[{ on := 0, ground := Ground.data }, { on := 0, ground := Ground.phase }, { on := 1, ground := Ground.phase }, { on := 2, ground := Ground.phase }, { on := 3, ground := Ground.phase }, { on := 4, ground := Ground.phase }, { on := 5, ground := Ground.phase }, { on := 6, ground := Ground.phase }, { on := 7, ground := Ground.phase }, { on := 8, ground := Ground.phase }, { on := 9, ground := Ground.phase }, { on := 10, ground := Ground.phase }, { on := 11, ground := Ground.phase }, { on := 12, ground := Ground.phase }, { on := 13, ground := Ground.phase }, { on := 14, ground := Ground.phase }, { on := 15, ground := Ground.phase }, { on := 16, ground := Ground.phase }, { on := 17, ground := Ground.phase }, { on := 18, ground := Ground.phase }, { on := 19, ground := Ground.phase }, { on := 20, ground := Ground.phase }, { on := 21, ground := Ground.phase }, { on := 22, ground := Ground.phase }, { on := 23, ground := Ground.phase }, { on := 24, ground := Ground.phase }, { on := 25, ground := Ground.phase }, { on := 26, ground := Ground.phase }, { on := 27, ground := Ground.phase }, { on := 28, ground := Ground.phase }, { on := 29, ground := Ground.phase }, { on := 30, ground := Ground.phase }, { on := 31, ground := Ground.phase }, { on := 32, ground := Ground.phase }, { on := 33, ground := Ground.phase }, { on := 34, ground := Ground.phase }], guard := none }) (v := _) (fuel := 3) rfl (by kernel_rfl) (by kernel_rfl) (by kernel_rfl) (fun _ _ _ h => h) (Or.inl ⟨by rfl, ?hy42⟩) hH5 ?rest42
  case hy42=>(intro w ⟨_,_,_,_,_⟩;go_simp;try with_reducible rfl)
  try simp only[Act.put,List.setIfInBounds_toArray,List.set_cons_zero,List.set_cons_succ]
  refine' wpAnyH_take (i := 36) (oi := { dst := some 39, op := Op.fieldAddr 146 (Operand.tmp 38) 1, type := 0, pos := "recorder.go:133", after := #[{ on := 35, ground := Ground.data }, { on := 0, ground := Ground.phase }, { on := 1, ground := Ground.phase }, { on := 2, ground := Ground.phase }, { on := 3, ground := Ground.phase }, { on := 4, ground := Ground.phase }, { on := 5, ground := Ground.phase }, { on := 6, ground := Ground.phase }, { on := 7, ground := Ground.phase }, { on := 8, ground := Ground.phase }, { on := 9, ground := Ground.phase }, { on := 10, ground := Ground.phase }, { on := 11, ground := Ground.phase }, { on := 12, ground := Ground.phase }, { on := 13, ground := Ground.phase }, { on := 14, ground := Ground.phase }, { on := 15, ground := Ground.phase }, { on := 16, ground := Ground.phase }, { on := 17, ground := Ground.phase }, { on := 18, ground := Ground.phase }, { on := 19, ground := Ground.phase }, { on := 20, ground := Ground.phase }, { on := 21, ground := Ground.phase }, { on := 22, ground := Ground.phase }, { on := 23, ground := Ground.phase }, { on := 24, ground := Ground.phase }, { on := 25, ground := Ground.phase }, { on := 26, ground := Ground.phase }, { on := 27, ground := Ground.phase }, { on := 28, ground := Ground.phase }, { on := 29, ground := Ground.phase }, { on := 30, ground := Ground.phase }, { on := 31, ground := Ground.phase }, { on := 32, ground := Ground.phase }, { on := 33, ground := Ground.phase }, { on := 34, ground := Ground.phase }], guard := none }) (v := _) (fuel := 2) rfl (by kernel_rfl) (by kernel_rfl) (by kernel_rfl) (fun _ _ _ h => h) (Or.inl ⟨by rfl, ?hy43⟩) hH5 ?rest43
  case hy43=>(intro w ⟨_,_,_,_,_⟩;go_simp;try with_reducible rfl)
  try simp only[Act.put,List.setIfInBounds_toArray,List.set_cons_zero,List.set_cons_succ]
  refine' wpAnyH_take (i := 37) (oi := { dst := some 40, op := Op.fieldAddr 102 (Operand.tmp 39) 3, type := 0, pos := "recorder.go:133", after := #[{ on := 36, ground := Ground.data }, { on := 0, ground := Ground.phase }, { on := 1, ground := Ground.phase }, { on := 2, ground := Ground.phase }, { on := 3, ground := Ground.phase }, { on := 4, ground := Ground.phase }, { on := 5, ground := Ground.phase }, { on := 6, ground := Ground.phase }, { on := 7, ground := Ground.phase }, { on := 8, ground := Ground.phase }, { on := 9, ground := Ground.phase }, { on := 10, ground := Ground.phase }, { on := 11, ground := Ground.phase }, { on := 12, ground := Ground.phase }, { on := 13, ground := Ground.phase }, { on := 14, ground := Ground.phase }, { on := 15, ground := Ground.phase }, { on := 16, ground := Ground.phase }, { on := 17, ground := Ground.phase }, { on := 18, ground := Ground.phase }, { on := 19, ground := Ground.phase }, { on := 20, ground := Ground.phase }, { on := 21, ground := Ground.phase }, { on := 22, ground := Ground.phase }, { on := 23, ground := Ground.phase }, { on := 24, ground := Ground.phase }, { on := 25, ground := Ground.phase }, { on := 26, ground := Ground.phase }, { on := 27, ground := Ground.phase }, { on := 28, ground := Ground.phase }, { on := 29, ground := Ground.phase }, { on := 30, ground := Ground.phase }, { on := 31, ground := Ground.phase }, { on := 32, ground := Ground.phase }, { on := 33, ground := Ground.phase }, { on := 34, ground := Ground.phase }], guard := none }) (v := _) (fuel := 1) rfl (by kernel_rfl) (by kernel_rfl) (by kernel_rfl) (fun _ _ _ h => h) (Or.inl ⟨by rfl, ?hy44⟩) hH5 ?rest44
  case hy44=>(intro w ⟨_,_,_,_,_⟩;go_simp;try with_reducible rfl)
  try simp only[Act.put,List.setIfInBounds_toArray,List.set_cons_zero,List.set_cons_succ]
  refine wpAnyH_ready (rs:=[38]) (by kernel_rfl) (by simp) ?_
  refine AllReadyH.cons (o := { dst := none, op := Op.store 100 (Operand.tmp 40) (Operand.tmp 37), type := 0, pos := "recorder.go:133", after := #[{ on := 37, ground := Ground.data }, { on := 34, ground := Ground.data }, { on := 34, ground := Ground.chain }, { on := 0, ground := Ground.phase }, { on := 1, ground := Ground.phase }, { on := 2, ground := Ground.phase }, { on := 3, ground := Ground.phase }, { on := 4, ground := Ground.phase }, { on := 5, ground := Ground.phase }, { on := 6, ground := Ground.phase }, { on := 7, ground := Ground.phase }, { on := 8, ground := Ground.phase }, { on := 9, ground := Ground.phase }, { on := 10, ground := Ground.phase }, { on := 11, ground := Ground.phase }, { on := 12, ground := Ground.phase }, { on := 13, ground := Ground.phase }, { on := 14, ground := Ground.phase }, { on := 15, ground := Ground.phase }, { on := 16, ground := Ground.phase }, { on := 17, ground := Ground.phase }, { on := 18, ground := Ground.phase }, { on := 19, ground := Ground.phase }, { on := 20, ground := Ground.phase }, { on := 21, ground := Ground.phase }, { on := 22, ground := Ground.phase }, { on := 23, ground := Ground.phase }, { on := 24, ground := Ground.phase }, { on := 25, ground := Ground.phase }, { on := 26, ground := Ground.phase }, { on := 27, ground := Ground.phase }, { on := 28, ground := Ground.phase }, { on := 29, ground := Ground.phase }, { on := 30, ground := Ground.phase }, { on := 31, ground := Ground.phase }, { on := 32, ground := Ground.phase }, { on := 33, ground := Ground.phase }, { on := 34, ground := Ground.phase }], guard := none }) rfl (fun K hK => ?_) AllReadyH.nil
  go_simp
  refine hK.out _ _ hH6 (fun _=>?_)
  clear hK K
  try simp only[Act.put,List.setIfInBounds_toArray,List.set_cons_zero,List.set_cons_succ]
  refine wpAnyH_done (by kernel_rfl) ?_ _
  go_wp2
  go_ret
  exact hfin.out
 refine AllReadyH.cons (o := { dst := some 36, op := Op.buildSlice 100 1 #[(0, Operand.tmp 35)], type := 100, pos := "recorder.go:133", after := #[{ on := 32, ground := Ground.data }], guard := none }) rfl (fun K hK => ?_) AllReadyH.nil
 go_simp
 have E41:=ext_alloc E33 (.cells #[.int .i64 s.x.pc,.int .i64 (d:Nat),.slice (some ⟨g0,0,none⟩) L cap0] 98)
 have F44:=ext_alloc F36 (.cells #[.int .i64 s.x.pc,.int .i64 (d:Nat),.slice (some ⟨g0,0,none⟩) L cap0] 98)
 have hH42:=(hC.out _ E41).1
 have r43:=(hC.out _ E41).2
 have hnews:=sn_news (heap_new w31 (.cells #[.int .i64 s.x.pc,.int .i64 (d:Nat),.slice (some ⟨g0,0,none⟩) L cap0] 98))
 refine hK.out _ _ hH42 (fun _=>?_)
 clear hK K
 try simp only[Act.put,List.setIfInBounds_toArray,List.set_cons_zero,List.set_cons_succ]
 refine wpAnyH_ready (rs:=[5]) (by kernel_rfl) (by simp) ?_
 refine AllReadyH.cons (o := { dst := some 8, op := Op.load 100 (Operand.tmp 7), type := 100, pos := "recorder.go:133", after := #[{ on := 4, ground := Ground.data }], guard := none }) rfl (fun K hK => ?_) AllReadyH.nil
 go_simp
 refine hK.out _ _ hH42 (fun _=>?_)
 clear hK K
 try simp only[Act.put,List.setIfInBounds_toArray,List.set_cons_zero,List.set_cons_succ]
 refine wpAnyH_ready (rs:=[34]) (by kernel_rfl) (by simp) ?_
 refine AllReadyH.cons (o := { dst := some 37, op := Op.call { callee := Callee.builtin Builtin.append, args := #[Operand.tmp 8, Operand.tmp 36], argTypes := #[100, 100] }, type := 100, pos := "recorder.go:133", after := #[{ on := 5, ground := Ground.data }, { on := 33, ground := Ground.data }, { on := 31, ground := Ground.chain }], guard := none }) rfl (fun K hK => ?_) AllReadyH.nil
 obtain⟨xs,hown,hloV,hrt⟩:=hAp.out _ _ g0 cap0 E33 F44 hg1 hO0
 refine step_append_lies _ (by rfl) _ _ _ (by rfl) w0.heap.size 98 i0 _ 3 40 Tryz.underlying100 hi0 hz0 hz1 hz2 rfl (by omega) (.slice sa n sc) n _ (by rfl) hown ⟨w31.heap.size,0,none⟩ 1 1 [.int .i64 s.x.pc,.int .i64 (d:Nat),.slice (some ⟨g0,0,none⟩) L cap0] (by rfl) (by rfl) hnews (by simp[Value.oneCell']) (by omega) hn1 hn2 hloV _ rfl ?_
 intro g3 cap3 w5 hown3 hgrow hat hlt3
 obtain⟨q4,z4,hH5,hH6,hfin⟩:=hrt w5 g3 cap3 hown3 hgrow hat
 clear hrt
 refine hK.out _ _ hH5 (fun _=>?_)
 clear hK K
 try simp only[Act.put,List.setIfInBounds_toArray,List.set_cons_zero,List.set_cons_succ]
 refine' wpAnyH_take (i := 35) (oi := { dst := some 38, op := Op.nilCheck (Operand.tmp 3), type := 0, pos := "recorder.go:133", after := #[{ on := 0, ground := Ground.data }, { on := 0, ground := Ground.phase }, { on := 1, ground := Ground.phase }, { on := 2, ground := Ground.phase }, { on := 3, ground := Ground.phase }, { on := 4, ground := Ground.phase }, { on := 5, ground := Ground.phase }, { on := 6, ground := Ground.phase }, { on := 7, ground := Ground.phase }, { on := 8, ground := Ground.phase }, { on := 9, ground := Ground.phase }, { on := 10, ground := Ground.phase }, { on := 11, ground := Ground.phase }, { on := 12, ground := Ground.phase }, { on := 13, ground := Ground.phase }, { on := 14, ground := Ground.phase }, { on := 15, ground := Ground.phase }, { on := 16, ground := Ground.phase }, { on := 17, ground := Ground.phase }, { on := 18, ground := Ground.phase }, { on := 19, ground := Ground.phase }, { on := 20, ground := Ground.phase }, { on := 21, ground := Ground.phase }, { on := 22, ground := Ground.phase }, { on := 23, ground := Ground.phase }, { on := 24, ground := Ground.phase }, { on := 25, ground := Ground.phase }, { on := 26, ground := Ground.phase }, { on := 27, ground := Ground.phase }, { on := 28, ground := Ground.phase }, { on := 29, ground := Ground.phase }, { on := 30, ground := Ground.phase }, { on := 31, ground := Ground.phase }, { on := 32, ground := Ground.phase }, { on := 33, ground := Ground.phase }, { on := 34, ground := Ground.phase }], guard := none }) (v := _) (fuel := 3) rfl (by kernel_rfl) (by kernel_rfl) (by kernel_rfl) (fun _ _ _ h => h) (Or.inl ⟨by rfl, ?hy45⟩) hH5 ?rest45
 case hy45=>(intro w ⟨_,_,_,_,_⟩;go_simp;try with_reducible rfl)
 try simp only[Act.put,List.setIfInBounds_toArray,List.set_cons_zero,List.set_cons_succ]
 refine' wpAnyH_take (i := 36) (oi := { dst := some 39, op := Op.fieldAddr 146 (Operand.tmp 38) 1, type := 0, pos := "recorder.go:133", after := #[{ on := 35, ground := Ground.data }, { on := 0, ground := Ground.phase }, { on := 1, ground := Ground.phase }, { on := 2, ground := Ground.phase }, { on := 3, ground := Ground.phase }, { on := 4, ground := Ground.phase }, { on := 5, ground := Ground.phase }, { on := 6, ground := Ground.phase }, { on := 7, ground := Ground.phase }, { on := 8, ground := Ground.phase }, { on := 9, ground := Ground.phase }, { on := 10, ground := Ground.phase }, { on := 11, ground := Ground.phase }, { on := 12, ground := Ground.phase }, { on := 13, ground := Ground.phase }, { on := 14, ground := Ground.phase }, { on := 15, ground := Ground.phase }, { on := 16, ground := Ground.phase }, { on := 17, ground := Ground.phase }, { on := 18, ground := Ground.phase }, { on := 19, ground := Ground.phase }, { on := 20, ground := Ground.phase }, { on := 21, ground := Ground.phase }, { on := 22, ground := Ground.phase }, { on := 23, ground := Ground.phase }, { on := 24, ground := Ground.phase }, { on := 25, ground := Ground.phase }, { on := 26, ground := Ground.phase }, { on := 27, ground := Ground.phase }, { on := 28, ground := Ground.phase }, { on := 29, ground := Ground.phase }, { on := 30, ground := Ground.phase }, { on := 31, ground := Ground.phase }, { on := 32, ground := Ground.phase }, { on := 33, ground := Ground.phase }, { on := 34, ground := Ground.phase }], guard := none }) (v := _) (fuel := 2) rfl (by kernel_rfl) (by kernel_rfl) (by kernel_rfl) (fun _ _ _ h => h) (Or.inl ⟨by rfl, ?hy46⟩) hH5 ?rest46
 case hy46=>(intro w ⟨_,_,_,_,_⟩;go_simp;try with_reducible rfl)
 try simp only[Act.put,List.setIfInBounds_toArray,List.set_cons_zero,List.set_cons_succ]
 refine' wpAnyH_take (i := 37) (oi := { dst := some 40, op := Op.fieldAddr 102 (Operand.tmp 39) 3, type := 0, pos := "recorder.go:133", after := #[{ on := 36, ground := Ground.data }, { on := 0, ground := Ground.phase }, { on := 1, ground := Ground.phase }, { on := 2, ground := Ground.phase }, { on := 3, ground := Ground.phase }, { on := 4, ground := Ground.phase }, { on := 5, ground := Ground.phase }, { on := 6, ground := Ground.phase }, { on := 7, ground := Ground.phase }, { on := 8, ground := Ground.phase }, { on := 9, ground := Ground.phase }, { on := 10, ground := Ground.phase }, { on := 11, ground := Ground.phase }, { on := 12, ground := Ground.phase }, { on := 13, ground := Ground.phase }, { on := 14, ground := Ground.phase }, { on := 15, ground := Ground.phase }, { on := 16, ground := Ground.phase }, { on := 17, ground := Ground.phase }, { on := 18, ground := Ground.phase }, { on := 19, ground := Ground.phase }, { on := 20, ground := Ground.phase }, { on := 21, ground := Ground.phase }, { on := 22, ground := Ground.phase }, { on := 23, ground := Ground.phase }, { on := 24, ground := Ground.phase }, { on := 25, ground := Ground.phase }, { on := 26, ground := Ground.phase }, { on := 27, ground := Ground.phase }, { on := 28, ground := Ground.phase }, { on := 29, ground := Ground.phase }, { on := 30, ground := Ground.phase }, { on := 31, ground := Ground.phase }, { on := 32, ground := Ground.phase }, { on := 33, ground := Ground.phase }, { on := 34, ground := Ground.phase }], guard := none }) (v := _) (fuel := 1) rfl (by kernel_rfl) (by kernel_rfl) (by kernel_rfl) (fun _ _ _ h => h) (Or.inl ⟨by rfl, ?hy47⟩) hH5 ?rest47
 case hy47=>(intro w ⟨_,_,_,_,_⟩;go_simp;try with_reducible rfl)
 try simp only[Act.put,List.setIfInBounds_toArray,List.set_cons_zero,List.set_cons_succ]
 refine wpAnyH_ready (rs:=[38]) (by kernel_rfl) (by simp) ?_
 refine AllReadyH.cons (o := { dst := none, op := Op.store 100 (Operand.tmp 40) (Operand.tmp 37), type := 0, pos := "recorder.go:133", after := #[{ on := 37, ground := Ground.data }, { on := 34, ground := Ground.data }, { on := 34, ground := Ground.chain }, { on := 0, ground := Ground.phase }, { on := 1, ground := Ground.phase }, { on := 2, ground := Ground.phase }, { on := 3, ground := Ground.phase }, { on := 4, ground := Ground.phase }, { on := 5, ground := Ground.phase }, { on := 6, ground := Ground.phase }, { on := 7, ground := Ground.phase }, { on := 8, ground := Ground.phase }, { on := 9, ground := Ground.phase }, { on := 10, ground := Ground.phase }, { on := 11, ground := Ground.phase }, { on := 12, ground := Ground.phase }, { on := 13, ground := Ground.phase }, { on := 14, ground := Ground.phase }, { on := 15, ground := Ground.phase }, { on := 16, ground := Ground.phase }, { on := 17, ground := Ground.phase }, { on := 18, ground := Ground.phase }, { on := 19, ground := Ground.phase }, { on := 20, ground := Ground.phase }, { on := 21, ground := Ground.phase }, { on := 22, ground := Ground.phase }, { on := 23, ground := Ground.phase }, { on := 24, ground := Ground.phase }, { on := 25, ground := Ground.phase }, { on := 26, ground := Ground.phase }, { on := 27, ground := Ground.phase }, { on := 28, ground := Ground.phase }, { on := 29, ground := Ground.phase }, { on := 30, ground := Ground.phase }, { on := 31, ground := Ground.phase }, { on := 32, ground := Ground.phase }, { on := 33, ground := Ground.phase }, { on := 34, ground := Ground.phase }], guard := none }) rfl (fun K hK => ?_) AllReadyH.nil
 go_simp
 refine hK.out _ _ hH6 (fun _=>?_)
 clear hK K
 try simp only[Act.put,List.setIfInBounds_toArray,List.set_cons_zero,List.set_cons_succ]
 refine wpAnyH_done (by kernel_rfl) ?_ _
 go_wp2
 go_ret
 exact hfin.out
end
theorem rtwin_any(op a b d:Int)(ho:op=28\/op=21)(W:World):Calls Tryz.prog 135 #[.agg #[.int .i64 op,.int .i64 a,.int .i64 b,.int .i64 d]] W fun e W'=>∃g,e=.returned (.tuple #[.int .i64 op,.slice (some ⟨g,0,none⟩) 2 2])/\W.heap.size<=g/\W'.heap[g]?=some (.cells #[.int .i64 b,.int .i64 d] 3)/\Below W.heap.size W W':=by
 obtain⟨w1,hw1⟩:∃w1,W.alloc (.cells #[.int .i64 op,.int .i64 a,.int .i64 b,.int .i64 d] 32)=w1:=⟨_,rfl⟩
 have E1:Below W.heap.size W w1:=by rw[<- hw1];exact ext_alloc (Below.refl _ _) _
 have g1:w1.heap[W.heap.size]?=some (.cells #[.int .i64 op,.int .i64 a,.int .i64 b,.int .i64 d] 32):=by rw[<- hw1];exact heap_new _ _
 have o0:=cell_block (i:=0) g1 rfl
 have o2:=cell_block (i:=2) g1 rfl
 have o3:=cell_block (i:=3) g1 rfl
 have hfin:∀u,Below w1.heap.size w1 u->W.heap.size<=u.heap.size/\(u.alloc (.cells #[.int .i64 b,.int .i64 d] 3)).heap[u.heap.size]?=some (.cells #[.int .i64 b,.int .i64 d] 3)/\Below W.heap.size W (u.alloc (.cells #[.int .i64 b,.int .i64 d] 3)):=fun u hu=>⟨(ext_trans E1 hu).size,heap_new _ _,ext_alloc (ext_trans E1 hu) _⟩
 have hz1:W.heap.size<w1.heap.size:=block_lt g1
 have hz2:¬w1.heap.size=W.heap.size:=by omega
 replace hfin:Hid _:=hfin
 clear E1 g1
 rcases ho with rfl|rfl
 ·go_enter Tryz.func135,Tryz.ntmps135
  go_wp2
  go_region
  all_goals
   go_wp2
   exact bodyPost_ret (by simp[results,Tryz.results135,go_sem]) rfl ⟨_,rfl,hfin.out _ (ext_drew (Below.refl _ _))⟩
 ·go_enter Tryz.func135,Tryz.ntmps135
  go_wp2
  go_region
  all_goals
   go_wp2
   exact bodyPost_ret (by simp[results,Tryz.results135,go_sem]) rfl ⟨_,rfl,hfin.out _ (ext_drew (Below.refl _ _))⟩
section
variable {w0:World} {m:Hm} {s s':Ms} {c:Rec} {S:Sy} {O:List Nat} {W W':World}
theorem guard_any(h:Rz w0 m s c S O W){r:Nat}{v:Vl}(hv:s.x.rs[r]?=some v):Calls Tryz.prog 134 #[.pointer (some ⟨c.R,0,none⟩),.int .i64 (r:Nat)] W fun e W'=>e=.returned (.int .i64 (if truthB v.k v.n v.s=true then 10 else 11))/\Below W.heap.size W W':=by
 obtain⟨ia,sa,ta,ic,sc,tc,hd⟩:=h.rd
 have hc:=h.mh.cs
 have r0:=hd.c0
 have ht:=top0 hc.c2
 have x3:=hc.d3
 obtain⟨⟨t0,t1,t2⟩,_,_,_⟩:=hc.rg r v hv
 have hlt:(r:Int)<(s.x.rs.length:Int):=by have:=(List.getElem?_eq_some_iff.1 hv).1;omega
 have htr:=truth_any v.k v.n v.s
 obtain⟨tb,htb⟩:∃tb,truthB v.k v.n v.s=tb:=⟨_,rfl⟩
 rw[htb]at htr⊢
 obtain⟨n,hn⟩:∃n,s.x.rs.length=n:=⟨_,rfl⟩
 rw[hn]at x3 hlt
 have hb0:∀k:Nat,Below W.heap.size W (W.drewN k):=fun k=>drewN_below (Below.refl _ _)
 replace hb0:Hid _:=hb0
 clear h hd hc hv htb hn
 cases tb
 all_goals
  go_enter Tryz.func134,Tryz.ntmps134
  go_wp2_with (first|(go_at_call 39;refine ht.mono ?_;rintro e w2 ⟨rfl,k,rfl⟩)|(go_at_call 51;refine(htr _).mono ?_;rintro e w3 ⟨rfl,hb3⟩))
  go_ret
  exact⟨rfl,ext_trans (hb0.out _) hb3⟩
end
end
end Go.Proofs.YthljpnmhddfblaaGreatDoor
