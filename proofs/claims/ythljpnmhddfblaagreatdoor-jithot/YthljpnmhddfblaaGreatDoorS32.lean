/- Who makes a trace anew. -/
import Derived.Test.YthljpnmhddfblaaGreatDoorS31
namespace Go.Proofs.YthljpnmhddfblaaGreatDoor
open Go.RowKit Go
set_option maxRecDepth 100000
set_option maxHeartbeats 8000000
set_option linter.all false
section
variable [DecidableEq Vl]
abbrev nowR (l:List Int) (nv:Value):Rwo:=⟨nv,3,1,l.length,ints l⟩
abbrev mkb (t:Tr) (iv sv nv:Value):Obj:=.cells #[.int .i64 t.fn,.int .i64 t.hd,iv,sv,nv] 176
structure Mk (C:Nat->Prop) (w1:World) (B:Nat) (t:Tr) (now:List Int) (W:World):Prop where
 ex:∃iv sv nv vs,W.heap[B]?=some (mkb t iv sv nv)/\vs.length=t.sns.length/\Rs w1.heap.size [B] (nowR now nv::trR t iv sv vs) W
 kp:Keeps C w1 W
section
variable {C:Nat->Prop} {w1:World} {B:Nat} {t:Tr} {now:List Int} {W W':World}
theorem Mk.on(h:Mk C w1 B t now W)(hb:Below W.heap.size W W'):Mk C w1 B t now W':=by
 obtain⟨iv,sv,nv,vs,h1,h2,h3⟩:=h.ex
 exact⟨⟨iv,sv,nv,vs,(hb.block B (block_lt h1)).trans h1,h2,h3.below hb⟩,h.kp.trans (Keeps.of_below hb)⟩
theorem Mk.wrote(h:Mk C w1 B t now W)(hk:Keeps C W W')(hC:∀k,C k->k<w1.heap.size):Mk C w1 B t now W':=by
 obtain⟨iv,sv,nv,vs,h1,h2,h3⟩:=h.ex
 have hB:=h3.lt B (by simp)
 exact⟨⟨iv,sv,nv,vs,(hk.block B hB.2 (fun e=>by have:=hC B e;omega)).trans h1,h2,h3.wrote hk (fun k hk' e=>by have:=hC k e;have:=(h3.lt k (List.mem_append_right _ hk')).1;omega)⟩,h.kp.trans hk⟩
end
theorem info121:(Tryz.prog.info? 121).map (fun i=>(i.zero,i.size,i.bytes))=some (some (.agg #[.int .i64 0,.int .i64 0,.int .i64 0,.int .i64 0,.int .i64 0,.int .i64 0,.string ⟨#[]⟩,.int .i64 0]),8,72):=by kernel_rfl
theorem info3:(Tryz.prog.info? 3).map (fun i=>(i.zero,i.size,i.bytes))=some (some (.int .i64 0),1,8):=by kernel_rfl
theorem info98:(Tryz.prog.info? 98).map (fun i=>(i.zero,i.size,i.bytes))=some (some (.agg #[.int .i64 0,.int .i64 0,.slice none 0 0]),3,40):=by kernel_rfl
theorem Keeps.low{C:Nat->Prop}{w1 W W':World}(h:Keeps C w1 W)(hg:Keeps (fun k=>w1.heap.size<=k) W W'):Keeps C w1 W':=h.then hg (fun j hj e=>absurd hj (by have:w1.heap.size<=j:=e;omega))
section
variable {C:Nat->Prop} {w1:World} {B:Nat} {t:Tr} {now:List Int} {W W':World}
theorem tic_news{W:World}{g:Nat}{o:Ti}(h:W.heap[g]?=some o.box):∀j u,(tic o)[j]?=some u->W.cell? ((⟨g,0,none⟩:Addr).add j)=some u:=World.news_of_block (cs:=(tic o).toArray) h
theorem tic_one(o:Ti):∀x∈tic o,x.oneCell'=true:=fun x hx=>by
 simp only[tic,List.mem_cons,List.not_mem_nil,or_false]at hx
 rcases hx with rfl|rfl|rfl|rfl|rfl|rfl|rfl|rfl <;> rfl
structure AddR (C:Nat->Prop) (w1:World) (B:Nat) (t:Tr) (now:List Int) (o:Ti) (W0 V:World) (ia:Option Addr) (ic:Nat):Prop where
 ld:V.cell? ⟨B,2,none⟩=some (.slice ia t.ins.length ic)
 own:V.ownsRow w1.heap.size 121 8 (.slice ia t.ins.length ic) t.ins.length (insc t.ins)
 lo:w1.heap.size<=V.heap.size
 rt:∀(w3:World) (g cap:Nat),w3.ownsRow w1.heap.size 121 8 (.slice (some ⟨g,0,none⟩) (t.ins.length+1) cap) (t.ins.length+1) (insc t.ins++tic o)->V.grownBy w3 (Value.ownBlock (.slice ia t.ins.length ic))->(Value.ownBlock (.slice ia t.ins.length ic)=some g\/g=V.heap.size) ->
  w3.cell? ⟨B,2,none⟩=some (.slice ia t.ins.length ic)/\w3.frozen? ⟨B,2,none⟩=false/\Mk C w1 B { t with ins:=t.ins++[o] } now (w3.setCell ⟨B,2,none⟩ (.slice (some ⟨g,0,none⟩) (t.ins.length+1) cap))/\(∀k,k<w1.heap.size->(w3.setCell ⟨B,2,none⟩ (.slice (some ⟨g,0,none⟩) (t.ins.length+1) cap)).heap[k]?=V.heap[k]?)/\(w3.setCell ⟨B,2,none⟩ (.slice (some ⟨g,0,none⟩) (t.ins.length+1) cap)).cell? ⟨B,4,none⟩=V.cell? ⟨B,4,none⟩/\∀k,W0.heap.size<=k->k<V.heap.size->(w3.setCell ⟨B,2,none⟩ (.slice (some ⟨g,0,none⟩) (t.ins.length+1) cap)).heap[k]?=V.heap[k]?
theorem Mk.addR(h:Mk C w1 B t now W)(o:Ti):∃ia ic,∀V,Below W.heap.size W V->AddR C w1 B t now o W V ia ic:=by
 obtain⟨iv,sv,nv,vs,h1,h2,h3⟩:=h.ex
 have hp:(nowR now nv::trR t iv sv vs).Perm (insR t.ins iv::nowR now nv::snsR t.sns sv vs::rgr t.sns vs):=List.Perm.swap _ _ _
 have h4:=h3.perm hp
 obtain⟨_,_,ia,ic,e⟩:=Rwo.len (h4.ok (insR t.ins iv) (by simp))
 have e':iv=.slice ia t.ins.length ic:=e
 subst e'
 refine⟨ia,ic,fun V hb=>?_⟩
 have h5:=h4.below hb
 have h1V:=(hb.block B (block_lt h1)).trans h1
 refine⟨cell_block h1V rfl,h5.ok (insR t.ins (.slice ia t.ins.length ic)) (by simp),Nat.le_trans h.kp.size hb.size,fun w3 g cap hown hg hat=>?_⟩
 obtain⟨r1,r2⟩:=h5.grow (r:=insR t.ins (.slice ia t.ins.length ic)) hown hg hat
 have hB3:=(r2 B (by simp)).1.trans h1V
 have hK:Keeps (fun k=>w1.heap.size<=k) V (w3.setCell ⟨B,2,none⟩ (.slice (some ⟨g,0,none⟩) (t.ins.length+1) cap)) :=
  ((Keeps.grown hg).mono (S':=fun k=>w1.heap.size<=k) (fun k _ e=>((h5.ok (insR t.ins (.slice ia t.ins.length ic)) (by simp)).lt k e.symm).1)).then (keeps_one w3 B 2 _) (fun j _ e=>by have:=(h5.lt B (by simp)).1;have e':j=B:=e;omega)
 refine⟨cell_block hB3 rfl,frozen_block hB3,⟨⟨.slice (some ⟨g,0,none⟩) (t.ins.length+1) cap,sv,nv,vs,?_,h2,?_⟩,?_⟩,fun k hk=>?_,?_,fun k hk hk'=>?_⟩
 ·have:=set_block (i:=2) (.slice (some ⟨g,0,none⟩) (t.ins.length+1) cap) hB3
  simpa[mkb]using this
 ·have r3:=r1.box (B:=B) (by simp) (i:=2) (v:=.slice (some ⟨g,0,none⟩) (t.ins.length+1) cap)
  have e1:insc t.ins++tic o=insc (t.ins++[o]):=by simp[insc]
  refine(show Rs _ _ (_::_::_) _ from ?_:Rs w1.heap.size [B] (insR (t.ins++[o]) (.slice (some ⟨g,0,none⟩) (t.ins.length+1) cap)::nowR now nv::snsR t.sns sv vs::rgr t.sns vs) _).perm (List.Perm.swap _ _ _)
  simpa[insR,insc]using r3
 ·exact(h.kp.trans (Keeps.of_below hb)).low hK
 ·exact hK.block k (by have:=h.kp.size;have:=hb.size;omega) (by simpa using hk)
 ·exact(cell_block (i:=4) (set_block (i:=2) (.slice (some ⟨g,0,none⟩) (t.ins.length+1) cap) hB3) (by rfl)).trans (cell_block (i:=4) h1V rfl).symm
 ·have hBl:=block_lt h1
  refine(set1_other _ _ (by omega)).trans (hg.block k hk' (fun e=>?_))
  have:=((h4.ok (insR t.ins (.slice ia t.ins.length ic)) (by simp)).lt k e.symm).2
  omega
theorem oset{o:Ti}{W:World}{g:Nat}(h:W.heap[g]?=some o.box):(W.setCell ⟨g,6,none⟩ (.string o.v.s)).heap[g]?=some o.box:=by
 have:=set_block (i:=6) (.string o.v.s) h
 simpa[Ti.box]using this
theorem add_any{W0:World}(h0:Mk C w1 B t now W0)(hb0:Below W0.heap.size W0 W)(o:Ti)(hs:o.v.s.size<=300)(hn:t.ins.length<=1000):Calls Tryz.prog 107 #[.pointer (some ⟨B,0,none⟩),o.val] W fun e W'=>e=.returned (.int .i64 (t.ins.length:Nat))/\Mk C w1 B { t with ins:=t.ins++[o] } now W'/\(∀k,k<w1.heap.size->W'.heap[k]?=W.heap[k]?)/\W'.cell? ⟨B,4,none⟩=W.cell? ⟨B,4,none⟩/\∀k,W0.heap.size<=k->k<W.heap.size->W'.heap[k]?=W.heap[k]?:=by
 have h:=h0.on hb0
 have hc:=clone_any o.v.s
 have hBW:B<W.heap.size:=by obtain⟨_,_,_,_,h1,_⟩:=h.ex;exact block_lt h1
 have hwW:=h.kp.size
 obtain⟨ia,ic,hA0⟩:=h0.addR o
 have hA:=fun V hV=>hA0 V (ext_trans hb0 hV)
 have E0:=ext_alloc (Below.refl W.heap.size W) o.box
 have g0:(W.alloc o.box).heap[W.heap.size]?=some o.box:=heap_new _ _
 obtain⟨i0,hi0,hz0,hz1,hz2⟩:=info_parts info121
 have hone:=tic_one o
 obtain⟨n,hnn⟩:∃n,t.ins.length=n:=⟨_,rfl⟩
 have hlen:∀V,AddR C w1 B t now o W0 V ia ic->V.cell? ⟨B,2,none⟩=some (.slice ia n ic)/\V.ownsRow w1.heap.size 121 8 (.slice ia n ic) n (insc t.ins)/\w1.heap.size<=V.heap.size:=fun V a=>by rw[<- hnn];exact⟨a.ld,a.own,a.lo⟩
 have hrt:∀V w3 g cap,Below W.heap.size W V->AddR C w1 B t now o W0 V ia ic->w3.ownsRow w1.heap.size 121 8 (.slice (some ⟨g,0,none⟩) (n+1) cap) (n+1) (insc t.ins++tic o)->V.grownBy w3 (Value.ownBlock (.slice ia n ic))->(Value.ownBlock (.slice ia n ic)=some g\/g=V.heap.size) ->
   w3.cell? ⟨B,2,none⟩=some (.slice ia n ic)/\w3.frozen? ⟨B,2,none⟩=false/\Mk C w1 B { t with ins:=t.ins++[o] } now (w3.setCell ⟨B,2,none⟩ (.slice (some ⟨g,0,none⟩) (n+1) cap))/\(∀k,k<w1.heap.size->(w3.setCell ⟨B,2,none⟩ (.slice (some ⟨g,0,none⟩) (n+1) cap)).heap[k]?=W.heap[k]?)/\Hid ((w3.setCell ⟨B,2,none⟩ (.slice (some ⟨g,0,none⟩) (n+1) cap)).cell? ⟨B,4,none⟩=W.cell? ⟨B,4,none⟩)/\∀k,W0.heap.size<=k->k<W.heap.size->(w3.setCell ⟨B,2,none⟩ (.slice (some ⟨g,0,none⟩) (n+1) cap)).heap[k]?=W.heap[k]?:=fun V w3 g cap hb a x1 x2 x3=>by
  rw[<- hnn]at x1 x2 x3⊢
  obtain⟨y1,y2,y3,y4,y5,y6⟩:=a.rt w3 g cap x1 x2 x3
  exact⟨y1,y2,y3,fun k hk=>(y4 k hk).trans (hb.block k (by omega)),y5.trans (hb.cell (p:=⟨B,4,none⟩) hBW),fun k hk hk'=>(y6 k hk (by have:=hb.size;omega)).trans (hb.block k hk')⟩
 rw[hnn]at hn⊢
 have hn1:n+1<=maxLen:=by unfold maxLen;omega
 have hn2:(n+1)*72<=140737488355328:=by omega
 have hw:IntKind.i64.wrap ((n:Int)+1-1)=(n:Int):=by rw[IntKind.wrap_i64];omega
 replace hA:Hid _:=hA
 replace hlen:Hid _:=hlen
 replace hrt:Hid _:=hrt
 replace hnn:Hid _:=hnn
 clear h h0 hA0
 go_enter Tryz.func107,Tryz.ntmps107
 go_wp2_with (go_at_call 29;refine(hc _ hs).mono ?_;rintro e w2 ⟨rfl,hb2⟩;have g2:=block_below hb2 g0;have d6:w2.cell? ⟨W.heap.size,6,none⟩=some (.string o.v.s):=cell_block g2 rfl;have z6:w2.frozen? ⟨W.heap.size,6,none⟩=false:=frozen_block g2;refine Hid.out ?_)
 refine Lib.hid ?_
 obtain⟨X,hX⟩:∃X,w2.setCell ⟨W.heap.size,6,none⟩ (.string o.v.s)=X:=⟨_,rfl⟩
 have gX:X.heap[W.heap.size]?=some o.box:=by rw[<- hX];exact oset g2
 have EX:Below W.heap.size W X:=by rw[<- hX];exact(ext_trans E0 hb2).setCell (p:=⟨W.heap.size,6,none⟩) (Nat.le_refl _) _
 clear g0 E0
 have o0:=cell_block (i:=0) gX rfl
 have o1:=cell_block (i:=1) gX rfl
 have o2:=cell_block (i:=2) gX rfl
 have o3:=cell_block (i:=3) gX rfl
 have o4:=cell_block (i:=4) gX rfl
 have o5:=cell_block (i:=5) gX rfl
 have o6:=cell_block (i:=6) gX rfl
 have o7:=cell_block (i:=7) gX rfl
 have aX:=hA.out X EX
 obtain⟨ldX,_,_⟩:=hlen.out X aX
 have aA:=hA.out (X.alloc o.box) (ext_alloc EX _)
 obtain⟨ldA,_,_⟩:=hlen.out _ aA
 have aY:=hA.out (X.alloc o.box).drew (ext_drew (ext_alloc EX _))
 obtain⟨ldY,ownY,loY⟩:=hlen.out _ aY
 have hnews:=tic_news (W:=(X.alloc o.box).drew) (g:=X.heap.size) (o:=o) (heap_new X _)
 clear ldY
 go_wp2
 go_region_law (first|(refine step_append_lies _ (by rfl) _ _ _ (by rfl) w1.heap.size 121 i0 _ 8 72 Tryz.underlying99 hi0 hz0 hz1 hz2 rfl (by omega) (.slice ia n ic) n _ (by rfl) ownY ⟨X.heap.size,0,none⟩ 1 1 (tic o) (by rfl) (by rfl) hnews hone (by omega) hn1 hn2 loY _ rfl ?_;intro g3 cap3 w3 hown3 hgrow hat hlt3;obtain⟨cl,fr,hM,hlow,h4c,hkp⟩:=hrt.out _ w3 g3 cap3 (ext_drew (ext_alloc EX _)) aY hown3 hgrow hat))
 all_goals
  go_wp2
  go_ret
  exact⟨rfl,hM,hlow,h4c.out,hkp⟩
end
theorem made_ints(r:Nat)(hr:r<=250):∃mc:Array Value,(∀u:World,(Instr.makeSlice 96 (.int .i64 (r:Nat)) (.int .i64 (r:Nat))).run Tryz.prog u=.ok (.slice (some ⟨u.heap.size,0,none⟩) r r) (u.alloc (.cells mc 3)))/\mc.size=r*1/\mc.toList=List.replicate r (.int .i64 0):=by
 obtain⟨i0,hi0,hz0,hz1,hz2⟩:=info_parts info3
 refine⟨madeCells #[.int .i64 0] (r*1),fun u=>?_,size_madeCells _ _,?_⟩
 ·have:=run_makeSlice (P:=Tryz.prog) (w:=u) 96 3 i0 _ Tryz.underlying96 hi0 hz0 .i64 .i64 (r:Nat) (r:Nat) (by omega) (by omega) (by rw[hz1];omega) (by rw[hz2];omega) (by omega)
  rw[hz1]at this
  simp only[Int.toNat_natCast]at this
  exact this
 ·apply List.ext_getElem?
  intro j
  by_cases hj:j<r
  ·simp[madeCells,hj,Nat.mod_one]
  ·simp[madeCells,hj]
def half (rg:List Int) (i:Nat):List Value:=ints (rg.take i)++List.replicate (rg.length-i) (.int .i64 0)
theorem half_len(rg:List Int)(i:Nat)(h:i<=rg.length):(half rg i).length=rg.length:=by simp[half];omega
theorem half_set{rg:List Int}{i:Nat}{n:Int}(h:rg[i]?=some n)(x:Value):((half rg i).set i x).set i (.int .i64 n)=half rg (i+1):=by
 have hl:=(List.getElem?_eq_some_iff.1 h).1
 have e1:rg.take (i+1)=rg.take i++[n]:=by
  rw[List.take_succ,h];rfl
 have e2:List.replicate (rg.length-i) (Value.int .i64 0)=.int .i64 0::List.replicate (rg.length-(i+1)) (.int .i64 0):=by
  rw[<- List.replicate_succ];congr 1;omega
 have e3:(ints (rg.take i)).length=i:=by simp;omega
 unfold half
 rw[e1,e2,List.set_append_right _ _ (by omega),List.set_append_right _ _ (by omega),e3]
 simp
theorem half_get(rg:List Int)(i:Nat)(h:i<rg.length):(half rg i)[i]?=some (.int .i64 0):=by
 have e3:(ints (rg.take i)).length=i:=by simp;omega
 unfold half
 rw[List.getElem?_append_right (by omega),e3,Nat.sub_self,List.getElem?_replicate,if_pos (by omega)]
structure SnQ (B:Nat) (W:World) (pc st:Int) (rg:List Int) (k:Nat) (e:Ending) (W':World):Prop where
 ex:∃g,e=.returned (.agg #[.int .i64 pc,.int .i64 st,.slice (some ⟨g,0,none⟩) k k])/\W.heap.size<=g/\OwnR W' g 3 1 k k (ints rg)/\Below W.heap.size W W'
theorem res142{tm:Array Value}{W:World}{C:Nat}{a b c:Value}(h:tm[4]?.getD undef=.pointer (some ⟨C,0,none⟩))(hy:W.heap[C]?=some (.cells #[a,b,c] 98)):(results Tryz.f142 tm).run Tryz.prog W=.ok (.agg #[a,b,c]) W:=by
 have d0:W.cell? ⟨C,0,none⟩=some a:=cell_block hy rfl
 have d1:W.cell? ⟨C,1,none⟩=some b:=cell_block hy rfl
 have d2:W.cell? ⟨C,2,none⟩=some c:=cell_block hy rfl
 simp[results,Tryz.results142,go_sem,h,d0,d1,d2]
theorem snap_cells(B nb L nc rb k rc:Nat)(pc st:Int)(rg:List Int)(W:World)(c4:W.cell? ⟨B,4,none⟩=some (.slice (some ⟨nb,0,none⟩) L nc))(hnow:∀j:Nat,j<L->W.cell? ⟨nb,j,none⟩=some (.int .i64 (j:Nat)))(hrg:∀(j:Nat) n,rg[j]?=some n->W.cell? ⟨rb,j,none⟩=some (.int .i64 n))(hk:rg.length=k)(hk1:1<=k)(hk2:k<=250)(hin:∀n∈rg,n=-1\/∃m:Nat,n=m/\m<L)(hL:L<=1000) :
  Calls Tryz.prog 142 #[.pointer (some ⟨B,0,none⟩),.agg #[.int .i64 pc,.int .i64 st,.slice (some ⟨rb,0,none⟩) k rc]] W (SnQ B W pc st rg k):=by
 obtain⟨mc,hmk,hms,hml⟩:=made_ints k hk2
 have hBW:B<W.heap.size:=by have:=World.block_lt_of_cell? _ _ c4;simpa using this
 obtain⟨w2,hw2⟩:∃w2,(W.alloc (.cells #[.int .i64 pc,.int .i64 st,.slice (some ⟨rb,0,none⟩) k rc] 98)).alloc (.cells #[.int .i64 0,.int .i64 0,.slice none 0 0] 98)=w2:=⟨_,rfl⟩
 have E2:Below W.heap.size W w2:=by rw[<- hw2];exact ext_alloc (ext_alloc (Below.refl _ _) _) _
 have ga:w2.heap[W.heap.size]?=some (.cells #[.int .i64 pc,.int .i64 st,.slice (some ⟨rb,0,none⟩) k rc] 98):=by rw[<- hw2];exact block_alloc _ (heap_new _ _)
 have gb:w2.heap[W.heap.size+1]?=some (.cells #[.int .i64 0,.int .i64 0,.slice none 0 0] 98):=by rw[<- hw2];exact new2' W _ _
 obtain⟨w3,hw3⟩:∃w3,w2.alloc (.cells mc 3)=w3:=⟨_,rfl⟩
 have E3:Below w2.heap.size w2 w3:=by rw[<- hw3];exact ext_alloc (Below.refl _ _) _
 have gg:w3.heap[w2.heap.size]?=some (.cells mc 3):=by rw[<- hw3];exact heap_new _ _
 have a2:=cell_block (i:=2) ga rfl
 have hO:OwnR w3 w2.heap.size 3 1 k k (half rg 0):=⟨by rw[half_len rg 0 (by omega)];omega,mc,gg,Nat.le_refl _,by unfold maxLen;omega,hms,by
  rw[hml];unfold half;rw[hk];simp⟩
 have hsz:W.heap.size+2<=w2.heap.size:=by have:=block_lt gb;omega
 obtain⟨G,hG⟩:∃G,w2.heap.size=G:=⟨_,rfl⟩
 rw[hG]at hO gg E3 hsz
 have b2:=cellB (W':=w3) (by rw[hG];exact E3) a2
 have EW:Below W.heap.size W w3:=ext_trans E2 (by rw[hG];exact E3)
 have hga:=(EW.block B hBW)
 have gA:w3.heap[W.heap.size]?=some (.cells #[.int .i64 pc,.int .i64 st,.slice (some ⟨rb,0,none⟩) k rc] 98):=(E3.block _ (by omega)).trans ga
 have gB:w3.heap[W.heap.size+1]?=some (.cells #[.int .i64 0,.int .i64 0,.slice none 0 0] 98):=(E3.block _ (by omega)).trans gb
 replace hmk:Hid _:=hmk
 have hmk':=hmk.out w2
 rw[hG,hw3]at hmk'
 clear hms hml ga gb hga
 replace hnow:Hid _:=hnow
 replace hrg:Hid _:=hrg
 replace hin:Hid _:=hin
 replace hk:Hid _:=hk
 replace hO:Hid _:=hO
 go_enter Tryz.func142,Tryz.ntmps142
 go_wp2
 go_loopw [15] (fun i wr=>∃j:Nat,j<=k/\i=.int .i64 (j:Nat)/\Hid (OwnR wr G 3 1 k k (half rg j))/\Hid (Keeps (fun q=>q=G) w3 wr)) (fun i _=>k-(intOf i).toNat)
 case atStart=>exact⟨0,Nat.zero_le _,rfl,hO,Keeps.refl _ _⟩
 case round =>
  obtain⟨j,hj,rfl,hO,hK⟩:=hrel
  have hWr:Below W.heap.size W wr:=⟨hK.out.os.trans EW.os,hK.out.tape.trans EW.tape,hK.out.output.trans EW.output,Nat.le_trans EW.size hK.out.size,fun q hq=>(hK.out.block q (Nat.lt_of_lt_of_le hq EW.size) (fun e=>by have e':q=G:=e;omega)).trans (EW.block q hq)⟩
  have rA:wr.heap[W.heap.size]?=_:=(hK.out.block _ (block_lt gA) (fun e=>by have e':W.heap.size=G:=e;omega)).trans gA
  have rB:wr.heap[W.heap.size+1]?=_:=(hK.out.block _ (block_lt gB) (fun e=>by have e':W.heap.size+1=G:=e;omega)).trans gB
  by_cases hlt:j<k
  ·obtain⟨n,hn⟩:∃n,rg[j]?=some n:=⟨rg[j]'(by rw[hk.out];exact hlt),List.getElem?_eq_getElem _⟩
   have r0:=cellB hWr (hrg.out j n hn)
   have q4:=cellB hWr c4
   obtain⟨d0,f0⟩:=hO.out.cell (half_get rg j (by rw[hk.out];exact hlt))
   have hst:=half_set hn (.int .i64 (-1))
   have hgl:G<wr.heap.size:=hO.out.lt
   have nBG:¬B=G:=by omega
   have hG2:OwnR ((wr.setCell ⟨G,j,none⟩ (.int .i64 (-1))).setCell ⟨G,j,none⟩ (.int .i64 n)) G 3 1 k k (half rg (j+1)):=by rw[<- hst];exact(hO.out.set j _).set j _
   have hK2:Keeps (fun q=>q=G) w3 ((wr.setCell ⟨G,j,none⟩ (.int .i64 (-1))).setCell ⟨G,j,none⟩ (.int .i64 n)):=(hK.out.trans (keeps_one _ _ _ _)).trans (keeps_one _ _ _ _)
   rcases hin.out n (List.mem_of_getElem? hn)with rfl|⟨m,rfl,hm⟩
   ·have hG1:OwnR (wr.setCell ⟨G,j,none⟩ (.int .i64 (-1))) G 3 1 k k (half rg (j+1)):=by
     rw[<- hst,List.set_set];exact hO.out.set j _
    have hK1:Keeps (fun q=>q=G) w3 (wr.setCell ⟨G,j,none⟩ (.int .i64 (-1))):=hK.out.trans (keeps_one _ _ _ _)
    replace hG1:Hid _:=hG1
    replace hK1:Hid _:=hK1
    clear hG2 hK2 hst rA rB
    go_wp2
    go_roundw
    case measure=>simp[intOf];omega
    case rel=>exact⟨j+1,by omega,by go_num,hG1,hK1⟩
   ·have q5:=cellB hWr (hnow.out m hm)
    have hmne:((m:Int) != -1)=true:=by simp
    have nnG:¬nb=G:=fun e=>by have h9:nb<W.heap.size:=World.block_lt_of_cell? _ _ (hnow.out m hm);omega
    replace hG2:Hid _:=hG2
    replace hK2:Hid _:=hK2
    clear hst rA rB
    go_wp2
    go_roundw
    case measure=>simp[intOf];omega
    case rel=>exact⟨j+1,by omega,by go_num,hG2,hK2⟩
  ·obtain rfl:j=k:=by omega
   have hfull:half rg j=ints rg:=by unfold half;rw[List.take_of_length_le (by rw[hk.out];exact Nat.le_refl _),hk.out];simp
   have hO1:=hO.out
   rw[hfull]at hO1
   have hgl:G<wr.heap.size:=hO1.lt
   have n1:¬W.heap.size=G:=by omega
   have n2:¬W.heap.size+1=G:=by omega
   have p0:=cell_block (i:=0) rA rfl
   have p1:=cell_block (i:=1) rA rfl
   have p2:=cell_block (i:=2) rA rfl
   have z2:=frozen_block (i:=2) rA
   have s0:=cell_block (i:=0) rB rfl
   have s1:=cell_block (i:=1) rB rfl
   have s2:=cell_block (i:=2) rB rfl
   have y0:=frozen_block (i:=0) rB
   have y1:=frozen_block (i:=1) rB
   have y2:=frozen_block (i:=2) rB
   obtain⟨X,hX⟩:∃X,wr.setCell ⟨W.heap.size,2,none⟩ (.slice (some ⟨G,0,none⟩) j j)=X:=⟨_,rfl⟩
   have rBX:X.heap[W.heap.size+1]?=some (.cells #[.int .i64 0,.int .i64 0,.slice none 0 0] 98):=by rw[<- hX];exact(set1_other _ _ (by omega)).trans rB
   have OX:OwnR X G 3 1 j j (ints rg):=by rw[<- hX];exact hO1.same (set1_other _ _ (by omega))
   obtain⟨Y,hY⟩:∃Y,((X.setCell ⟨W.heap.size+1,0,none⟩ (.int .i64 pc)).setCell ⟨W.heap.size+1,1,none⟩ (.int .i64 st)).setCell ⟨W.heap.size+1,2,none⟩ (.slice (some ⟨G,0,none⟩) j j)=Y:=⟨_,rfl⟩
   have gY:Y.heap[W.heap.size+1]?=some (.cells #[.int .i64 pc,.int .i64 st,.slice (some ⟨G,0,none⟩) j j] 98):=by
    rw[<- hY]
    have:=set_block (i:=2) (.slice (some ⟨G,0,none⟩) j j) (set_block (i:=1) (.int .i64 st) (set_block (i:=0) (.int .i64 pc) rBX))
    simpa using this
   have OY:OwnR Y G 3 1 j j (ints rg):=by rw[<- hY];exact OX.same ((set1_other _ _ (by omega)).trans ((set1_other _ _ (by omega)).trans (set1_other _ _ (by omega))))
   have EY:Below W.heap.size W Y:=by
    rw[<- hY,<- hX]
    exact(((hWr.setCell (p:=⟨W.heap.size,2,none⟩) (Nat.le_refl _) _).setCell (p:=⟨W.heap.size+1,0,none⟩) (by show W.heap.size<=W.heap.size+1;omega) _).setCell (p:=⟨W.heap.size+1,1,none⟩) (by show W.heap.size<=W.heap.size+1;omega) _).setCell (p:=⟨W.heap.size+1,2,none⟩) (by show W.heap.size<=W.heap.size+1;omega) _
   rw[<- hX]at hY
   have hfin:SnQ B W pc st rg j (.returned (.agg #[.int .i64 pc,.int .i64 st,.slice (some ⟨G,0,none⟩) j j])) Y:=⟨G,rfl,by omega,OY,EY⟩
   replace hO:Hid _:=hO
   clear hX OX rBX rA rB hO1 OY hfull
   go_wp2
   exact bodyPost_ret (res142 (C:=W.heap.size+1) rfl gY) rfl hfin
structure IdT (t:Tr):Prop where
 op:∀o∈t.ins,opH o.op
 vs:∀o∈t.ins,o.v.s.size<=300
 ax:∀(i:Nat) o,t.ins[i]?=some o->(1<=askN o.op->∃m:Nat,o.x=m/\m<i)/\(2<=askN o.op->∃m:Nat,o.y=m/\m<i)
 n1:1<=t.ins.length/\t.ins.length<=1000
 m1:1<=t.sns.length/\t.sns.length<=1000
 rg:∀s∈t.sns,1<=s.rg.length/\s.rg.length<=250/\∀n∈s.rg,n=-1\/∃m:Nat,n=m/\m<t.ins.length
def nowL (i:Nat):List Int:=(List.range i).map fun k:Nat=>(k:Int)
theorem nowL_len(i:Nat):(nowL i).length=i:=by simp[nowL]
theorem nowL_succ(i:Nat):nowL (i+1)=nowL i++[(i:Int)]:=by simp[nowL,List.range_succ]
theorem nowL_get{i j:Nat}(h:j<i):(nowL i)[j]?=some (j:Int):=by simp[nowL,h]
abbrev tk (t:Tr) (i j:Nat):Tr:=⟨t.fn,t.hd,t.ins.take i,t.sns.take j⟩
section
variable {C:Nat->Prop} {w1:World} {B:Nat} {t:Tr} {now:List Int} {W W':World}
structure NowR (C:Nat->Prop) (w1:World) (B:Nat) (t:Tr) (now:List Int) (x:Int) (V:World) (na:Option Addr) (nc:Nat):Prop where
 ld:V.cell? ⟨B,4,none⟩=some (.slice na now.length nc)
 own:V.ownsRow w1.heap.size 3 1 (.slice na now.length nc) now.length (ints now)
 lo:w1.heap.size<=V.heap.size
 rt:∀(w3:World) (g cap:Nat),w3.ownsRow w1.heap.size 3 1 (.slice (some ⟨g,0,none⟩) (now.length+1) cap) (now.length+1) (ints now++[.int .i64 x])->V.grownBy w3 (Value.ownBlock (.slice na now.length nc))->(Value.ownBlock (.slice na now.length nc)=some g\/g=V.heap.size) ->
  w3.cell? ⟨B,4,none⟩=some (.slice na now.length nc)/\w3.frozen? ⟨B,4,none⟩=false/\Mk C w1 B t (now++[x]) (w3.setCell ⟨B,4,none⟩ (.slice (some ⟨g,0,none⟩) (now.length+1) cap))/\∀k,k<w1.heap.size->(w3.setCell ⟨B,4,none⟩ (.slice (some ⟨g,0,none⟩) (now.length+1) cap)).heap[k]?=V.heap[k]?
theorem Mk.nowX(h:Mk C w1 B t now W)(x:Int):∃na nc,∀V,Below W.heap.size W V->NowR C w1 B t now x V na nc:=by
 obtain⟨iv,sv,nv,vs,h1,h2,h4⟩:=h.ex
 obtain⟨_,_,na,nc,e⟩:=Rwo.len (h4.ok (nowR now nv) (by simp))
 have e':nv=.slice na now.length nc:=e
 subst e'
 refine⟨na,nc,fun V hb=>?_⟩
 have h5:=h4.below hb
 have h1V:=(hb.block B (block_lt h1)).trans h1
 refine⟨cell_block h1V rfl,h5.ok (nowR now (.slice na now.length nc)) (by simp),Nat.le_trans h.kp.size hb.size,fun w3 g cap hown hg hat=>?_⟩
 obtain⟨r1,r2⟩:=h5.grow (r:=nowR now (.slice na now.length nc)) hown hg hat
 have hB3:=(r2 B (by simp)).1.trans h1V
 have hK:Keeps (fun k=>w1.heap.size<=k) V (w3.setCell ⟨B,4,none⟩ (.slice (some ⟨g,0,none⟩) (now.length+1) cap)) :=
  ((Keeps.grown hg).mono (S':=fun k=>w1.heap.size<=k) (fun k _ e=>((h5.ok (nowR now (.slice na now.length nc)) (by simp)).lt k e.symm).1)).then (keeps_one w3 B 4 _) (fun j _ e=>by have:=(h5.lt B (by simp)).1;have e':j=B:=e;omega)
 refine⟨cell_block hB3 rfl,frozen_block hB3,⟨⟨iv,sv,.slice (some ⟨g,0,none⟩) (now.length+1) cap,vs,?_,h2,?_⟩,?_⟩,fun k hk=>?_⟩
 ·have:=set_block (i:=4) (.slice (some ⟨g,0,none⟩) (now.length+1) cap) hB3
  simpa[mkb]using this
 ·have r3:=r1.box (B:=B) (by simp) (i:=4) (v:=.slice (some ⟨g,0,none⟩) (now.length+1) cap)
  simpa[nowR]using r3
 ·exact(h.kp.trans (Keeps.of_below hb)).low hK
 ·exact hK.block k (by have:=h.kp.size;have:=hb.size;omega) (by simpa using hk)
structure SnsR (C:Nat->Prop) (w1:World) (B:Nat) (t:Tr) (now:List Int) (s:Sn) (g0:Nat) (V:World) (sa:Option Addr) (sc:Nat):Prop where
 ld:V.cell? ⟨B,3,none⟩=some (.slice sa t.sns.length sc)
 ex:∃xs,V.ownsRow w1.heap.size 98 3 (.slice sa t.sns.length sc) t.sns.length xs/\∀(w3:World) (g cap:Nat),w3.ownsRow w1.heap.size 98 3 (.slice (some ⟨g,0,none⟩) (t.sns.length+1) cap) (t.sns.length+1) (xs++[.int .i64 s.pc,.int .i64 s.st,.slice (some ⟨g0,0,none⟩) s.rg.length s.rg.length])->V.grownBy w3 (Value.ownBlock (.slice sa t.sns.length sc))->(Value.ownBlock (.slice sa t.sns.length sc)=some g\/g=V.heap.size) ->
  w3.cell? ⟨B,3,none⟩=some (.slice sa t.sns.length sc)/\w3.frozen? ⟨B,3,none⟩=false/\Mk C w1 B { t with sns:=t.sns++[s] } now (w3.setCell ⟨B,3,none⟩ (.slice (some ⟨g,0,none⟩) (t.sns.length+1) cap))/\∀k,k<w1.heap.size->(w3.setCell ⟨B,3,none⟩ (.slice (some ⟨g,0,none⟩) (t.sns.length+1) cap)).heap[k]?=V.heap[k]?
 lo:w1.heap.size<=V.heap.size
theorem Mk.snsLd(h:Mk C w1 B t now W):∃sa sc,(∀V,Below W.heap.size W V->V.cell? ⟨B,3,none⟩=some (.slice sa t.sns.length sc))/\∀s g0 V V',Below W.heap.size W V->Below V.heap.size V V'->W.heap.size<=g0->OwnR V g0 3 1 s.rg.length s.rg.length (ints s.rg)->SnsR C w1 B t now s g0 V' sa sc:=by
 obtain⟨iv,sv,nv,vs,h1,h2,h4⟩:=h.ex
 obtain⟨_,_,sa,sc,e⟩:=Rwo.len (h4.ok (snsR t.sns sv vs) (by simp[trR]))
 have e':sv=.slice sa t.sns.length sc:=e
 subst e'
 refine⟨sa,sc,fun V hb=>cell_block ((hb.block B (block_lt h1)).trans h1) rfl,fun s g0 V V' hb hb' hg0 hO=>?_⟩
 have h5:=h4.add (r:=rgrow s (.slice (some ⟨g0,0,none⟩) s.rg.length s.rg.length)) hb (hO.owns (Nat.le_trans h.kp.size hg0)) rfl hg0
 have h6:=(h5.below hb').perm (L':=snsR t.sns (.slice sa t.sns.length sc) vs::nowR now nv::insR t.ins iv::rgrow s (.slice (some ⟨g0,0,none⟩) s.rg.length s.rg.length)::rgr t.sns vs) (by
  unfold trR
  haveI:DecidableEq Rwo:=fun a b=>Classical.propDecidable (a=b)
  refine List.perm_iff_count.2 fun a=>?_
  simp only[List.count_cons]
  omega)
 have h1V:=((hb'.block B (by have:=hb.size;have:=block_lt h1;omega)).trans (hb.block B (block_lt h1))).trans h1
 refine⟨cell_block h1V rfl,⟨snc t.sns vs,h6.ok (snsR t.sns (.slice sa t.sns.length sc) vs) (by simp),fun w3 g cap hown hg hat=>?_⟩,by have:=h.kp.size;have:=hb.size;have:=hb'.size;omega⟩
 obtain⟨r1,r2⟩:=h6.grow (r:=snsR t.sns (.slice sa t.sns.length sc) vs) hown hg hat
 have hB3:=(r2 B (by simp)).1.trans h1V
 have hK:Keeps (fun k=>w1.heap.size<=k) V' (w3.setCell ⟨B,3,none⟩ (.slice (some ⟨g,0,none⟩) (t.sns.length+1) cap)) :=
  ((Keeps.grown hg).mono (S':=fun k=>w1.heap.size<=k) (fun k _ e=>((h6.ok (snsR t.sns (.slice sa t.sns.length sc) vs) (by simp)).lt k e.symm).1)).then (keeps_one w3 B 3 _) (fun j _ e=>by have:=(h6.lt B (by simp)).1;have e':j=B:=e;omega)
 refine⟨cell_block hB3 rfl,frozen_block hB3,⟨⟨iv,.slice (some ⟨g,0,none⟩) (t.sns.length+1) cap,nv,vs++[.slice (some ⟨g0,0,none⟩) s.rg.length s.rg.length],?_,by simp[h2],?_⟩,?_⟩,fun k hk=>?_⟩
 ·have:=set_block (i:=3) (.slice (some ⟨g,0,none⟩) (t.sns.length+1) cap) hB3
  simpa[mkb]using this
 ·have r3:=r1.box (B:=B) (by simp) (i:=3) (v:=.slice (some ⟨g,0,none⟩) (t.sns.length+1) cap)
  refine r3.perm ?_
  unfold trR
  rw[rgr_snoc s _ t.sns vs h2]
  have e9:snsR (t.sns++[s]) (.slice (some ⟨g,0,none⟩) (t.sns.length+1) cap) (vs++[.slice (some ⟨g0,0,none⟩) s.rg.length s.rg.length])=⟨.slice (some ⟨g,0,none⟩) (t.sns.length+1) cap,98,3,t.sns.length+1,snc t.sns vs++[.int .i64 s.pc,.int .i64 s.st,.slice (some ⟨g0,0,none⟩) s.rg.length s.rg.length]⟩:=by simp[snsR,snc_snoc s _ t.sns vs h2]
  show List.Perm _ (_::insR t.ins iv::snsR (t.sns++[s]) _ _::_)
  rw[e9]
  haveI:DecidableEq Rwo:=fun a b=>Classical.propDecidable (a=b)
  refine List.perm_iff_count.2 fun a=>?_
  simp only[List.count_cons,List.count_append,List.count_nil]
  omega
 ·exact((h.kp.trans (Keeps.of_below hb)).trans (Keeps.of_below hb')).low hK
 ·exact hK.block k (by have:=h.kp.size;have:=hb.size;have:=hb'.size;omega) (by simpa using hk)
end
theorem res105{tm:Array Value}{W:World}{C:Nat}{a b c d:Value}(h:tm[4]?.getD undef=.pointer (some ⟨C,0,none⟩))(hy:W.heap[C]?=some (.cells #[a,b,c,d] 102)):(results Tryz.f105 tm).run Tryz.prog W=.ok (.agg #[a,b,c,d]) W:=by
 have d0:W.cell? ⟨C,0,none⟩=some a:=cell_block hy rfl
 have d1:W.cell? ⟨C,1,none⟩=some b:=cell_block hy rfl
 have d2:W.cell? ⟨C,2,none⟩=some c:=cell_block hy rfl
 have d3:W.cell? ⟨C,3,none⟩=some d:=cell_block hy rfl
 simp[results,Tryz.results105,go_sem,h,d0,d1,d2,d3]
theorem oset1{o:Ti}{W:World}{g:Nat}(h:W.heap[g]?=some o.box){m:Nat}(e:o.x=m):(W.setCell ⟨g,1,none⟩ (.int .i64 (m:Nat))).heap[g]?=some o.box:=by
 have:=set_block (i:=1) (.int .i64 (m:Nat)) h
 rw[this];simp[Ti.box,e]
theorem oset2{o:Ti}{W:World}{g:Nat}(h:W.heap[g]?=some o.box){m:Nat}(e:o.y=m):(W.setCell ⟨g,2,none⟩ (.int .i64 (m:Nat))).heap[g]?=some o.box:=by
 have:=set_block (i:=2) (.int .i64 (m:Nat)) h
 rw[this];simp[Ti.box,e]
theorem take_snoc1{α:Type}{l:List α}{i:Nat}{x:α}(h:l[i]?=some x):l.take i++[x]=l.take (i+1):=by rw[List.take_succ,h];rfl
structure Cl (C:Nat->Prop) (K:Nat->World->Prop) (w:World) (t:Tr) (N:Nat) (bs:Array Value):Prop where
 en:∀(u:World) (args:Array Value),(callFunc N args).run Tryz.prog u=.ok (.enter N args) u
 st:∀i W W',K i W->(∀q,q<w.heap.size->W'.heap[q]?=W.heap[q]?)->K i W'
 cl:∀(w1:World) (B:Nat) (W:World) (i:Nat) (o:Ti),w.heap.size<=w1.heap.size->t.ins[i]?=some o->Mk C w1 B (tk t i 0) (nowL i) W->K i W ->
  Calls Tryz.prog N (#[.pointer (some ⟨B,0,none⟩),o.val]++bs) W fun e W'=>e=.returned (.int .i64 (i:Nat))/\Mk C w1 B (tk t (i+1) 0) (nowL i) W'/\K (i+1) W'/\W'.cell? ⟨B,4,none⟩=W.cell? ⟨B,4,none⟩
structure EaQ (C:Nat->Prop) (K:Nat->World->Prop) (w:World) (t:Tr) (e:Ending) (W':World):Prop where
 ex:∃iv sv vs,e=.returned (trv t iv sv)/\TrV w.heap.size t iv sv vs W'/\K t.ins.length W'/\Keeps C w W'
theorem each_id{C:Nat->Prop}{K:Nat->World->Prop}{lo:Nat}{t:Tr}{iv sv:Value}{vs:List Value}{w:World}(hT:TrV lo t iv sv vs w)(hI:IdT t)(hC:∀k,C k->k<w.heap.size/\k∉blks (trR t iv sv vs)){N:Nat}{bs:Array Value}(hcl:Cl C K w t N bs)(hK:K 0 w) :
  Calls Tryz.prog 105 #[trv t iv sv,.func (.func N) #[] bs] w (EaQ C K w t):=by
 obtain⟨ib,icap,hri⟩:=hT.ins (fun e=>by have:=hI.n1.1;rw[e]at this;simp at this)
 obtain⟨sb,scap,hrs⟩:=hT.sns (fun e=>by have:=hI.m1.1;rw[e]at this;simp at this)
 have ei:iv=.slice (some ⟨ib,0,none⟩) t.ins.length icap:=hri.v
 have es:sv=.slice (some ⟨sb,0,none⟩) t.sns.length scap:=hrs.v
 subst ei es
 obtain⟨n,hn⟩:∃n,t.ins.length=n:=⟨_,rfl⟩
 obtain⟨m,hm⟩:∃m,t.sns.length=m:=⟨_,rfl⟩
 have hn1:=hI.n1
 have hm1:=hI.m1
 rw[hn]at hn1
 rw[hm]at hm1
 obtain⟨w1,hw1⟩:∃w1,(w.alloc (.cells #[.int .i64 t.fn,.int .i64 t.hd,.slice (some ⟨ib,0,none⟩) n icap,.slice (some ⟨sb,0,none⟩) m scap] 102)).alloc (.cells #[.int .i64 0,.int .i64 0,.slice none 0 0,.slice none 0 0] 102)=w1:=⟨_,rfl⟩
 have E1:Below w.heap.size w w1:=by rw[<- hw1];exact ext_alloc (ext_alloc (Below.refl _ _) _) _
 have ga:w1.heap[w.heap.size]?=some (.cells #[.int .i64 t.fn,.int .i64 t.hd,.slice (some ⟨ib,0,none⟩) n icap,.slice (some ⟨sb,0,none⟩) m scap] 102):=by rw[<- hw1];exact block_alloc _ (heap_new _ _)
 have gb:w1.heap[w.heap.size+1]?=some (.cells #[.int .i64 0,.int .i64 0,.slice none 0 0,.slice none 0 0] 102):=by rw[<- hw1];exact new2' w _ _
 have hs1:w1.heap.size=w.heap.size+1+1:=by rw[<- hw1];simp
 have a0:=cell_block (i:=0) ga rfl
 have a1:=cell_block (i:=1) ga rfl
 obtain⟨W0,hW0⟩:∃W0,w1.alloc (.cells #[.int .i64 t.fn,.int .i64 t.hd,.slice none 0 0,.slice none 0 0,.slice none 0 0] 176)=W0:=⟨_,rfl⟩
 have gB:W0.heap[w1.heap.size]?=some (.cells #[.int .i64 t.fn,.int .i64 t.hd,.slice none 0 0,.slice none 0 0,.slice none 0 0] 176):=by rw[<- hW0];exact heap_new _ _
 have E0:Below w1.heap.size w1 W0:=by rw[<- hW0];exact ext_alloc (Below.refl _ _) _
 have hM0:Mk C w1 (w.heap.size+1+1) (tk t 0 0) (nowL 0) W0:=by
  rw[<- hs1]
  refine⟨⟨.slice none 0 0,.slice none 0 0,.slice none 0 0,[],gB,rfl,?_⟩,Keeps.of_below E0⟩
  refine⟨fun r hr=>?_,by simp[blks,trR,Value.ownBlock,rgr],fun k hk=>?_⟩
  ·simp only[trR,List.take_zero,rgr,List.mem_cons,List.not_mem_nil,or_false]at hr
   rcases hr with rfl|rfl|rfl <;> exact⟨rfl,.inl ⟨rfl,rfl⟩⟩
  ·simp[blks,trR,Value.ownBlock,rgr]at hk
   subst hk
   exact⟨Nat.le_refl _,block_lt gB⟩
 have b2:W0.cell? ⟨w.heap.size,2,none⟩=some (.slice (some ⟨ib,0,none⟩) n icap):=cell_block ((E0.block _ (block_lt ga)).trans ga) rfl
 have hK0:K 0 W0:=hcl.st 0 w W0 hK (fun q hq=>(E0.block q (by omega)).trans (E1.block q hq))
 have hTr:∀V,Keeps C w1 V->TrV lo t (.slice (some ⟨ib,0,none⟩) n icap) (.slice (some ⟨sb,0,none⟩) m scap) vs V/\V.heap[w.heap.size]?=w1.heap[w.heap.size]?/\V.heap[w.heap.size+1]?=w1.heap[w.heap.size+1]?:=fun V hV=>by
  rw[hn,hm]at hT
  refine⟨hT.on (fun k hk=>?_) (by have:=hV.size;have:=E1.size;omega),hV.block _ (by omega) (fun e=>by have:=(hC _ e).1;omega),hV.block _ (by omega) (fun e=>by have:=(hC _ e).1;omega)⟩
  have hk2:=(hT.lt k hk).2
  rw[<- hn,<- hm]at hk
  exact(hV.block k (by omega) (fun e=>(hC k e).2 hk)).trans (E1.block k hk2)
 rw[hn,hm]
 replace hTr:Hid _:=hTr
 replace hcl:Hid _:=hcl
 replace hI:Hid _:=hI
 replace hM0:Hid _:=hM0
 replace hK0:Hid _:=hK0
 replace hn:Hid _:=hn
 replace hm:Hid _:=hm
 clear hT hri hrs hC hK gB
 go_enter Tryz.func105,Tryz.ntmps105
 go_wp2
 go_loopw [22] (fun i wr=>∃k:Nat,k<=n/\i=.int .i64 (k:Nat)/\Hid (Mk C w1 (w.heap.size+1+1) (tk t k 0) (nowL k) wr)/\Hid (K k wr)) (fun i _=>n-(intOf i).toNat)
 case atStart=>exact⟨0,Nat.zero_le _,rfl,hM0,hK0⟩
 case round =>
  clear hM0 hK0 b2 a0 a1
  rename World=>v
  obtain⟨k,hk,rfl,hM,hKk⟩:=hrel
  by_cases hlt:k<n
  ·obtain⟨o,ho⟩:∃o,t.ins[k]?=some o:=⟨t.ins[k]'(by rw[hn.out];exact hlt),List.getElem?_eq_getElem _⟩
   have hom:=List.mem_of_getElem? ho
   have hop:=hI.out.op o hom
   obtain⟨hx,hy⟩:=hI.out.ax k o ho
   have hTw:=(hTr.out v hM.out.kp).1
   obtain⟨ib',icap',hri⟩:=hTw.ins (fun e=>by rw[e]at ho;simp at ho)
   have ei:(Value.slice (some ⟨ib,0,none⟩) n icap)=.slice (some ⟨ib',0,none⟩) t.ins.length icap':=hri.v
   rw[hn.out]at ei
   cases ei
   have hibl:ib<v.heap.size:=hri.lt
   obtain⟨c0,c1,c2,c3,c4,c5,c6,c7⟩:=tiAt_of hri ho
   clear hri hTw
   have gbx:(v.alloc o.box).heap[v.heap.size]?=some o.box:=heap_new _ _
   have hask:=asked_any v.heap.size o hop (v.alloc o.box) gbx
   obtain⟨a,ha⟩:∃a,askN o.op=a:=⟨_,rfl⟩
   have ha2:a<=2:=by rw[<- ha];unfold askN;split <;> (try split) <;> omega
   rw[ha]at hx hy hask
   replace hx:Hid _:=hx
   replace hy:Hid _:=hy
   replace hop:Hid _:=hop
   go_wp2_with (go_at_call 141;refine hask.mono ?_;rintro e w4 ⟨G,rfl,hG,gG,hb4⟩;refine Hid.out ?_)
   refine Lib.hid ?_
   have E4:Below v.heap.size v w4:=ext_trans (ext_alloc (Below.refl _ _) _) hb4
   have g4:=block_below hb4 gbx
   simp only[World.size_alloc]at hG
   replace E4:Hid _:=E4
   replace g4:Hid _:=g4
   replace gG:Hid _:=gG
   clear c0 c1 c2 c3 c4 c5 c6 c7 hask gbx hb4
   go_wp2
   go_loopw [28] (fun i wr=>∃j:Nat,j<=a/\i=.int .i64 (j:Nat)/\Hid (Below v.heap.size v wr)/\Hid (wr.heap[v.heap.size]?=some o.box)/\Hid (wr.heap[G]?=some (.cells #[.pointer (some ⟨v.heap.size,1,none⟩),.pointer (some ⟨v.heap.size,2,none⟩),.pointer (some ⟨v.heap.size,3,none⟩)] 215))) (fun i _=>a-(intOf i).toNat)
   case atStart=>exact⟨0,Nat.zero_le _,rfl,E4,g4,gG⟩
   case round =>
    obtain⟨j,hj,rfl,Eq,gq,gGq⟩:=hrel
    by_cases hja:j<a
    ·obtain⟨iv',sv',nv',vs',m1,_,m3⟩:=hM.out.ex
     have hj01:j=0\/j=1:=by omega
     obtain⟨p,hp,hpk⟩:∃p:Nat,(if j=0 then o.x else o.y)=p/\p<k:=by
      rcases hj01 with rfl|rfl
      ·obtain⟨p,h1,h2⟩:=hx.out (by omega);exact⟨p,by simpa using h1,h2⟩
      ·obtain⟨p,h1,h2⟩:=hy.out (by omega);exact⟨p,by simpa using h1,h2⟩
     obtain⟨nb,nc,hrn⟩:=Rwo.rd (m3.ok (nowR (nowL k) nv') (by simp)) (by simp[nowL];omega)
     have en:nv'=.slice (some ⟨nb,0,none⟩) (nowL k).length nc:=hrn.v
     rw[nowL_len]at en
     have q4:wr.cell? ⟨w.heap.size+1+1,4,none⟩=some (.slice (some ⟨nb,0,none⟩) k nc):=by rw[<- en];exact cellB Eq.out (cell_block m1 rfl)
     have qp:wr.cell? ⟨nb,p,none⟩=some (.int .i64 (p:Nat)):=cellB Eq.out (hrn.c p _ (by show(ints (nowL k))[p]?=_;rw[List.getElem?_map,nowL_get hpk];rfl))
     have hbw:v.heap.size<wr.heap.size:=block_lt gq.out
     have hkk:k<=1000:=by omega
     have hGl:¬v.heap.size=G:=by omega
     clear hrn m1 m3 en
     rcases hj01 with rfl|rfl
     ·have hp':o.x=p:=by simpa using hp
      have qG:wr.cell? ⟨G,0,none⟩=some (.pointer (some ⟨v.heap.size,1,none⟩)):=cell_block gGq.out rfl
      have qx:wr.cell? ⟨v.heap.size,1,none⟩=some (.int .i64 (p:Nat)):=by rw[<- hp'];exact cell_block gq.out rfl
      have zx:wr.frozen? ⟨v.heap.size,1,none⟩=false:=frozen_block gq.out
      have fin:Below v.heap.size v (wr.setCell ⟨v.heap.size,1,none⟩ (.int .i64 (p:Nat))).drew/\(wr.setCell ⟨v.heap.size,1,none⟩ (.int .i64 (p:Nat))).drew.heap[v.heap.size]?=some o.box/\(wr.setCell ⟨v.heap.size,1,none⟩ (.int .i64 (p:Nat))).drew.heap[G]?=_:=⟨ext_drew (Eq.out.setCell (p:=⟨v.heap.size,1,none⟩) (Nat.le_refl _) _),oset1 gq.out hp',(set1_other _ _ (fun e=>hGl e.symm)).trans gGq.out⟩
      replace fin:Hid _:=fin
      clear hp hp'
      go_wp2
      go_region
      all_goals
       go_wp2
       go_roundw
       case measure=>simp[intOf];omega
       case rel=>exact⟨1,by omega,by go_num,fin.out.1,fin.out.2.1,fin.out.2.2⟩
     ·have hp':o.y=p:=by simpa using hp
      have qG:wr.cell? ⟨G,1,none⟩=some (.pointer (some ⟨v.heap.size,2,none⟩)):=cell_block gGq.out rfl
      have qx:wr.cell? ⟨v.heap.size,2,none⟩=some (.int .i64 (p:Nat)):=by rw[<- hp'];exact cell_block gq.out rfl
      have zx:wr.frozen? ⟨v.heap.size,2,none⟩=false:=frozen_block gq.out
      have fin:Below v.heap.size v (wr.setCell ⟨v.heap.size,2,none⟩ (.int .i64 (p:Nat))).drew/\(wr.setCell ⟨v.heap.size,2,none⟩ (.int .i64 (p:Nat))).drew.heap[v.heap.size]?=some o.box/\(wr.setCell ⟨v.heap.size,2,none⟩ (.int .i64 (p:Nat))).drew.heap[G]?=_:=⟨ext_drew (Eq.out.setCell (p:=⟨v.heap.size,2,none⟩) (Nat.le_refl _) _),oset2 gq.out hp',(set1_other _ _ (fun e=>hGl e.symm)).trans gGq.out⟩
      replace fin:Hid _:=fin
      clear hp hp'
      go_wp2
      go_region
      all_goals
       go_wp2
       go_roundw
       case measure=>simp[intOf];omega
       case rel=>exact⟨2,by omega,by go_num,fin.out.1,fin.out.2.1,fin.out.2.2⟩
    ·obtain rfl:j=a:=by omega
     clear hx hy hja hj ha2 hG gGq
     rename World=>u
     have hMu:=hM.out.on Eq.out
     have hKu:K k u:=hcl.out.st k v u hKk.out (fun q hq=>Eq.out.block q (by have:=hM.out.kp.size;omega))
     obtain⟨na,nc,hN0⟩:=hMu.nowX (k:Int)
     have ld0:=(hN0 u (Below.refl _ _)).ld
     rw[nowL_len]at ld0
     have d0:=cell_block (i:=0) gq.out rfl
     have d1:=cell_block (i:=1) gq.out rfl
     have d2:=cell_block (i:=2) gq.out rfl
     have d3:=cell_block (i:=3) gq.out rfl
     have d4:=cell_block (i:=4) gq.out rfl
     have d5:=cell_block (i:=5) gq.out rfl
     have d6:=cell_block (i:=6) gq.out rfl
     have d7:=cell_block (i:=7) gq.out rfl
     have hq:∀_:Unit,_:=fun _=>hcl.out.cl w1 (w.heap.size+1+1) u.drew k o E1.size ho (hMu.on (ext_drew (Below.refl _ _))) (hcl.out.st k u u.drew hKu (fun q _=>rfl))
     have hnx:∀w5,Mk C w1 (w.heap.size+1+1) (tk t (k+1) 0) (nowL k) w5->K (k+1) w5->w5.cell? ⟨w.heap.size+1+1,4,none⟩=u.drew.cell? ⟨w.heap.size+1+1,4,none⟩->w5.cell? ⟨w.heap.size+1+1,4,none⟩=some (.slice na k nc)/\(w5.alloc (.cells #[.int .i64 (k:Nat)] 3)).cell? ⟨w.heap.size+1+1,4,none⟩=some (.slice na k nc)/\(w5.alloc (.cells #[.int .i64 (k:Nat)] 3)).ownsRow w1.heap.size 3 1 (.slice na k nc) k (ints (nowL k))/\w1.heap.size<=(w5.alloc (.cells #[.int .i64 (k:Nat)] 3)).heap.size /\
       ∀(w3:World) (g cap:Nat),w3.ownsRow w1.heap.size 3 1 (.slice (some ⟨g,0,none⟩) (k+1) cap) (k+1) (ints (nowL k)++[.int .i64 (k:Nat)])->(w5.alloc (.cells #[.int .i64 (k:Nat)] 3)).grownBy w3 (Value.ownBlock (.slice na k nc))->(Value.ownBlock (.slice na k nc)=some g\/g=(w5.alloc (.cells #[.int .i64 (k:Nat)] 3)).heap.size) ->
        w3.cell? ⟨w.heap.size+1+1,4,none⟩=some (.slice na k nc)/\w3.frozen? ⟨w.heap.size+1+1,4,none⟩=false/\Hid (Mk C w1 (w.heap.size+1+1) (tk t (k+1) 0) (nowL (k+1)) (w3.setCell ⟨w.heap.size+1+1,4,none⟩ (.slice (some ⟨g,0,none⟩) (k+1) cap)))/\Hid (K (k+1) (w3.setCell ⟨w.heap.size+1+1,4,none⟩ (.slice (some ⟨g,0,none⟩) (k+1) cap))):=fun w5 hM5 hK5 h45=>by
      obtain⟨na',nc',hN5⟩:=hM5.nowX (k:Int)
      have l5:=(hN5 w5 (Below.refl _ _)).ld
      rw[nowL_len]at l5
      have h45':w5.cell? ⟨w.heap.size+1+1,4,none⟩=some (.slice na k nc):=h45.trans ld0
      rw[h45']at l5
      simp only[Option.some.injEq,Value.slice.injEq,true_and]at l5
      obtain⟨rfl,rfl⟩:=l5
      have hR:=hN5 (w5.alloc (.cells #[.int .i64 (k:Nat)] 3)) (ext_alloc (Below.refl _ _) _)
      have r1:=hR.ld
      have r2:=hR.own
      have r4:=hR.rt
      rw[nowL_len]at r1 r2 r4
      refine⟨h45',r1,r2,hR.lo,fun w3 g cap x1 x2 x3=>?_⟩
      obtain⟨y1,y2,y3,y4⟩:=r4 w3 g cap x1 x2 x3
      rw[<- nowL_succ]at y3
      refine⟨y1,y2,y3,hcl.out.st (k+1) w5 _ hK5 (fun q hq=>?_)⟩
      exact(y4 q (by have:=E1.size;omega)).trans ((ext_alloc (Below.refl w5.heap.size w5) _).block q (by have:=hM5.kp.size;have:=E1.size;omega))
     have hone:∀x∈[Value.int .i64 (k:Nat)],x.oneCell'=true:=fun x hx=>by simp at hx;subst hx;rfl
     have hnews:∀(w5:World) (j:Nat) (x:Value),[Value.int .i64 (k:Nat)][j]?=some x->(w5.alloc (.cells #[.int .i64 (k:Nat)] 3)).cell? ((⟨w5.heap.size,0,none⟩:Addr).add j)=some x:=fun w5 j x hx=>by
      match j,hx with
      | 0,hx=>cases hx;exact cell_block (i:=0) (heap_new w5 _) rfl
      | j+1,hx=>simp at hx
     obtain⟨i0,hi0,hz0,hz1,hz2⟩:=info_parts info3
     have hk1:k+1<=maxLen:=by unfold maxLen;omega
     have hk2:(k+1)*8<=140737488355328:=by omega
     have hen:=hcl.out.en
     replace hnx:Hid _:=hnx
     replace hq:Hid _:=hq
     replace ho:Hid _:=ho
     clear hN0 hMu hKu hM hKk
     go_wp2
     go_region_law (first|(refine step_append_lies _ (by rfl) _ _ _ (by rfl) w1.heap.size 3 i0 _ 1 8 Tryz.underlying96 hi0 hz0 hz1 hz2 rfl (by omega) (.slice na k nc) k _ (by rfl) own5 ⟨w5.heap.size,0,none⟩ 1 1 [Value.int .i64 (k:Nat)] (by rfl) (by rfl) (hnews w5) hone (by omega) hk1 hk2 lo5 _ rfl ?_;intro g3 cap3 w3 hown3 hgrow hat hlt3;obtain⟨cl,fr,hM3,hK3⟩:=rt5.out w3 g3 cap3 hown3 hgrow hat)|(go_simp;refine(hq.out ()).mono ?_;rintro e w5 ⟨rfl,hM5,hK5,h45⟩;obtain⟨ld5,lda5,own5,lo5,rt5⟩:=hnx.out w5 hM5 hK5 h45;replace rt5:Hid _:=rt5))
     all_goals
      go_wp2
      go_roundw
      case measure=>simp[intOf];omega
      case rel=>exact⟨k+1,by omega,by go_num,hM3,hK3⟩
  ·obtain rfl:k=n:=by omega
   obtain⟨hTv,hg1,hg2⟩:=hTr.out v hM.out.kp
   have v3:v.cell? ⟨w.heap.size,3,none⟩=some (.slice (some ⟨sb,0,none⟩) m scap):=cell_block (hg1.trans ga) rfl
   have hM0:Hid (Mk C w1 (w.heap.size+1+1) (tk t k 0) (nowL k) v):=hM
   replace ga:Hid _:=ga
   replace gb:Hid _:=gb
   clear hlt hk hTv hg1 hg2 hM
   go_wp2
   go_loopw [61] (fun i wr=>∃q:Nat,q<=m/\i=.int .i64 (q:Nat)/\Hid (Mk C w1 (w.heap.size+1+1) (tk t k q) (nowL k) wr)/\Hid (K k wr)) (fun i _=>m-(intOf i).toNat)
   case atStart=>exact⟨0,Nat.zero_le _,rfl,hM0,hKk⟩
   case round =>
    clear hM0 hKk v3
    rename World=>u
    obtain⟨q,hq,rfl,hM,hKk⟩:=hrel
    by_cases hlt:q<m
    ·obtain⟨s,hs⟩:∃s,t.sns[q]?=some s:=⟨t.sns[q]'(by rw[hm.out];exact hlt),List.getElem?_eq_getElem _⟩
     obtain⟨r1,r2,r3⟩:=hI.out.rg s (List.mem_of_getElem? hs)
     have hTw:=(hTr.out u hM.out.kp).1
     obtain⟨sb',scap',hrs⟩:=hTw.sns (fun e=>by rw[e]at hs;simp at hs)
     have es:(Value.slice (some ⟨sb,0,none⟩) m scap)=.slice (some ⟨sb',0,none⟩) t.sns.length scap':=hrs.v
     rw[hm.out]at es
     cases es
     obtain⟨rv,rb,rc,hrv,hrr⟩:=hTw.reg hs (fun e=>by rw[e]at r1;simp at r1)
     have er:rv=.slice (some ⟨rb,0,none⟩) s.rg.length rc:=hrr.v
     subst er
     obtain⟨c0,c1,c2⟩:=snAt_of hrs hs hrv
     obtain⟨iv',sv',nv',vs',m1,_,m3⟩:=hM.out.ex
     obtain⟨nb,nc,hrn⟩:=Rwo.rd (m3.ok (nowR (nowL k) nv') (by simp)) (by simp[nowL];omega)
     have en:nv'=.slice (some ⟨nb,0,none⟩) (nowL k).length nc:=hrn.v
     rw[nowL_len]at en
     subst en
     have hln:(tk t k q).sns.length=q:=by simp[hm.out];omega
     obtain⟨sa,sc,hld,hadd⟩:=hM.out.snsLd
     rw[hln]at hld
     obtain⟨kr,hkr⟩:∃kr,s.rg.length=kr:=⟨_,rfl⟩
     rw[hkr]at c2
     obtain⟨u1,hu1⟩:∃u1,u.alloc (.cells #[.int .i64 s.pc,.int .i64 s.st,.slice (some ⟨rb,0,none⟩) kr rc] 98)=u1:=⟨_,rfl⟩
     have E6:Below u.heap.size u u1:=by rw[<- hu1];exact ext_alloc (Below.refl _ _) _
     have g6:u1.heap[u.heap.size]?=some (.cells #[.int .i64 s.pc,.int .i64 s.st,.slice (some ⟨rb,0,none⟩) kr rc] 98):=by rw[<- hu1];exact heap_new _ _
     have e0:=cell_block (i:=0) g6 rfl
     have e1:=cell_block (i:=1) g6 rfl
     have e2:=cell_block (i:=2) g6 rfl
     have ld1:=hld u1 E6
     have hsn:∀_:Unit,Calls Tryz.prog 142 #[.pointer (some ⟨w.heap.size+1+1,0,none⟩),.agg #[.int .i64 s.pc,.int .i64 s.st,.slice (some ⟨rb,0,none⟩) kr rc]] u1.drew (SnQ (w.heap.size+1+1) u1.drew s.pc s.st s.rg kr):=fun _ =>
      snap_cells (w.heap.size+1+1) nb k nc rb kr rc s.pc s.st s.rg u1.drew (cellB E6 (cell_block m1 rfl)) (fun j hj=>cellB E6 (hrn.c j _ (by show(ints (nowL k))[j]?=_;rw[List.getElem?_map,nowL_get hj];rfl))) (fun j n hj=>cellB E6 (hrr.c j _ (by show(ints s.rg)[j]?=_;rw[List.getElem?_map,hj];rfl))) hkr (by omega) (by omega) (fun n hn'=>(r3 n hn').imp id (fun⟨p,h1,h2⟩=>⟨p,h1,by rw[hn.out]at h2;exact h2⟩)) (by omega)
     have hnx:∀w5 g0,SnQ (w.heap.size+1+1) u1.drew s.pc s.st s.rg kr (.returned (.agg #[.int .i64 s.pc,.int .i64 s.st,.slice (some ⟨g0,0,none⟩) kr kr])) w5->w5.cell? ⟨w.heap.size+1+1,3,none⟩=some (.slice sa q sc)/\(w5.alloc (.cells #[.int .i64 s.pc,.int .i64 s.st,.slice (some ⟨g0,0,none⟩) kr kr] 98)).cell? ⟨w.heap.size+1+1,3,none⟩=some (.slice sa q sc)/\∃xs,(w5.alloc (.cells #[.int .i64 s.pc,.int .i64 s.st,.slice (some ⟨g0,0,none⟩) kr kr] 98)).ownsRow w1.heap.size 98 3 (.slice sa q sc) q xs/\w1.heap.size<=(w5.alloc (.cells #[.int .i64 s.pc,.int .i64 s.st,.slice (some ⟨g0,0,none⟩) kr kr] 98)).heap.size /\
       Hid (∀(w3:World) (g cap:Nat),w3.ownsRow w1.heap.size 98 3 (.slice (some ⟨g,0,none⟩) (q+1) cap) (q+1) (xs++[.int .i64 s.pc,.int .i64 s.st,.slice (some ⟨g0,0,none⟩) kr kr])->(w5.alloc (.cells #[.int .i64 s.pc,.int .i64 s.st,.slice (some ⟨g0,0,none⟩) kr kr] 98)).grownBy w3 (Value.ownBlock (.slice sa q sc))->(Value.ownBlock (.slice sa q sc)=some g\/g=(w5.alloc (.cells #[.int .i64 s.pc,.int .i64 s.st,.slice (some ⟨g0,0,none⟩) kr kr] 98)).heap.size) ->
        w3.cell? ⟨w.heap.size+1+1,3,none⟩=some (.slice sa q sc)/\w3.frozen? ⟨w.heap.size+1+1,3,none⟩=false/\Hid (Mk C w1 (w.heap.size+1+1) (tk t k (q+1)) (nowL k) (w3.setCell ⟨w.heap.size+1+1,3,none⟩ (.slice (some ⟨g,0,none⟩) (q+1) cap)))/\Hid (K k (w3.setCell ⟨w.heap.size+1+1,3,none⟩ (.slice (some ⟨g,0,none⟩) (q+1) cap)))):=fun w5 g0 hSn=>by
      obtain⟨g0',e9,hg0,hO5,hb5⟩:=hSn.ex
      simp only[Ending.returned.injEq,Value.agg.injEq,Array.mk.injEq,List.cons.injEq,Value.slice.injEq,Option.some.injEq,Addr.mk.injEq,and_true,true_and]at e9
      subst e9
      have hb6:Below u.heap.size u w5:=ext_trans (ext_drew E6) hb5
      rw[<- hkr]at hO5
      have hR:=hadd s g0 w5 (w5.alloc (.cells #[.int .i64 s.pc,.int .i64 s.st,.slice (some ⟨g0,0,none⟩) kr kr] 98)) hb6 (ext_alloc (Below.refl _ _) _) (by have h7:=E6.size;have h8:u1.drew.heap.size<=g0:=hg0;have h9:u1.drew.heap.size=u1.heap.size:=rfl;omega) hO5
      obtain⟨xs,x1,x2⟩:=hR.ex
      rw[hln,hkr]at x2
      rw[hln]at x1
      have hl:=hR.ld
      rw[hln]at hl
      refine⟨hld w5 hb6,hl,xs,x1,hR.lo,fun w3 g cap z1 z2 z3=>?_⟩
      obtain⟨y1,y2,y3,y4⟩:=x2 w3 g cap z1 z2 z3
      refine⟨y1,y2,?_,hcl.out.st k u _ hKk.out (fun j hj=>?_)⟩
      ·have e8:({ tk t k q with sns:=(tk t k q).sns++[s] } : Tr)=tk t k (q+1):=by
        show(⟨t.fn,t.hd,t.ins.take k,t.sns.take q++[s]⟩:Tr)=_
        rw[take_snoc1 hs]
       rw[e8]at y3
       exact y3
      ·have hj1:j<w1.heap.size:=by have:=E1.size;omega
       have hj2:j<u.heap.size:=by have:=hM.out.kp.size;omega
       exact(y4 j hj1).trans (((ext_alloc (Below.refl w5.heap.size w5) _).block j (by have:=hb6.size;omega)).trans (hb6.block j hj2))
     have hone:∀(g0:Nat),∀x∈[Value.int .i64 s.pc,Value.int .i64 s.st,Value.slice (some ⟨g0,0,none⟩) kr kr],x.oneCell'=true:=fun g0 x hx=>by
      simp only[List.mem_cons,List.not_mem_nil,or_false]at hx
      rcases hx with rfl|rfl|rfl <;> rfl
     have hnews:∀(w5:World) (g0:Nat),∀j x,[Value.int .i64 s.pc,Value.int .i64 s.st,Value.slice (some ⟨g0,0,none⟩) kr kr][j]?=some x->(w5.alloc (.cells #[.int .i64 s.pc,.int .i64 s.st,.slice (some ⟨g0,0,none⟩) kr kr] 98)).cell? ((⟨w5.heap.size,0,none⟩:Addr).add j)=some x:=fun w5 g0=>World.news_of_block (cs:=#[.int .i64 s.pc,.int .i64 s.st,.slice (some ⟨g0,0,none⟩) kr kr]) (heap_new w5 _)
     obtain⟨i0,hi0,hz0,hz1,hz2⟩:=info_parts info98
     have hk1:q+1<=maxLen:=by unfold maxLen;omega
     have hk2:(q+1)*40<=140737488355328:=by omega
     replace hnx:Hid _:=hnx
     replace hsn:Hid _:=hsn
     replace hone:Hid _:=hone
     replace hnews:Hid _:=hnews
     have hsbl:sb<u.heap.size:=hrs.lt
     clear hrs hrr hrn hTw hadd hld m1 m3 r1 r2 r3 hM hs hkr hI hTr hcl hKk hln
     go_wp2
     go_region_law (first|(refine step_append_lies _ (by rfl) _ _ _ (by rfl) w1.heap.size 98 i0 _ 3 40 Tryz.underlying100 hi0 hz0 hz1 hz2 rfl (by omega) (.slice sa q sc) q _ (by rfl) own5 ⟨w5.heap.size,0,none⟩ 1 1 [Value.int .i64 s.pc,Value.int .i64 s.st,Value.slice (some ⟨g0,0,none⟩) kr kr] (by rfl) (by rfl) (hnews.out w5 g0) (hone.out g0) (by omega) hk1 hk2 lo5 _ rfl ?_;intro g3 cap3 w3 hown3 hgrow hat hlt3;obtain⟨cl,fr,hM3,hK3⟩:=rt5.out w3 g3 cap3 hown3 hgrow hat)|(go_simp;go_at_call 142;refine(hsn.out ()).mono ?_;intro e w5 hS;have hS0:=hS;obtain⟨g0,rfl,_,_,_⟩:=hS0.ex;obtain⟨ld5,lda5,xs,own5,lo5,rt5⟩:=hnx.out w5 g0 hS;clear hS hS0))
     all_goals
      go_wp2
      go_roundw
      case measure=>simp[intOf];omega
      case rel=>exact⟨q+1,by omega,by go_num,hM3,hK3⟩
    ·obtain rfl:q=m:=by omega
     obtain⟨iv',sv',nv',vs',m1,m2,m3⟩:=hM.out.ex
     have et:tk t k q=t:=by
      show(⟨t.fn,t.hd,t.ins.take k,t.sns.take q⟩:Tr)=t
      rw[List.take_of_length_le (by rw[hn.out];exact Nat.le_refl _),List.take_of_length_le (by rw[hm.out];exact Nat.le_refl _)]
     rw[et]at m1 m2 m3
     have hgb:=(hTr.out u hM.out.kp).2.2.trans gb.out
     obtain⟨_,_,ia,ic,ei⟩:=Rwo.len (m3.ok (insR t.ins iv') (by simp[trR]))
     have ei':iv'=.slice ia t.ins.length ic:=ei
     obtain⟨_,_,sa,sc,es⟩:=Rwo.len (m3.ok (snsR t.sns sv' vs') (by simp[trR]))
     have es':sv'=.slice sa t.sns.length sc:=es
     subst ei' es'
     have hTV:TrV w.heap.size t (.slice ia t.ins.length ic) (.slice sa t.sns.length sc) vs' u:=⟨m2,(m3.tail.nofx).mono E1.size⟩
     have hlow:∀j∈blks (trR t (.slice ia t.ins.length ic) (.slice sa t.sns.length sc) vs'),w1.heap.size<=j:=fun j hj=>(m3.tail.lt j (List.mem_append_right _ hj)).1
     have hKw:Keeps C w u:=(Keeps.of_below E1).then hM.out.kp (fun _ _ h=>h)
     have p0:=cell_block (i:=0) m1 rfl
     have p1:=cell_block (i:=1) m1 rfl
     have p2:=cell_block (i:=2) m1 rfl
     have p3:=cell_block (i:=3) m1 rfl
     have s0:=cell_block (i:=0) hgb rfl
     have s1:=cell_block (i:=1) hgb rfl
     have s2:=cell_block (i:=2) hgb rfl
     have s3:=cell_block (i:=3) hgb rfl
     have y0:=frozen_block (i:=0) hgb
     have y1:=frozen_block (i:=1) hgb
     have y2:=frozen_block (i:=2) hgb
     have y3:=frozen_block (i:=3) hgb
     obtain⟨Y,hY⟩:∃Y,(((u.setCell ⟨w.heap.size+1,0,none⟩ (.int .i64 t.fn)).setCell ⟨w.heap.size+1,1,none⟩ (.int .i64 t.hd)).setCell ⟨w.heap.size+1,2,none⟩ (.slice ia t.ins.length ic)).setCell ⟨w.heap.size+1,3,none⟩ (.slice sa t.sns.length sc)=Y:=⟨_,rfl⟩
     have gY:Y.heap[w.heap.size+1]?=some (.cells #[.int .i64 t.fn,.int .i64 t.hd,.slice ia t.ins.length ic,.slice sa t.sns.length sc] 102):=by
      rw[<- hY]
      have:=set_block (i:=3) (.slice sa t.sns.length sc) (set_block (i:=2) (.slice ia t.ins.length ic) (set_block (i:=1) (.int .i64 t.hd) (set_block (i:=0) (.int .i64 t.fn) hgb)))
      simpa using this
     have hKY:Keeps (fun j=>j=w.heap.size+1) u Y:=by rw[<- hY];exact(((keeps_one _ _ _ _).trans (keeps_one _ _ _ _)).trans (keeps_one _ _ _ _)).trans (keeps_one _ _ _ _)
     have hfin:EaQ C K w t (.returned (trv t (.slice ia t.ins.length ic) (.slice sa t.sns.length sc))) Y:=by
      refine⟨_,_,vs',rfl,hTV.wrote hKY (fun j hj e=>by have:=hlow j hj;have e':j=w.heap.size+1:=e;omega),?_,hKw.then hKY (fun j hj e=>by have e':j=w.heap.size+1:=e;omega)⟩
      rw[hn.out]
      exact hcl.out.st k u Y hKk.out (fun j hj=>hKY.block j (by have:=hKw.size;omega) (fun e=>by have e':j=w.heap.size+1:=e;omega))
     clear hTV hlow hKw hKY m1 m2 m3 hgb hM hKk hTr hcl hI et ei es
     go_wp2
     exact bodyPost_ret (res105 (C:=w.heap.size+1) rfl gY) rfl hfin
end
end Go.Proofs.YthljpnmhddfblaaGreatDoor
