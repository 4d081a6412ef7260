/- A recorder: an order by which the trace may be left. -/
import Derived.Test.YthljpnmhddfblaaGreatDoorS51
namespace Go.Proofs.YthljpnmhddfblaaGreatDoor
open Go.RowKit Go.Shelf Go
set_option maxRecDepth 100000
set_option maxHeartbeats 8000000
set_option linter.all false
section
variable [DecidableEq Vl]
def HasL:Sy->List Nat->List Nat->Sy->Prop
 | S,[],[],S'=>S'=S
 | S,r::rs,n::ns,S'=>∃S1,HasR S r n S1/\HasL S1 rs ns S'
 | _,_,_,_=>False
theorem HasR.keeps{S S':Sy}{r n:Nat}(h:HasR S r n S'):S'.st=S.st/\S'.t.sns=S.t.sns/\S'.t.ins.length<=S.t.ins.length+1/\S'.k<=S.k+1:=by
 rcases h with⟨_,rfl⟩|⟨_,_,rfl⟩|⟨_,_,_,rfl⟩
 ·exact⟨rfl,rfl,by omega,by omega⟩
 ·exact⟨rfl,rfl,by omega,by omega⟩
 ·exact⟨rfl,rfl,by simp,by simp⟩
theorem HasL.len:∀{rs ns:List Nat} {S S':Sy},HasL S rs ns S'->ns.length=rs.length
 | [],[],_,_,_=>rfl
 | r::rs,n::ns,S,S',h=>by
  obtain⟨S1,_,h2⟩:=h
  have:=HasL.len h2
  simp[this]
 | [],n::ns,_,_,h=>h.elim
 | r::rs,[],_,_,h=>h.elim
abbrev fld (ns:List Nat) (j:Nat):Array Value:=#[.int .i64 (((ns.take j)[0]?.getD 0:Nat):Int),.int .i64 (((ns.take j)[1]?.getD 0:Nat):Int),.int .i64 (((ns.take j)[2]?.getD 0:Nat):Int)]
theorem fld_set{ns:List Nat}{j n:Nat}(hn:ns[j]?=some n)(hj:j<3):(fld ns j).setIfInBounds j (.int .i64 (n:Nat))=fld ns (j+1):=by
 have hl:=(List.getElem?_eq_some_iff.1 hn).1
 have:j=0\/j=1\/j=2:=by omega
 rcases this with rfl|rfl|rfl
 ·simp[fld,List.getElem?_take,hn]
 ·simp[fld,List.getElem?_take,hn]
 ·simp[fld,List.getElem?_take,hn]
section
variable {w0:World} {m:Hm} {s s':Ms} {c:Rec} {S S1:Sy} {O:List Nat} {W W':World}
theorem Rz.other{F:Nat}(h:Rz w0 m s c S O W)(hk:Keeps (fun q=>q=F) W W')(hF:F∉O)(hl:w0.heap.size<=F):Rz w0 m s c S O W':=by
 obtain⟨iv,sv,tv,vs,h0,h1,h2,h3,h4⟩:=h.ex
 obtain⟨D,hD,hf⟩:=h.mm
 have hO:=h.nd.2.2
 have nf:∀k∈O,¬k=F:=fun k hk e=>hF (e▸hk)
 exact⟨h.mh.wrote hk (fun k e hm=>by have e':k=F:=e;exact nf k (hO k (own_fx hm)) e') (fun k e=>by have e':k=F:=e;omega),⟨iv,sv,tv,vs,h0,(hk.block _ (block_lt h1) (nf _ (hO _ (by simp)))).trans h1,h2,h3.wrote hk (fun k hk' e=>nf k (by rw[h4];exact List.mem_append_right _ hk') e),h4⟩,(hk.block _ (block_lt h.pp) (nf _ (hO _ (by simp)))).trans h.pp,(hk.block _ (block_lt h.qq) (nf _ (hO _ (by simp)))).trans h.qq,D,hi_same hD (hk.block _ (hi_lt hD) (nf _ (hO _ (by simp)))),hf⟩
structure LvI (w0:World) (m:Hm) (s:Ms) (c:Rec) (S:Sy) (O:List Nat) (W:World) (rs ns:List Nat) (S1:Sy) (j:Nat) (wr:World):Prop where
 ex:∃Sj Oj,Rz w0 m s c Sj Oj wr/\MK O W Oj wr/\HasL Sj (rs.drop j) (ns.drop j) S1/\W.heap.size∉Oj/\Sj.t.ins.length<=S.t.ins.length+j/\Sj.k<=S.k+j/\Sj.st=S.st/\Sj.t.sns=S.t.sns
 fb:wr.heap[W.heap.size]?=some (.cells (fld ns j) 112)
theorem leaving_any(h:Rz w0 m s c S O W){op:Int}{rs ns:List Nat}(hR:HasL S rs ns S1){k rb rc:Nat}(hk:rs.length=k)(hk3:k<=3)(hrl:∀r∈rs,r<=1000)(hrb:∀(j:Nat) r,rs[j]?=some r->W.cell? ⟨rb,j,none⟩=some (.int .i64 (r:Nat)))(hro:rb∉O)(hrW:rb<W.heap.size)
  (hst:1<=S.st.length/\S.st.length<=250) (hl:S.t.ins.length<=900) (hkk:S.k<=900) (hn:S.t.sns.length<=900) {d:Nat} (hd:s.st-c.bg=(d:Nat)) (hd2:d<=60000) :
  Calls Tryz.prog 133 #[.pointer (some ⟨c.R,0,none⟩),.int .i64 op,.slice (some ⟨rb,0,none⟩) k rc] W (AnQ w0 m s c S1.t.ins.length ((S1.sn ⟨s.x.pc,(d:Nat),S1.st⟩).add ⟨op,((ns[0]?.getD 0:Nat):Int),((ns[1]?.getD 0:Nat):Int),((ns[2]?.getD 0:Nat):Int),nilV,(S1.t.sns.length:Nat)⟩) O W):=by
 have hnl:=hR.len
 have hw0:w0.heap.size<=W.heap.size:=h.mh.bl.size
 have hOW:W.heap.size∉O:=fun e=>by have:=(h.nd.2.1 _ e).2;omega
 have E1:=ext_alloc (Below.refl W.heap.size W) (.cells #[.int .i64 0,.int .i64 0,.int .i64 0] 112)
 have hI0:Hid (LvI w0 m s c S O W rs ns S1 0 (W.alloc (.cells #[.int .i64 0,.int .i64 0,.int .i64 0] 112))):=⟨⟨S,O,h.on E1,MK.below E1,by simpa using hR,hOW,by omega,by omega,rfl,rfl⟩,by simpa[fld]using heap_new W (.cells #[.int .i64 0,.int .i64 0,.int .i64 0] 112)⟩
 obtain⟨FB,hFB⟩:∃FB,W.heap.size=FB:=⟨_,rfl⟩
 replace hrb:Hid _:=hrb
 replace hrl:Hid _:=hrl
 replace hk:Hid _:=hk
 replace hst:Hid _:=hst
 replace hd:Hid _:=hd
 obtain⟨x,hx⟩:∃x:Int,((ns[0]?.getD 0:Nat):Int)=x:=⟨_,rfl⟩
 obtain⟨y,hy⟩:∃y:Int,((ns[1]?.getD 0:Nat):Int)=y:=⟨_,rfl⟩
 obtain⟨z,hz'⟩:∃z:Int,((ns[2]?.getD 0:Nat):Int)=z:=⟨_,rfl⟩
 obtain⟨nsn,hnsn⟩:∃n,S1.t.sns.length=n:=⟨_,rfl⟩
 obtain⟨nin,hnin⟩:∃n,S1.t.ins.length=n:=⟨_,rfl⟩
 rw[hx,hy,hz',hnsn,hnin]
 replace hx:Hid _:=hx
 replace hy:Hid _:=hy
 replace hz':Hid _:=hz'
 replace hnsn:Hid _:=hnsn
 replace hnin:Hid _:=hnin
 clear E1 h hR hOW hFB
 go_enter Tryz.func133,Tryz.ntmps133
 go_wp2
 go_loopw [12] (fun i wr=>∃j:Nat,j<=k/\i=.int .i64 (j:Nat)/\Hid (LvI w0 m s c S O W rs ns S1 j wr)) (fun i _=>k-(intOf i).toNat)
 case atStart=>exact⟨0,Nat.zero_le _,rfl,hI0⟩
 case round =>
  clear hI0
  obtain⟨j,hj,rfl,hI⟩:=hrel
  rename World=>v
  obtain⟨⟨Sj,Oj,hz,hmk,hL,hO,hi1,hi2,hi3,hi4⟩,hfb⟩:=hI.out
  by_cases hlt:j<k
  ·obtain⟨r,hr⟩:∃r,rs[j]?=some r:=⟨rs[j]'(by rw[hk.out];exact hlt),List.getElem?_eq_getElem _⟩
   obtain⟨n,hn'⟩:∃n,ns[j]?=some n:=⟨ns[j]'(by rw[hnl,hk.out];exact hlt),List.getElem?_eq_getElem _⟩
   have e1:rs.drop j=r::rs.drop (j+1):=(List.drop_eq_getElem_cons (by rw[hk.out];exact hlt)).trans (by congr 1;exact(List.getElem?_eq_some_iff.1 hr).2)
   have e2:ns.drop j=n::ns.drop (j+1):=(List.drop_eq_getElem_cons (by rw[hnl,hk.out];exact hlt)).trans (by congr 1;exact(List.getElem?_eq_some_iff.1 hn').2)
   rw[e1,e2]at hL
   obtain⟨S2,hR2,hL2⟩:=hL
   have hkp:=hR2.keeps
   obtain⟨ia,sa,ta,ic,sc,tc,hdd⟩:=hz.rd
   have c7:=hdd.c7
   obtain⟨rblk,hrblk⟩:∃o,W.heap[rb]?=some o:=⟨_,Array.getElem?_eq_getElem hrW⟩
   have r0:v.cell? ⟨rb,j,none⟩=some (.int .i64 (r:Nat)):=(World.cell?_of_block (a:=⟨rb,j,none⟩) ((hmk.box hrblk hro).1.trans hrblk.symm)).trans (hrb.out j r hr)
   have hrd:∀_:Unit,Calls Tryz.prog 130 #[.int .i64 (r:Nat),.pointer (some ⟨c.P,0,none⟩),.pointer (some ⟨c.Q,0,none⟩)] v fun e W'=>e=.returned (.int .i64 (n:Nat))/\(∃b,W'.cell? ⟨W.heap.size,j,none⟩=some (.int .i64 b))/\W'.frozen? ⟨W.heap.size,j,none⟩=false/\Hid (LvI w0 m s c S O W rs ns S1 (j+1) (W'.setCell ⟨W.heap.size,j,none⟩ (.int .i64 (n:Nat)))):=fun _=>(reader_any hz (hrl.out r (List.mem_of_getElem? hr)) hR2 (by omega) (by omega)).mono fun e W' q=>by
    obtain⟨O2,hz2,hk2⟩:=q.ex
    obtain⟨g2,hO2⟩:=hk2.box hfb hO
    have hj3:j=0\/j=1\/j=2:=by omega
    refine⟨q.e,?_,frozen_block g2,⟨S2,O2,?_,(hmk.trans hk2).scratch (keeps_one W' W.heap.size j (.int .i64 (n:Nat))) (Nat.le_refl _),hL2,hO2,by omega,by omega,hkp.1.trans hi3,hkp.2.1.trans hi4⟩,?_⟩
    ·rcases hj3 with rfl|rfl|rfl <;> exact⟨_,cell_block g2 rfl⟩
    ·exact hz2.other (keeps_one W' W.heap.size j (.int .i64 (n:Nat))) hO2 (Nat.le_trans hw0 (Nat.le_refl _))
    ·rw[set_block _ g2,fld_set hn' (by omega)]
   have hj3:j=0\/j=1\/j=2:=by omega
   replace hrd:Hid _:=hrd
   clear hI hz hmk hfb hdd hrblk hr hn' e1 e2 hkp hR2 hL2
   rcases hj3 with rfl|rfl|rfl
   all_goals
    go_wp2_with (go_at_call 130;refine(hrd.out ()).mono ?_;rintro e w1 ⟨rfl,⟨b,hb⟩,hfz,hI⟩)
    go_roundw
    case measure=>simp[intOf];omega
    case rel=>exact⟨_,by omega,by go_num,hI⟩
  ·obtain rfl:j=k:=by omega
   have e1:rs.drop j=[]:=List.drop_eq_nil_iff.2 (by rw[hk.out];exact Nat.le_refl _)
   have e2:ns.drop j=[]:=List.drop_eq_nil_iff.2 (by rw[hnl,hk.out];exact Nat.le_refl _)
   rw[e1,e2]at hL
   have hL':S1=Sj:=hL
   subst hL'
   have hns:fld ns j=fld ns 3:=by
    have:ns.take j=ns.take 3:=by rw[List.take_of_length_le (by rw[hnl,hk.out];exact Nat.le_refl _),List.take_of_length_le (by rw[hnl,hk.out];exact hk3)]
    simp only[fld,this]
   rw[hns]at hfb
   have htk:∀i,i<3->(ns.take 3)[i]?=ns[i]?:=fun i hi=>List.getElem?_take_of_lt hi
   simp only[fld,htk 0 (by omega),htk 1 (by omega),htk 2 (by omega)]at hfb
   rw[hx.out,hy.out,hz'.out]at hfb
   have hSn:∀u,Below v.heap.size v u->Calls Tryz.prog 83 #[.pointer (some ⟨c.R,0,none⟩)] u fun e W'=>e=.returned (.int .i64 (nsn:Nat))/\(W'.cell? ⟨W.heap.size,0,none⟩=some (.int .i64 x)/\W'.cell? ⟨W.heap.size,1,none⟩=some (.int .i64 y)/\W'.cell? ⟨W.heap.size,2,none⟩=some (.int .i64 z))/\Hid (∃O2,Rz w0 m s c (S1.sn ⟨s.x.pc,(d:Nat),S1.st⟩) O2 W'/\MK O W O2 W'/\W.heap.size∉O2/\W'.heap[W.heap.size]?=some (.cells #[.int .i64 x,.int .i64 y,.int .i64 z] 112)):=fun u hu=>(snap_any (hz.on hu) (by rw[hi3];exact hst.out) (by rw[hi4];omega) hd.out hd2).mono fun e W' q=>by
    obtain⟨O2,hz2,hk2⟩:=q.ex
    obtain⟨g2,hO2⟩:=((MK.below hu).trans hk2).box hfb hO
    exact⟨by rw[<- hnsn.out];exact q.e,⟨cell_block g2 rfl,cell_block g2 rfl,cell_block g2 rfl⟩,O2,hz2,hmk.trans ((MK.below hu).trans hk2),hO2,g2⟩
   have hAd:∀u u' O2,Rz w0 m s c (S1.sn ⟨s.x.pc,(d:Nat),S1.st⟩) O2 u->MK O W O2 u->W.heap.size∉O2->u.heap[W.heap.size]?=some (.cells #[.int .i64 x,.int .i64 y,.int .i64 z] 112)->Below u.heap.size u u'->Calls Tryz.prog 131 #[.pointer (some ⟨c.R,0,none⟩),.agg #[.int .i64 op,.int .i64 x,.int .i64 y,.int .i64 z,.int .i64 0,.int .i64 0,.string ⟨#[]⟩,.int .i64 (nsn:Nat)]] u' fun e W'=>e=.returned (.int .i64 (nin:Nat))/\(W'.cell? ⟨W.heap.size,0,none⟩=some (.int .i64 x)/\W'.cell? ⟨W.heap.size,1,none⟩=some (.int .i64 y)/\W'.cell? ⟨W.heap.size,2,none⟩=some (.int .i64 z))/\Hid (AnQ w0 m s c nin ((S1.sn ⟨s.x.pc,(d:Nat),S1.st⟩).add ⟨op,x,y,z,nilV,(nsn:Nat)⟩) O W (.returned (.int .i64 (nin:Nat))) W'):=fun u u' O2 h1 h2 hF hG hb=>(radd_any (h1.on hb) ⟨op,x,y,z,nilV,(nsn:Nat)⟩ (by show S1.t.ins.length<=1000;omega)).mono fun e W' q=>by
    obtain⟨O3,h3,h4⟩:=q.ex
    have g3:=(((MK.below hb).trans h4).box hG hF).1
    exact⟨by rw[<- hnin.out];exact q.e,⟨cell_block g3 rfl,cell_block g3 rfl,cell_block g3 rfl⟩,rfl,O3,h3,h2.trans ((MK.below hb).trans h4)⟩
   have f0:v.cell? ⟨W.heap.size,0,none⟩=some (.int .i64 x):=cell_block hfb rfl
   have f1:v.cell? ⟨W.heap.size,1,none⟩=some (.int .i64 y):=cell_block hfb rfl
   have f2:v.cell? ⟨W.heap.size,2,none⟩=some (.int .i64 z):=cell_block hfb rfl
   replace hSn:Hid _:=hSn
   replace hAd:Hid _:=hAd
   clear hI hz hmk hfb hL hns htk hx hy hz' hi1 hi2 hi3 hi4 e1 e2
   go_wp2
   go_region_held3 (fun u=>u.cell? ⟨W.heap.size,0,none⟩=some (.int .i64 x)/\u.cell? ⟨W.heap.size,1,none⟩=some (.int .i64 y)/\u.cell? ⟨W.heap.size,2,none⟩=some (.int .i64 z)) (go_keep) (first|(go_at_call 83;refine(hSn.out _ (ext_drew (Below.refl _ _))).mono ?_;rintro e w2 ⟨rfl,⟨b0,b1,b2⟩,hz2⟩)|(go_at_call 131;obtain⟨O2,hz3,hk3,hF3,hG3⟩:=hz2.out;refine(hAd.out _ _ O2 hz3 hk3 hF3 hG3 (Below.refl _ _)).mono ?_;rintro e w3 ⟨rfl,⟨b0,b1,b2⟩,hfin⟩))
   all_goals
    go_wp2
    go_ret
    exact hfin.out
end
section
variable {w0:World} {m:Hm} {s s':Ms} {c:Rec} {S S1:Sy} {O:List Nat} {W W':World}
structure NtQ (w0:World) (m:Hm) (s:Ms) (c:Rec) (S':Sy) (O:List Nat) (W:World) (e:Ending) (W':World):Prop where
 e:e=.returned (.tuple #[])
 ex:∃O',Rz w0 m s c S' O' W'/\MK O W O' W'
theorem note_10(h:Rz w0 m s c S O W)(a b d:Int):Calls Tryz.prog 102 #[.pointer (some ⟨c.R,0,none⟩),.agg #[.int .i64 10,.int .i64 a,.int .i64 b,.int .i64 d]] W (NtQ w0 m s c S O W):=by
 have hfin:∀o,NtQ w0 m s c S O W (.returned (.tuple #[])) (W.alloc o):=fun o=>⟨rfl,O,h.on (ext_alloc (Below.refl _ _) _),MK.below (ext_alloc (Below.refl _ _) _)⟩
 replace hfin:Hid _:=hfin
 clear h
 go_enter Tryz.func102,Tryz.ntmps102
 go_wp2
 go_end0
 exact hfin.out _
abbrev Sy.lv (S1:Sy) (pc:Int) (d:Nat) (op:Int) (ns:List Nat):Sy:=(S1.sn ⟨pc,(d:Nat),S1.st⟩).add ⟨op,((ns[0]?.getD 0:Nat):Int),((ns[1]?.getD 0:Nat):Int),((ns[2]?.getD 0:Nat):Int),nilV,(S1.t.sns.length:Nat)⟩
theorem note_9(h:Rz w0 m s c S O W){a n:Nat}{b0 d0:Int}{v:Vl}(hv:s.x.rs[a]?=some v)(ha:a<=1000)(hR:HasR S a n S1)(hst:1<=S.st.length/\S.st.length<=250)(hl:S.t.ins.length<=900)(hkk:S.k<=900)(hn:S.t.sns.length<=900){d:Nat}(hd:s.st-c.bg=(d:Nat))(hd2:d<=60000) :
  Calls Tryz.prog 102 #[.pointer (some ⟨c.R,0,none⟩),.agg #[.int .i64 9,.int .i64 (a:Nat),.int .i64 b0,.int .i64 d0]] W (NtQ w0 m s c (S1.lv s.x.pc d (if truthB v.k v.n v.s=true then 10 else 11) [n]) O W):=by
 obtain⟨W1,hW1⟩:∃W1,W.alloc (.cells #[.int .i64 9,.int .i64 (a:Nat),.int .i64 b0,.int .i64 d0] 32)=W1:=⟨_,rfl⟩
 have E1:Below W.heap.size W W1:=by rw[<- hW1];exact ext_alloc (Below.refl _ _) _
 have g1:W1.heap[W.heap.size]?=some (.cells #[.int .i64 9,.int .i64 (a:Nat),.int .i64 b0,.int .i64 d0] 32):=by rw[<- hW1];exact heap_new _ _
 have h1:=h.on E1
 have hWO:W.heap.size∉O:=fun e=>by have:=(h.nd.2.1 _ e).2;omega
 obtain⟨gd,hgd⟩:∃gd:Int,(if truthB v.k v.n v.s=true then 10 else 11)=gd:=⟨_,rfl⟩
 have hG:∀u,Below W1.heap.size W1 u->Calls Tryz.prog 134 #[.pointer (some ⟨c.R,0,none⟩),.int .i64 (a:Nat)] u fun e W'=>e=.returned (.int .i64 gd)/\Below u.heap.size u W':=fun u hu=>(guard_any (h1.on hu) hv).mono fun e W' q=>⟨by rw[q.1,<- hgd],q.2⟩
 have hA:∀u,Below W1.heap.size W1 u->u.cell? ⟨W.heap.size,1,none⟩=some (.int .i64 (a:Nat)):=fun u hu=>cell_block (block_below hu g1) rfl
 have hL:∀u rb,Below W1.heap.size W1 u->W1.heap.size<=rb->u.cell? ⟨rb,0,none⟩=some (.int .i64 (a:Nat))->Calls Tryz.prog 133 #[.pointer (some ⟨c.R,0,none⟩),.int .i64 gd,.slice (some ⟨rb,0,none⟩) 1 1] u fun e W'=>(∃q:Nat,e=.returned (.int .i64 (q:Nat)))/\W'.cell? ⟨W.heap.size,1,none⟩=some (.int .i64 (a:Nat))/\Hid (NtQ w0 m s c (S1.lv s.x.pc d gd [n]) O W (.returned (.tuple #[])) W'):=fun u rb hu hr hc=>by
  have hb:rb<u.heap.size:=by have:=World.block_lt_of_cell? _ _ hc;simpa using this
  have hO:rb∉O:=fun e=>by have:=(h1.nd.2.1 _ e).2;omega
  refine(leaving_any (h1.on hu) (op:=gd) (rs:=[a]) (ns:=[n]) (S1:=S1) (k:=1) ⟨S1,hR,rfl⟩ rfl (by omega) (fun r hr=>by simp at hr;omega) (fun j r hj=>?_) hO hb hst hl hkk hn hd hd2).mono fun e W' q=>?_
  ·match j,hj with
   | 0,hj=>cases hj;exact hc
   | j+1,hj=>simp at hj
  ·obtain⟨O',q1,q2⟩:=q.ex
   have hM:=(MK.below (O:=O) E1).trans ((MK.below hu).trans q2)
   have g2:=(((MK.below hu).trans q2).box g1 hWO).1
   exact⟨⟨_,q.e⟩,cell_block g2 rfl,rfl,O',q1,hM⟩
 rw[hgd]
 have a1:=hA _ (ext_drew (Below.refl _ _))
 have hz1:W.heap.size<W1.heap.size:=block_lt g1
 have o0:=cell_block (i:=0) g1 rfl
 have o1:=cell_block (i:=1) g1 rfl
 replace hG:Hid _:=hG
 replace hA:Hid _:=hA
 replace hL:Hid _:=hL
 clear h h1 hR hgd hv hst g1 hWO E1 hl hkk hn hd
 go_enter Tryz.func102,Tryz.ntmps102
 go_wp2
 have E0:=ext_drew (Below.refl W1.heap.size W1)
 refine wp_region_held_drew (S:=fun V=>V.cell? ⟨W.heap.size,1,none⟩=some (.int .i64 (a:Nat))/\True) (by kernel_rfl) ⟨a1,trivial⟩ (fun a1=>?_)
 change wpAnyH _ _ _ _ _ 9 _ _ _
 refine' wpAnyH_take (i := 0) (oi := { dst := some 73, op := Op.move (Operand.tmp 0), type := 142, pos := "recorder.go:75", after := #[], guard := none }) (v := _) (fuel := 8) rfl (by kernel_rfl) (by kernel_rfl) (by kernel_rfl) (fun _ _ _ h => h) (Or.inl ⟨by rfl, ?hy1⟩) a1 ?rest1
 case hy1=>(intro w ⟨_,_⟩;go_simp;try with_reducible rfl)
 try simp only[Act.put,List.setIfInBounds_toArray,List.set_cons_zero,List.set_cons_succ]
 refine' wpAnyH_take (i := 1) (oi := { dst := some 74, op := Op.move (Operand.tmp 0), type := 142, pos := "recorder.go:75", after := #[], guard := none }) (v := _) (fuel := 7) rfl (by kernel_rfl) (by kernel_rfl) (by kernel_rfl) (fun _ _ _ h => h) (Or.inl ⟨by rfl, ?hy2⟩) a1 ?rest2
 case hy2=>(intro w ⟨_,_⟩;go_simp;try with_reducible rfl)
 try simp only[Act.put,List.setIfInBounds_toArray,List.set_cons_zero,List.set_cons_succ]
 refine' wpAnyH_take (i := 2) (oi := { dst := some 75, op := Op.fieldAddr 32 (Operand.tmp 3) 1, type := 0, pos := "recorder.go:75", after := #[], guard := none }) (v := _) (fuel := 6) rfl (by kernel_rfl) (by kernel_rfl) (by kernel_rfl) (fun _ _ _ h => h) (Or.inl ⟨by rfl, ?hy3⟩) a1 ?rest3
 case hy3=>(intro w ⟨_,_⟩;go_simp;try with_reducible rfl)
 try simp only[Act.put,List.setIfInBounds_toArray,List.set_cons_zero,List.set_cons_succ]
 refine' wpAnyH_take (i := 3) (oi := { dst := some 76, op := Op.load 3 (Operand.tmp 75), type := 3, pos := "recorder.go:75", after := #[{ on := 2, ground := Ground.data }], guard := none }) (v := _) (fuel := 5) rfl (by kernel_rfl) (by kernel_rfl) (by kernel_rfl) (fun _ _ _ h => h) (Or.inl ⟨by rfl, ?hy4⟩) a1 ?rest4
 case hy4=>(intro w ⟨_,_⟩;go_simp;try with_reducible rfl)
 try simp only[Act.put,List.setIfInBounds_toArray,List.set_cons_zero,List.set_cons_succ]
 refine' wpAnyH_take (i := 5) (oi := { dst := some 78, op := Op.fieldAddr 32 (Operand.tmp 3) 1, type := 0, pos := "recorder.go:75", after := #[], guard := none }) (v := _) (fuel := 4) rfl (by kernel_rfl) (by kernel_rfl) (by kernel_rfl) (fun _ _ _ h => h) (Or.inl ⟨by rfl, ?hy5⟩) a1 ?rest5
 case hy5=>(intro w ⟨_,_⟩;go_simp;try with_reducible rfl)
 try simp only[Act.put,List.setIfInBounds_toArray,List.set_cons_zero,List.set_cons_succ]
 refine' wpAnyH_take (i := 6) (oi := { dst := some 79, op := Op.load 3 (Operand.tmp 78), type := 3, pos := "recorder.go:75", after := #[{ on := 5, ground := Ground.data }], guard := none }) (v := _) (fuel := 3) rfl (by kernel_rfl) (by kernel_rfl) (by kernel_rfl) (fun _ _ _ h => h) (Or.inl ⟨by rfl, ?hy6⟩) a1 ?rest6
 case hy6=>(intro w ⟨_,_⟩;go_simp;try with_reducible rfl)
 try simp only[Act.put,List.setIfInBounds_toArray,List.set_cons_zero,List.set_cons_succ]
 refine wpAnyH_ready (rs:=[4,7]) (by kernel_rfl) (by simp) ?_
 refine AllReadyH.cons (o := { dst := some 77, op := Op.call { callee := Callee.value (Operand.func 134), args := #[Operand.tmp 74, Operand.tmp 76], argTypes := #[142, 3] }, type := 3, pos := "recorder.go:75", after := #[{ on := 1, ground := Ground.data }, { on := 3, ground := Ground.data }], guard := none }) rfl (fun K hK => ?_) ?_
 ·go_simp
  go_at_call 134
  refine(hG.out _ E0).mono ?_
  rintro e w1 ⟨rfl,hb2⟩
  have E3:=ext_trans E0 hb2
  have hH4:=And.intro (hA.out _ E3) trivial
  refine hK.out _ _ hH4 (fun _=>?_)
  clear hK K
  try simp only[Act.put,List.setIfInBounds_toArray,List.set_cons_zero,List.set_cons_succ]
  refine wpAnyH_ready (rs:=[7]) (by kernel_rfl) (by simp) ?_
  refine AllReadyH.cons (o := { dst := some 80, op := Op.buildSlice 96 1 #[(0, Operand.tmp 79)], type := 96, pos := "recorder.go:75", after := #[{ on := 6, ground := Ground.data }], guard := none }) rfl (fun K hK => ?_) AllReadyH.nil
  go_simp
  have E5:=ext_alloc E3 (.cells #[.int .i64 (a:Nat)] 3)
  have hH6:=And.intro (hA.out _ E5) trivial
  have n7:(World.alloc w1 (.cells #[.int .i64 (a:Nat)] 3)).cell? ⟨w1.heap.size,0,none⟩=some (.int .i64 (a:Nat)):=cell_block (i:=0) (heap_new _ _) rfl
  have hzn7:=E3.size
  refine hK.out _ _ hH6 (fun _=>?_)
  clear hK K
  try simp only[Act.put,List.setIfInBounds_toArray,List.set_cons_zero,List.set_cons_succ]
  refine wpAnyH_ready (rs:=[8]) (by kernel_rfl) (by simp) ?_
  refine AllReadyH.cons (o := { dst := some 81, op := Op.call { callee := Callee.value (Operand.func 133), args := #[Operand.tmp 73, Operand.tmp 77, Operand.tmp 80], argTypes := #[142, 3, 96] }, type := 3, pos := "recorder.go:75", after := #[{ on := 0, ground := Ground.data }, { on := 4, ground := Ground.data }, { on := 7, ground := Ground.data }, { on := 4, ground := Ground.chain }], guard := none }) rfl (fun K hK => ?_) AllReadyH.nil
  go_simp
  go_at_call 133
  refine(hL.out _ _ E5 hzn7 n7).mono ?_
  rintro e w9 ⟨⟨q,rfl⟩,a3,hfin⟩
  refine hK.out _ _ (And.intro a3 trivial) (fun _=>?_)
  clear hK K
  try simp only[Act.put,List.setIfInBounds_toArray,List.set_cons_zero,List.set_cons_succ]
  refine wpAnyH_done (by kernel_rfl) ?_ _
  go_wp2
  go_end0
  exact hfin.out
 refine AllReadyH.cons (o := { dst := some 80, op := Op.buildSlice 96 1 #[(0, Operand.tmp 79)], type := 96, pos := "recorder.go:75", after := #[{ on := 6, ground := Ground.data }], guard := none }) rfl (fun K hK => ?_) AllReadyH.nil
 go_simp
 have E8:=ext_alloc E0 (.cells #[.int .i64 (a:Nat)] 3)
 have hH9:=And.intro (hA.out _ E8) trivial
 have n10:(World.alloc W1.drew (.cells #[.int .i64 (a:Nat)] 3)).cell? ⟨W1.drew.heap.size,0,none⟩=some (.int .i64 (a:Nat)):=cell_block (i:=0) (heap_new _ _) rfl
 have hzn10:=E0.size
 refine hK.out _ _ hH9 (fun _=>?_)
 clear hK K
 try simp only[Act.put,List.setIfInBounds_toArray,List.set_cons_zero,List.set_cons_succ]
 refine wpAnyH_ready (rs:=[4]) (by kernel_rfl) (by simp) ?_
 refine AllReadyH.cons (o := { dst := some 77, op := Op.call { callee := Callee.value (Operand.func 134), args := #[Operand.tmp 74, Operand.tmp 76], argTypes := #[142, 3] }, type := 3, pos := "recorder.go:75", after := #[{ on := 1, ground := Ground.data }, { on := 3, ground := Ground.data }], guard := none }) rfl (fun K hK => ?_) AllReadyH.nil
 go_simp
 go_at_call 134
 refine(hG.out _ E8).mono ?_
 rintro e w11 ⟨rfl,hb12⟩
 have E13:=ext_trans E8 hb12
 have hH14:=And.intro (hA.out _ E13) trivial
 have n15:=cellB hb12 n10
 refine hK.out _ _ hH14 (fun _=>?_)
 clear hK K
 try simp only[Act.put,List.setIfInBounds_toArray,List.set_cons_zero,List.set_cons_succ]
 refine wpAnyH_ready (rs:=[8]) (by kernel_rfl) (by simp) ?_
 refine AllReadyH.cons (o := { dst := some 81, op := Op.call { callee := Callee.value (Operand.func 133), args := #[Operand.tmp 73, Operand.tmp 77, Operand.tmp 80], argTypes := #[142, 3, 96] }, type := 3, pos := "recorder.go:75", after := #[{ on := 0, ground := Ground.data }, { on := 4, ground := Ground.data }, { on := 7, ground := Ground.data }, { on := 4, ground := Ground.chain }], guard := none }) rfl (fun K hK => ?_) AllReadyH.nil
 go_simp
 go_at_call 133
 refine(hL.out _ _ E13 hzn10 n15).mono ?_
 rintro e w9 ⟨⟨q,rfl⟩,a3,hfin⟩
 refine hK.out _ _ (And.intro a3 trivial) (fun _=>?_)
 clear hK K
 try simp only[Act.put,List.setIfInBounds_toArray,List.set_cons_zero,List.set_cons_succ]
 refine wpAnyH_done (by kernel_rfl) ?_ _
 go_wp2
 go_end0
 exact hfin.out
end
theorem HasL.keeps:∀{rs ns:List Nat} {S S':Sy},HasL S rs ns S'->S'.st=S.st/\S'.t.sns=S.t.sns
 | [],[],_,_,h=>by
  have h':_=_:=h
  subst h'
  exact⟨rfl,rfl⟩
 | r::rs,n::ns,S,S',h=>by
  obtain⟨S1,h1,h2⟩:=h
  obtain⟨a,b⟩:=HasL.keeps h2
  obtain⟨a1,b1,_⟩:=h1.keeps
  exact⟨a.trans a1,b.trans b1⟩
 | [],n::ns,_,_,h=>h.elim
 | r::rs,[],_,_,h=>h.elim
section
variable {w0:World} {m:Hm} {s s':Ms} {c:Rec} {S S1:Sy} {O:List Nat} {W W':World}
theorem note_op(h:Rz w0 m s c S O W){op:Int}(ho:op=28\/op=21){a b e d n0 n1:Nat}(ha:a<S.st.length)(hb:b<=1000)(he:e<=1000)(hR:HasL S [b,e] [n0,n1] S1)(hst:1<=S.st.length/\S.st.length<=250)(hl:S.t.ins.length<=900)(hkk:S.k<=900)(hn:S.t.sns.length<=900)(hd:s.st-c.bg=(d:Nat))(hd2:d<=60000) :
  Calls Tryz.prog 102 #[.pointer (some ⟨c.R,0,none⟩),.agg #[.int .i64 op,.int .i64 (a:Nat),.int .i64 (b:Nat),.int .i64 (e:Nat)]] W (NtQ w0 m s c { S1.lv s.x.pc d op [n0,n1]with st:=S1.st.set a (S1.t.ins.length:Nat) } O W):=by
 obtain⟨W1,hW1⟩:∃W1,W.alloc (.cells #[.int .i64 op,.int .i64 (a:Nat),.int .i64 (b:Nat),.int .i64 (e:Nat)] 32)=W1:=⟨_,rfl⟩
 have E1:Below W.heap.size W W1:=by rw[<- hW1];exact ext_alloc (Below.refl _ _) _
 have g1:W1.heap[W.heap.size]?=some (.cells #[.int .i64 op,.int .i64 (a:Nat),.int .i64 (b:Nat),.int .i64 (e:Nat)] 32):=by rw[<- hW1];exact heap_new _ _
 have h1:=h.on E1
 have hWO:W.heap.size∉O:=fun e=>by have:=(h.nd.2.1 _ e).2;omega
 obtain⟨tb,tc,hx⟩:=h.stX (fun e=>by rw[e]at ha;simp at ha)
 have hcv:=hx.cv
 obtain⟨L,hL⟩:∃L,S.st.length=L:=⟨_,rfl⟩
 obtain⟨nin,hnin⟩:∃n,S1.t.ins.length=n:=⟨_,rfl⟩
 have hkS:=hR.keeps
 have htR:¬tb=c.R:=fun e=>hx.nf (by rw[e];simp)
 have htG:¬tb=W.heap.size:=fun e=>by have:=hx.lt;omega
 have hC:∀u,Below W1.heap.size W1 u->u.cell? ⟨c.R,6,none⟩=some (.slice (some ⟨tb,0,none⟩) L tc)/\u.cell? ⟨W.heap.size,1,none⟩=some (.int .i64 (a:Nat)):=fun u hu=>by
  obtain⟨ia',sa',ta',ic',sc',tc',hr⟩:=(h1.on hu).rd
  exact⟨by rw[hr.cv,hcv,hL],cell_block (block_below hu g1) rfl⟩
 have hLv:∀u rb,Below W1.heap.size W1 u->W1.heap.size<=rb->u.heap[rb]?=some (.cells #[.int .i64 (b:Nat),.int .i64 (e:Nat)] 3)->Calls Tryz.prog 133 #[.pointer (some ⟨c.R,0,none⟩),.int .i64 op,.slice (some ⟨rb,0,none⟩) 2 2] u fun e W'=>e=.returned (.int .i64 (nin:Nat))/\(W'.cell? ⟨c.R,6,none⟩=some (.slice (some ⟨tb,0,none⟩) L tc)/\W'.cell? ⟨W.heap.size,1,none⟩=some (.int .i64 (a:Nat)))/\(∃x,W'.cell? ⟨tb,a,none⟩=some (.int .i64 x))/\W'.frozen? ⟨tb,a,none⟩=false/\Hid (NtQ w0 m s c { S1.lv s.x.pc d op [n0,n1]with st:=S1.st.set a (nin:Nat) } O W (.returned (.tuple #[])) (W'.setCell ⟨tb,a,none⟩ (.int .i64 (nin:Nat)))):=fun u rb hu hr hc=>by
  have hbl:rb<u.heap.size:=block_lt hc
  have hO:rb∉O:=fun e=>by have:=(h1.nd.2.1 _ e).2;omega
  refine(leaving_any (h1.on hu) (op:=op) (rs:=[b,e]) (ns:=[n0,n1]) (S1:=S1) (k:=2) hR rfl (by omega) (fun r hr=>by simp at hr;omega) (fun j r hj=>?_) hO hbl hst hl hkk hn hd hd2).mono fun e W' q=>?_
  ·match j,hj with
   | 0,hj=>cases hj;exact cell_block hc rfl
   | 1,hj=>cases hj;exact cell_block hc rfl
   | j+2,hj=>simp at hj
  ·obtain⟨O',q1,q2⟩:=q.ex
   have hM:=(MK.below (O:=O) E1).trans ((MK.below hu).trans q2)
   have g2:=(((MK.below hu).trans q2).box g1 hWO).1
   obtain⟨ia',sa',ta',ic',sc',tc',hr'⟩:=q1.rd
   have hst':(S1.lv s.x.pc d op [n0,n1]).st=S.st:=hkS.1
   obtain⟨tb',tc'',hx'⟩:=q1.stX (fun e=>by rw[hst']at e;rw[e]at ha;simp at ha)
   have hcv':=hx'.cv
   rw[hst',hcv]at hcv'
   obtain rfl:tb=tb':=by injection hcv' with h1 _ _;injection h1 with h1;injection h1
   obtain⟨x,hxa⟩:∃x,S1.st[a]?=some x:=⟨S1.st[a]'(by rw[hkS.1];exact ha),List.getElem?_eq_getElem _⟩
   obtain⟨z1,z2⟩:=hx'.set W' a (nin:Nat) (Below.refl _ _)
   exact⟨by rw[<- hnin];exact q.e,⟨by rw[hr'.cv,hcv,hL],cell_block g2 rfl⟩,⟨x,hx'.ce a x hxa⟩,hx'.fr a,rfl,O',z1,hM.trans z2⟩
 have htw:=fun u=>rtwin_any op (a:Nat) (b:Nat) (e:Nat) ho u
 have hltL:(a:Int)<(L:Int):=by omega
 have t8:(op == 8)=false:=by rcases ho with rfl|rfl <;> rfl
 have t10:(op == 10)=false:=by rcases ho with rfl|rfl <;> rfl
 have t1:(op == 1)=false:=by rcases ho with rfl|rfl <;> rfl
 have t2:(op == 2)=false:=by rcases ho with rfl|rfl <;> rfl
 have t13:(op == 13)=false:=by rcases ho with rfl|rfl <;> rfl
 have t9:(op == 9)=false:=by rcases ho with rfl|rfl <;> rfl
 have t5:(op == 5)=false:=by rcases ho with rfl|rfl <;> rfl
 have hz1:W.heap.size<W1.heap.size:=block_lt g1
 have o0:=cell_block (i:=0) g1 rfl
 have o1:=cell_block (i:=1) g1 rfl
 have o2:=cell_block (i:=2) g1 rfl
 have o3:=cell_block (i:=3) g1 rfl
 rw[hnin]
 replace hC:Hid _:=hC
 replace hLv:Hid _:=hLv
 replace htw:Hid _:=htw
 clear h h1 hR hst g1 hWO E1 hl hkk hn hd hx hcv hL hnin hkS ho
 go_enter Tryz.func102,Tryz.ntmps102
 go_wp2_with (go_at_call 135;refine(htw.out _).mono ?_;rintro e' w2 ⟨rb,rfl,hrb,g2,hb2⟩;refine Hid.out ?_)
 refine Lib.hid ?_
 have hq:=hLv.out w2.drew rb (ext_trans hb2 (ext_drew (Below.refl _ _))) hrb g2
 obtain⟨s6,s1⟩:=hC.out w2.drew (ext_trans hb2 (ext_drew (Below.refl _ _)))
 replace hq:Hid (∀_:Unit,_):=fun _=>hq
 clear hLv hC o0 o1 o2 o3 g2 htw
 go_wp2
 go_region_held3 (fun u=>u.cell? ⟨c.R,6,none⟩=some (.slice (some ⟨tb,0,none⟩) L tc)/\u.cell? ⟨W.heap.size,1,none⟩=some (.int .i64 (a:Nat))) (go_keep) (first|(go_at_call 133;refine(hq.out ()).mono ?_;rintro e' w3 ⟨rfl,⟨u6,u1⟩,⟨x,hxa⟩,hxf,hfin⟩))
 all_goals
  go_wp2
  go_end0
  exact hfin.out
end
section
variable {w0:World} {m:Hm} {s s':Ms} {c:Rec} {S S':Sy} {O:List Nat} {W W':World}
structure GoQ (w0:World) (m:Hm) (s':Ms) (c:Rec) (S':Sy) (O:List Nat) (W:World) (b:Bool) (e:Ending) (W':World):Prop where
 e:e=.returned (.bool b)
 ex:∃O',Rz w0 m s' c S' O' W'/\MK O W O' W'
theorem along_yes(h:Rz w0 m s c S O W){o:Od}(h11:(o.op == 11)=false)(h12:(o.op == 12)=false)(hen:s'.en=0)
  (hord:∀u,Mh w0 m s u->Calls Tryz.prog 32 #[.pointer (some ⟨m.B,0,none⟩)] u fun e W'=>e=.returned o.v/\Below u.heap.size u W')
  (hnote:∀u O,Rz w0 m s c S O u->Calls Tryz.prog 102 #[.pointer (some ⟨c.R,0,none⟩),o.v] u (NtQ w0 m s c S' O u))
  (hstep:∀u,Mh w0 m s u->Calls Tryz.prog 33 #[.pointer (some ⟨m.B,0,none⟩)] u (HQ w0 m u s')) :
  Calls Tryz.prog 82 #[.pointer (some ⟨c.R,0,none⟩)] W (GoQ w0 m s' c S' O W true):=by
 obtain⟨ia,sa,ta,ic,sc,tc,hd⟩:=h.rd
 have c0:=hd.c0
 have hO:Calls Tryz.prog 32 #[.pointer (some ⟨m.B,0,none⟩)] W _:=hord W h.mh
 have hN:∀u,Below W.heap.size W u->Calls Tryz.prog 102 #[.pointer (some ⟨c.R,0,none⟩),o.v] u fun e W'=>e=.returned (.tuple #[])/\W'.cell? ⟨c.R,0,none⟩=some (.pointer (some ⟨m.B,0,none⟩))/\Hid (∃O',Rz w0 m s c S' O' W'/\MK O W O' W'):=fun u hu=>(hnote u O (h.on hu)).mono fun e W' q=>by
  obtain⟨O',q1,q2⟩:=q.ex
  obtain⟨ia',sa',ta',ic',sc',tc',hr⟩:=q1.rd
  exact⟨q.e,hr.c0,O',q1,(MK.below hu).trans q2⟩
 have hS:∀u,(∃O',Rz w0 m s c S' O' u/\MK O W O' u)->Calls Tryz.prog 33 #[.pointer (some ⟨m.B,0,none⟩)] u fun e W'=>e=.returned (.tuple #[])/\W'.cell? ⟨c.R,0,none⟩=some (.pointer (some ⟨m.B,0,none⟩))/\W'.cell? ⟨m.B,6,none⟩=some (.int .i64 0)/\Hid (GoQ w0 m s' c S' O W true (.returned (.bool true)) W'):=fun u ⟨O',q1,q2⟩=>(hstep u q1.mh).mono fun e W' k=>by
  obtain⟨z1,z2⟩:=q1.mach k.h k.k
  obtain⟨ia',sa',ta',ic',sc',tc',hr⟩:=z1.rd
  exact⟨k.e,hr.c0,by rw[z1.mh.cs.c6,hen],rfl,O',z1,q2.trans z2⟩
 obtain⟨op,oa,ob,oc,_,_,_,_⟩:=o
 simp only at h11 h12
 replace hO:Hid (∀_:Unit,_):=fun _=>hO
 replace hN:Hid _:=hN
 replace hS:Hid _:=hS
 clear h hd hord hnote hstep hen
 go_enter Tryz.func82,Tryz.ntmps82
 go_wp2_with (go_at_call 32;refine(hO.out ()).mono ?_;rintro e w2 ⟨rfl,hb2⟩;have c2:=cellB hb2 c0;refine Hid.out ?_)
 refine Lib.hid ?_
 have E2:=ext_alloc hb2 (.cells #[.int .i64 op,.int .i64 oa,.int .i64 ob,.int .i64 oc] 32)
 clear c0 hO
 go_wp2_with (first|(go_at_call 102;refine(hN.out _ E2).mono ?_;rintro e w3 ⟨rfl,c3,hz⟩)|(go_at_call 33;refine(hS.out _ hz.out).mono ?_;rintro e w4 ⟨rfl,c4,c6,hfin⟩))
 go_ret
 exact hfin.out
theorem along_no(h:Rz w0 m s c S O W){o:Od}(h12:o.op=12)
  (hord:∀u,Mh w0 m s u->Calls Tryz.prog 32 #[.pointer (some ⟨m.B,0,none⟩)] u fun e W'=>e=.returned o.v/\Below u.heap.size u W') :
  Calls Tryz.prog 82 #[.pointer (some ⟨c.R,0,none⟩)] W fun e W'=>e=.returned (.bool false)/\Below W.heap.size W W':=by
 obtain⟨ia,sa,ta,ic,sc,tc,hd⟩:=h.rd
 have c0:=hd.c0
 have hO:Calls Tryz.prog 32 #[.pointer (some ⟨m.B,0,none⟩)] W _:=hord W h.mh
 obtain⟨op,oa,ob,oc,_,_,_,_⟩:=o
 simp only at h12
 subst h12
 replace hO:Hid (∀_:Unit,_):=fun _=>hO
 clear h hd hord
 go_enter Tryz.func82,Tryz.ntmps82
 go_wp2_with (go_at_call 32;refine(hO.out ()).mono ?_;rintro e w2 ⟨rfl,hb2⟩;have c2:=cellB hb2 c0)
 go_ret
 exact⟨rfl,ext_alloc hb2 _⟩
end
theorem makeMap202(w:World):(Instr.makeMap 202 none).run Tryz.prog w=.ok (.map (some w.heap.size)) (w.alloc (.map #[] 0)):=by
 have u:=Tryz.underlying202
 simp[Instr.makeMap,run_underlying u,Result.andThen]
structure RrQ (R:Nat) (W:World) (e:Ending) (W':World):Prop where
 ex:∃P Q M,e=.returned (.func (.func 130) #[] #[.pointer (some ⟨P,0,none⟩),.pointer (some ⟨Q,0,none⟩)])/\W.heap.size<=P/\P<M/\M<Q/\W'.heap[P]?=some (.cells #[.pointer (some ⟨R,0,none⟩)] 142)/\W'.heap[Q]?=some (.cells #[.map (some M)] 202)/\W'.heap[M]?=some (.map #[] 0)/\Below W.heap.size W W'
theorem rread_any(R:Nat)(W:World):Calls Tryz.prog 101 #[.pointer (some ⟨R,0,none⟩)] W (RrQ R W):=by
 have hmm:=makeMap202
 obtain⟨w1,hw1⟩:∃w1,W.alloc (.cells #[.pointer (some ⟨R,0,none⟩)] 142)=w1:=⟨_,rfl⟩
 have hs:w1.heap.size=W.heap.size+1:=by rw[<- hw1];simp
 have g1:w1.heap[W.heap.size]?=some (.cells #[.pointer (some ⟨R,0,none⟩)] 142):=by rw[<- hw1];exact heap_new _ _
 have E1:Below W.heap.size W w1:=by rw[<- hw1];exact ext_alloc (Below.refl _ _) _
 have hfin:RrQ R W (.returned (.func (.func 130) #[] #[.pointer (some ⟨W.heap.size,0,none⟩),.pointer (some ⟨w1.heap.size+1,0,none⟩)])) ((w1.alloc (.map #[] 0)).alloc (.cells #[.map (some w1.heap.size)] 202)) :=
  ⟨W.heap.size,w1.heap.size+1,w1.heap.size,rfl,Nat.le_refl _,by omega,by omega,block_alloc _ (block_alloc _ g1),new2' w1 _ _,block_alloc _ (heap_new _ _),ext_alloc (ext_alloc E1 _) _⟩
 replace hfin:Hid (∀_:Unit,_):=fun _=>hfin
 replace hs:Hid _:=hs
 clear g1 E1
 go_enter Tryz.func101,Tryz.ntmps101
 go_wp2
 go_ret
 exact hfin.out ()
abbrev S00 (fn hd:Int):Sy:=⟨⟨fn,hd,[],[]⟩,[-1,-1,-1,-1],fun _=>none,0⟩
section
variable {w0:World} {m:Hm} {s s':Ms} {W W':World}
structure BgQ (m:Hm) (s:Ms) (W:World) (e:Ending) (W':World):Prop where
 ex:∃(m':Hm) (c:Rec) (O:List Nat),e=.returned (.pointer (some ⟨c.R,0,none⟩))/\Rz W m' s c (S00 s.x.f s.x.pc) O W'/\m'.fv=m.fv/\m'.mn=m.mn/\c.bg=s.st
abbrev rb0 (B:Nat) (fn hd bg:Int) (tv fv:Value):Obj:=.cells #[.pointer (some ⟨B,0,none⟩),.int .i64 fn,.int .i64 hd,.slice none 0 0,.slice none 0 0,.int .i64 bg,tv,fv] 146
theorem begin_any(h:Mh w0 m s W)(hf:∃a n c,m.fv=.slice a n c)(ht:∃a c,m.tv=.slice a 0 c)(hu:∃a c,m.uv=.slice a 0 c)(hrs:s.x.rs.length=4):Calls Tryz.prog 81 #[.pointer (some ⟨m.B,0,none⟩)] W (BgQ m s W):=by
 have hne:s.x.rs≠[]:=fun e=>by rw[e]at hrs;simp at hrs
 have hTw:∀u,Below W.heap.size W u->Calls Tryz.prog 99 #[.pointer (some ⟨m.B,0,none⟩)] u (TwQ m s u):=fun u hu'=>twin_any (h.on hu') hf ht hu ⟨hne,by omega⟩
 have hC:∀u,Below W.heap.size W u->u.cell? ⟨m.B,5,none⟩=some (.int .i64 s.st):=fun u hu'=>(h.on hu').cs.c5
 have hsn:=hsn
 have hsf:=hsf
 replace hTw:Hid _:=hTw
 replace hC:Hid _:=hC
 go_enter Tryz.func81,Tryz.ntmps81
 go_wp2
 go_cut [3] from 5 (fun p wr=>Hid (∃(m':Hm) (R:Nat),p=.pointer (some ⟨R,0,none⟩)/\wr.heap[R]?=some (rb0 m'.B 0 0 s.st (.slice none 0 0) .nilFunc)/\Mh W m' s wr/\m'.fv=m.fv/\m'.mn=m.mn/\(∀k∈m'.own,k<R)/\W.heap.size<=R))
 case first =>
  have E0:=ext_drew (Below.refl W.heap.size W)
  have c0:=hC.out _ E0
  go_region_with (go_at_call 99;refine(hTw.out _ E0).mono ?_;rintro e w2 ⟨m',rfl,hM,hfv,hmn⟩;have E2:=ext_trans E0 hM.bl;have c2:=hC.out w2 E2)
  all_goals
   go_wp2
   go_meet
   case rel =>
    have hMM:=hM.on (ext_alloc (Below.refl w2.heap.size w2) (rb0 m'.B 0 0 s.st (.slice none 0 0) .nilFunc))
    exact⟨m',w2.heap.size,rfl,heap_new _ _,⟨hMM.box,hMM.fr,hMM.rg,hMM.bf,hMM.bg,hMM.fg,fun k hk=>Nat.le_trans E0.size (hMM.lo k hk),ext_trans E0 hMM.bl⟩,hfv,hmn,hM.ltm,E2.size⟩
 case rest =>
  obtain⟨m',R,rfl,gR,hM,hfv,hmn,hlt,hWR⟩:=hcut.out
  have r0:=cell_block (i:=0) gR rfl
  have ht0:=top0 hM.cs.c2
  have hRl:=block_lt gR
  have hlB:=hlt m'.B (by simp)
  have hlF:=hlt m'.F (by simp)
  have hlg:=hlt m'.g (by simp)
  have hRm:R∉m'.own:=fun e=>by have:=hlt R e;omega
  replace hM:Hid _:=hM
  clear hcut hlt hTw hC
  go_wp2_with (go_at_call 39;refine ht0.mono ?_;rintro e w3 ⟨rfl,k,rfl⟩;refine Hid.out ?_)
  refine Lib.hid ?_
  obtain⟨V,hV⟩:∃V,wc.drewN k=V:=⟨_,rfl⟩
  have EV:Below wc.heap.size wc V:=by rw[<- hV];exact drewN_below (Below.refl _ _)
  have hMV:=hM.out.on EV
  have gV:=block_below EV gR
  rw[hV]
  have hcV:=hMV.cs
  have d0:=hcV.d0
  have d1:=hcV.d1
  have b1:=cell_block (i:=1) gV rfl
  have b2:=cell_block (i:=2) gV rfl
  have z1:=frozen_block (i:=1) gV
  have z2:=frozen_block (i:=2) gV
  have nFR:¬m'.F=R:=by omega
  have nRF:¬R=m'.F:=by omega
  have hfin:∀u,Below V.heap.size V u->∀wr,(wr=(u.setCell ⟨R,1,none⟩ (.int .i64 s.x.f)).setCell ⟨R,2,none⟩ (.int .i64 s.x.pc)\/wr=(u.setCell ⟨R,2,none⟩ (.int .i64 s.x.pc)).setCell ⟨R,1,none⟩ (.int .i64 s.x.f))->wr.heap[R]?=some (rb0 m'.B s.x.f s.x.pc s.st (.slice none 0 0) .nilFunc)/\Mh W m' s wr:=fun u hu wr hwr=>by
   have hMu:=hMV.on hu
   have gu:=block_below hu gV
   have hw2:∀(u:World) (i j:Nat) (a b:Value),Mh W m' s u->Mh W m' s ((u.setCell ⟨R,i,none⟩ a).setCell ⟨R,j,none⟩ b):=fun u i j a b hq=>(hq.wrote (keeps_one u R i a) (fun k e hm=>hRm (by have e':k=R:=e;exact e'▸hm)) (fun k e=>by have e':k=R:=e;omega)).wrote (keeps_one _ R j b) (fun k e hm=>hRm (by have e':k=R:=e;exact e'▸hm)) (fun k e=>by have e':k=R:=e;omega)
   rcases hwr with rfl|rfl
   ·refine⟨?_,hw2 _ _ _ _ _ hMu⟩
    have:=set_block (i:=2) (.int .i64 s.x.pc) (set_block (i:=1) (.int .i64 s.x.f) gu)
    simpa using this
   ·refine⟨?_,hw2 _ _ _ _ _ hMu⟩
    have:=set_block (i:=1) (.int .i64 s.x.f) (set_block (i:=2) (.int .i64 s.x.pc) gu)
    simpa using this
  replace hfin:Hid _:=hfin
  clear hMV gV hcV hM gR r0 ht0 hV EV
  go_wp2
  go_cut [] from 19 (fun wr=>Hid (wr.heap[R]?=some (rb0 m'.B s.x.f s.x.pc s.st (.slice none 0 0) .nilFunc)/\Mh W m' s wr))
  case first =>
   go_region
   all_goals
    go_wp2
    go_meet
    case rel=>exact hfin.out _ (ext_drew (Below.refl _ _)) _ (by first|exact .inl rfl|exact .inr rfl)
  case rest =>
   obtain⟨gR,hM⟩:=hcut.out
   clear hfin d0 d1 b1 b2 z1 z2
   rename World=>X
   obtain⟨w4,hw4⟩:∃w4,X.alloc (.cells #[n1] 3)=w4:=⟨_,rfl⟩
   have E4:Below X.heap.size X w4:=by rw[<- hw4];exact ext_alloc (Below.refl _ _) _
   have g4:w4.heap[X.heap.size]?=some (.cells #[n1] 3):=by rw[<- hw4];exact heap_new _ _
   have hM4:=hM.on E4
   have d3:=hM4.cs.d3
   rw[hrs]at d3
   have hrp:=repeat_4 X.heap.size w4 (cell_block (i:=0) g4 rfl)
   have gR4:=block_below E4 gR
   have hRX:=block_lt gR
   replace hM4:Hid _:=hM4
   replace hrp:Hid (∀_:Unit,_):=fun _=>hrp
   clear hcut hM g4
   go_wp2_with (go_at_call 100;refine(hrp.out ()).mono ?_;rintro e w5 ⟨N,rfl,hN,gN,hb5⟩;refine Hid.out ?_)
   refine Lib.hid ?_
   have gR5:=block_below hb5 gR4
   have s6:=cell_block (i:=6) gR5 rfl
   have y6:=frozen_block (i:=6) gR5
   obtain⟨X6,hX6⟩:∃X6,w5.setCell ⟨R,6,none⟩ (.slice (some ⟨N,0,none⟩) 4 4)=X6:=⟨_,rfl⟩
   have gR6:X6.heap[R]?=some (rb0 m'.B s.x.f s.x.pc s.st (.slice (some ⟨N,0,none⟩) 4 4) .nilFunc):=by
    rw[<- hX6]
    have:=set_block (i:=6) (.slice (some ⟨N,0,none⟩) 4 4) gR5
    simpa using this
   have hk6:Keeps (fun q=>q=R) w5 X6:=by rw[<- hX6];exact keeps_one _ _ _ _
   have hrd:=rread_any R X6
   have hE4s:=E4.size
   have hNl:=block_lt gN
   have hk6s:=hk6.size
   have h5s:=hb5.size
   replace hrd:Hid (∀_:Unit,_):=fun _=>hrd
   clear hrp d3
   go_wp2_with (go_at_call 101;refine(hrd.out ()).mono ?_;rintro e w7 ⟨P,Q,M,rfl,hP,hPM,hMQ,gP,gQ,gM,hb7⟩;refine Hid.out ?_)
   refine Lib.hid ?_
   have gR7:=block_below hb7 gR6
   have s7:=cell_block (i:=7) gR7 rfl
   have y7:=frozen_block (i:=7) gR7
   have hk7:=keeps_one w7 R 7 (.func (.func 130) #[] #[.pointer (some ⟨P,0,none⟩),.pointer (some ⟨Q,0,none⟩)])
   have gR8:=set_block (i:=7) (.func (.func 130) #[] #[.pointer (some ⟨P,0,none⟩),.pointer (some ⟨Q,0,none⟩)]) gR7
   obtain⟨X8,hX8⟩:∃X8,w7.setCell ⟨R,7,none⟩ (.func (.func 130) #[] #[.pointer (some ⟨P,0,none⟩),.pointer (some ⟨Q,0,none⟩)])=X8:=⟨_,rfl⟩
   rw[hX8]at hk7 gR8
   have hQl:=block_lt gQ
   have hnR:∀k,k≠R->k<w7.heap.size->X8.heap[k]?=w7.heap[k]?:=fun k hk hl=>hk7.block k hl hk
   have hz:Rz W m' s ⟨R,P,Q,M,s.st,.slice (some ⟨N,0,none⟩) 4 4⟩ (S00 s.x.f s.x.pc) ([R,P,Q,M,m'.B,m'.F,m'.g,N]) X8:=by
    have hm6:=(hM4.out.on hb5).wrote hk6 (fun k e hm=>hRm (by have e':k=R:=e;exact e'▸hm)) (fun k e=>by have e':k=R:=e;omega)
    have hm8:=(hm6.on hb7).wrote hk7 (fun k e hm=>hRm (by have e':k=R:=e;exact e'▸hm)) (fun k e=>by have e':k=R:=e;omega)
    have gN7:w7.heap[N]?=some (repB 4):=block_below hb7 ((hk6.block N hNl (by omega)).trans gN)
    have gN8:=(hnR N (by omega) (block_lt gN7)).trans gN7
    have hmB:=hm8.lt
    have hb7s:=hb7.size
    have hk7s:=hk7.size
    have hloB:=hm8.lo m'.B (by simp)
    have hloF:=hm8.lo m'.F (by simp)
    have hlog:=hm8.lo m'.g (by simp)
    refine⟨hm8,⟨.slice none 0 0,.slice none 0 0,.slice (some ⟨N,0,none⟩) 4 4,[],rfl,by simpa using gR8,rfl,⟨fun r hr=>?_,?_,fun k hk=>?_⟩,?_⟩,(hnR P (by omega) (block_lt gP)).trans gP,(hnR Q (by omega) hQl).trans gQ,D0,hi_same (W:=w7) (Joins.ownsMap_empty gM) (hnR M (by omega) (block_lt gM)),rdF_0⟩
    ·simp only[rowsR,trR,rgr,List.mem_cons,List.not_mem_nil,or_false]at hr
     rcases hr with rfl|rfl|rfl
     ·exact⟨rfl,.inr ⟨N,4,_,rfl,by omega,gN8,Nat.le_refl _,by unfold maxLen;omega,rfl,rfl⟩⟩
     ·exact⟨rfl,.inl ⟨rfl,rfl⟩⟩
     ·exact⟨rfl,.inl ⟨rfl,rfl⟩⟩
    ·have h1:=hm8.bf
     have h2:=hm8.bg
     have h3:=hm8.fg
     simp[fxR,Hm.own,rowsR,trR,rgr,blks,Value.ownBlock]
     omega
    ·have hk':k∈[R,P,Q,M,m'.B,m'.F,m'.g,N]:=by simpa[fxR,Hm.own,rowsR,trR,rgr,blks,Value.ownBlock]using hk
     simp only[List.mem_cons,List.not_mem_nil,or_false]at hk'
     rcases hk' with rfl|rfl|rfl|rfl|rfl|rfl|rfl|rfl <;> omega
    ·simp[fxR,Hm.own,rowsR,trR,rgr,blks,Value.ownBlock]
   have hres:BgQ m s W (.returned (.pointer (some ⟨R,0,none⟩))) X8:=⟨m',⟨R,P,Q,M,s.st,.slice (some ⟨N,0,none⟩) 4 4⟩,_,rfl,hz,hfv,hmn,rfl⟩
   replace hres:Hid _:=hres
   clear hz hnR hk7 gR8 gR7 gP gQ gM gN hM4 hrd hb7 hb5 hk6 gR6 gR5 gR4
   go_wp2
   go_ret
   exact hres.out
end
abbrev Sy.rdS (S:Sy) (r:Nat):Sy:=(S.add (trg r)).rd r S.t.ins.length
theorem hasR_new{S:Sy}{r:Nat}(h1:S.st[r]?=some (-1))(h2:S.f r=none):HasR S r S.t.ins.length (S.rdS r):=.inr (.inr ⟨h1,h2,rfl,rfl⟩)
def SJ0:Sy:=S00 0 3
def SJ1:Sy:={ ((SJ0.rdS 0).rdS 1).lv 3 0 28 [0,1]with st:=[-1,-1,-1,2] }
def SJ2 (g:Int):Sy:=SJ1.lv 4 1 g [2]
def SJ3:Sy:={ ((SJ2 10).rdS 2).lv 5 2 21 [0,4]with st:=[5,-1,-1,2] }
section
variable {w0:World} {m:Hm} {c:Rec} {O:List Nat} {W:World} {i n st:Nat} {d:Vl}
theorem ph_twin{m':Hm}{s:Ms}(hP:Ph w0 m n)(h:Mh w0 m s W)(hf:m'.fv=m.fv):Ph W m' n:=by
 obtain⟨f,h1,h2,h3,h4,hp⟩:=hP.ex
 obtain⟨a,c,e,hr⟩:=hp.ex
 exact⟨f,h1,h2,h3,h4,a,c,by rw[hf,e],(hr.below h.bl).mono h.bl.size⟩
theorem rec_1(hP:Ph w0 m n)(hi:i<=200)(hn:n<=200)(hs:st<=50000)(hbg:c.bg=(st:Nat))(h:Rz w0 m (stS 3 [numV i,numV n,numV 1,d] st) c SJ0 O W):Calls Tryz.prog 82 #[.pointer (some ⟨c.R,0,none⟩)] W (GoQ w0 m (stS 4 [numV i,numV n,numV 1,boV (decide (i<n))] (st+1)) c SJ1 O W true):=by
 refine along_yes h (o:=od 28 3 0 1 rfl) rfl rfl rfl (fun u hu=>p_order hP hu rfl (pc:=3) rfl rfl) (fun u O hz=>?_) (fun u hu=>s_less hP (by omega) (by omega) hu (by omega))
 exact note_op hz (op:=28) (a:=3) (b:=0) (e:=1) (d:=0) (n0:=0) (n1:=1) (S1:=(SJ0.rdS 0).rdS 1) (.inl rfl) (by simp[SJ0]) (by omega) (by omega) ⟨_,hasR_new rfl rfl,_,hasR_new rfl rfl,rfl⟩ (by simp[SJ0]) (by simp[SJ0]) (by simp[SJ0]) (by simp[SJ0]) (by rw[hbg];simp) (by omega)
theorem rec_2(hP:Ph w0 m n){t:Bool}(hs:st<=50000)(hbg:c.bg=(st:Nat))(h:Rz w0 m (stS 4 [numV i,numV n,numV 1,boV t] (st+1)) c SJ1 O W):Calls Tryz.prog 82 #[.pointer (some ⟨c.R,0,none⟩)] W (GoQ w0 m (stS (if t=true then 5 else 7) [numV i,numV n,numV 1,boV t] (st+1+1)) c (SJ2 (if t=true then 10 else 11)) O W true):=by
 refine along_yes h (o:=od 9 3 7 0 rfl) rfl rfl rfl (fun u hu=>p_order hP hu rfl (pc:=4) rfl rfl) (fun u O hz=>?_) (fun u hu=>s_test hP hu (by omega))
 have:=note_9 hz (a:=3) (n:=2) (b0:=7) (d0:=0) (d:=1) (S1:=SJ1) (v:=boV t) rfl (by omega) (.inl ⟨rfl,rfl⟩) (by simp[SJ1]) (by simp[SJ1,SJ0]) (by simp[SJ1,SJ0]) (by simp[SJ1,SJ0]) (by rw[hbg];simp;omega) (by omega)
 rw[boV_truth]at this
 exact this
theorem rec_3(hP:Ph w0 m n)(hi:i+1<=200)(hs:st<=50000)(hbg:c.bg=(st:Nat))(h:Rz w0 m (stS 5 [numV i,numV n,numV 1,boV true] (st+1+1)) c (SJ2 10) O W):Calls Tryz.prog 82 #[.pointer (some ⟨c.R,0,none⟩)] W (GoQ w0 m (stS 6 [numV (i+1),numV n,numV 1,boV true] (st+1+1+1)) c SJ3 O W true):=by
 refine along_yes h (o:=od 21 0 0 2 rfl) rfl rfl rfl (fun u hu=>p_order hP hu rfl (pc:=5) rfl rfl) (fun u O hz=>?_) (fun u hu=>s_add hP (by omega) hu (by omega))
 exact note_op hz (op:=21) (a:=0) (b:=0) (e:=2) (d:=2) (n0:=0) (n1:=4) (S1:=(SJ2 10).rdS 2) (.inr rfl) (by simp[SJ2,SJ1]) (by omega) (by omega) ⟨_,.inr (.inl ⟨rfl,rfl,rfl⟩),_,hasR_new rfl rfl,rfl⟩ (by simp[SJ2,SJ1]) (by simp[SJ2,SJ1,SJ0]) (by simp[SJ2,SJ1,SJ0]) (by simp[SJ2,SJ1,SJ0]) (by rw[hbg];simp;omega) (by omega)
theorem rec_4(hP:Ph w0 m n)(hs:st<=50000)(h:Rz w0 m (stS 6 [numV (i+1),numV n,numV 1,boV true] (st+1+1+1)) c SJ3 O W):Calls Tryz.prog 82 #[.pointer (some ⟨c.R,0,none⟩)] W (GoQ w0 m (stS 3 [numV (i+1),numV n,numV 1,boV true] (st+1+1+1+1)) c SJ3 O W true) :=
 along_yes h (o:=od 10 3 0 0 rfl) rfl rfl rfl (fun u hu=>p_order hP hu rfl (pc:=6) rfl rfl) (fun u O hz=>note_10 hz 3 0 0) (fun u hu=>s_loop hP hu (by omega))
theorem rec_out(hP:Ph w0 m n){a b e f:Vl}{S:Sy}(h:Rz w0 m (stS 7 [a,b,e,f] st) c S O W):Calls Tryz.prog 82 #[.pointer (some ⟨c.R,0,none⟩)] W fun e W'=>e=.returned (.bool false)/\Below W.heap.size W W' :=
 along_no h (o:=od 12 0 0 0 rfl) rfl (fun u hu=>p_order hP hu rfl (pc:=7) rfl rfl)
theorem rec_snap{a b e f:Vl}(hs:st<=50000)(hbg:c.bg=(st:Nat))(h:Rz w0 m (stS 3 [a,b,e,f] (st+1+1+1+1)) c SJ3 O W):Calls Tryz.prog 83 #[.pointer (some ⟨c.R,0,none⟩)] W (AnQ w0 m (stS 3 [a,b,e,f] (st+1+1+1+1)) c 3 (SJ3.sn ⟨3,((4:Nat):Int),SJ3.st⟩) O W) :=
 snap_any h (d:=4) (by simp[SJ3]) (by simp[SJ3,SJ2,SJ1,SJ0]) (by rw[hbg];simp;omega) (by omega)
end
section
variable {w0:World} {m:Hm} {c:Rec} {O:List Nat} {W:World} {i n st:Nat} {d:Vl}
structure FrQ (W:World) (t:Tr) (b:Bool) (e:Ending) (W':World):Prop where
 ex:∃iv sv vs,e=.returned (.tuple #[trv t iv sv,.bool b])/\TrV W.heap.size t iv sv vs W'/\Below W.heap.size W W'
theorem res55{tm:Array Value}{W:World}{Z:Nat}{a b c d x:Value}(h:tm[4]?.getD undef=.pointer (some ⟨Z,0,none⟩))(hx:tm[5]?.getD undef=x)(hy:W.heap[Z]?=some (.cells #[a,b,c,d] 102)):(results Tryz.f55 tm).run Tryz.prog W=.ok (.tuple #[.agg #[a,b,c,d],x]) W:=by
 have d0:W.cell? ⟨Z,0,none⟩=some a:=cell_block hy rfl
 have d1:W.cell? ⟨Z,1,none⟩=some b:=cell_block hy rfl
 have d2:W.cell? ⟨Z,2,none⟩=some c:=cell_block hy rfl
 have d3:W.cell? ⟨Z,3,none⟩=some d:=cell_block hy rfl
 simp[results,Tryz.results55,go_sem,h,hx,d0,d1,d2,d3]
def sJ (i n:Nat) (d:Vl) (st:Nat) (j:Nat):Ms:=if j=0 then stS 3 [numV i,numV n,numV 1,d] st else if j=1 then stS 4 [numV i,numV n,numV 1,boV true] (st+1) else if j=2 then stS 5 [numV i,numV n,numV 1,boV true] (st+1+1) else if j=3 then stS 6 [numV (i+1),numV n,numV 1,boV true] (st+1+1+1) else stS 3 [numV (i+1),numV n,numV 1,boV true] (st+1+1+1+1)
def SJ (j:Nat):Sy:=if j=0 then SJ0 else if j=1 then SJ1 else if j=2 then SJ2 10 else SJ3
theorem rec_step(hP:Ph w0 m n)(hi:i<n)(hn:n<=200)(hs:st<=50000)(hbg:c.bg=(st:Nat)){j:Nat}(hj:j<4)(h:Rz w0 m (sJ i n d st j) c (SJ j) O W):Calls Tryz.prog 82 #[.pointer (some ⟨c.R,0,none⟩)] W (GoQ w0 m (sJ i n d st (j+1)) c (SJ (j+1)) O W true):=by
 have:j=0\/j=1\/j=2\/j=3:=by omega
 rcases this with rfl|rfl|rfl|rfl
 ·have:=rec_1 hP (by omega) hn hs hbg h
  rw[decide_eq_true hi]at this
  exact this
 ·exact rec_2 hP hs hbg h
 ·exact rec_3 hP (by omega) hs hbg h
 ·exact rec_4 hP hs h
theorem sJ_pc{i n:Nat}{d:Vl}{st j:Nat}(hj:j<4):(sJ i n d st (j+1)).x.pc=if j=3 then 3 else ((4+j:Nat):Int):=by
 have:j=0\/j=1\/j=2\/j=3:=by omega
 rcases this with rfl|rfl|rfl|rfl <;> rfl
theorem SJ_hd{j:Nat}(hj:j<5):(SJ j).t.hd=3:=by
 have:j=0\/j=1\/j=2\/j=3\/j=4:=by omega
 rcases this with rfl|rfl|rfl|rfl|rfl <;> rfl
structure FrI (w0:World) (m:Hm) (c:Rec) (i n:Nat) (d:Vl) (st j:Nat) (W:World):Prop where
 ex:∃O,Rz w0 m (sJ i n d st j) c (SJ j) O W
theorem FrI.on{w0 W W':World}{m:Hm}{c:Rec}{i n:Nat}{d:Vl}{st j:Nat}(h:FrI w0 m c i n d st j W)(hb:Below W.heap.size W W'):FrI w0 m c i n d st j W':=by
 obtain⟨O,h⟩:=h.ex
 exact⟨O,h.on hb⟩
theorem FrI.rd{w0 W:World}{m:Hm}{c:Rec}{i n:Nat}{d:Vl}{st j:Nat}(h:FrI w0 m c i n d st (j+1) W)(hj:j<4):W.cell? ⟨c.R,0,none⟩=some (.pointer (some ⟨m.B,0,none⟩))/\W.cell? ⟨c.R,2,none⟩=some (.int .i64 3)/\W.cell? ⟨m.F,1,none⟩=some (.int .i64 (if j=3 then 3 else ((4+j:Nat):Int))):=by
 obtain⟨O,h⟩:=h.ex
 obtain⟨ia,sa,ta,ic,sc,tc,hr⟩:=h.rd
 have c2:=hr.c2
 have d1:=h.mh.cs.d1
 rw[SJ_hd (by omega)]at c2
 rw[sJ_pc hj]at d1
 exact⟨hr.c0,c2,d1⟩
structure SpQ (w0:World) (m:Hm) (c:Rec) (e:Ending) (W':World):Prop where
 e:∃q:Nat,e=.returned (.int .i64 (q:Nat))
 ex:∃ia sa ic sc vs tv,W'.heap[c.R]?=some (rbox m c trH (.slice ia trH.ins.length ic) (.slice sa trH.sns.length sc) tv)/\TrV w0.heap.size trH (.slice ia trH.ins.length ic) (.slice sa trH.sns.length sc) vs W'/\Below w0.heap.size w0 W'
theorem fr_snap{w0 W:World}{m:Hm}{c:Rec}{i n:Nat}{d:Vl}{st:Nat}(hs:st<=50000)(hbg:c.bg=(st:Nat))(h:FrI w0 m c i n d st 4 W):Calls Tryz.prog 83 #[.pointer (some ⟨c.R,0,none⟩)] W (SpQ w0 m c):=by
 obtain⟨O,h⟩:=h.ex
 refine(rec_snap hs hbg (h:Rz w0 m (stS 3 [numV (i+1),numV n,numV 1,boV true] (st+1+1+1+1)) c SJ3 O W)).mono fun e W' q=>?_
 obtain⟨O',z,_⟩:=q.ex
 obtain⟨ia,sa,ta,ic,sc,tc,vs,z0,z1,z2,z3,z4⟩:=z.vals
 refine⟨⟨_,q.e⟩,ia,sa,ic,sc,vs,_,z1,⟨z2,z3.nofx.tail⟩,z.mh.bl⟩
theorem from_rec(hP:Ph w0 m n)(h:Mh w0 m (stS 3 [numV i,numV n,numV 1,d] st) W)(ht:∃a c,m.tv=.slice a 0 c)(hu:∃a c,m.uv=.slice a 0 c)(hi:i<n)(hn:n<=200)(hs:st<=50000){mo:Nat}(hm1:16<=mo)(hm2:mo<=400):Calls Tryz.prog 55 #[.pointer (some ⟨m.B,0,none⟩),.int .i64 (mo:Nat)] W (FrQ W trH true):=by
 obtain⟨W1,hW1⟩:∃W1,W.alloc (.cells #[.int .i64 0,.int .i64 0,.slice none 0 0,.slice none 0 0] 102)=W1:=⟨_,rfl⟩
 have E1:Below W.heap.size W W1:=by rw[<- hW1];exact ext_alloc (Below.refl _ _) _
 have gZ:W1.heap[W.heap.size]?=some (.cells #[.int .i64 0,.int .i64 0,.slice none 0 0,.slice none 0 0] 102):=by rw[<- hW1];exact heap_new _ _
 have hf:∃a n c,m.fv=.slice a n c:=by
  obtain⟨f,h1,h2,h3,h4,hp⟩:=hP.ex
  obtain⟨a,c,e,hr⟩:=hp.ex
  exact⟨a,_,c,e⟩
 have hZl:=block_lt gZ
 have hbeg:∀_:Unit,Calls Tryz.prog 81 #[.pointer (some ⟨m.B,0,none⟩)] W1 fun e W'=>∃(m':Hm) (c:Rec),e=.returned (.pointer (some ⟨c.R,0,none⟩))/\c.bg=(st:Nat)/\Ph W1 m' n/\FrI W1 m' c i n d st 0 W':=fun _=>(begin_any (h.on E1) hf ht hu rfl).mono fun e W' q=>by
  obtain⟨m',c,O,q1,q2,q3,q4,q5⟩:=q.ex
  exact⟨m',c,q1,q5,ph_twin hP (h.on E1) q3,O,q2⟩
 obtain⟨q,hq⟩:∃q,mo / 4=q:=⟨_,rfl⟩
 have hq4:4<=q:=by omega
 have hlim:(mo:Int) / 4=(q:Int):=by omega
 replace hbeg:Hid _:=hbeg
 replace hq:Hid _:=hq
 replace hP:Hid _:=hP
 replace gZ:Hid _:=gZ
 replace E1:Hid _:=E1
 clear h ht hu hf
 go_enter Tryz.func55,Tryz.ntmps55
 go_wp2_with (go_at_call 81;refine(hbeg.out ()).mono ?_;rintro e w2 ⟨m',c,rfl,hbg,hP',hI⟩;refine Hid.out ?_)
 refine Lib.hid ?_
 replace hbg:Hid _:=hbg
 replace hP':Hid _:=hP'
 replace hI:Hid _:=hI
 go_wp2
 go_loopw [11] (fun x wr=>∃j:Nat,j<=3/\x=.int .i64 (j:Nat)/\Hid (FrI W1 m' c i n d st j wr)) (fun x _=>4-(intOf x).toNat)
 case atStart=>exact⟨0,by omega,rfl,hI⟩
 case round =>
  clear hI
  obtain⟨j,hj,rfl,hI⟩:=hrel
  rename World=>v
  have h82:∀_:Unit,Calls Tryz.prog 82 #[.pointer (some ⟨c.R,0,none⟩)] v fun e W'=>e=.returned (.bool true)/\Hid (FrI W1 m' c i n d st (j+1) W'):=fun _=>by
   obtain⟨O,hz⟩:=hI.out.ex
   refine(rec_step hP'.out hi hn hs hbg.out (by omega) hz).mono fun e W' k=>?_
   obtain⟨O',z1,_⟩:=k.ex
   exact⟨k.e,O',z1⟩
  have htop:∀u,FrI W1 m' c i n d st (j+1) u->Calls Tryz.prog 39 #[.pointer (some ⟨m'.B,0,none⟩)] u fun e W'=>e=.returned (.pointer (some ⟨m'.F,0,none⟩))/\Below u.heap.size u W':=fun u hu=>by
   obtain⟨O,hz⟩:=hu.ex
   exact(top0 hz.mh.cs.c2).mono fun e W' ⟨h1,k,h2⟩=>⟨h1,by rw[h2];exact drewN_below (Below.refl _ _)⟩
  obtain⟨pc,hpc⟩:∃pc:Int,(if j=3 then 3 else ((4+j:Nat):Int))=pc:=⟨_,rfl⟩
  have hlt:(j:Int)<(q:Int):=by omega
  replace h82:Hid _:=h82
  replace htop:Hid _:=htop
  replace hpc:Hid _:=hpc
  clear hI
  go_wp2_with (go_at_call 82;refine(h82.out ()).mono ?_;rintro e w3 ⟨rfl,hI3⟩;refine Hid.out ?_)
  refine Lib.hid ?_
  obtain⟨q0,q2,qF⟩:=(hI3.out.on (ext_drew (Below.refl _ _))).rd (by omega)
  rw[hpc.out]at qF
  have hC:∀u,Below w3.heap.size w3 u->u.cell? ⟨c.R,0,none⟩=some (.pointer (some ⟨m'.B,0,none⟩))/\u.cell? ⟨c.R,2,none⟩=some (.int .i64 3)/\u.cell? ⟨m'.F,1,none⟩=some (.int .i64 pc):=fun u hu=>by
   have:=(hI3.out.on hu).rd (by omega)
   rw[hpc.out]at this
   exact this
  replace hC:Hid _:=hC
  clear h82
  go_wp2
  go_region_held3 (fun u=>u.cell? ⟨c.R,0,none⟩=some (.pointer (some ⟨m'.B,0,none⟩))/\u.cell? ⟨c.R,2,none⟩=some (.int .i64 3)/\u.cell? ⟨m'.F,1,none⟩=some (.int .i64 pc)) (go_keep) (first|(go_at_call 39;refine(htop.out _ (hI3.out.on (ext_drew (Below.refl _ _)))).mono ?_;rintro e w4 ⟨rfl,hb4⟩;have E4:=ext_trans (ext_drew (Below.refl w3.heap.size w3)) hb4;obtain⟨u0,u2,uF⟩:=hC.out w4 E4))
  have hI4:Hid (FrI W1 m' c i n d st (j+1) w4):=hI3.out.on E4
  by_cases hj3:j=3
  ·subst hj3
   obtain rfl:pc=3:=by have:=hpc.out;simpa using this.symm
   have h83:∀_:Unit,Calls Tryz.prog 83 #[.pointer (some ⟨c.R,0,none⟩)] w4 _:=fun _=>fr_snap hs hbg.out hI4.out
   replace h83:Hid _:=h83
   clear q0 q2 qF u0 u2 uF hC htop hb4 E4 hI3 hI4
   go_wp2_with (go_at_call 83;refine(h83.out ()).mono ?_;rintro e w5 ⟨⟨q',rfl⟩,ia,sa,ic,sc,vs,tv,gR,hT,hb5⟩;refine Hid.out ?_)
   refine Lib.hid ?_
   have gZ5:=block_below hb5 gZ.out
   have c1:=cell_block (i:=1) gR rfl
   have c2:=cell_block (i:=2) gR rfl
   have c3:=cell_block (i:=3) gR rfl
   have c4:=cell_block (i:=4) gR rfl
   have s0:=cell_block (i:=0) gZ5 rfl
   have s1:=cell_block (i:=1) gZ5 rfl
   have s2:=cell_block (i:=2) gZ5 rfl
   have s3:=cell_block (i:=3) gZ5 rfl
   have y0:=frozen_block (i:=0) gZ5
   have y1:=frozen_block (i:=1) gZ5
   have y2:=frozen_block (i:=2) gZ5
   have y3:=frozen_block (i:=3) gZ5
   have gY:=set4_block (a:=.int .i64 trH.fn) (b:=.int .i64 trH.hd) (c:=.slice ia trH.ins.length ic) (d:=.slice sa trH.sns.length sc) gZ5
   have hkY:=set4_keeps (W:=w5) (B:=W.heap.size) (a:=.int .i64 trH.fn) (b:=.int .i64 trH.hd) (c:=.slice ia trH.ins.length ic) (d:=.slice sa trH.sns.length sc)
   have hE1:=E1.out
   have hEY:Below W.heap.size W ((((w5.setCell ⟨W.heap.size,0,none⟩ (.int .i64 trH.fn)).setCell ⟨W.heap.size,1,none⟩ (.int .i64 trH.hd)).setCell ⟨W.heap.size,2,none⟩ (.slice ia trH.ins.length ic)).setCell ⟨W.heap.size,3,none⟩ (.slice sa trH.sns.length sc)):=(((((ext_trans hE1 hb5).setCell (p:=⟨W.heap.size,0,none⟩) (Nat.le_refl _) _).setCell (p:=⟨W.heap.size,1,none⟩) (Nat.le_refl _) _).setCell (p:=⟨W.heap.size,2,none⟩) (Nat.le_refl _) _).setCell (p:=⟨W.heap.size,3,none⟩) (Nat.le_refl _) _)
   have hTY:=hT.wrote hkY (fun k hk e=>by have h1:=(hT.lt k hk).1;have e':k=W.heap.size:=e;omega)
   have hres:FrQ W trH true (.returned (.tuple #[trv trH (.slice ia trH.ins.length ic) (.slice sa trH.sns.length sc),.bool true])) ((((w5.setCell ⟨W.heap.size,0,none⟩ (.int .i64 trH.fn)).setCell ⟨W.heap.size,1,none⟩ (.int .i64 trH.hd)).setCell ⟨W.heap.size,2,none⟩ (.slice ia trH.ins.length ic)).setCell ⟨W.heap.size,3,none⟩ (.slice sa trH.sns.length sc)):=⟨_,_,vs,rfl,⟨hTY.ln,hTY.rs.mono (by omega)⟩,hEY⟩
   replace hres:Hid _:=hres
   replace gY:Hid _:=gY
   clear hkY hE1 hEY hTY hT gZ5 hb5 gR h83
   go_wp2
   exact bodyPost_ret (res55 (Z:=W.heap.size) rfl rfl gY.out) rfl hres.out
  ·have hpc3:(pc == 3)=false:=by
    have:=hpc.out
    rw[if_neg hj3]at this
    rw[<- this]
    have:¬((4+j:Nat):Int)=3:=by omega
    simpa using this
   clear q0 q2 qF u0 u2 uF hC htop hb4 E4 hI3
   go_wp2
   go_roundw
   case measure=>simp[intOf];omega
   case rel=>exact⟨j+1,by omega,by go_num,hI4⟩
end
section
variable {w0:World} {m:Hm} {c:Rec} {O:List Nat} {W:World} {n st:Nat} {d:Vl}
def sN (n:Nat) (d:Vl) (st:Nat) (j:Nat):Ms:=if j=0 then stS 3 [numV n,numV n,numV 1,d] st else if j=1 then stS 4 [numV n,numV n,numV 1,boV false] (st+1) else stS 7 [numV n,numV n,numV 1,boV false] (st+1+1)
def SN (j:Nat):Sy:=if j=0 then SJ0 else if j=1 then SJ1 else SJ2 11
theorem nrec_step(hP:Ph w0 m n)(hn:n<=200)(hs:st<=50000)(hbg:c.bg=(st:Nat)){j:Nat}(hj:j<2)(h:Rz w0 m (sN n d st j) c (SN j) O W):Calls Tryz.prog 82 #[.pointer (some ⟨c.R,0,none⟩)] W (GoQ w0 m (sN n d st (j+1)) c (SN (j+1)) O W true):=by
 have:j=0\/j=1:=by omega
 rcases this with rfl|rfl
 ·have:=rec_1 (i:=n) hP hn hn hs hbg h
  rw[decide_eq_false (by omega)]at this
  exact this
 ·exact rec_2 hP hs hbg h
theorem sN_pc{n:Nat}{d:Vl}{st j:Nat}(hj:j<2):(sN n d st (j+1)).x.pc=if j=0 then 4 else 7:=by
 have:j=0\/j=1:=by omega
 rcases this with rfl|rfl <;> rfl
theorem SN_hd{j:Nat}(hj:j<3):(SN j).t.hd=3:=by
 have:j=0\/j=1\/j=2:=by omega
 rcases this with rfl|rfl|rfl <;> rfl
structure FrN (w0:World) (m:Hm) (c:Rec) (n:Nat) (d:Vl) (st j:Nat) (W:World):Prop where
 ex:∃O,Rz w0 m (sN n d st j) c (SN j) O W
theorem FrN.on{w0 W W':World}{m:Hm}{c:Rec}{n:Nat}{d:Vl}{st j:Nat}(h:FrN w0 m c n d st j W)(hb:Below W.heap.size W W'):FrN w0 m c n d st j W':=by
 obtain⟨O,h⟩:=h.ex
 exact⟨O,h.on hb⟩
theorem FrN.rd{w0 W:World}{m:Hm}{c:Rec}{n:Nat}{d:Vl}{st j:Nat}(h:FrN w0 m c n d st (j+1) W)(hj:j<2):W.cell? ⟨c.R,0,none⟩=some (.pointer (some ⟨m.B,0,none⟩))/\W.cell? ⟨c.R,2,none⟩=some (.int .i64 3)/\W.cell? ⟨m.F,1,none⟩=some (.int .i64 (if j=0 then 4 else 7)):=by
 obtain⟨O,h⟩:=h.ex
 obtain⟨ia,sa,ta,ic,sc,tc,hr⟩:=h.rd
 have c2:=hr.c2
 have d1:=h.mh.cs.d1
 rw[SN_hd (by omega)]at c2
 rw[sN_pc hj]at d1
 exact⟨hr.c0,c2,d1⟩
abbrev tr0:Tr:=⟨0,0,[],[]⟩
theorem trV0(lo:Nat)(W:World):TrV lo tr0 (.slice none 0 0) (.slice none 0 0) [] W:=by
 refine⟨rfl,fun r hr=>?_,by simp[trR,rgr,blks,Value.ownBlock],fun k hk=>?_⟩
 ·simp only[trR,rgr,List.mem_cons,List.not_mem_nil,or_false]at hr
  rcases hr with rfl|rfl <;> exact⟨rfl,.inl ⟨rfl,rfl⟩⟩
 ·simp[trR,rgr,blks,Value.ownBlock]at hk
theorem from_none(hP:Ph w0 m n)(h:Mh w0 m (stS 3 [numV n,numV n,numV 1,d] st) W)(ht:∃a c,m.tv=.slice a 0 c)(hu:∃a c,m.uv=.slice a 0 c)(hn:n<=200)(hs:st<=50000){mo:Nat}(hm1:16<=mo)(hm2:mo<=400):Calls Tryz.prog 55 #[.pointer (some ⟨m.B,0,none⟩),.int .i64 (mo:Nat)] W (FrQ W tr0 false):=by
 obtain⟨W1,hW1⟩:∃W1,W.alloc (.cells #[.int .i64 0,.int .i64 0,.slice none 0 0,.slice none 0 0] 102)=W1:=⟨_,rfl⟩
 have E1:Below W.heap.size W W1:=by rw[<- hW1];exact ext_alloc (Below.refl _ _) _
 have gZ:W1.heap[W.heap.size]?=some (.cells #[.int .i64 0,.int .i64 0,.slice none 0 0,.slice none 0 0] 102):=by rw[<- hW1];exact heap_new _ _
 have hf:∃a n c,m.fv=.slice a n c:=by
  obtain⟨f,h1,h2,h3,h4,hp⟩:=hP.ex
  obtain⟨a,c,e,hr⟩:=hp.ex
  exact⟨a,_,c,e⟩
 have hZl:=block_lt gZ
 have hbeg:∀_:Unit,Calls Tryz.prog 81 #[.pointer (some ⟨m.B,0,none⟩)] W1 fun e W'=>∃(m':Hm) (c:Rec),e=.returned (.pointer (some ⟨c.R,0,none⟩))/\c.bg=(st:Nat)/\Ph W1 m' n/\FrN W1 m' c n d st 0 W':=fun _=>(begin_any (h.on E1) hf ht hu rfl).mono fun e W' q=>by
  obtain⟨m',c,O,q1,q2,q3,q4,q5⟩:=q.ex
  exact⟨m',c,q1,q5,ph_twin hP (h.on E1) q3,O,q2⟩
 obtain⟨q,hq⟩:∃q,mo / 4=q:=⟨_,rfl⟩
 have hq4:4<=q:=by omega
 have hlim:(mo:Int) / 4=(q:Int):=by omega
 replace hbeg:Hid _:=hbeg
 replace hq:Hid _:=hq
 replace hP:Hid _:=hP
 replace gZ:Hid _:=gZ
 replace E1:Hid _:=E1
 clear h ht hu hf
 go_enter Tryz.func55,Tryz.ntmps55
 go_wp2_with (go_at_call 81;refine(hbeg.out ()).mono ?_;rintro e w2 ⟨m',c,rfl,hbg,hP',hI⟩;refine Hid.out ?_)
 refine Lib.hid ?_
 replace hbg:Hid _:=hbg
 replace hP':Hid _:=hP'
 replace hI:Hid _:=hI
 go_wp2
 go_loopw [11] (fun x wr=>∃j:Nat,j<=2/\x=.int .i64 (j:Nat)/\Hid (FrN W1 m' c n d st j wr)) (fun x _=>4-(intOf x).toNat)
 case atStart=>exact⟨0,by omega,rfl,hI⟩
 case round =>
  clear hI
  obtain⟨j,hj,rfl,hI⟩:=hrel
  rename World=>v
  by_cases hj2:j=2
  ·subst hj2
   have h82:∀_:Unit,Calls Tryz.prog 82 #[.pointer (some ⟨c.R,0,none⟩)] v fun e W'=>e=.returned (.bool false)/\Hid (Below W.heap.size W W'):=fun _=>by
    obtain⟨O,hz⟩:=hI.out.ex
    exact(rec_out (hP'.out) (hz:Rz W1 m' (stS 7 [numV n,numV n,numV 1,boV false] (st+1+1)) c (SN 2) O v)).mono fun e W' k=>⟨k.1,ext_trans (ext_trans E1.out hz.mh.bl) k.2⟩
   have hZk:∀W',Below v.heap.size v W'->W'.heap[W.heap.size]?=some (.cells #[.int .i64 0,.int .i64 0,.slice none 0 0,.slice none 0 0] 102):=fun W' hb=>by
    obtain⟨O,hz⟩:=hI.out.ex
    exact block_below (ext_trans hz.mh.bl hb) gZ.out
   have h82':∀_:Unit,Calls Tryz.prog 82 #[.pointer (some ⟨c.R,0,none⟩)] v fun e W'=>e=.returned (.bool false)/\Hid (Below W.heap.size W W')/\W'.heap[W.heap.size]?=some (.cells #[.int .i64 0,.int .i64 0,.slice none 0 0,.slice none 0 0] 102):=fun _=>by
    obtain⟨O,hz⟩:=hI.out.ex
    exact(rec_out (hP'.out) (hz:Rz W1 m' (stS 7 [numV n,numV n,numV 1,boV false] (st+1+1)) c (SN 2) O v)).mono fun e W' k=>⟨k.1,ext_trans (ext_trans E1.out hz.mh.bl) k.2,hZk W' k.2⟩
   have hlt:(2:Int)<(q:Int):=by omega
   replace h82':Hid _:=h82'
   clear hI h82 hZk
   go_wp2_with (go_at_call 82;refine(h82'.out ()).mono ?_;rintro e w5 ⟨rfl,hb5,gZ5⟩;refine Hid.out ?_)
   refine Lib.hid ?_
   have s0:=cell_block (i:=0) gZ5 rfl
   have s1:=cell_block (i:=1) gZ5 rfl
   have s2:=cell_block (i:=2) gZ5 rfl
   have s3:=cell_block (i:=3) gZ5 rfl
   have y0:=frozen_block (i:=0) gZ5
   have y1:=frozen_block (i:=1) gZ5
   have y2:=frozen_block (i:=2) gZ5
   have y3:=frozen_block (i:=3) gZ5
   have gY:=set4_block (a:=.int .i64 0) (b:=.int .i64 0) (c:=.slice none 0 0) (d:=.slice none 0 0) gZ5
   have hEY:Below W.heap.size W ((((w5.setCell ⟨W.heap.size,0,none⟩ (.int .i64 0)).setCell ⟨W.heap.size,1,none⟩ (.int .i64 0)).setCell ⟨W.heap.size,2,none⟩ (.slice none 0 0)).setCell ⟨W.heap.size,3,none⟩ (.slice none 0 0)):=(((((hb5.out).setCell (p:=⟨W.heap.size,0,none⟩) (Nat.le_refl _) _).setCell (p:=⟨W.heap.size,1,none⟩) (Nat.le_refl _) _).setCell (p:=⟨W.heap.size,2,none⟩) (Nat.le_refl _) _).setCell (p:=⟨W.heap.size,3,none⟩) (Nat.le_refl _) _)
   have hres:FrQ W tr0 false (.returned (.tuple #[trv tr0 (.slice none 0 0) (.slice none 0 0),.bool false])) ((((w5.setCell ⟨W.heap.size,0,none⟩ (.int .i64 0)).setCell ⟨W.heap.size,1,none⟩ (.int .i64 0)).setCell ⟨W.heap.size,2,none⟩ (.slice none 0 0)).setCell ⟨W.heap.size,3,none⟩ (.slice none 0 0)):=⟨_,_,[],rfl,trV0 _ _,hEY⟩
   replace hres:Hid _:=hres
   replace gY:Hid _:=gY
   clear hEY hb5 gZ5 h82'
   go_wp2
   exact bodyPost_ret (res55 (Z:=W.heap.size) rfl rfl gY.out) rfl hres.out
  ·have hj1:j<2:=by omega
   have h82:∀_:Unit,Calls Tryz.prog 82 #[.pointer (some ⟨c.R,0,none⟩)] v fun e W'=>e=.returned (.bool true)/\Hid (FrN W1 m' c n d st (j+1) W'):=fun _=>by
    obtain⟨O,hz⟩:=hI.out.ex
    refine(nrec_step hP'.out hn hs hbg.out hj1 hz).mono fun e W' k=>?_
    obtain⟨O',z1,_⟩:=k.ex
    exact⟨k.e,O',z1⟩
   have htop:∀u,FrN W1 m' c n d st (j+1) u->Calls Tryz.prog 39 #[.pointer (some ⟨m'.B,0,none⟩)] u fun e W'=>e=.returned (.pointer (some ⟨m'.F,0,none⟩))/\Below u.heap.size u W':=fun u hu=>by
    obtain⟨O,hz⟩:=hu.ex
    exact(top0 hz.mh.cs.c2).mono fun e W' ⟨h1,k,h2⟩=>⟨h1,by rw[h2];exact drewN_below (Below.refl _ _)⟩
   obtain⟨pc,hpc⟩:∃pc:Int,(if j=0 then 4 else 7)=pc:=⟨_,rfl⟩
   have hlt:(j:Int)<(q:Int):=by omega
   replace h82:Hid _:=h82
   replace htop:Hid _:=htop
   replace hpc:Hid _:=hpc
   clear hI
   go_wp2_with (go_at_call 82;refine(h82.out ()).mono ?_;rintro e w3 ⟨rfl,hI3⟩;refine Hid.out ?_)
   refine Lib.hid ?_
   obtain⟨q0,q2,qF⟩:=(hI3.out.on (ext_drew (Below.refl _ _))).rd hj1
   rw[hpc.out]at qF
   have hC:∀u,Below w3.heap.size w3 u->u.cell? ⟨c.R,0,none⟩=some (.pointer (some ⟨m'.B,0,none⟩))/\u.cell? ⟨c.R,2,none⟩=some (.int .i64 3)/\u.cell? ⟨m'.F,1,none⟩=some (.int .i64 pc):=fun u hu=>by
    have:=(hI3.out.on hu).rd hj1
    rw[hpc.out]at this
    exact this
   replace hC:Hid _:=hC
   clear h82
   go_wp2
   go_region_held3 (fun u=>u.cell? ⟨c.R,0,none⟩=some (.pointer (some ⟨m'.B,0,none⟩))/\u.cell? ⟨c.R,2,none⟩=some (.int .i64 3)/\u.cell? ⟨m'.F,1,none⟩=some (.int .i64 pc)) (go_keep) (first|(go_at_call 39;refine(htop.out _ (hI3.out.on (ext_drew (Below.refl _ _)))).mono ?_;rintro e w4 ⟨rfl,hb4⟩;have E4:=ext_trans (ext_drew (Below.refl w3.heap.size w3)) hb4;obtain⟨u0,u2,uF⟩:=hC.out w4 E4))
   have hI4:Hid (FrN W1 m' c n d st (j+1) w4):=hI3.out.on E4
   have hpc3:(pc == 3)=false:=by
    rw[<- hpc.out]
    split <;> rfl
   clear q0 q2 qF u0 u2 uF hC htop hb4 E4 hI3
   go_wp2
   go_roundw
   case measure=>simp[intOf];omega
   case rel=>exact⟨j+1,by omega,by go_num,hI4⟩
end
end
end Go.Proofs.YthljpnmhddfblaaGreatDoor
