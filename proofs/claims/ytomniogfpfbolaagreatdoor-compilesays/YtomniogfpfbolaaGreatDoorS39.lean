import Derived.Test.YtomniogfpfbolaaGreatDoorS34
namespace Go.Proofs.YtomniogfpfbolaaGreatDoor
open Go.RowKit Go
set_option maxRecDepth 100000
set_option maxHeartbeats 8000000
set_option linter.all false
theorem b0m(fs:List (List UInt8)):∀(l:List (List UInt8)) (i:Nat) (x:List UInt8) (kv:List (List UInt8×Value)),a2p fs i (l++[x]) kv=(if ((a2p fs i l kv).lookup x).isSome then a2p fs i l kv else a2p fs i l kv++[(x,vi ((i+l.length:Nat):Int))])
 | [],i,x,kv=>by
  show a2p fs i [x] kv=_
  rw[a2p,a2p,a2p]
  rfl
 | y::l,i,x,kv=>by
  show a2p fs i (y::(l++[x])) kv=_
  rw[a2p,b0m fs l (i+1) x]
  rw[show a2p fs i (y::l) kv=a2p fs (i+1) l (if (kv.lookup y).isSome then kv else kv++[(y,vi (i:Nat))]) by rw[a2p]]
  rw[show i+1+l.length=i+(y::l).length by simp;omega]
def NI (B fm:Nat) (u:Nd) (ub:Option Addr) (uc:Nat) (W:World) (fs:List (List UInt8)) (j:Nat) (wr:World):Prop :=
 wr.heap[B]?=some (ckb u ub uc fm none 0 0 none 0 0 0)/\wr.heap[fm]?=some (a0f sk (a2p fs 0 (fs.take j) []))/\Bw W wr
theorem d3b(u:Nd)(ub:Option Addr)(uc:Nat)(W:World)(hN:NdV (low W) W u (ndv u ub uc))(hl:u.kids.length<=100000) :
  Cl 57 #[ndv u ub uc] W fun e W'=>∃B,e=.returned (Po B 0)/\∃fm O,Ck W B u ub uc fm O [] [] 0 W':=by
 obtain⟨k0,t0,n0,ks⟩:=u
 have hK:=KA.of hN
 simp only at hl
 have hb0:=q1z (Below.refl W.heap.size W) (nbx ⟨k0,t0,n0,ks⟩ ub uc)
 have hb1:=q1z hb0 (.map #[] 0)
 have gm:=a0a (W.alloc (nbx ⟨k0,t0,n0,ks⟩ ub uc)) (.map #[] 0)
 rw[World.size_alloc]at gm
 obtain⟨fm,hfm⟩:=exq (W.heap.size+1)
 rw[hfm]at gm
 have hb2:=q1z hb1 (ckb ⟨k0,t0,n0,ks⟩ ub uc fm none 0 0 none 0 0 0)
 have gB:=a0a ((W.alloc (nbx ⟨k0,t0,n0,ks⟩ ub uc)).alloc (.map #[] 0)) (ckb ⟨k0,t0,n0,ks⟩ ub uc fm none 0 0 none 0 0 0)
 simp only[World.size_alloc]at gB
 replace gm:=q4z (ckb ⟨k0,t0,n0,ks⟩ ub uc fm none 0 0 none 0 0 0) gm
 obtain⟨B,hB⟩:=exq (W.heap.size+1+1)
 rw[hB]at gB
 obtain⟨V,hV⟩:=exq (((W.alloc (nbx ⟨k0,t0,n0,ks⟩ ub uc)).alloc (.map #[] 0)).alloc (ckb ⟨k0,t0,n0,ks⟩ ub uc fm none 0 0 none 0 0 0))
 rw[hV]at gm gB hb2
 have hmk:∀wx:World,(Instr.makeMap 108 none).run Tryz.prog wx=.ok (.map (some wx.heap.size)) (wx.alloc (.map #[] 0)):=fun wx=>by kernel_rfl
 obtain⟨L,hL⟩:=exq (ks.length)
 obtain⟨fs,hfs⟩:=exq (ks.map Nd.t)
 have hI:NI B fm ⟨k0,t0,n0,ks⟩ ub uc W fs 0 V:=⟨gB,gm,hb2⟩
 have c3:V.cell? (Ad B 3)=some (.slice ub ks.length uc):=q2z gB rfl
 rw[hL]at c3 hl
 replace hL:Hid _:=hL
 replace hfs:Hid _:=hfs
 replace hK:Hid (KA (low W) W ub uc ks):=hK
 replace hB:Hid _:=hB
 replace hfm:Hid _:=hfm
 have hV':((W.alloc (.cells #[vi k0,sk t0,vi n0,.slice ub ks.length uc] 34)).alloc (.map #[] 0)).alloc (.cells #[vi k0,sk t0,vi n0,.slice ub ks.length uc,.map (some (W.heap.size+1)),.slice none 0 0,.slice none 0 0,vi 0] 111)=V:=by rw[hfm.out];exact hV
 replace hV:Hid _:=hV
 replace hV':Hid _:=hV'
 go_enter Tryz.func57,Tryz.ntmps57
 go_wp2
 try rw[hV'.out]
 try rw[hB.out]
 clear hmk hb0 hb1 gm gB hb2 c3
 go_loopw [18] (fun ix wr=>∃j:Nat,j<=L/\ix=vi (j:Nat)/\NI B fm ⟨k0,t0,n0,ks⟩ ub uc W fs j wr) (fun ix _=>L-(intOf ix).toNat)
 case atStart=>exact⟨0,Nat.zero_le _,rfl,hI⟩
 case round =>
  obtain⟨j,hj,rfl,gB,gm,hb⟩:=hrel
  clear hI
  by_cases hlt:j<L
  ·have hlt':(j:Int)<(L:Int):=by omega
   have hge:(0:Int)<=(j:Int):=by omega
   have hjk:j<ks.length:=by have:=hL.out;omega
   obtain⟨y,hy⟩:∃y,ks[j]?=some y:=⟨_,List.getElem?_eq_getElem hjk⟩
   obtain⟨g',off,b',cap',eb,v0,v1,v2,v3,hyV⟩:=KA.at hK.out hy
   subst eb
   have hgw:=World.block_lt_of_cell? _ _ v0
   simp only at hgw
   have hcell:∀i v,W.cell? (Ad g' i)=some v->wr.cell? (Ad g' i)=some v:=fun i v h=>(hb.cell (p:=(Ad g' i)) hgw).trans h
   replace v0:=hcell _ _ v0
   replace v1:=hcell _ _ v1
   replace v2:=hcell _ _ v2
   replace v3:=hcell _ _ v3
   have hyf:fs[j]?=some y.t:=by rw[<- hfs.out,List.getElem?_map,hy];rfl
   have htk:fs.take (j+1)=fs.take j++[y.t]:=by rw[List.take_add_one,hyf];rfl
   have hjl:(fs.take j).length=j:=by have:=(List.getElem?_eq_some_iff.1 hyf).1;simp;omega
   have hsn:=b0m fs (fs.take j) 0 y.t []
   rw[<- htk,hjl,Nat.zero_add]at hsn
   obtain⟨kv,hkv⟩:=exq (a2p fs 0 (fs.take j) [])
   rw[hkv]at gm hsn
   have hnd:(kv.map (·.1)).Nodup:=by rw[<- hkv];exact a6k _ _ _ _ (by simp)
   obtain⟨yk,yt,yn,ys⟩:=y
   simp only at v0 v1 v2 v3 hsn
   have hlB:=q5z gB
   have hlm:=q5z gm
   have c4:∀o,(wr.alloc o).cell? (Ad B 4)=some (.map (some fm)):=fun o=>q2z (q4z o gB) rfl
   have gmA:(wr.alloc (.cells #[vi yk,sk yt,vi yn,.slice b' ys.length cap'] 34)).drew.heap[fm]?=some (a0f sk kv):=q4z _ gm
   have hlook:=a5m (P:=Tryz.prog) (T:=108) (K:=9) (E:=3) (by kernel_rfl) (by kernel_rfl) a1j gmA hnd (z:=vi 0) (by kernel_rfl) yt true
   have hbA:Bw wr (wr.alloc (.cells #[vi yk,sk yt,vi yn,.slice b' ys.length cap'] 34)):=q1z bz0 _
   have hBW:W.heap.size<=fm:=by have:=hfm.out;omega
   have hBm:B≠fm:=by have:=hfm.out;have:=hB.out;omega
   cases hk:kv.lookup yt with
   | some v =>
    rw[hk]at hlook hsn
    simp only[if_true,Option.getD_some,Option.isSome_some]at hlook hsn
    have fin:Hid (NI B fm ⟨k0,t0,n0,ks⟩ (some (Ad g' off)) uc W fs (j+1) (wr.alloc (.cells #[vi yk,sk yt,vi yn,.slice b' ys.length cap'] 34)).drew):=⟨q4z _ gB,by rw[hsn];exact gmA,(q3z hb hbA).drew⟩
    obtain⟨vj,rfl⟩:∃vj,v=vi vj:=by
     rw[<- hkv,a7l]at hk
     simp only[List.lookup_nil]at hk
     obtain⟨q,_,rfl⟩:=Option.map_eq_some_iff.1 hk
     exact⟨_,rfl⟩
    clear hcell hyf htk hsn hkv hnd hyV hy gmA hk
    go_wp2
    go_region_with (fail)
    all_goals
     go_wp2
     go_roundw
     case rel=>exact⟨j+1,by omega,by go_num,fin.out⟩
     case measure=>simp[intOf];omega
   | none =>
    rw[hk]at hlook hsn
    simp only[if_true,Option.getD_none,Option.isSome_none,Bool.false_eq_true,if_false]at hlook hsn
    have gmB:(wr.alloc (.cells #[vi yk,sk yt,vi yn,.slice b' ys.length cap'] 34)).drew.drew.heap[fm]?=some (a0f sk kv):=gmA
    have hput:=a9p (P:=Tryz.prog) (T:=108) (K:=9) (E:=3) (by kernel_rfl) (by kernel_rfl) a1j gmB hnd yt hk (vi (j:Nat))
    obtain⟨V3,hV3⟩:∃V3:World,{ (wr.alloc (.cells #[vi yk,sk yt,vi yn,.slice b' ys.length cap'] 34)).drew.drew with heap:=(wr.alloc (.cells #[vi yk,sk yt,vi yn,.slice b' ys.length cap'] 34)).drew.drew.heap.setIfInBounds fm (a0f sk (kv++[(yt,vi (j:Nat))])) }=V3:=⟨_,rfl⟩
    rw[hV3]at hput
    have fin:Hid (NI B fm ⟨k0,t0,n0,ks⟩ (some (Ad g' off)) uc W fs (j+1) V3):=by
     refine⟨?_,?_,?_⟩
     ·rw[<- hV3]
      have:(wr.alloc (.cells #[vi yk,sk yt,vi yn,.slice b' ys.length cap'] 34)).heap[B]?=_:=q4z _ gB
      simp only[World.drew]
      rw[Array.getElem?_setIfInBounds_ne (Ne.symm hBm)]
      exact this
     ·rw[hsn,<- hV3]
      have hs:fm<(wr.alloc (.cells #[vi yk,sk yt,vi yn,.slice b' ys.length cap'] 34)).heap.size:=q5z gmA
      simp only[World.drew]
      rw[Array.getElem?_setIfInBounds_self_of_lt hs]
     ·have h1:Bw W (wr.alloc (.cells #[vi yk,sk yt,vi yn,.slice b' ys.length cap'] 34)).drew.drew:=((q3z hb hbA).drew).drew
      rw[<- hV3]
      exact⟨h1.os,h1.tape,h1.output,by simpa using h1.size,fun k hk=>by
       have:=h1.block k hk
       simp only[World.drew]at this⊢
       rw[Array.getElem?_setIfInBounds_ne (by omega)]
       exact this⟩
    clear hcell hyf htk hsn hkv hnd hyV hy gmA gmB hk hV3
    go_wp2
    go_region_with (fail)
    all_goals
     go_wp2
     go_region_with (fail)
     all_goals
      go_wp2
      go_roundw
      case rel=>exact⟨j+1,by omega,by go_num,fin.out⟩
      case measure=>simp[intOf];omega
  ·have hlt':¬(j:Int)<(L:Int):=by omega
   have hjL:j=L:=by omega
   subst hjL
   have htk:fs.take j=fs:=List.take_of_length_le (by rw[<- hfs.out];simp;exact Nat.le_of_eq hL.out)
   rw[htk]at gm
   have hjk:¬j<ks.length:=by have:=hL.out;omega
   have hjk':¬(j:Int)<(ks.length:Int):=by omega
   go_wp2
   go_ret
   refine⟨B,rfl,fm,fun k=>k=B,⟨none,0,none,0,[],gB,⟨rfl,.inl ⟨rfl,rfl⟩⟩,⟨rfl,.inl ⟨rfl,rfl⟩⟩,trivial,List.nodup_nil,fun q e=>by simp[Value.ownBlock]at e,fun q e=>by simp[Value.ownBlock]at e,fun m hm=>by simp at hm⟩,rfl,fun k hk=>?_,⟨_,by show _=a2p (ks.map Nd.t) 0 (ks.map Nd.t) [];rw[hfs.out],gm⟩,?_,hb⟩
   ·subst hk
    exact⟨by have:=hB.out;omega,q5z gB⟩
   ·have:=hfm.out
    have:=hB.out
    omega
end Go.Proofs.YtomniogfpfbolaaGreatDoor
