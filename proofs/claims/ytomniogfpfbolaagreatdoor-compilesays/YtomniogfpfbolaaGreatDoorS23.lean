import Derived.Test.YtomniogfpfbolaaGreatDoorS22
namespace Go.Proofs.YtomniogfpfbolaaGreatDoor
open Go.RowKit Go
set_option maxRecDepth 100000
set_option maxHeartbeats 8000000
set_option linter.all false
variable {ks:List Nd} {j m i B:Nat} {y:Nd} {d c b a e:Value} {S:Nat->Prop} {W w:World} {tm:Array Value} {p:List UInt8×Int×Nat} {seen:Array Nat} {kv:List (Int×Value)}
theorem b2i(a b:List Nd):a1l.go (a++b)=max (a1l.go a) (a1l.go b):=by
 induction a with
 | nil=>simp[a1l.go]
 | cons x l ih=>simp only[List.cons_append,a1l.go,ih];omega
theorem a2m(a b:List Nd):manyN.go (a++b)=manyN.go a+manyN.go b:=by
 induction a with
 | nil=>simp[manyN.go]
 | cons x l ih=>simp only[List.cons_append,manyN.go,ih];omega
theorem a6w(h:ks[j]?=some y):ks=ks.take j++y::ks.drop (j+1):=by
 obtain⟨z,rfl⟩:=List.getElem?_eq_some_iff.1 h
 rw[<- List.drop_eq_getElem_cons z,List.take_append_drop]
theorem a7z(h:ks[j]?=some y):ks.take (j+1)=ks.take j++[y]:=by
 rw[List.take_add_one,h];rfl
theorem b7q(n:Nd):a1l n=a1l.go n.kids+1:=by cases n;rfl
theorem a2n(n:Nd):manyN n=manyN.go n.kids+1:=by cases n;rfl
theorem a1g(l:List Nd):l.length<=manyN.go l:=by
 induction l with
 | nil=>simp
 | cons x l ih =>
  have:1<=manyN x:=by rw[a2n];omega
  simp only[manyN.go,List.length_cons]
  omega
def spZ (d m:Nat) (n:Nd):Int:=if a1l n<=d/\manyN n<=m then (m:Int)-(manyN n:Nat) else -1
theorem b3z{d:Nat}{n:Nd}(h:¬(a1l n<=d/\manyN n<=m)):spZ d m n=-1:=if_neg h
theorem a9g{c:Nat->Option Value}(h:NdAt S W y c):∃b cap,c 0=some (vi y.k)/\c 1=some (sk y.t)/\c 2=some (vi y.n)/\c 3=some (.slice b y.kids.length cap)/\NdV S W y (ndv y b cap):=by
 obtain⟨k,t,n,kids⟩:=y
 rw[NdAt]at h
 obtain⟨z,h1,h2,b,cap,h3,h4,h5⟩:=h
 refine⟨b,cap,z,h1,h2,h3,_,_,_,_,rfl,?_⟩
 rw[NdAt]
 exact⟨rfl,rfl,rfl,b,cap,rfl,h4,h5⟩
theorem c7f{v:Value}(h:tm[6]?.getD undef=v):(results Tryz.f80 tm).run Tryz.prog W=.ok v W:=by
 simp[results,Tryz.results80,go_sem,h]
theorem c3a(d:Nat):d<=14->∀(m:Nat) (S:Nat->Prop) (n:Nd) (b:Option Addr) (cap:Nat) (w:World),m<=600->NdV S w n (ndv n b cap)->Cl 80 #[ndv n b cap,vi (d:Nat),vi (m:Nat)] w fun e w'=>e=.returned (vi (spZ d m n))/\Bw w w':=by
 induction d with
 | zero =>
  intro _ m S n b cap w hm hn
  rw[b3z (by rw[b7q];omega)]
  go_enter Tryz.func80,Tryz.ntmps80
  go_wp2
  exact bodyPost_ret (c7f rfl) rfl ⟨rfl,q1z bz0 _⟩
 | succ d ih =>
  intro hd m S n b cap w hm hn
  have hq1:((d:Int)+1 == 0)=false:=by simp;omega
  by_cases h0:m=0
  ·subst h0
   rw[b3z (by rw[a2n];omega)]
   go_enter Tryz.func80,Tryz.ntmps80
   go_wp2
   exact bodyPost_ret (c7f rfl) rfl ⟨rfl,q1z bz0 _⟩
  obtain⟨k,rfl⟩:∃k,m=k+1:=⟨m-1,by omega⟩
  have hq2:((k:Int)+1 == 0)=false:=by simp;omega
  rw[show((d+1:Nat):Int)=(d:Int)+1 by omega,show((k+1:Nat):Int)=(k:Int)+1 by omega]
  obtain⟨b2,cap2,e2,hcap,hkids⟩:=hn.form
  have e3:b2=b/\cap2=cap:=by
   simp only[Value.agg.injEq,Array.mk.injEq,List.cons.injEq,Value.slice.injEq,and_true,true_and]at e2
   exact⟨e2.1.symm,e2.2.symm⟩
  obtain⟨rfl,rfl⟩:=e3
  have hds:a1l n=a1l.go n.kids+1:=b7q n
  have hms:manyN n=manyN.go n.kids+1:=a2n n
  obtain⟨ks,hks⟩:=exq (n.kids)
  rw[hks]at hds hms hcap hkids
  have hlen:n.kids.length=ks.length:=by rw[hks]
  obtain⟨L,hL⟩:=exq (ks.length)
  rw[hL]at hlen hcap
  obtain⟨V,hV⟩:=exq (spZ (d+1) (k+1) n)
  rw[hV]
  have hb0:=q1z (Below.refl w.heap.size w) (.cells #[vi n.k,sk n.t,vi n.n,.slice b2 L cap2] 34)
  clear e2 hn
  replace hds:Hid _:=hds
  replace hms:Hid _:=hms
  replace hV:Hid _:=hV
  replace hL:Hid _:=hL
  replace hks:Hid _:=hks
  replace hkids:Hid _:=hkids
  go_enter Tryz.func80,Tryz.ntmps80
  go_wp2
  go_loopw [2,20] (fun nn ix wr=>∃j k':Nat,j<=L/\ix=vi (j:Nat)/\nn=vi (k':Nat)/\k'+manyN.go (ks.take j)=k/\a1l.go (ks.take j)<=d/\Bw w wr) (fun _ ix _=>L-(intOf ix).toNat)
  case atStart=>exact⟨0,k,by omega,rfl,by go_num,by simp[manyN.go],by simp[a1l.go],hb0⟩
  case round =>
   obtain⟨j,k',hj,rfl,rfl,hs,hdp,hbw⟩:=hrel
   replace hs:Hid _:=hs
   replace hdp:Hid _:=hdp
   by_cases hlt:j<L
   ·have hlt':(j:Int)<(L:Int):=by omega
    obtain⟨y,hy⟩:∃y,ks[j]?=some y:=⟨_,List.getElem?_eq_getElem (show j<ks.length by have:=hL.out;omega)⟩
    rcases hkids.out with h|⟨g,off,rfl,hSg,hkd⟩
    ·rw[h]at hy
     simp at hy
    obtain⟨b',cap',v0,v1,v2,v3,hyV⟩:=a9g (hkd j y hy)
    have c0:Ce wr g (off+j*4) (vi y.k):=cellB hbw v0
    have c1:=cellB hbw v1
    have c2:=cellB hbw v2
    have c3:=cellB hbw v3
    have hjk:j<=k:=by
     have:=a1g (ks.take j)
     have:=hs.out
     have:=hL.out
     simp at *
     omega
    have hk':k'<=600:=by have:=hs.out;omega
    have hcall:=ih (by omega) k' S y b' cap' (wr.alloc (nbx y b' cap')) hk' ((hyV.below hbw).below (q1z bz0 _))
    have hbw1:=q1z hbw (nbx y b' cap')
    by_cases hok:a1l y<=d/\manyN y<=k'
    ·have e:spZ d k' y=((k'-manyN y:Nat):Int):=by unfold spZ;rw[if_pos hok];omega
     rw[e]at hcall
     have hn1:k'-manyN y+manyN.go (ks.take (j+1))=k:=by
      have:=hs.out
      rw[a7z hy,a2m]
      simp[manyN.go]
      omega
     have hn2:a1l.go (ks.take (j+1))<=d:=by
      have:=hdp.out
      rw[a7z hy,b2i]
      simp[a1l.go]
      omega
     obtain⟨k2,hk2⟩:=exq (k'-manyN y)
     rw[hk2]at hcall hn1
     replace hn1:Hid _:=hn1
     replace hn2:Hid _:=hn2
     have hnn:¬(k2:Int)<0:=by omega
     clear v0 v1 v2 v3 hyV hy hkd hk2 e hok ih
     go_wp2_with (go_at_call 80;refine hcall.mono ?_;rintro e w1 ⟨rfl,hb1⟩)
     go_roundw
     case rel=>exact⟨j+1,k2,by omega,by go_num,rfl,hn1.out,hn2.out,q3z hbw1 hb1⟩
     case measure=>simp[intOf];omega
    ·have e:spZ d k' y=-1:=b3z hok
     rw[e]at hcall
     have hVm:V=-1:=by
      rw[<- hV.out]
      refine b3z fun h=>hok ?_
      have h1:=hs.out
      have h3:=hds.out
      have h4:=hms.out
      rw[a6w hy,b2i]at h3
      rw[a6w hy,a2m]at h4
      simp only[a1l.go,manyN.go]at h3 h4
      omega
     subst hVm
     clear v0 v1 v2 v3 hyV hy hkd e hok ih
     go_wp2_with (go_at_call 80;refine hcall.mono ?_;rintro e w1 ⟨rfl,hb1⟩)
     exact bodyPost_ret (c7f rfl) rfl ⟨rfl,q3z hbw1 hb1⟩
   ·have hge:¬(j:Int)<(L:Int):=by omega
    have:V=(k':Int):=by
     have:=hV.out
     have e:j=ks.length:=by have:=hL.out;omega
     have h1:=hs.out
     have h2:=hdp.out
     rw[e,List.take_length]at h1 h2
     have h3:=hds.out
     have h4:=hms.out
     unfold spZ at this
     rw[if_pos ⟨by omega,by omega⟩]at this
     omega
    subst this
    go_wp2
    exact bodyPost_ret (c7f rfl) rfl ⟨rfl,hbw⟩
def fitB (n:Nd):Bool:=decide (a1l n<=14/\manyN n<=600)
theorem b7r(S:Nat->Prop)(n:Nd)(b:Option Addr)(cap:Nat)(w:World)(hn:NdV S w n (ndv n b cap)):Cl 55 #[ndv n b cap] w fun e t=>e=.returned (.bool (fitB n))/\Bw w t:=by
 have y:=q1z (Below.refl w.heap.size w) (nbx n b cap)
 have x:=c3a 14 (by omega) 600 S n b cap (w.alloc (nbx n b cap)) (by omega) (hn.below y)
 obtain⟨c0,c1,c2,c3,_,_,_,_⟩:=in4 (a0a w (nbx n b cap))
 unfold fitB
 by_cases h:a1l n<=14/\manyN n<=600
 ·rw[decide_eq_true h]
  have e:spZ 14 600 n=((600-manyN n:Nat):Int):=by unfold spZ;rw[if_pos h];omega
  rw[e]at x
  obtain⟨v,u⟩:=exq (600-manyN n)
  rw[u]at x
  clear u e
  have s:(0:Int)<=(v:Int):=by omega
  go_enter Tryz.func55,Tryz.ntmps55
  go_wp2_with (go_at_call 80;refine x.mono ?_;rintro e w1 ⟨rfl,z⟩)
  go_ret
  exact⟨rfl,q3z y z⟩
 ·rw[decide_eq_false h]
  rw[b3z h]at x
  go_enter Tryz.func55,Tryz.ntmps55
  go_wp2_with (go_at_call 80;refine x.mono ?_;rintro e w1 ⟨rfl,z⟩)
  go_ret
  exact⟨rfl,q3z y z⟩
def d1l (n:Nd):Prop:=∀(m:Nat) (S:Nat->Prop) (b:Option Addr) (cap:Nat) (w:World),m<=600->NdV S w n (ndv n b cap)->Cl 47 #[ndv n b cap,vi (m:Nat)] w fun e w'=>e=.returned (vi ((min (manyN n) (m+1):Nat):Int))/\Bw w w'
theorem c3b(k0:Int)(t0:List UInt8)(n0:Int)(ks:List Nd)(ih:∀y∈ks,d1l y):d1l ⟨k0,t0,n0,ks⟩:=by
 intro m S b cap w hm hn
 obtain⟨b2,cap2,e2,hcap,hkids⟩:=hn.form
 simp only at e2 hcap hkids
 have e3:b2=b/\cap2=cap:=by
  simp only[Value.agg.injEq,Array.mk.injEq,List.cons.injEq,Value.slice.injEq,and_true,true_and]at e2
  exact⟨e2.1.symm,e2.2.symm⟩
 obtain⟨rfl,rfl⟩:=e3
 have hms:manyN ⟨k0,t0,n0,ks⟩=manyN.go ks+1:=rfl
 obtain⟨V,hV⟩:=exq (min (manyN ⟨k0,t0,n0,ks⟩) (m+1))
 rw[hV]
 rw[hms]at hV
 dsimp only[ndv]
 obtain⟨L,hL⟩:=exq (ks.length)
 rw[hL]at hcap⊢
 have hb0:=q1z (Below.refl w.heap.size w) (.cells #[vi k0,sk t0,vi n0,.slice b2 L cap2] 34)
 have g0:=a0a w (.cells #[vi k0,sk t0,vi n0,.slice b2 L cap2] 34)
 clear e2 hn hms
 replace hV:Hid _:=hV
 replace hL:Hid _:=hL
 replace hkids:Hid _:=hkids
 go_enter Tryz.func47,Tryz.ntmps47
 go_wp2
 go_loopw [5,6] (fun kk ix wr=>∃j k':Nat,j<=L/\ix=vi (j:Nat)/\kk=vi (k':Nat)/\k'=min (1+manyN.go (ks.take j)) (m+1)/\Bw w wr/\wr.heap[w.heap.size]?=some (.cells #[vi k0,sk t0,vi n0,.slice b2 L cap2] 34)) (fun _ ix _=>L-(intOf ix).toNat)
 case atStart=>exact⟨0,1,by omega,rfl,rfl,by simp[manyN.go],hb0,g0⟩
 case round =>
  obtain⟨j,k',hj,rfl,rfl,hs,hbw,gw⟩:=hrel
  have hk':k'<=m+1:=by omega
  replace hs:Hid _:=hs
  obtain⟨q0,q1,q2,q3,_,_,_,_⟩:=in4 gw
  by_cases hlt:j<L
  ·have hlt':(j:Int)<(L:Int):=by omega
   by_cases hle:k'<=m
   ·have hle':(k':Int)<=(m:Int):=by omega
    obtain⟨y,hy⟩:∃y,ks[j]?=some y:=⟨_,List.getElem?_eq_getElem (show j<ks.length by have:=hL.out;omega)⟩
    rcases hkids.out with h|⟨g,off,rfl,hSg,hkd⟩
    ·rw[h]at hy
     simp at hy
    obtain⟨b',cap',v0,v1,v2,v3,hyV⟩:=a9g (hkd j y hy)
    have c0:Ce wr g (off+j*4) (vi y.k):=cellB hbw v0
    have c1:=cellB hbw v1
    have c2:=cellB hbw v2
    have c3:=cellB hbw v3
    have hkj:k'=1+manyN.go (ks.take j):=by have:=hs.out;omega
    have hjk:j<=600:=by
     have:=a1g (ks.take j)
     have:=hL.out
     simp at *
     omega
    have hcall:=ih y (List.mem_of_getElem? hy) (m-k') S b' cap' wr (by omega) (hyV.below hbw)
    rw[show((m-k':Nat):Int)=(m:Int)-(k':Int) by omega]at hcall
    have hnew:k'+min (manyN y) (m-k'+1)=min (1+manyN.go (ks.take (j+1))) (m+1):=by
     rw[a7z hy,a2m]
     simp only[manyN.go]
     omega
    obtain⟨mo,hmo⟩:=exq (min (manyN y) (m-k'+1))
    have hmo2:mo<=601:=by omega
    rw[hmo]at hcall hnew
    replace hnew:Hid _:=hnew
    clear v0 v1 v2 v3 hyV hy hkd ih hmo hkj
    go_wp2_with (go_at_call 47;refine hcall.mono ?_;rintro e w1 ⟨rfl,hb1⟩)
    go_roundw
    case rel=>exact⟨j+1,k'+mo,by omega,by go_num,by go_num,hnew.out,q3z hbw hb1,q0z hb1 gw⟩
    case measure=>simp[intOf];omega
   ·have hle':¬(k':Int)<=(m:Int):=by omega
    have hVk:V=k':=by
     rw[<- hV.out]
     have h1:=hs.out
     obtain⟨y,hy⟩:∃y,ks[j]?=some y:=⟨_,List.getElem?_eq_getElem (show j<ks.length by have:=hL.out;omega)⟩
     have:=congrArg manyN.go (a6w hy)
     rw[a2m]at this
     omega
    subst hVk
    go_wp2
    go_ret
    exact⟨rfl,hbw⟩
  ·have hge:¬(j:Int)<(L:Int):=by omega
   have hVk:V=k':=by
    rw[<- hV.out]
    have h1:=hs.out
    have e:j=ks.length:=by have:=hL.out;omega
    rw[e,List.take_length]at h1
    omega
   subst hVk
   go_wp2
   go_ret
   exact⟨rfl,hbw⟩
theorem c7g(n:Nd):d1l n:=a3x c3b n
def d1m (n:Nd):Prop:=∀(m:Nat) (S:Nat->Prop) (b:Option Addr) (cap:Nat) (w:World),m<=14->manyN n<=600->NdV S w n (ndv n b cap)->Cl 48 #[ndv n b cap,vi (m:Nat)] w fun e w'=>e=.returned (vi ((min (a1l n) (m+1):Nat):Int))/\Bw w w'
theorem c3c(k0:Int)(t0:List UInt8)(n0:Int)(ks:List Nd)(ih:∀y∈ks,d1m y):d1m ⟨k0,t0,n0,ks⟩:=by
 intro m S b cap w hm hmx hn
 obtain⟨b2,cap2,e2,hcap,hkids⟩:=hn.form
 simp only at e2 hcap hkids
 have e3:b2=b/\cap2=cap:=by
  simp only[Value.agg.injEq,Array.mk.injEq,List.cons.injEq,Value.slice.injEq,and_true,true_and]at e2
  exact⟨e2.1.symm,e2.2.symm⟩
 obtain⟨rfl,rfl⟩:=e3
 have hms:a1l ⟨k0,t0,n0,ks⟩=a1l.go ks+1:=rfl
 have hmx:manyN.go ks+1<=600:=hmx
 obtain⟨V,hV⟩:=exq (min (a1l ⟨k0,t0,n0,ks⟩) (m+1))
 rw[hV]
 rw[hms]at hV
 dsimp only[ndv]
 obtain⟨L,hL⟩:=exq (ks.length)
 rw[hL]at hcap⊢
 have hb0:=q1z (Below.refl w.heap.size w) (.cells #[vi k0,sk t0,vi n0,.slice b2 L cap2] 34)
 have g0:=a0a w (.cells #[vi k0,sk t0,vi n0,.slice b2 L cap2] 34)
 have hLx:L<=600:=by have:=a1g ks;omega
 clear e2 hn hms
 replace hmx:Hid _:=hmx
 replace hV:Hid _:=hV
 replace hL:Hid _:=hL
 replace hkids:Hid _:=hkids
 go_enter Tryz.func48,Tryz.ntmps48
 go_wp2
 go_loopw [5,6] (fun kk ix wr=>∃j k':Nat,j<=L/\ix=vi (j:Nat)/\kk=vi (k':Nat)/\k'=min (a1l.go (ks.take j)) m/\Bw w wr/\wr.heap[w.heap.size]?=some (.cells #[vi k0,sk t0,vi n0,.slice b2 L cap2] 34)) (fun _ ix _=>L-(intOf ix).toNat)
 case atStart=>exact⟨0,0,by omega,rfl,rfl,by simp[a1l.go],hb0,g0⟩
 case round =>
  obtain⟨j,k',hj,rfl,rfl,hs,hbw,gw⟩:=hrel
  have hk':k'<=m:=by omega
  replace hs:Hid _:=hs
  obtain⟨q0,q1,q2,q3,_,_,_,_⟩:=in4 gw
  by_cases hlt:j<L
  ·have hlt':(j:Int)<(L:Int):=by omega
   by_cases hm0:0<m
   ·have hm0':(0:Int)<(m:Int):=by omega
    have hle':(k':Int)<=(m:Int):=by omega
    obtain⟨y,hy⟩:∃y,ks[j]?=some y:=⟨_,List.getElem?_eq_getElem (show j<ks.length by have:=hL.out;omega)⟩
    rcases hkids.out with h|⟨g,off,rfl,hSg,hkd⟩
    ·rw[h]at hy
     simp at hy
    obtain⟨b',cap',v0,v1,v2,v3,hyV⟩:=a9g (hkd j y hy)
    have c0:wr.cell? (Ad g (off+j*4))=some (vi y.k):=cellB hbw v0
    have c1:=cellB hbw v1
    have c2:=cellB hbw v2
    have c3:=cellB hbw v3
    have hym:manyN y<=600:=by
     have h1:=hmx.out
     have h2:=congrArg manyN.go (a6w hy)
     rw[a2m]at h2
     simp only[manyN.go]at h2
     omega
    have hcall:=ih y (List.mem_of_getElem? hy) (m-1) S b' cap' wr (by omega) hym (hyV.below hbw)
    rw[show((m-1:Nat):Int)=(m:Int)-1 by omega,show m-1+1=m by omega]at hcall
    have hnew:max k' (min (a1l y) m)=min (a1l.go (ks.take (j+1))) m:=by
     have:=hs.out
     rw[a7z hy,b2i]
     simp only[a1l.go]
     omega
    obtain⟨mo,hmo⟩:=exq (min (a1l y) m)
    have hmo2:mo<=15:=by omega
    rw[hmo]at hcall hnew
    obtain⟨k2,hk2⟩:=exq (max k' mo)
    rw[hk2]at hnew
    have hmax:max (k':Int) (mo:Int)=(k2:Int):=by omega
    replace hnew:Hid _:=hnew
    clear v0 v1 v2 v3 hyV hy hkd ih hmo hk2
    go_wp2_with (go_at_call 48;refine hcall.mono ?_;rintro e w1 ⟨rfl,hb1⟩)
    go_roundw
    case rel=>exact⟨j+1,k2,by omega,by go_num,by go_num,hnew.out,q3z hbw hb1,q0z hb1 gw⟩
    case measure=>simp[intOf];omega
   ·have hm0':¬(0:Int)<(m:Int):=by omega
    have hVk:V=k'+1:=by
     rw[<- hV.out]
     have h1:=hs.out
     omega
    subst hVk
    go_wp2
    go_ret
    exact⟨rfl,hbw⟩
  ·have hge:¬(j:Int)<(L:Int):=by omega
   have hVk:V=k'+1:=by
    rw[<- hV.out]
    have h1:=hs.out
    have e:j=ks.length:=by have:=hL.out;omega
    rw[e,List.take_length]at h1
    omega
   subst hVk
   go_wp2
   go_ret
   exact⟨rfl,hbw⟩
theorem c7h(n:Nd):d1m n:=a3x c3c n
theorem c3d(S:Nat->Prop)(n:Nd)(b:Option Addr)(cap:Nat)(w:World)(hn:NdV S w n (ndv n b cap)):Cl 31 #[ndv n b cap] w fun e o=>e=.returned (.bool (fitB n))/\Bw w o:=by
 have y:=q1z (Below.refl w.heap.size w) (nbx n b cap)
 have t:=c7g n 600 S b cap (w.alloc (nbx n b cap)) (by omega) (hn.below y)
 obtain⟨c0,c1,c2,c3,_,_,_,_⟩:=in4 (a0a w (nbx n b cap))
 have g0:=a0a w (nbx n b cap)
 unfold fitB
 by_cases hm:manyN n<=600
 ·rw[show min (manyN n) (600+1)=manyN n by omega]at t
  have hd:=fun u (i:Below (w.alloc (nbx n b cap)).heap.size (w.alloc (nbx n b cap)) u)=>c7h n 14 S b cap u (by omega) hm ((hn.below y).below i)
  have p:decide (a1l n<=14/\manyN n<=600)=decide (min (a1l n) (14+1)<=14):=decide_eq_decide.2 (by omega)
  rw[p]
  obtain⟨v,q⟩:=exq (min (a1l n) (14+1))
  rw[q]at hd⊢
  obtain⟨x,r⟩:=exq (manyN n)
  rw[r]at t hm
  have l:¬(600:Int)<(x:Int):=by omega
  clear p q r
  go_enter Tryz.func31,Tryz.ntmps31
  go_wp2_with (first|(go_at_call 47;refine t.mono ?_;rintro e w1 ⟨rfl,z⟩;have g1:=q0z z g0;obtain⟨c,d,f,g,_,_,_,_⟩:=in4 g1)|(go_at_call 48;refine(hd _ z).mono ?_;rintro e a ⟨rfl,s⟩))
  go_ret
  exact⟨show Ending.returned (Value.bool (decide ((v:Int)<=14)))=Ending.returned (Value.bool (decide (v<=14))) from congrArg (fun x=>Ending.returned (Value.bool x)) (decide_eq_decide.2 (by omega)),q3z (q3z y z) s⟩
 ·rw[show min (manyN n) (600+1)=601 by omega]at t
  rw[decide_eq_false (fun h=>hm h.2)]
  go_enter Tryz.func31,Tryz.ntmps31
  go_wp2_with (go_at_call 47;refine t.mono ?_;rintro e w1 ⟨rfl,z⟩)
  go_ret
  exact⟨rfl,q3z y z⟩
theorem c3e{k0:Int}{t0:List UInt8}{n0:Int}{b:Option Addr}{cap:Nat}(hn:NdV S W ⟨k0,t0,n0,ks⟩ (ndv ⟨k0,t0,n0,ks⟩ b cap)):ks.length<=cap/\(ks=[]\/∃g w,b=some (Ad g w)/\S g/\∀j y,ks[j]?=some y->NdAt S W y (fun i=>W.cell? (Ad g (w+j*4+i)))):=by
 obtain⟨s,v,u,x,z⟩:=hn.form
 simp only at u x z
 have t:s=b/\v=cap:=by
  simp only[Value.agg.injEq,Array.mk.injEq,List.cons.injEq,Value.slice.injEq,and_true,true_and]at u
  exact⟨u.1.symm,u.2.symm⟩
 obtain⟨rfl,rfl⟩:=t
 exact⟨x,z⟩
theorem b4a{c:Code}{P:Program}{a:Act}{Q:Exit->Act->World->Prop}{R:Act->World->Prop}(h:∀x:Exit->Act->World->Prop,(∀y z,R y z->x .normal y z)->c.wp P x a w)(hq:∀y z,R y z->Q .normal y z):c.wp P Q a w:=h Q hq
theorem b9m(p q:Addr)(w:World) :
  CallsD Tryz.prog 77 #[.pointer (some p),.pointer (some q)] .returning w fun e v z=>e=.returned (.tuple #[])/\v=.returning/\z=w:=by
 refine callsD_of_wpS Tryz.func77 rfl fun u cs y=>?_
 apply wpS_seq
 apply wpS_region
 simp[wpOpsS,go_sem,recoverD,y,Tryz.ntmps77,Exit.thenS]
 refine wpS_of_wp ?_
 refine b4a (R:=fun x z=>x.defers=[]/\z=w) (fun Q t=>?_) ?_
 ·clear y
  have hf:#[Value.pointer (some p),.pointer (some q)]++(Array.replicate 18 undef).setIfInBounds 4 Value.nilIface=#[.pointer (some p),.pointer (some q),undef,undef,undef,undef,.nilIface,undef,undef,undef,undef,undef,undef,undef,undef,undef,undef,undef,undef,undef]:=by kernel_rfl
  rw[hf]
  clear hf
  go_wp2
 ·rintro x z ⟨h1,rfl⟩
  cases u
  simp_all [bodyPostS,results,Tryz.results77]
theorem b6d(b:Nat)(q:Addr)(a:Int)(A0 A1:Value)(older:List PanicEntry)(w:World)(hc:w.heap[b]?=some (.cells #[A0,A1] 27)) :
  CallsD Tryz.prog 77 #[Po b 0,.pointer (some q)] (.panicking ({ v:=.iface 123 (.agg #[vi a]),recovered:=false } :: older)) w fun e t z=>e=.returned (.tuple #[])/\t=.panicking ({ v:=.iface 123 (.agg #[vi a]),recovered:=true } :: older)/\z=((w.setCell (Ad b 0) (vi 2)).setCell (Ad b 1) (vi a)).alloc (.cells #[vi a] 123):=by
 have n:=q5z hc
 have c0:=q2z (i:=0) hc rfl
 have c1:=q2z (i:=1) hc rfl
 have f0:=q6z (i:=0) hc
 have f1:=q6z (i:=1) hc
 have o:¬b=w.heap.size:=by omega
 have r:∀u:World,(Instr.typeAssert (.iface 123 (.agg #[vi a])) 20 123 true).run Tryz.prog u=.ok (.tuple #[.agg #[vi a],.bool true]) u:=fun _=>by kernel_rfl
 have p:¬w.heap.size=b:=by omega
 refine callsD_of_wpS Tryz.func77 rfl fun s cs y=>?_
 apply wpS_seq
 apply wpS_region
 simp[wpOpsS,go_sem,recoverD,y,Tryz.ntmps77,Exit.thenS]
 refine wpS_of_wp ?_
 refine b4a (R:=fun x z=>x.defers=[]/\z=((w.setCell (Ad b 0) (vi 2)).setCell (Ad b 1) (vi a)).alloc (.cells #[vi a] 123)) (fun Q l=>?_) ?_
 ·clear y
  have hf:#[Value.pointer (some (Ad b 0)),.pointer (some q)]++(Array.replicate 18 undef).setIfInBounds 4 (Value.iface 123 (.agg #[vi a]))=#[Po b 0,.pointer (some q),undef,undef,undef,undef,.iface 123 (.agg #[vi a]),undef,undef,undef,undef,undef,undef,undef,undef,undef,undef,undef,undef,undef]:=by kernel_rfl
  rw[hf]
  clear hf hc
  go_wp2
 ·rintro x z ⟨h1,rfl⟩
  cases s
  simp_all [bodyPostS,results,Tryz.results77]
theorem b6e(b:Nat)(q:Addr)(a:Int)(A0 A1:Value)(older:List PanicEntry)(w:World)(hc:w.heap[b]?=some (.cells #[A0,A1] 27))(hq:w.cell? q=some (vi a))(hq0:∃g,q=(Ad g 0)) :
  CallsD Tryz.prog 77 #[Po b 0,.pointer (some q)] (.panicking ({ v:=.iface 125 (.agg #[]),recovered:=false } :: older)) w fun e t z=>e=.returned (.tuple #[])/\t=.panicking ({ v:=.iface 125 (.agg #[]),recovered:=true } :: older)/\z=((w.setCell (Ad b 0) (vi 2)).setCell (Ad b 1) (vi a)).alloc (.cells #[] 125):=by
 have f:=q5z hc
 have c0:=q2z (i:=0) hc rfl
 have c1:=q2z (i:=1) hc rfl
 have f0:=q6z (i:=0) hc
 have f1:=q6z (i:=1) hc
 have h:¬b=w.heap.size:=by omega
 obtain⟨g,rfl⟩:=hq0
 have s:=fun o=>cellB (q1z (Below.refl _ w) o) hq
 have n:∀u:World,(Instr.typeAssert (.iface 125 (.agg #[])) 20 123 true).run Tryz.prog u=.ok (.tuple #[.agg #[vi 0],.bool false]) u:=fun _=>by kernel_rfl
 have p:∀u:World,(Instr.typeAssert (.iface 125 (.agg #[])) 20 125 true).run Tryz.prog u=.ok (.tuple #[.agg #[],.bool true]) u:=fun _=>by kernel_rfl
 have l:¬w.heap.size=b:=by omega
 refine callsD_of_wpS Tryz.func77 rfl fun r cs y=>?_
 apply wpS_seq
 apply wpS_region
 simp[wpOpsS,go_sem,recoverD,y,Tryz.ntmps77,Exit.thenS]
 refine wpS_of_wp ?_
 refine b4a (R:=fun x z=>x.defers=[]/\z=((w.setCell (Ad b 0) (vi 2)).setCell (Ad b 1) (vi a)).alloc (.cells #[] 125)) (fun Q d=>?_) ?_
 ·clear y
  have hf:#[Value.pointer (some (Ad b 0)),Po g 0]++(Array.replicate 18 undef).setIfInBounds 4 (Value.iface 125 (.agg #[]))=#[Po b 0,Po g 0,undef,undef,undef,undef,.iface 125 (.agg #[]),undef,undef,undef,undef,undef,undef,undef,undef,undef,undef,undef,undef,undef]:=by kernel_rfl
  rw[hf]
  clear hf hc
  go_wp2
 ·rintro x z ⟨h1,rfl⟩
  cases r
  simp_all [bodyPostS,results,Tryz.results77]
theorem a2u{T K E:TypeId}{d:TypeDesc}{α:Type}[BEq α][LawfulBEq α]{kf:α->Value}(ht:Tryz.prog.underlying T=some (.map K E))(hK:Tryz.prog.underlying K=some d)(hk:KeyK d kf)(kv:List (α×Value))(hd:(kv.map (·.1)).Nodup)(k:α)(hn:kv.lookup k=none)(v:Value)(kv':List (α×Value))(hkv:kv++[(k,v)]=kv') :
  (Instr.mapUpdate T (.map (some w.heap.size)) (kf k) v).run Tryz.prog (w.alloc (a0f kf kv))=.ok () (w.alloc (a0f kf kv')):=by
 subst hkv
 refine(a9p ht hK hk (a0a w _) hd k hn v).trans ?_
 have z:∀(h:Array Obj) (x y:Obj),(h.push x).setIfInBounds h.size y=h.push y:=by
  intro h x y
  apply Array.toList_inj.1
  simp
 show Result.ok () ({ w.alloc (a0f kf kv)with heap:=(w.heap.push (a0f kf kv)).setIfInBounds w.heap.size (a0f kf (kv++[(k,v)])) } : World)=_
 rw[z]
 rfl
theorem mk46(u:World):(Instr.makeMap 127 none).run Tryz.prog u=.ok (.map (some u.heap.size)) (u.alloc (a0f sk [])):=by kernel_rfl
theorem mk45(u:World):(Instr.makeMap 126 none).run Tryz.prog u=.ok (.map (some u.heap.size)) (u.alloc (a0f sk [])):=by kernel_rfl
theorem mk48(u:World):(Instr.makeMap 108 none).run Tryz.prog u=.ok (.map (some u.heap.size)) (u.alloc (a0f sk [])):=by kernel_rfl
theorem mk47(u:World):(Instr.makeMap 128 none).run Tryz.prog u=.ok (.map (some u.heap.size)) (u.alloc (a0f ik [])):=by kernel_rfl
theorem b9n(w:World):Cl 106 #[] w fun e w'=>e=.returned (.map (some w.heap.size))/\w'=w.alloc (a0f sk a0d):=by
 have h:=mk46 w
 obtain⟨O0,l⟩:=exq (a0f sk (a0d.take 0))
 obtain⟨O1,n⟩:=exq (a0f sk (a0d.take 1))
 obtain⟨O2,p⟩:=exq (a0f sk (a0d.take 2))
 obtain⟨O3,q⟩:=exq (a0f sk (a0d.take 3))
 obtain⟨O4,r⟩:=exq (a0f sk (a0d.take 4))
 obtain⟨O5,s⟩:=exq (a0f sk (a0d.take 5))
 obtain⟨a,t⟩:=exq (a0f sk (a0d.take 6))
 obtain⟨b,u⟩:=exq (a0f sk (a0d.take 7))
 obtain⟨c,v⟩:=exq (a0f sk (a0d.take 8))
 obtain⟨d,x⟩:=exq (a0f sk (a0d.take 9))
 obtain⟨i,y⟩:=exq (a0f sk (a0d.take 10))
 obtain⟨g,z⟩:=exq (a0f sk (a0d.take 11))
 rw[show([]:List (List UInt8×Value))=a0d.take 0 from rfl,l]at h
 have z0:(Instr.mapUpdate 127 (.map (some w.heap.size)) (.string ⟨#[111,114]⟩) (.agg #[vi 21,vi 1])).run Tryz.prog (w.alloc O0)=.ok () (w.alloc O1):=l▸n▸a2u Tryz.underlying127 Tryz.underlying9 a1j (a0d.take 0) (by decide) [111,114] rfl _ _ rfl
 have z1:(Instr.mapUpdate 127 (.map (some w.heap.size)) (.string ⟨#[97,110,100]⟩) (.agg #[vi 20,vi 2])).run Tryz.prog (w.alloc O1)=.ok () (w.alloc O2):=n▸p▸a2u Tryz.underlying127 Tryz.underlying9 a1j (a0d.take 1) (by decide) [97,110,100] rfl _ _ rfl
 have z2:(Instr.mapUpdate 127 (.map (some w.heap.size)) (.string ⟨#[61,61]⟩) (.agg #[vi 7,vi 3])).run Tryz.prog (w.alloc O2)=.ok () (w.alloc O3):=p▸q▸a2u Tryz.underlying127 Tryz.underlying9 a1j (a0d.take 2) (by decide) [61,61] rfl _ _ rfl
 have z3:(Instr.mapUpdate 127 (.map (some w.heap.size)) (.string ⟨#[60]⟩) (.agg #[vi 8,vi 3])).run Tryz.prog (w.alloc O3)=.ok () (w.alloc O4):=q▸r▸a2u Tryz.underlying127 Tryz.underlying9 a1j (a0d.take 3) (by decide) [60] rfl _ _ rfl
 have z4:(Instr.mapUpdate 127 (.map (some w.heap.size)) (.string ⟨#[60,61]⟩) (.agg #[vi 9,vi 3])).run Tryz.prog (w.alloc O4)=.ok () (w.alloc O5):=r▸s▸a2u Tryz.underlying127 Tryz.underlying9 a1j (a0d.take 4) (by decide) [60,61] rfl _ _ rfl
 have z5:(Instr.mapUpdate 127 (.map (some w.heap.size)) (.string ⟨#[46,46]⟩) (.agg #[vi 6,vi 4])).run Tryz.prog (w.alloc O5)=.ok () (w.alloc a):=s▸t▸a2u Tryz.underlying127 Tryz.underlying9 a1j (a0d.take 5) (by decide) [46,46] rfl _ _ rfl
 have z6:(Instr.mapUpdate 127 (.map (some w.heap.size)) (.string ⟨#[43]⟩) (.agg #[vi 1,vi 5])).run Tryz.prog (w.alloc a)=.ok () (w.alloc b):=t▸u▸a2u Tryz.underlying127 Tryz.underlying9 a1j (a0d.take 6) (by decide) [43] rfl _ _ rfl
 have z7:(Instr.mapUpdate 127 (.map (some w.heap.size)) (.string ⟨#[45]⟩) (.agg #[vi 2,vi 5])).run Tryz.prog (w.alloc b)=.ok () (w.alloc c):=u▸v▸a2u Tryz.underlying127 Tryz.underlying9 a1j (a0d.take 7) (by decide) [45] rfl _ _ rfl
 have z8:(Instr.mapUpdate 127 (.map (some w.heap.size)) (.string ⟨#[42]⟩) (.agg #[vi 3,vi 6])).run Tryz.prog (w.alloc c)=.ok () (w.alloc d):=v▸x▸a2u Tryz.underlying127 Tryz.underlying9 a1j (a0d.take 8) (by decide) [42] rfl _ _ rfl
 have z9:(Instr.mapUpdate 127 (.map (some w.heap.size)) (.string ⟨#[47]⟩) (.agg #[vi 4,vi 6])).run Tryz.prog (w.alloc d)=.ok () (w.alloc i):=x▸y▸a2u Tryz.underlying127 Tryz.underlying9 a1j (a0d.take 9) (by decide) [47] rfl _ _ rfl
 have f:(Instr.mapUpdate 127 (.map (some w.heap.size)) (.string ⟨#[37]⟩) (.agg #[vi 5,vi 6])).run Tryz.prog (w.alloc i)=.ok () (w.alloc g):=y▸z▸a2u Tryz.underlying127 Tryz.underlying9 a1j (a0d.take 10) (by decide) [37] rfl _ _ rfl
 rw[show a0d=a0d.take 11 from rfl,z]
 clear l n p q r s t u v x y z
 go_enter Tryz.func106,Tryz.ntmps106
 go_wp2
 go_ret
 exact⟨rfl,rfl⟩
def spv (p:List UInt8×Int×Nat):Value:=.agg #[.string ⟨p.1.toArray⟩,vi ((p.2.2+1:Nat):Int)]
structure Sp (seen:Array Nat) (kv:List (Int×Value)):Prop where
 nodup:(kv.map (·.1)).Nodup
 from_:∀q∈kv,∃j p,opsL[j]?=some p/\seen.contains j=true/\q=(p.2.1,spv p)
 all:∀j p,opsL[j]?=some p->seen.contains j=true->(p.2.1,spv p)∈kv
theorem c7i:Sp #[] []:=⟨by simp,fun q hq=>by simp at hq,fun j p _ h=>by simp at h⟩
theorem d1n:∀i,i<11->∀j,j<11->(opsL.getD i ([],0,0)).2.1=(opsL.getD j ([],0,0)).2.1->i=j:=by decide
theorem b7s{q:List UInt8×Int×Nat}(hi:opsL[i]?=some p)(hj:opsL[j]?=some q)(h:p.2.1=q.2.1):i=j:=by
 have y:opsL.getD i ([],0,0)=p:=by simp[List.getD,hi]
 have z:opsL.getD j ([],0,0)=q:=by simp[List.getD,hj]
 exact d1n i (List.getElem?_eq_some_iff.1 hi).1 j (List.getElem?_eq_some_iff.1 hj).1 (by rw[y,z];exact h)
theorem Sp.new(h:Sp seen kv)(hj:opsL[j]?=some p)(hs:seen.contains j=false):kv.lookup p.2.1=none:=a6b fun q hq e=>by
 obtain⟨i,x,y,z,rfl⟩:=h.from_ q hq
 have:=b7s y hj e
 subst this
 rw[hs]at z
 cases z
theorem Sp.step(h:Sp seen kv)(hj:opsL[j]?=some p)(hs:seen.contains j=false):Sp (seen.push j) (kv++[(p.2.1,spv p)]):=by
 refine⟨?_,fun q hq=>?_,fun i x y z=>?_⟩
 ·rw[List.map_append,List.nodup_append]
  refine⟨h.nodup,by simp,?_⟩
  intro a u b v e
  simp at v
  subst v
  subst e
  obtain⟨q,hq,w⟩:=List.mem_map.1 u
  obtain⟨i,x,y,z,rfl⟩:=h.from_ q hq
  have:=b7s y hj w
  subst this
  rw[hs]at z
  cases z
 ·rcases List.mem_append.1 hq with hq|hq
  ·obtain⟨i,x,y,z,rfl⟩:=h.from_ q hq
   exact⟨i,x,y,by rw[contains_push,z];rfl,rfl⟩
  ·simp at hq
   exact⟨j,p,hj,by rw[contains_push];simp,hq⟩
 ·rw[contains_push]at z
  by_cases e:i=j
  ·subst e
   rw[hj]at y
   cases y
   simp
  ·have:seen.contains i=true:=by simpa[e]using z
   exact List.mem_append.2 (.inl (h.all i x y this))
theorem Sp.done(h:Sp seen kv)(ha:∀j,j<11->seen.contains j=true):c2f kv:=by
 refine⟨h.nodup,fun o=>?_⟩
 unfold opOf
 cases hf:opsL.find? (fun p=>p.2.1 == o) with
 | none =>
  rw[a6b]
  ·rfl
  intro q hq e
  obtain⟨i,y,u,x,rfl⟩:=h.from_ q hq
  have:=List.find?_eq_none.1 hf y (List.mem_of_getElem? u)
  simp at this
  exact this e
 | some p =>
  have v:=List.mem_of_find?_eq_some hf
  have w:p.2.1=o:=by simpa using List.find?_some hf
  obtain⟨j,z⟩:=List.getElem?_of_mem v
  have:=h.all j p z (ha j (List.getElem?_eq_some_iff.1 z).1)
  rw[w]at this
  rw[b1w h.nodup this]
  rfl
abbrev ES:Array MapEntry:=ents sk a0d
theorem d5h{e:MapEntry}(h:e∈ES.toList):∃j p,opsL[j]?=some p/\e={ key:=sk p.1,val:=.agg #[vi p.2.1,vi ((p.2.2+1:Nat):Int)],born:=j }:=by
 obtain⟨i,q,hq,rfl⟩:=b1v h
 unfold a0d at hq
 rw[List.getElem?_map]at hq
 cases ho:opsL[i]? with
 | none=>rw[ho]at hq;cases hq
 | some p =>
  rw[ho]at hq
  obtain rfl:=Option.some.inj hq
  exact⟨i,p,ho,rfl⟩
theorem d1o:∀x∈ES.toList,x.born<11:=fun x z=>by
 obtain⟨j,p,y,rfl⟩:=d5h z
 exact(List.getElem?_eq_some_iff.1 y).1
theorem c7j:(ES.toList.map (·.born)).Nodup:=by
 have:ES.toList.map (·.born)=List.range 11:=by rfl
 rw[this]
 exact List.nodup_range
theorem d1p(h:(leftOf ES seen).size=0):∀j,j<11->seen.contains j=true:=fun j x=>by
 obtain⟨p,z⟩:∃p,a0d[j]?=some p:=⟨_,List.getElem?_eq_getElem (show j<a0d.length from x)⟩
 have y:=b7c (kf:=sk) z
 cases hc:seen.contains j with
 | true=>rfl
 | false =>
  have:({ key:=sk p.1,val:=p.2,born:=j } : MapEntry)∈leftOf ES seen:=by
   unfold leftOf
   rw[Array.mem_filter]
   exact⟨Array.mem_toList_iff.1 y,by show(!seen.contains j)=true;rw[hc];rfl⟩
  rw[Array.eq_empty_of_size_eq_zero h]at this
  simp at this
abbrev a5b (w : World) : Prop := Lib.TabIs Tryz.prog w "strings.asciiSpace" .u8 Lib.asciiSpaceTab
theorem a5b.below{u:World}(h:a5b w)(hb:Bw w u):a5b u:=by
 have x : Tryz.prog.globalNamed "strings.asciiSpace" = some 0 := by kernel_rfl
 unfold a5b Lib.TabIs World.var? at h⊢
 rw[x]at h⊢
 simp only[Option.bind_some]at h⊢
 have z:0<w.heap.size:=by
  rcases Nat.lt_or_ge 0 w.heap.size with y|y
  ·exact y
  ·rw[Array.getElem?_eq_none y]at h
   cases h
 rw[hb.block 0 z]
 exact h
abbrev b2j:ByteArray:=⟨#[97,110,100,32,100,111,32,101,108,115,101,32,101,109,105,116,32,101,110,100,32,102,97,108,115,101,32,102,111,114,32,102,117,110,99,116,105,111,110,32,105,102,32,108,111,99,97,108,32,110,101,120,116,32,110,105,108,32,110,111,116,32,111,114,32,114,101,116,117,114,110,32,116,104,101,110,32,116,114,117,101,32,119,104,105,108,101]⟩
theorem b9o:Lib.fields b2j.data.toList=a0j:=by decide
theorem c3f:∀(j:Nat) b,b2j.data.toList[j]?=some b->b.toNat<128:=fun j b h=>by
 have:b2j.data.toList.all (fun b=>decide (b.toNat<128))=true:=by decide
 simpa using List.all_eq_true.1 this b (List.mem_of_getElem? h)
theorem c7k(s:List UInt8)(l:List (List UInt8))(h:l.contains s=false):(l.map fun s=>(s,Value.agg #[])).lookup s=none:=a6b fun p y e=>by
 obtain⟨x,z,rfl⟩:=List.mem_map.1 y
 simp only at e
 subst e
 rw[List.contains_iff_mem.2 z]at h
 cases h
theorem d1q:∀i,i<18->(a0j.take i).contains (a0j.getD i [])=false:=by decide
theorem c3g:∀i,i<19->(a0j.take i).Nodup:=by decide
theorem d1r{wr:World}{m1:Nat}{s:List UInt8}(hs:a0j[i]?=some s)(hm:wr.heap[m1]?=some (a0f sk (a0z.take i))):(Instr.mapUpdate 126 (.map (some m1)) (sk s) (.agg #[])).run Tryz.prog wr=.ok () { wr with heap:=wr.heap.setIfInBounds m1 (a0f sk (a0z.take (i+1))) }:=by
 have v:i<18:=(List.getElem?_eq_some_iff.1 hs).1
 have y:a0z.take i=(a0j.take i).map fun s=>(s,Value.agg #[]):=by unfold a0z;rw[List.map_take]
 have t:a0j.getD i []=s:=by simp[List.getD,hs]
 have u:a0z.take i++[(s,Value.agg #[])]=a0z.take (i+1):=by
  rw[List.take_add_one]
  congr 1
  unfold a0z
  rw[List.getElem?_map,hs]
  rfl
 have z:=a9p (P:=Tryz.prog) (w:=wr) (T:=126) (K:=9) (E:=124) (kf:=sk) (kv:=a0z.take i) (B:=m1) Tryz.underlying126 Tryz.underlying9 a1j hm (by rw[y,List.map_map,show((fun x:List UInt8×Value=>x.1) ∘ fun s=>(s,Value.agg #[]))=id from rfl,List.map_id];exact c3g i (by omega)) s (by rw[y];exact c7k s _ (t▸d1q i v)) (.agg #[])
 rw[u]at z
 exact z
abbrev put5 (W:World) (B:Nat) (a b c d e:Value):World:=(put4 W B a b c d).setCell (Ad B 4) e
theorem put5_self(W:World)(B:Nat)(a b c d e:Value):a0b (fun k=>k=B) W (put5 W B a b c d e):=(a1o W B a b c d).set B 4 e (fun _=>rfl)
theorem put5_same(a' b' c' d' e':Value)(h:W.heap[B]?=some (.cells #[a,b,c,d,e] 130)):(put5 W B a' b' c' d' e').heap[B]?=some (.cells #[a',b',c',d',e'] 130):=q7z _ (q7z _ (q7z _ (q7z _ (q7z _ h))))
theorem d5i(h:tm[0]?.getD undef=Po B 0)(hx:W.heap[B]?=some (.cells #[a,b,c,d,e] 130)):(results Tryz.f78 tm).run Tryz.prog W=.ok (.agg #[a,b,c,d,e]) W:=by
 have c0:Ce W B 0 a:=q2z hx rfl
 have c1:Ce W B 1 b:=q2z hx rfl
 have c2:Ce W B 2 c:=q2z hx rfl
 have c3:Ce W B 3 d:=q2z hx rfl
 have c4:Ce W B 4 e:=q2z hx rfl
 simp[results,Tryz.results78,go_sem,h,c0,c1,c2,c3,c4]
theorem b4b{r:Nat}{a:Option Nat}{b:Nat}{s:Array Nat}{c:Nat}(h:W.heap[r]?=some (.mapIter a b s c)):W.iterSeen r=s:=by
 unfold World.iterSeen
 rw[h]
theorem a4x(W:World)(m:Nat)(o:Obj):a0b (fun q=>q=m) W { W with heap:=W.heap.setIfInBounds m o }:=⟨rfl,rfl,rfl,by simp,fun k z hn=>by
 show(W.heap.setIfInBounds m o)[k]?=_
 rw[Array.getElem?_setIfInBounds]
 rw[if_neg (fun e=>hn e.symm)]⟩
theorem a8a{o o':Obj}(h:W.heap[m]?=some o'):({ W with heap:=W.heap.setIfInBounds m o } : World).heap[m]?=some o:=by
 have:=q5z h
 show(W.heap.setIfInBounds m o)[m]?=_
 rw[Array.getElem?_setIfInBounds,if_pos rfl,if_pos this]
theorem a8y(w:World)(hT:a5b w):Cl 78 #[] w fun e w'=>∃m1 m2 m3 m4 m5,e=.returned (.agg #[.map (some m1),.map (some m2),.map (some m3),.map (some m4),.map (some m5)])/\Wd w' w'.heap.size m1 m2 m3 m4 m5/\Bw w w':=by
 have z1:=a0a w (.cells #[.map none,.map none,.map none,.map none,.map none] 130)
 have b1:=q1z (Below.refl w.heap.size w) (.cells #[.map none,.map none,.map none,.map none,.map none] 130)
 obtain⟨A1,hA1⟩:=exq (w.alloc (.cells #[.map none,.map none,.map none,.map none,.map none] 130))
 have s1:A1.heap.size=w.heap.size+1:=by rw[<- hA1];simp
 rw[hA1]at z1 b1
 have z2:=a0a A1 (a0f sk [])
 have b2:=q1z b1 (a0f sk [])
 have x2:=q1z (Below.refl A1.heap.size A1) (a0f sk [])
 obtain⟨A2,hA2⟩:=exq (A1.alloc (a0f sk []))
 have s2:A2.heap.size=w.heap.size+1+1:=by rw[<- hA2,World.size_alloc,s1]
 rw[hA2,s1]at z2
 rw[hA2]at b2 x2
 have k1:=mk45 A1
 rw[hA2,s1]at k1
 have z3:=a0a A2 (a0f sk a0d)
 have b3:=q1z b2 (a0f sk a0d)
 have x3:=q1z (Below.refl A2.heap.size A2) (a0f sk a0d)
 obtain⟨A3,hA3⟩:=exq (A2.alloc (a0f sk a0d))
 have s3:A3.heap.size=w.heap.size+1+1+1:=by rw[<- hA3,World.size_alloc,s2]
 rw[hA3,s2]at z3
 rw[hA3]at b3 x3
 have c2:=b9n A2
 rw[hA3,s2]at c2
 have z4:=a0a A3 (a0f ik [])
 have b4:=q1z b3 (a0f ik [])
 have x4:=q1z (Below.refl A3.heap.size A3) (a0f ik [])
 obtain⟨A4,hA4⟩:=exq (A3.alloc (a0f ik []))
 have s4:A4.heap.size=w.heap.size+1+1+1+1:=by rw[<- hA4,World.size_alloc,s3]
 rw[hA4,s3]at z4
 rw[hA4]at b4 x4
 have k3:=mk47 A3
 rw[hA4,s3]at k3
 obtain⟨O40,hO40⟩:=exq (a0f sk (a1n.take 0))
 obtain⟨O41,hO41⟩:=exq (a0f sk (a1n.take 1))
 obtain⟨O42,hO42⟩:=exq (a0f sk (a1n.take 2))
 obtain⟨O43,hO43⟩:=exq (a0f sk (a1n.take 3))
 have k4:=mk48 A4
 rw[show([]:List (List UInt8×Value))=a1n.take 0 from rfl,hO40,s4]at k4
 have p40:(Instr.mapUpdate 108 (.map (some (w.heap.size+1+1+1+1))) (.string ⟨#[45]⟩) (vi 24)).run Tryz.prog (A4.alloc O40)=.ok () (A4.alloc O41):=s4▸hO40▸hO41▸a2u Tryz.underlying108 Tryz.underlying9 a1j (a1n.take 0) (by decide) [45] rfl _ _ rfl
 have p41:(Instr.mapUpdate 108 (.map (some (w.heap.size+1+1+1+1))) (.string ⟨#[110,111,116]⟩) (vi 23)).run Tryz.prog (A4.alloc O41)=.ok () (A4.alloc O42):=s4▸hO41▸hO42▸a2u Tryz.underlying108 Tryz.underlying9 a1j (a1n.take 1) (by decide) [110,111,116] rfl _ _ rfl
 have p42:(Instr.mapUpdate 108 (.map (some (w.heap.size+1+1+1+1))) (.string ⟨#[35]⟩) (vi 25)).run Tryz.prog (A4.alloc O42)=.ok () (A4.alloc O43):=s4▸hO42▸hO43▸a2u Tryz.underlying108 Tryz.underlying9 a1j (a1n.take 2) (by decide) [35] rfl _ _ rfl
 have z5:=a0a A4 (a0f sk a1n)
 have b5:=q1z b4 (a0f sk a1n)
 have x5:=q1z (Below.refl A4.heap.size A4) (a0f sk a1n)
 obtain⟨A5,hA5⟩:=exq (A4.alloc (a0f sk a1n))
 have s5:A5.heap.size=w.heap.size+1+1+1+1+1:=by rw[<- hA5,World.size_alloc,s4]
 rw[hA5,s4]at z5
 rw[hA5]at b5 x5
 rw[show a1n=a1n.take 3 from rfl,hO43]at hA5
 clear hO40 hO41 hO42 hO43
 obtain⟨O50,hO50⟩:=exq (a0f sk (a0s.take 0))
 obtain⟨O51,hO51⟩:=exq (a0f sk (a0s.take 1))
 obtain⟨O52,hO52⟩:=exq (a0f sk (a0s.take 2))
 obtain⟨O53,hO53⟩:=exq (a0f sk (a0s.take 3))
 have k5:=mk48 A5
 rw[show([]:List (List UInt8×Value))=a0s.take 0 from rfl,hO50,s5]at k5
 have p50:(Instr.mapUpdate 108 (.map (some (w.heap.size+1+1+1+1+1))) (.string ⟨#[110,105,108]⟩) (vi 15)).run Tryz.prog (A5.alloc O50)=.ok () (A5.alloc O51):=s5▸hO50▸hO51▸a2u Tryz.underlying108 Tryz.underlying9 a1j (a0s.take 0) (by decide) [110,105,108] rfl _ _ rfl
 have p51:(Instr.mapUpdate 108 (.map (some (w.heap.size+1+1+1+1+1))) (.string ⟨#[116,114,117,101]⟩) (vi 16)).run Tryz.prog (A5.alloc O51)=.ok () (A5.alloc O52):=s5▸hO51▸hO52▸a2u Tryz.underlying108 Tryz.underlying9 a1j (a0s.take 1) (by decide) [116,114,117,101] rfl _ _ rfl
 have p52:(Instr.mapUpdate 108 (.map (some (w.heap.size+1+1+1+1+1))) (.string ⟨#[102,97,108,115,101]⟩) (vi 17)).run Tryz.prog (A5.alloc O52)=.ok () (A5.alloc O53):=s5▸hO52▸hO53▸a2u Tryz.underlying108 Tryz.underlying9 a1j (a0s.take 2) (by decide) [102,97,108,115,101] rfl _ _ rfl
 have z6:=a0a A5 (a0f sk a0s)
 have b6:=q1z b5 (a0f sk a0s)
 have x6:=q1z (Below.refl A5.heap.size A5) (a0f sk a0s)
 obtain⟨A6,hA6⟩:=exq (A5.alloc (a0f sk a0s))
 have s6:A6.heap.size=w.heap.size+1+1+1+1+1+1:=by rw[<- hA6,World.size_alloc,s5]
 rw[hA6,s5]at z6
 rw[hA6]at b6 x6
 rw[show a0s=a0s.take 3 from rfl,hO53]at hA6
 clear hO50 hO51 hO52 hO53
 have hB6:=b6
 have hz2:A6.heap[w.heap.size+1]?=some (a0f sk []):=q0z x6 (q0z x5 (q0z x4 (q0z x3 z2)))
 have hz3:A6.heap[w.heap.size+1+1]?=some (a0f sk a0d):=q0z x6 (q0z x5 (q0z x4 z3))
 have hz4:A6.heap[w.heap.size+1+1+1]?=some (a0f ik []):=q0z x6 (q0z x5 z4)
 have hz5:A6.heap[w.heap.size+1+1+1+1]?=some (a0f sk a1n):=q0z x6 z5
 have hz1:A6.heap[w.heap.size]?=some (.cells #[.map none,.map none,.map none,.map none,.map none] 130):=q0z x6 (q0z x5 (q0z x4 (q0z x3 (q0z x2 z1))))
 go_enter Tryz.func78,Tryz.ntmps78
 go_wp2_with (first|(go_at_call 106;refine c2.mono ?_;rintro e w1 ⟨rfl,rfl⟩)|(go_at_call 107;refine Hid.out ?_))
 clear c2 k1 k3 k4 k5 p40 p41 p42 p50 p51 p52 hA1 hA2 hA3 hA4 hA5 hA6 z1 z2 z3 z4 z5 x2 x3 x4 x5 x6 b1 b2 b3 b4 b5 b6 s1 s2 s3 s4 s5
 have xb:=q1z (Below.refl A6.heap.size A6) (.cells #[.map (some (w.heap.size+1)),.map (some (w.heap.size+1+1)),.map (some (w.heap.size+1+1+1)),.map (some (w.heap.size+1+1+1+1)),.map (some (w.heap.size+1+1+1+1+1))] 130)
 have zb:=a0a A6 (.cells #[.map (some (w.heap.size+1)),.map (some (w.heap.size+1+1)),.map (some (w.heap.size+1+1+1)),.map (some (w.heap.size+1+1+1+1)),.map (some (w.heap.size+1+1+1+1+1))] 130)
 obtain⟨U,hU⟩:=exq (A6.alloc (.cells #[.map (some (w.heap.size+1)),.map (some (w.heap.size+1+1)),.map (some (w.heap.size+1+1+1)),.map (some (w.heap.size+1+1+1+1)),.map (some (w.heap.size+1+1+1+1+1))] 130))
 have sU:U.heap.size=w.heap.size+1+1+1+1+1+1+1:=by rw[<- hU,World.size_alloc,s6]
 rw[hU]at xb zb⊢
 rw[s6]at zb
 have hBU:=q3z hB6 xb
 replace hz1:=q0z xb hz1
 replace hz2:=q0z xb hz2
 replace hz3:=q0z xb hz3
 replace hz4:=q0z xb hz4
 replace hz5:=q0z xb hz5
 replace z6:=q0z xb z6
 have hF:=Tryz.strings_Fields b2j U (by decide) c3f (hT.below hBU)
 rw[b9o,show a0j.length=18 from rfl]at hF
 have hst:=a0a U (.cells ((a0j.map fun l=>Value.string ⟨l.toArray⟩).toArray) 9)
 have xs:=q1z (Below.refl U.heap.size U) (.cells ((a0j.map fun l=>Value.string ⟨l.toArray⟩).toArray) 9)
 obtain⟨V,hV⟩:=exq (U.alloc (.cells ((a0j.map fun l=>Value.string ⟨l.toArray⟩).toArray) 9))
 rw[hV]at hF hst xs
 have sV:V.heap.size=w.heap.size+1+1+1+1+1+1+1+1:=by rw[<- hV,World.size_alloc,sU]
 have hBV:=q3z hBU xs
 replace hz1:=q0z xs hz1
 replace hz2:=q0z xs hz2
 replace hz3:=q0z xs hz3
 replace hz4:=q0z xs hz4
 replace hz5:=q0z xs hz5
 replace z6:=q0z xs z6
 replace zb:=q0z xs zb
 obtain⟨c,hc⟩:=exq (U.heap.size)
 rw[hc]at hF hst
 rw[hc]at sU
 clear hU hV xs xb hc hBU hB6 s6 hT
 obtain⟨tb,htb⟩:=exq (w.heap.size+1+1+1+1+1+1)
 rw[htb]at zb sU sV⊢
 obtain⟨m5,hm5⟩:=exq (w.heap.size+1+1+1+1+1)
 rw[hm5]at zb z6 htb⊢
 obtain⟨m4,hm4⟩:=exq (w.heap.size+1+1+1+1)
 rw[hm4]at zb hz5 hm5⊢
 obtain⟨m3,hm3⟩:=exq (w.heap.size+1+1+1)
 rw[hm3]at zb hz4 hm4⊢
 obtain⟨m2,hm2⟩:=exq (w.heap.size+1+1)
 rw[hm2]at zb hz3 hm3⊢
 obtain⟨m1,hm1⟩:=exq (w.heap.size+1)
 rw[hm1]at zb hz2 hm2⊢
 refine Lib.hid ?_
 go_wp2_with (go_at_call 107;refine hF.mono ?_;rintro e w1 ⟨rfl,hwV⟩)
 subst hwV
 subst sU
 go_loopw [16] (fun ix wr=>∃i:Nat,i<=18/\ix=vi (i:Nat)/\wr.heap[m1]?=some (a0f sk (a0z.take i))/\a0b (fun q=>q=m1) w1 wr) (fun ix _=>18-(intOf ix).toNat)
 case atStart=>exact⟨0,by omega,rfl,hz2,a0b.refl _ _⟩
 case round =>
  obtain⟨i,hi,rfl,hm,hk⟩:=hrel
  have hbx:=hk.box zb (by omega)
  have y0:Ce wr tb 0 (.map (some m1)):=q2z hbx rfl
  have y1:Ce wr tb 1 (.map (some m2)):=q2z hbx rfl
  by_cases hlt:i<18
  ·obtain⟨s,hs⟩:∃s,a0j[i]?=some s:=⟨_,List.getElem?_eq_getElem (show i<a0j.length from hlt)⟩
   have hlt':(i:Int)<18:=by omega
   have hcell:Ce wr (tb+1) i (sk s):=hk.cell (q2z hst (by simp[hs])) (by omega)
   have hp:=d1r hs hm
   have hk2:=a4x wr m1 (a0f sk (a0z.take (i+1)))
   have hm2':=a8a (o:=a0f sk (a0z.take (i+1))) hm
   obtain⟨W',hW'⟩:=exq (({ wr with heap:=wr.heap.setIfInBounds m1 (a0f sk (a0z.take (i+1))) } : World))
   rw[hW']at hp hk2 hm2'
   clear hW' hs hbx
   go_wp2
   go_roundw
   case rel=>exact⟨i+1,by omega,by go_num,hm2',hk.then hk2 (fun q _ e=>e)⟩
   case measure=>simp[intOf];omega
  ·have hge:¬(i:Int)<18:=by omega
   obtain rfl:i=18:=by omega
   have hbm:wr.heap[m2]?=some (.map ES 11):=hk.box hz3 (by omega)
   have hr:=run_range_map (P:=Tryz.prog) wr 127 9 154 m2 ES 11 Tryz.underlying127 hbm
   have hit:=a0a wr (.mapIter (some m2) 11 #[] 11)
   have xit:=q1z (Below.refl wr.heap.size wr) (.mapIter (some m2) 11 #[] 11)
   have hzm3:=q0z xit (hk.box hz4 (by omega))
   have hbm':=q0z xit hbm
   have hbx':=q0z xit hbx
   have hzr:w1.heap.size<=wr.heap.size:=hk.size
   have hX1:=q0z xit hm
   have hX4:=q0z xit (hk.box hz5 (by omega))
   have hX5:=q0z xit (hk.box z6 (by omega))
   have hXa:=q0z xit (hk.box hz1 (by omega))
   have hK0:a0b no w (wr.alloc (.mapIter (some m2) 11 #[] 11)):=((a0b.of_below hBV).then hk (fun q hq e=>by omega)).trans (a0b.of_below xit)
   rw[show a0z.take 18=a0z from rfl]at hX1
   go_wp2
   obtain⟨X,hX⟩:=exq (wr.alloc (.mapIter (some m2) 11 #[] 11))
   rw[hX]at hit hzm3 hbm' xit hbx' hX1 hX4 hX5 hXa hK0
   obtain⟨it,hit2⟩:=exq (wr.heap.size)
   rw[hit2]at hit hzr
   rw[hX,hit2]
   clear hr y0 y1 hX hbm
   go_loopw [28] (fun _ wq=>∃seen kv,wq.heap[it]?=some (.mapIter (some m2) 11 seen 11)/\wq.heap[m3]?=some (a0f ik kv)/\Sp seen kv/\a0b (fun q=>q=m3\/q=it) X wq) (fun _ wq=>(leftOf ES (wq.iterSeen it)).size)
   case atStart=>exact⟨#[],[],hit,hzm3,c7i,a0b.refl _ _⟩
   case round =>
    obtain⟨seen,kv,hI,hM,hS,hK⟩:=hrel
    have hbm2:=hK.box hbm' (by omega)
    have hbx2:=hK.box hbx' (by omega)
    rcases run_next_at (P:=Tryz.prog) wr 0 it m2 11 11 seen ES 11 hI hbm2 d1o (Nat.le_refl _) with⟨h0,hn⟩|⟨e,he,w3,hw3,hn⟩
    ·have hKF:=hK0.then hK (fun q hq e=>by omega)
     have ha:=hK.box hXa (by omega)
     have l0:Ce wr tb 0 (.map (some m1)):=q2z hbx2 rfl
     have l1:Ce wr tb 1 (.map (some m2)):=q2z hbx2 rfl
     have l2:Ce wr tb 2 (.map (some m3)):=q2z hbx2 rfl
     have l3:Ce wr tb 3 (.map (some m4)):=q2z hbx2 rfl
     have l4:Ce wr tb 4 (.map (some m5)):=q2z hbx2 rfl
     have a0:Ce wr w.heap.size 0 (.map none):=q2z ha rfl
     have a1:Ce wr w.heap.size 1 (.map none):=q2z ha rfl
     have a2:Ce wr w.heap.size 2 (.map none):=q2z ha rfl
     have a3:Ce wr w.heap.size 3 (.map none):=q2z ha rfl
     have a4:Ce wr w.heap.size 4 (.map none):=q2z ha rfl
     have f0:wr.frozen? (Ad w.heap.size 0)=false:=q6z ha
     have f1:wr.frozen? (Ad w.heap.size 1)=false:=q6z ha
     have f2:wr.frozen? (Ad w.heap.size 2)=false:=q6z ha
     have f3:wr.frozen? (Ad w.heap.size 3)=false:=q6z ha
     have f4:wr.frozen? (Ad w.heap.size 4)=false:=q6z ha
     have hsp:=hS.done (d1p h0)
     have r1:=hK.box hX1 (by omega)
     have r4:=hK.box hX4 (by omega)
     have r5:=hK.box hX5 (by omega)
     go_wp2
     have hk5:a0b (fun q=>q=w.heap.size) wr (put5 wr w.heap.size (.map (some m1)) (.map (some m2)) (.map (some m3)) (.map (some m4)) (.map (some m5))):=put5_self _ _ _ _ _ _ _
     have hsz:=hk5.size
     have hlt9:=q5z r5
     refine bodyPost_ret (d5i rfl (put5_same _ _ _ _ _ ha)) rfl ⟨m1,m2,m3,m4,m5,rfl,?_,(hKF.then hk5 (fun q hq e=>by omega)).below (Nat.le_refl _) (fun _ _=>id)⟩
     exact⟨Nat.lt_of_lt_of_le (by omega) hsz,Nat.lt_of_lt_of_le (by omega) hsz,Nat.lt_of_lt_of_le (by omega) hsz,Nat.lt_of_lt_of_le (by omega) hsz,Nat.lt_of_lt_of_le (by omega) hsz,hk5.box r1 (by omega),hk5.box hbm2 (by omega),⟨kv,hsp,hk5.box hM (by omega)⟩,hk5.box r4 (by omega),hk5.box r5 (by omega)⟩
    ·have hs:=left_shrinks ES seen e he
     obtain⟨j,p,hj,rfl⟩:=d5h (mem_left he).1
     have hsj:=(mem_left he).2
     have hm0:=(mem_left he).1
     obtain⟨wd0,num,lv⟩:=p
     simp only at hn hs hsj hm0
     have hk3:a0b (fun q=>q=it) wr (ChangeMaps.setBlock w3 it (.mapIter (some m2) 11 (seen.push j) 11)):=by
      rcases hw3 with rfl|rfl
      ·exact a4x _ _ _
      ·exact(a0b.refl _ _).drew.trans (a4x _ _ _)
     have hI3:(ChangeMaps.setBlock w3 it (.mapIter (some m2) 11 (seen.push j) 11)).heap[it]?=some (.mapIter (some m2) 11 (seen.push j) 11):=by
      rcases hw3 with rfl|rfl
      ·exact a8a hI
      ·exact a8a (W:=wr.drew) hI
     obtain⟨X3,hX3⟩:=exq (ChangeMaps.setBlock w3 it (.mapIter (some m2) 11 (seen.push j) 11))
     rw[hX3]at hn hk3 hI3
     clear hX3 hw3
     have hen:=run_entry_at (P:=Tryz.prog) X3 it m2 11 seen ES 11 _ hI3 (hk3.box hbm2 (by omega)) hm0 c7j
     simp only at hen
     obtain⟨bb,hbb⟩:∃b:Int,((lv+1:Nat):Int)=b:=⟨_,rfl⟩
     rw[hbb]at hn hen
     have hb4:=q1z (Below.refl X3.heap.size X3) (.cells #[vi num,vi bb] 154)
     have hI4:=q0z hb4 hI3
     have hM4:=q0z hb4 (hk3.box hM (by omega))
     have hbx4:=q0z hb4 (hk3.box hbx2 (by omega))
     have g4:=a0a X3 (.cells #[vi num,vi bb] 154)
     obtain⟨X4,hX4⟩:=exq (X3.alloc (.cells #[vi num,vi bb] 154))
     rw[hX4]at hb4 hI4 hM4 hbx4 g4
     have hp:=a9p (P:=Tryz.prog) (w:=X4) (T:=128) (K:=2) (E:=156) (kf:=ik) (kv:=kv) (B:=m3) Tryz.underlying128 Tryz.underlying2 d0l hM4 hS.nodup num (hS.new hj hsj) (.agg #[.string ⟨wd0.toArray⟩,vi bb])
     have hk5:=a4x X4 m3 (a0f ik (kv++[(num,.agg #[.string ⟨wd0.toArray⟩,vi bb])]))
     have hM5:=a8a (o:=a0f ik (kv++[(num,.agg #[.string ⟨wd0.toArray⟩,vi bb])])) hM4
     obtain⟨X5,hX5⟩:=exq (({ X4 with heap:=X4.heap.setIfInBounds m3 (a0f ik (kv++[(num,.agg #[.string ⟨wd0.toArray⟩,vi bb])])) } : World))
     rw[hX5]at hp hk5 hM5
     clear hX5
     have v2:Ce X4 tb 2 (.map (some m3)):=q2z hbx4 rfl
     have v3:Ce X4 X3.heap.size 0 (vi num):=q2z g4 rfl
     have v4:Ce X4 X3.heap.size 1 (vi bb):=q2z g4 rfl
     have hI5:=hk5.box hI4 (by omega)
     have hSn:=hS.step hj hsj
     have hSe:spv (wd0,num,lv)=.agg #[.string ⟨wd0.toArray⟩,vi bb]:=by rw[<- hbb];rfl
     rw[hSe]at hSn
     have hK5:=((hK.then hk3 (fun q _ e=>.inr e)).trans (a0b.of_below hb4)).then hk5 (fun q _ e=>.inl e)
     have hms:(leftOf ES (X5.iterSeen it)).size<(leftOf ES (wr.iterSeen it)).size:=by
      rw[b4b hI5,b4b hI];exact hs
     clear hbx2 hbm2 hI hM hS hK hk3 hI3 hM4 hbx4 g4 hb4 hI4 hk5 hs hj hsj hm0 hSe hbb he
     go_wp2
     go_roundw
     case rel=>exact⟨_,_,hI5,hM5,hSn,hK5⟩
     case measure=>exact hms
end Go.Proofs.YtomniogfpfbolaaGreatDoor
