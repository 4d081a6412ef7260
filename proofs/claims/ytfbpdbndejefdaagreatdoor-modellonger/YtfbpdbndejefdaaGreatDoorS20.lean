/- How deep a node is, of how many: as the program reckons it. -/
import Derived.Test.YtfbpdbndejefdaaGreatDoorS19
namespace Go.Proofs.YtfbpdbndejefdaaGreatDoor
open Go.RowKit Go
set_option maxRecDepth 100000
set_option maxHeartbeats 8000000
set_option linter.all false
variable {ks:List Nd} {j d m cap a B uc fm lv i:Nat} {y u:Nd} {S O:Nat->Prop} {W w w0 W':World} {tm:Array Value} {v e:Value} {b ub:Option Addr} {k:Int} {t:List UInt8} {fs:List (List UInt8)} {sl:List Int} {bl:List (List Lc)} {α:Type} {p:List UInt8×Int×Nat} {seen:Array Nat} {kv:List (Int×Value)}
theorem b6v(a b:List Nd):a4o.go (a++b)=max (a4o.go a) (a4o.go b):=by
 induction a with
 | nil=>simp[a4o.go]
 | cons x l ih=>simp only[List.cons_append,a4o.go,ih];omega
theorem a5z(a b:List Nd):manyN.go (a++b)=manyN.go a+manyN.go b:=by
 induction a with
 | nil=>simp[manyN.go]
 | cons x l ih=>simp only[List.cons_append,manyN.go,ih];omega
theorem b1g(h:ks[j]?=some y):ks=ks.take j++y::ks.drop (j+1):=by
 obtain⟨z,rfl⟩:=List.getElem?_eq_some_iff.1 h
 rw[<- List.drop_eq_getElem_cons z,List.take_append_drop]
theorem b3v(h:ks[j]?=some y):ks.take (j+1)=ks.take j++[y]:=by
 rw[List.take_add_one,h];rfl
theorem b6w(n:Nd):a4o n=a4o.go n.kids+1:=by cases n;rfl
theorem a3i(n:Nd):manyN n=manyN.go n.kids+1:=by cases n;rfl
theorem a2k(l:List Nd):l.length<=manyN.go l:=by
 induction l with
 | nil=>simp
 | cons x l ih =>
  have:1<=manyN x:=by rw[a3i];omega
  simp only[manyN.go,List.length_cons]
  omega
def spZ (d m:Nat) (n:Nd):Int:=if a4o n<=d/\manyN n<=m then (m:Int)-(manyN n:Nat) else -1
theorem b3w{n:Nd}(h:¬(a4o n<=d/\manyN n<=m)):spZ d m n=-1:=if_neg h
theorem b6x{c:Nat->Option Value}(h:NdAt S W y c):∃b cap,c 0=some (vi y.k)/\c 1=some (sk y.t)/\c 2=some (vi y.n)/\c 3=some (.slice b y.kids.length cap)/\NdV S W y (ndv y b cap):=by
 obtain⟨k,t,n,kids⟩:=y
 rw[NdAt]at h
 obtain⟨h0,h1,h2,b,cap,h3,h4,h5⟩:=h
 refine⟨b,cap,h0,h1,h2,h3,_,_,_,_,rfl,?_⟩
 rw[NdAt]
 exact⟨rfl,rfl,rfl,b,cap,rfl,h4,h5⟩
theorem c6m(h:tm[6]?.getD undef=v):(results Tryz.f43 tm).run Tryz.prog W=.ok v W:=by
 simp[results,Tryz.results43,go_sem,h]
theorem c2g(d:Nat):d<=14->∀(m:Nat) (S:Nat->Prop) (n:Nd) (b:Option Addr) (cap:Nat) (w:World),m<=600->NdV S w n (ndv n b cap)->Cl 43 #[ndv n b cap,vi (d:Nat),vi (m:Nat)] w fun e w'=>e=.returned (vi (spZ d m n))/\Bw w w':=by
 induction d with
 | zero =>
  intro _ m S n b cap w hm hn
  rw[b3w (by rw[b6w];omega)]
  go_enter Tryz.func43,Tryz.ntmps43
  go_wp2
  exact bodyPost_ret (c6m rfl) rfl ⟨rfl,ext_alloc (Below.refl _ _) _⟩
 | succ d ih =>
  intro hd m S n b cap w hm hn
  have hq1:((d:Int)+1 == 0)=false:=by simp;omega
  by_cases h0:m=0
  ·subst h0
   rw[b3w (by rw[a3i];omega)]
   go_enter Tryz.func43,Tryz.ntmps43
   go_wp2
   exact bodyPost_ret (c6m rfl) rfl ⟨rfl,ext_alloc (Below.refl _ _) _⟩
  obtain⟨k,rfl⟩:∃k,m=k+1:=⟨m-1,by omega⟩
  have hq2:((k:Int)+1 == 0)=false:=by simp;omega
  rw[show((d+1:Nat):Int)=(d:Int)+1 by omega,show((k+1:Nat):Int)=(k:Int)+1 by omega]
  obtain⟨b2,cap2,e2,hcap,hkids⟩:=hn.form
  have e3:b2=b/\cap2=cap:=by
   simp only[Value.agg.injEq,Array.mk.injEq,List.cons.injEq,Value.slice.injEq,and_true,true_and]at e2
   exact⟨e2.1.symm,e2.2.symm⟩
  obtain⟨rfl,rfl⟩:=e3
  have hds:a4o n=a4o.go n.kids+1:=b6w n
  have hms:manyN n=manyN.go n.kids+1:=a3i n
  obtain⟨ks,hks⟩:∃ks,n.kids=ks:=⟨_,rfl⟩
  rw[hks]at hds hms hcap hkids
  have hlen:n.kids.length=ks.length:=by rw[hks]
  obtain⟨L,hL⟩:∃L,ks.length=L:=⟨_,rfl⟩
  rw[hL]at hlen hcap
  obtain⟨V,hV⟩:∃V,spZ (d+1) (k+1) n=V:=⟨_,rfl⟩
  rw[hV]
  have hb0:=ext_alloc (Below.refl w.heap.size w) (.cells #[vi n.k,sk n.t,vi n.n,.slice b2 L cap2] 43)
  clear e2 hn
  replace hds:Hid _:=hds
  replace hms:Hid _:=hms
  replace hV:Hid _:=hV
  replace hL:Hid _:=hL
  replace hks:Hid _:=hks
  replace hkids:Hid _:=hkids
  go_enter Tryz.func43,Tryz.ntmps43
  go_wp2
  go_loopw [2,20] (fun nn ix wr=>∃j k':Nat,j<=L/\ix=vi (j:Nat)/\nn=vi (k':Nat)/\k'+manyN.go (ks.take j)=k/\a4o.go (ks.take j)<=d/\Bw w wr) (fun _ ix _=>L-(intOf ix).toNat)
  case atStart=>exact⟨0,k,by omega,rfl,by go_num,by simp[manyN.go],by simp[a4o.go],hb0⟩
  case round =>
   obtain⟨j,k',hj,rfl,rfl,hs,hdp,hbw⟩:=hrel
   replace hs:Hid _:=hs
   replace hdp:Hid _:=hdp
   by_cases hlt:j<L
   ·have hlt':(j:Int)<(L:Int):=by omega
    obtain⟨y,hy⟩:∃y,ks[j]?=some y:=⟨_,List.getElem?_eq_getElem (show j<ks.length by have:=hL.out;omega)⟩
    rcases hkids.out with h|⟨g,off,rfl,hSg,hkd⟩
    ·rw[h]at hy
     simp at hy
    obtain⟨b',cap',v0,v1,v2,v3,hyV⟩:=b6x (hkd j y hy)
    have c0:Ce wr g (off+j*4) (vi y.k):=a2e hbw v0
    have c1:=a2e hbw v1
    have c2:=a2e hbw v2
    have c3:=a2e hbw v3
    have hjk:j<=k:=by
     have:=a2k (ks.take j)
     have:=hs.out
     have:=hL.out
     simp at *
     omega
    have hk':k'<=600:=by have:=hs.out;omega
    have hcall:=ih (by omega) k' S y b' cap' (wr.alloc (nbx y b' cap')) hk' ((hyV.below hbw).below (ext_alloc (Below.refl _ _) _))
    have hbw1:=ext_alloc hbw (nbx y b' cap')
    by_cases hok:a4o y<=d/\manyN y<=k'
    ·have e:spZ d k' y=((k'-manyN y:Nat):Int):=by unfold spZ;rw[if_pos hok];omega
     rw[e]at hcall
     have hn1:k'-manyN y+manyN.go (ks.take (j+1))=k:=by
      have:=hs.out
      rw[b3v hy,a5z]
      simp[manyN.go]
      omega
     have hn2:a4o.go (ks.take (j+1))<=d:=by
      have:=hdp.out
      rw[b3v hy,b6v]
      simp[a4o.go]
      omega
     obtain⟨k2,hk2⟩:∃k2,k'-manyN y=k2:=⟨_,rfl⟩
     rw[hk2]at hcall hn1
     replace hn1:Hid _:=hn1
     replace hn2:Hid _:=hn2
     have hnn:¬(k2:Int)<0:=by omega
     clear v0 v1 v2 v3 hyV hy hkd hk2 e hok ih
     go_wp2_with (go_at_call 43;refine hcall.mono ?_;rintro e w1 ⟨rfl,hb1⟩)
     go_roundw
     case rel=>exact⟨j+1,k2,by omega,by go_num,rfl,hn1.out,hn2.out,ext_trans hbw1 hb1⟩
     case measure=>simp[intOf];omega
    ·have e:spZ d k' y=-1:=b3w hok
     rw[e]at hcall
     have hVm:V=-1:=by
      rw[<- hV.out]
      refine b3w fun h=>hok ?_
      have h1:=hs.out
      have h3:=hds.out
      have h4:=hms.out
      rw[b1g hy,b6v]at h3
      rw[b1g hy,a5z]at h4
      simp only[a4o.go,manyN.go]at h3 h4
      omega
     subst hVm
     clear v0 v1 v2 v3 hyV hy hkd e hok ih
     go_wp2_with (go_at_call 43;refine hcall.mono ?_;rintro e w1 ⟨rfl,hb1⟩)
     exact bodyPost_ret (c6m rfl) rfl ⟨rfl,ext_trans hbw1 hb1⟩
   ·have hge:¬(j:Int)<(L:Int):=by omega
    have:V=(k':Int):=by
     have:=hV.out
     have e:j=ks.length:=by have:=hL.out;omega
     have h1:=hs.out
     have h2:=hdp.out
     rw[e,List.take_length]at h1 h2
     have h3:=hds.out
     have h4:=hms.out
     unfold spZ at this
     rw[if_pos ⟨by omega,by omega⟩]at this
     omega
    subst this
    go_wp2
    exact bodyPost_ret (c6m rfl) rfl ⟨rfl,hbw⟩
def fitB (n:Nd):Bool:=decide (a4o n<=14/\manyN n<=600)
theorem b6y(S:Nat->Prop)(n:Nd)(b:Option Addr)(cap:Nat)(w:World)(hn:NdV S w n (ndv n b cap)):Cl 28 #[ndv n b cap] w fun e s=>e=.returned (.bool (fitB n))/\Bw w s:=by
 have y:=ext_alloc (Below.refl w.heap.size w) (nbx n b cap)
 have u:=c2g 14 (by omega) 600 S n b cap (w.alloc (nbx n b cap)) (by omega) (hn.below y)
 obtain⟨c0,c1,c2,c3,_,_,_,_⟩:=in4 (a0a w (nbx n b cap))
 unfold fitB
 by_cases h:a4o n<=14/\manyN n<=600
 ·rw[decide_eq_true h]
  have e:spZ 14 600 n=((600-manyN n:Nat):Int):=by unfold spZ;rw[if_pos h];omega
  rw[e]at u
  obtain⟨v,hv⟩:∃v,600-manyN n=v:=⟨_,rfl⟩
  rw[hv]at u
  clear hv e
  have q:(0:Int)<=(v:Int):=by omega
  go_enter Tryz.func28,Tryz.ntmps28
  go_wp2_with (go_at_call 43;refine u.mono ?_;rintro e w1 ⟨rfl,z⟩)
  go_ret
  exact⟨rfl,ext_trans y z⟩
 ·rw[decide_eq_false h]
  rw[b3w h]at u
  go_enter Tryz.func28,Tryz.ntmps28
  go_wp2_with (go_at_call 43;refine u.mono ?_;rintro e w1 ⟨rfl,z⟩)
  go_ret
  exact⟨rfl,ext_trans y z⟩
theorem c2h{k0:Int}{t0:List UInt8}{n0:Int}(hn:NdV S W ⟨k0,t0,n0,ks⟩ (ndv ⟨k0,t0,n0,ks⟩ b cap)):ks.length<=cap/\(ks=[]\/∃g u,b=some (Ad g u)/\S g/\∀j y,ks[j]?=some y->NdAt S W y (fun i=>W.cell? (Ad g (u+j*4+i)))):=by
 obtain⟨b2,s,q,v,z⟩:=hn.form
 simp only at q v z
 have p:b2=b/\s=cap:=by
  simp only[Value.agg.injEq,Array.mk.injEq,List.cons.injEq,Value.slice.injEq,and_true,true_and]at q
  exact⟨q.1.symm,q.2.symm⟩
 obtain⟨rfl,rfl⟩:=p
 exact⟨v,z⟩
def KA (S:Nat->Prop) (w:World) (b:Option Addr) (cap:Nat) (ks:List Nd):Prop:=ks.length<=cap/\(ks=[]\/∃g off,b=some (Ad g off)/\S g/\∀j y,ks[j]?=some y->NdAt S w y (fun i=>w.cell? (Ad g (off+j*4+i))))
theorem KA.of{n:Int}(h:NdV S w ⟨k,t,n,ks⟩ (ndv ⟨k,t,n,ks⟩ b cap)):KA S w b cap ks:=c2h h
theorem KA.at(h:KA S w b cap ks)(hy:ks[j]?=some y):∃g z b' cap',b=some (Ad g z)/\w.cell? (Ad g (z+j*4))=some (vi y.k)/\w.cell? (Ad g (z+j*4+1))=some (sk y.t)/\w.cell? (Ad g (z+j*4+2))=some (vi y.n)/\w.cell? (Ad g (z+j*4+3))=some (.slice b' y.kids.length cap')/\NdV S w y (ndv y b' cap'):=by
 rcases h.2 with h0|⟨g,z,rfl,_,u⟩
 ·rw[h0]at hy;simp at hy
 ·obtain⟨b',cap',v0,v1,v2,s,v⟩:=b6x (u j y hy)
  exact⟨g,z,b',cap',rfl,v0,v1,v2,s,v⟩
theorem KA.on{w':World}(h:KA S w b cap ks)(hW:∀g,S g->g<w.heap.size->w'.heap[g]?=w.heap[g]?):KA S w' b cap ks:=by
 refine⟨h.1,?_⟩
 rcases h.2 with h0|⟨g,u,rfl,o,z⟩
 ·exact .inl h0
 ·refine .inr ⟨g,u,rfl,o,fun j y p=>?_⟩
  have s:g<w.heap.size:=World.block_lt_of_cell? _ _ (z j y p).first
  exact NdAt.on (fun q hq n=>⟨hq,hW q hq n⟩) y _ _ (fun i v hv=>(World.cell?_of_block (a:=(Ad g _)) (hW g o s)).trans hv) (z j y p)
theorem c2i(bl:List (List Lc)):sumL bl.tail<=sumL bl:=by
 cases bl with
 | nil=>exact Nat.le_refl _
 | cons b r=>rw[a1o];simp
theorem Lv.act{c c':Cs}(h:actC fs k t ks a c=.ok c')(hc:Lv c):Lv c':=by
 unfold actC at h
 split at h
 ·exact Lv.declare h hc
 split at h
 ·have:=(a9a h).2
  unfold Lv Cs.live at *
  rw[this]
  exact hc
 split at h
 ·split at h
  ·cases h;exact hc
  ·cases h
 split at h
 ·split at h
  ·cases h
  ·cases h;exact hc
 ·cases h;exact hc
theorem b1h(fs:List (List UInt8))(n:Nd):∀(f:Bool) (c z:Cs),visC fs f n c=.ok z->Lv c->Lv z:=by
 refine a6j (m:=fun n=>∀(f:Bool) (c z:Cs),visC fs f n c=.ok z->Lv c->Lv z) (fun k t o ks ih f c z h v=>?_) n
 have q:∀c:Cs,Lv c->Lv c.begin:=fun c h=>by unfold Lv Cs.live Cs.begin at *;simpa[a1o]using h
 have s:∀c:Cs,Lv c->Lv c.close:=fun c h=>by unfold Lv Cs.live Cs.close at *;exact Nat.le_trans (c2i _) h
 have u:∀(k:Int) (t:List UInt8) (a:Nat) (l:List Nd),(∀y∈l,y∈ks)->∀(i:Nat) (c z:Cs),visC.go fs k t a i l c=.ok z->Lv c->Lv z:=by
  intro k t a l
  induction l with
  | nil=>intro _ i c z h v;rw[visC.go]at h;cases h;exact v
  | cons x l ihl =>
   intro j i c z h v
   rw[visC.go]at h
   obtain⟨d,h1,h2⟩:=a1h h
   have p:=ih x (j x (by simp))
   have h3:=ihl (fun y hy=>j y (by simp[hy])) _ d z h2
   split at h1
   ·obtain⟨e,h4,h5⟩:=a1h h1
    obtain⟨g,h6,rfl⟩:=a5n h5
    exact h3 (s _ (p _ _ _ h6 (Lv.declare h4 (q _ v))))
   ·exact h3 (p _ _ _ h1 v)
 rw[visC]at h
 split at h
 ·split at h
  ·exact u _ _ _ ks (fun _ h=>h) _ _ _ h v
  ·obtain⟨d,h1,rfl⟩:=a5n h
   exact s _ (u _ _ _ ks (fun _ h=>h) _ _ _ h1 (q c v))
 ·obtain⟨d,h1,h2⟩:=a1h h
  have h3:=u _ _ _ ks (fun _ h=>h) _ _ _ h1 v
  split at h2
  ·cases h2;exact h3
  ·exact Lv.act h2 h3
def allC (fs:List (List UInt8)):List Nd->Cs->CR
 | [],c=>.ok c
 | x::l,c=>(visC fs false x c).bind (allC fs l)
theorem c2j(fs:List (List UInt8))(k:Int)(t:List UInt8)(a:Nat)(hk:k≠10):∀(l:List Nd) (i:Nat) (c:Cs),visC.go fs k t a i l c=allC fs l c
 | [],i,c=>by rw[visC.go,allC]
 | x::l,i,c=>by
  rw[visC.go,allC,if_neg (fun h=>hk h.1)]
  congr 1
  funext d
  exact c2j fs k t a hk l (i+1) d
theorem a4e(fs:List (List UInt8))(k:Int)(t:List UInt8)(o:Int)(ks:List Nd)(c:Cs)(h4:k≠4)(h10:k≠10):visC fs false ⟨k,t,o,ks⟩ c=(allC fs ks c.enter).bind (actC fs k t ks c.sl.length):=by
 rw[visC,if_neg h4,c2j fs k t _ h10]
 congr 1
 funext d
 rw[if_neg h10]
theorem c6n(x:CR):x.bind (fun c=>.ok c)=x:=by cases x <;> rfl
theorem c2k(fs:List (List UInt8))(t:List UInt8)(o:Int)(x y z:Nd)(c:Cs):visC fs false ⟨10,t,o,[x,y,z]⟩ c=(allC fs [x,y] c.enter).bind fun d=>(declareC t true c.sl.length d.begin).bind fun e=>(visC fs true z e).map Cs.close:=by
 rw[visC,if_neg (by omega)]
 simp only[if_true]
 rw[c6n,visC.go,if_neg (by omega)]
 rw[allC]
 cases visC fs false x c.enter with
 | error e=>rfl
 | ok d =>
  simp only[Except.bind]
  rw[visC.go,if_neg (by omega),allC]
  cases visC fs false y d with
  | error e=>rfl
  | ok d =>
   simp only[Except.bind]
   rw[visC.go,if_pos (by omega),allC]
   simp only
   cases declareC t true c.sl.length d.begin with
   | error e=>rfl
   | ok d =>
    show((visC fs true z d).map Cs.close).bind _=(visC fs true z d).map Cs.close
    cases visC fs true z d with
    | error e=>rfl
    | ok d =>
     show visC.go fs 10 t c.sl.length (0+1+1+1) [] d.close=.ok d.close
     rw[visC.go]
theorem c9q(fs:List (List UInt8))(t:List UInt8)(o:Int)(ks:List Nd)(c:Cs):visC fs true ⟨4,t,o,ks⟩ c=allC fs ks c.enter:=by
 rw[visC,if_pos rfl]
 simp only[if_true]
 exact c2j fs 4 t 0 (by omega) ks 0 _
theorem a9b(fs:List (List UInt8))(z:Nd):∀(v:List Nd) (c:Cs),a6f fs (v++[z]) c=(allC fs v c).bind (visC fs true z)
 | [],c=>by rw[allC];rfl
 | [x],c=>by
  show a6f fs (x::z::[]) c=_
  rw[a6f,allC]
  cases visC fs false x c with
  | error e=>rfl
  | ok d=>simp only[Except.bind];rw[a6f,allC]
 | x::y::l,c=>by
  show a6f fs (x::y::(l++[z])) c=_
  rw[a6f,allC]
  cases visC fs false x c with
  | error e=>rfl
  | ok d=>simp only[Except.bind];exact a9b fs z (y::l) d
theorem d1n{c c':Cs}(h:actC fs k t ks a c=.ok c'):c'.sl.length=c.sl.length:=(d1g h).1
theorem b5j(fs:List (List UInt8))(n:Nd):∀(f:Bool) (c z:Cs),visC fs f n c=.ok z->c.sl.length<z.sl.length/\z.sl.length<=c.sl.length+manyN n:=by
 refine a6j (m:=fun n=>∀(f:Bool) (c z:Cs),visC fs f n c=.ok z->c.sl.length<z.sl.length/\z.sl.length<=c.sl.length+manyN n) (fun k t o ks ih f c z h=>?_) n
 have v:∀(k:Int) (t:List UInt8) (a:Nat) (l:List Nd),(∀y∈l,y∈ks)->∀(i:Nat) (c z:Cs),visC.go fs k t a i l c=.ok z->c.sl.length<=z.sl.length/\z.sl.length<=c.sl.length+manyN.go l:=by
  intro k t a l
  induction l with
  | nil=>intro _ i c z h;rw[visC.go]at h;cases h;exact⟨Nat.le_refl _,Nat.le_add_right _ _⟩
  | cons x l ihl =>
   intro j i c z h
   rw[visC.go]at h
   obtain⟨d,h1,h2⟩:=a1h h
   have p:=ih x (j x (by simp))
   have h3:=ihl (fun y hy=>j y (by simp[hy])) _ d z h2
   simp only[manyN.go]
   split at h1
   ·obtain⟨e,h4,h5⟩:=a1h h1
    obtain⟨g,h6,rfl⟩:=a5n h5
    have h7:=(a4w h4).1
    have h8:=p _ _ _ h6
    simp only[Cs.begin,Cs.close]at *
    omega
   ·have h8:=p _ _ _ h1
    omega
 have s:manyN ⟨k,t,o,ks⟩=manyN.go ks+1:=rfl
 rw[s]
 have u:∀c:Cs,c.enter.sl.length=c.sl.length+1:=fun c=>by simp[Cs.enter]
 have q:∀c:Cs,c.begin.sl.length=c.sl.length:=fun c=>rfl
 rw[visC]at h
 split at h
 ·split at h
  ·have:=v _ _ _ ks (fun _ h=>h) _ _ _ h
   rw[u]at this
   omega
  ·obtain⟨d,h1,rfl⟩:=a5n h
   have:=v _ _ _ ks (fun _ h=>h) _ _ _ h1
   rw[u,q]at this
   simp only[Cs.close]
   omega
 ·obtain⟨d,h1,h2⟩:=a1h h
  have:=v _ _ _ ks (fun _ h=>h) _ _ _ h1
  rw[u]at this
  split at h2
  ·cases h2;omega
  ·have:=d1n h2
   omega
theorem a4i(fs:List (List UInt8)):∀(l:List Nd) (c z:Cs),allC fs l c=.ok z->c.sl.length<=z.sl.length/\z.sl.length<=c.sl.length+manyN.go l
 | [],c,z,h=>by rw[allC]at h;cases h;exact⟨Nat.le_refl _,Nat.le_add_right _ _⟩
 | x::l,c,z,h=>by
  rw[allC]at h
  obtain⟨d,h1,h2⟩:=a1h h
  have h3:=b5j fs x _ _ _ h1
  have h4:=a4i fs l _ _ h2
  simp only[manyN.go]
  omega
theorem a2q(fs:List (List UInt8)):∀(l:List Nd) (c z:Cs),allC fs l c=.ok z->Kp c z
 | [],c,z,h=>by rw[allC]at h;cases h;exact Kp.refl _
 | x::l,c,z,h=>by
  rw[allC]at h
  obtain⟨d,h1,h2⟩:=a1h h
  exact(a4d fs x _ _ _ h1).trans (a2q fs l _ _ h2)
theorem a5g(fs:List (List UInt8)):∀(l:List Nd) (c z:Cs),allC fs l c=.ok z->Lv c->Lv z
 | [],c,z,h,hc=>by rw[allC]at h;cases h;exact hc
 | x::l,c,z,h,hc=>by
  rw[allC]at h
  obtain⟨d,h1,h2⟩:=a1h h
  exact a5g fs l _ _ h2 (b1h fs x _ _ _ h1 hc)
abbrev lcv (i:Nat) (fx:Bool):Value:=.agg #[vi (i:Nat),.bool fx]
def kvB (base:Nat) (b:List Lc):List (List UInt8×Value):=b.mapIdx fun j x=>(x.nm,lcv (base+j) x.fx)
def a6k (W:World):List Nat->List (List Lc)->Prop
 | [],[]=>True
 | q::ms,b::r=>W.heap[q]?=some (a0e sk (kvB (sumL r) b))/\a6k W ms r
 | _,_=>False
theorem a6k.len{W:World} : ∀{z:List Nat} {bl:List (List Lc)},a6k W z bl->z.length=bl.length
 | [],[],_=>rfl
 | _::z,_::r,h=>by rw[List.length_cons,List.length_cons,a6k.len h.2]
 | [],_::_,h=>h.elim
 | _::_,[],h=>h.elim
theorem a6k.keep{W W':World} : ∀{z:List Nat} {bl:List (List Lc)},a6k W z bl->(∀m∈z,W'.heap[m]?=W.heap[m]?)->a6k W' z bl
 | [],[],_,_=>trivial
 | q::z,_::r,h,k=>⟨(k q (by simp)).trans h.1,a6k.keep h.2 fun m y=>k m (by simp[y])⟩
 | [],_::_,h,_=>h.elim
 | _::_,[],h,_=>h.elim
abbrev mp (q:Nat):Value:=.map (some q)
def a2d (fs:List (List UInt8)):Nat->List (List UInt8)->List (List UInt8×Value)->List (List UInt8×Value)
 | _,[],kv=>kv
 | i,x::l,kv=>a2d fs (i+1) l (if (kv.lookup x).isSome then kv else kv++[(x,vi (i:Nat))])
abbrev ckb (u:Nd) (ub:Option Addr) (uc:Nat) (fm:Nat) (sb:Option Addr) (sn sc:Nat) (bb:Option Addr) (bn bc:Nat) (lv:Nat):Obj:=.cells #[vi u.k,sk u.t,vi u.n,.slice ub u.kids.length uc,.map (some fm),.slice sb sn sc,.slice bb bn bc,vi (lv:Nat)] 85
structure Ck (w0:World) (B:Nat) (u:Nd) (ub:Option Addr) (uc:Nat) (fm:Nat) (O:Nat->Prop) (sl:List Int) (bl:List (List Lc)) (lv:Nat) (W:World):Prop where
 box:∃sb sc bb bc ms,W.heap[B]?=some (ckb u ub uc fm sb sl.length sc bb bl.length bc lv)/\W.ownsRow w0.heap.size 3 1 (.slice sb sl.length sc) sl.length (sl.map iv)/\W.ownsRow w0.heap.size 175 1 (.slice bb bl.length bc) bl.length (ms.reverse.map mp)/\a6k W ms bl/\ms.Nodup /\
  (∀q,Value.ownBlock (.slice sb sl.length sc)=some q->O q/\q≠B/\q∉ms)/\(∀q,Value.ownBlock (.slice bb bl.length bc)=some q->O q/\q≠B/\q∉ms/\Value.ownBlock (.slice sb sl.length sc)≠some q)/\(∀m∈ms,O m/\m≠B)
 hB:O B
 hO:∀k,O k->w0.heap.size<=k/\k<W.heap.size
 hf:∃kv,kv=a2d (u.kids.map Nd.t) 0 (u.kids.map Nd.t) []/\W.heap[fm]?=some (a0e sk kv)
 hn:¬O fm
 bl:Bw w0 W
structure CK (O:Nat->Prop) (W:World) (O':Nat->Prop) (W':World):Prop where
 k:a0b O W W'
 o:∀k,O' k->O k\/W.heap.size<=k
theorem CK.trans{O1 O2:Nat->Prop}{W1 W2:World}(h:CK O W O1 W1)(k:CK O1 W1 O2 W2):CK O W O2 W2:=by
 refine⟨h.k.then k.k (fun j z h1=>?_),fun j z=>?_⟩
 ·rcases h.o j h1 with h2|h2
  ·exact h2
  ·omega
 ·rcases k.o j z with h2|h2
  ·exact h.o j h2
  ·exact .inr (Nat.le_trans h.k.size h2)
theorem a3u{V:World}(hb:Bw w0 V)(hk:a0b O V W')(hO:∀k,O k->w0.heap.size<=k):Bw w0 W' :=
 ⟨hk.os.trans hb.os,hk.tape.trans hb.tape,hk.output.trans hb.output,Nat.le_trans hb.size hk.size,fun k z=>(hk.block k (Nat.lt_of_lt_of_le z hb.size) (fun h=>by have:=hO k h;omega)).trans (hb.block k z)⟩
theorem CK.below(hb:Bw W W'):CK O W O W':=⟨a0b.of_below hb,fun _ h=>.inl h⟩
theorem CK.refl(O:Nat->Prop)(W:World):CK O W O W:=⟨a0b.refl _ _,fun _ h=>.inl h⟩
theorem CK.box{O':Nat->Prop}(h:CK O W O' W'){t:Nat}{o:Obj}(g:W.heap[t]?=some o)(hn:¬O t):W'.heap[t]?=some o/\¬O' t:=by
 refine⟨h.k.box g hn,fun h1=>?_⟩
 rcases h.o t h1 with h2|h2
 ·exact hn h2
 ·have:=block_lt g
  omega
theorem Ck.lt(h:Ck w0 B u ub uc fm O sl bl lv W):B<W.heap.size:=(h.hO B h.hB).2
theorem Ck.on(h:Ck w0 B u ub uc fm O sl bl lv W)(hb:Bw W W'):Ck w0 B u ub uc fm O sl bl lv W':=by
 obtain⟨⟨q,s,g,i,p,h1,h2,h3,h4,h5,j,n,v⟩,hB,hO,⟨kv,z,hf⟩,hn,y⟩:=h
 exact⟨⟨q,s,g,i,p,block_below hb h1,b1f h2 hb,b1f h3 hb,h4.keep (fun m o=>hb.block m (hO m (v m o).1).2),h5,j,n,v⟩,hB,fun k hk=>⟨(hO k hk).1,Nat.lt_of_lt_of_le (hO k hk).2 hb.size⟩,⟨kv,z,block_below hb hf⟩,hn,ext_trans y hb⟩
theorem Ck.cells(h:Ck w0 B u ub uc fm O sl bl lv W):W.cell? (Ad B 3)=some (.slice ub u.kids.length uc)/\W.cell? (Ad B 4)=some (.map (some fm))/\W.cell? (Ad B 7)=some (vi (lv:Nat))/\W.frozen? (Ad B 7)=false:=by
 obtain⟨⟨y,z,q,s,v,h1,_⟩,_⟩:=h
 exact⟨cell_block h1 rfl,cell_block h1 rfl,cell_block h1 rfl,frozen_block h1⟩
theorem a2o(w0:World)(B:Nat)(u:Nd)(ub:Option Addr)(uc fm:Nat)(O:Nat->Prop)(sl:List Int)(bl:List (List Lc))(lv:Nat)(W:World)(h:Ck w0 B u ub uc fm O sl bl lv W)(hlen:sl.length<=100000):Cl 44 #[Po B 0] W fun e W'=>e=.returned (vi (sl.length:Nat))/\∃O',Ck w0 B u ub uc fm O' (sl++[-1]) bl lv W'/\CK O W O' W':=by
 have hb:=ext_alloc (Below.refl W.heap.size W) (.cells #[vi (-1)] 3)
 have gQ:=a0a W (.cells #[vi (-1)] 3)
 have z2:=CK.below (O:=O) hb
 have z6:=h.lt
 have z3:=h.hO
 replace h:=h.on hb
 obtain⟨Q,hQ⟩:∃Q,W.heap.size=Q:=⟨_,rfl⟩
 obtain⟨V,hV⟩:∃V,W.alloc (.cells #[vi (-1)] 3)=V:=⟨_,rfl⟩
 rw[hV]at h gQ z2
 rw[hQ]at gQ
 obtain⟨i0,y3,y7,y8,y9⟩:=info_parts d9g
 obtain⟨⟨sb,sc,bb,bc,ms,h1,h2,h3,h4,h5,n,h7,h8⟩,hB,hO,⟨kv,d,hf⟩,hn,z4⟩:=h
 have c5:Ce W B 5 (.slice sb sl.length sc):=by
  have:=cell_block (i:=5) h1 rfl
  rw[<- hV]at this
  rw[World.cell?_alloc_past _ _ _ z6]at this
  exact this
 have d5:Ce V B 5 (.slice sb sl.length sc):=cell_block h1 rfl
 have f5:V.frozen? (Ad B 5)=false:=frozen_block h1
 have z8:some B≠Value.ownBlock (.slice sb sl.length sc):=fun e=>(n B e.symm).2.1 rfl
 have f:∀j x,[iv (-1)][j]?=some x->V.cell? ((Ad Q 0).add j)=some x:=fun j x o=>by
  match j,o with
  | 0,o=>cases o;simpa[Addr.add]using cell_block (i:=0) gQ rfl
  | j+1,o=>simp at o
 have z9:∀x∈[iv (-1)],x.oneCell'=true:=fun x o=>by simp at o;subst o;rfl
 have x7:sl.length+1<=maxLen:=by unfold maxLen;omega
 have x9:(sl.length+1)*8<=140737488355328:=by omega
 have y6:=z4.size
 replace z3:Hid _:=z3
 replace d:Hid _:=d
 go_enter Tryz.func44,Tryz.ntmps44
 go_wp2_with (at_builtin;refine wpList_append_lies _ (by rfl) _ _ _ (by rfl) w0.heap.size 3 i0 _ 1 8 Tryz.underlying44 y3 y7 y8 y9 rfl (by omega) (.slice sb sl.length sc) sl.length _ (by rfl) h2 (Ad Q 0) 1 1 [iv (-1)] (by rfl) (by rfl) f z9 (by omega) x7 x9 y6 _ rfl ?_;intro y v w3 g z s z7;have p1:=(z.block _ (block_lt h1) z8).trans h1;have d5:Ce w3 B 5 (.slice sb sl.length sc):=cell_block p1 rfl;have f5:w3.frozen? (Ad B 5)=false:=frozen_block p1)
 have z5:y≠B:=by
  rcases s with e|e
  ·exact(n y e).2.1
  ·have:=block_lt h1
   omega
 have y0:w0.heap.size<=y:=by
  rcases s with e|e
  ·exact(hO y (n y e).1).1
  ·omega
 have y1:O y\/V.heap.size<=y:=by
  rcases s with e|e
  ·exact .inl (n y e).1
  ·exact .inr (by omega)
 have y2:y∉ms:=fun e=>by
  rcases s with e2|e2
  ·exact(n y e2).2.2 e
  ·have:=(hO y (h8 y e).1).2
   omega
 have y4:a0b O V w3:=(a0b.grown z).mono (fun k _ e=>(n k e.symm).1)
 have a:=y4.set B 5 (.slice (some (Ad y 0)) (sl.length+1) v) (fun _=>hB)
 have x8:=set_block (i:=5) (.slice (some (Ad y 0)) (sl.length+1) v) p1
 have p:(sl++[-1]).length=sl.length+1:=by simp
 have y5:(w3.setCell (Ad B 5) (.slice (some (Ad y 0)) (sl.length+1) v)).heap.size=w3.heap.size:=by simp
 go_ret
 refine⟨rfl,fun k=>O k\/k=y,⟨⟨some (Ad y 0),v,bb,bc,ms,?_,?_,?_,?_,h5,?_,?_,?_⟩,.inl hB,?_,⟨kv,d.out,?_⟩,?_,?_⟩,z2.trans ⟨a,?_⟩⟩
 ·rw[p]
  exact x8
 ·rw[p,List.map_append]
  exact a1z g (fun q e _=>by simp[Value.ownBlock]at e;subst e;exact set1_other _ _ z5)
 ·refine a1z h3 (fun q e hq=>?_)
  obtain⟨_,e2,_,e3⟩:=h7 q e
  exact(set1_other _ _ e2).trans (z.block q hq (fun e4=>e3 e4.symm))
 ·refine h4.keep (fun m hm=>?_)
  exact(set1_other _ _ (h8 m hm).2).trans (z.block m (hO m (h8 m hm).1).2 (fun e4=>(n m e4.symm).2.2 hm))
 ·rw[p]
  intro q e
  simp[Value.ownBlock]at e
  subst e
  exact⟨.inr rfl,z5,y2⟩
 ·rw[p]
  intro q e
  obtain⟨e1,e2,e3,e4⟩:=h7 q e
  refine⟨.inl e1,e2,e3,fun e5=>?_⟩
  simp[Value.ownBlock]at e5
  subst e5
  rcases s with e6|e6
  ·exact e4 e6
  ·have:=a8n h3 e
   omega
 ·exact fun m hm=>⟨.inl (h8 m hm).1,(h8 m hm).2⟩
 ·intro k hk
  rw[y5]
  rcases hk with hk|rfl
  ·exact⟨(hO k hk).1,Nat.lt_of_lt_of_le (hO k hk).2 z.size⟩
  ·exact⟨y0,z7⟩
 ·exact a.box hf hn
 ·rintro(hk|rfl)
  ·exact hn hk
  ·rcases s with e|e
   ·exact hn (n _ e).1
   ·have:=block_lt hf
    omega
 ·exact a3u z4 a (fun k h=>(hO k h).1)
 ·rintro k (hk|rfl)
  ·exact .inl hk
  ·exact y1
theorem Ck.slot(h:Ck w0 B u ub uc fm O sl bl lv W)(hj:j<sl.length):∃g s,W.cell? (Ad B 5)=some (.slice (some (Ad g 0)) sl.length s)/\g≠B/\O g/\(∃x,W.cell? (Ad g j)=some (vi x))/\W.frozen? (Ad g j)=false /\
  ∀v,Ck w0 B u ub uc fm O (sl.set j v) bl lv (W.setCell (Ad g j) (iv v))/\CK O W O (W.setCell (Ad g j) (iv v)):=by
 obtain⟨⟨sb,s,bb,bc,ms,h1,h2,h3,h4,h5,h6,h7,h8⟩,hB,hO,⟨kv,z9,hf⟩,hn,z6⟩:=h
 obtain⟨z4,z5⟩:=h2
 rcases z5 with⟨e,h0⟩|⟨g,cap,d,e,y,hg,n,p,a,ht⟩
 ·omega
 cases e
 obtain⟨f,o,z8⟩:=h6 g rfl
 have hc:d[j]?=some (iv sl[j]):=by
  have e1:(d.toList.take (sl.length*1))[j]?=(sl.map iv)[j]?:=by rw[ht]
  rw[List.getElem?_take_of_lt (by omega)]at e1
  simpa[hj]using e1
 refine⟨g,s,cell_block h1 rfl,o,f,⟨sl[j],cell_block hg hc⟩,frozen_block hg,fun v=>?_⟩
 have z7:=set_block (i:=j) (iv v) hg
 have z:∀q,q≠g->(W.setCell (Ad g j) (iv v)).heap[q]?=W.heap[q]?:=fun q hq=>set1_other _ _ hq
 have hk:a0b O W (W.setCell (Ad g j) (iv v)):=(a0b.refl O W).set g j _ (fun _=>f)
 refine⟨⟨⟨some (Ad g 0),s,bb,bc,ms,?_,?_,?_,?_,h5,?_,?_,h8⟩,hB,?_,⟨kv,z9,?_⟩,hn,?_⟩,hk,fun _=>.inl⟩
 ·rw[List.length_set]
  exact(z B (Ne.symm o)).trans h1
 ·rw[List.length_set]
  refine⟨by simp,.inr ⟨g,s,_,rfl,y,z7,n,p,by simpa using a,?_⟩⟩
  rw[Array.toList_setIfInBounds,List.take_set,ht,List.map_set]
 ·exact a1z h3 (fun q e _=>z q (fun e2=>(h7 q e).2.2.2 (by rw[e2];rfl)))
 ·exact h4.keep (fun m hm=>z m (fun e=>z8 (e▸hm)))
 ·rw[List.length_set]
  exact h6
 ·rw[List.length_set]
  exact h7
 ·intro k hk
  have:(W.setCell (Ad g j) (iv v)).heap.size=W.heap.size:=by simp
  rw[this]
  exact hO k hk
 ·exact hk.box hf hn
 ·exact a3u z6 hk (fun k h=>(hO k h).1)
abbrev flt (cd:Int) (a:Nat):Value:=.iface 27 (.agg #[vi cd,vi (a:Nat)])
theorem refuse_no(p:Value)(code:Int)(a:Value)(W:World):Cl 46 #[p,.bool false,vi code,a] W fun e W'=>e=.returned (.tuple #[])/\W'=W:=by
 go_enter Tryz.func46,Tryz.ntmps46
 go_wp2
 go_end0
 exact⟨rfl,rfl⟩
theorem a4q(p:Value)(code:Int)(a:Nat)(W:World):Cl 46 #[p,.bool true,vi code,vi (a:Nat)] W fun e W'=>e=.panicked (pan (flt code a))/\W'=W:=by
 go_enter Tryz.func46,Tryz.ntmps46
 go_wp2
 exact⟨rfl,rfl,rfl⟩
theorem a2l(p:Value)(wrong:Bool)(code:Int)(a:Nat)(W:World):Cl 46 #[p,.bool wrong,vi code,vi (a:Nat)] W fun e W'=>W'=W/\((wrong=true/\e=.panicked (pan (flt code a)))\/(wrong=false/\e=.returned (.tuple #[]))):=by
 cases wrong with
 | true=>exact(a4q p code a W).mono fun e W' ⟨h1,h2⟩=>⟨h2,.inl ⟨rfl,h1⟩⟩
 | false=>exact(refuse_no p code _ W).mono fun e W' ⟨h1,h2⟩=>⟨h2,.inr ⟨rfl,h1⟩⟩
theorem d1o:(Tryz.prog.info? 175).map (fun i=>(i.zero,i.size,i.bytes))=some (some (.map none),1,8):=by kernel_rfl
theorem begin_any(w0:World)(B:Nat)(u:Nd)(ub:Option Addr)(uc fm:Nat)(O:Nat->Prop)(sl:List Int)(bl:List (List Lc))(lv:Nat)(W:World)(h:Ck w0 B u ub uc fm O sl bl lv W)(hlen:bl.length<=100000):Cl 67 #[Po B 0] W fun e W'=>e=.returned (.tuple #[])/\∃O',Ck w0 B u ub uc fm O' sl ([]::bl) lv W'/\CK O W O' W':=by
 have x6:=ext_alloc (Below.refl W.heap.size W) (.map #[] 0)
 have gM:=a0a W (.map #[] 0)
 obtain⟨Q,hQ⟩:∃Q,W.heap.size=Q:=⟨_,rfl⟩
 rw[hQ]at gM
 have hb:=ext_alloc x6 (.cells #[mp Q] 175)
 have gQ:=a0a (W.alloc (.map #[] 0)) (.cells #[mp Q] 175)
 rw[World.size_alloc,hQ]at gQ
 replace gM:=block_alloc (.cells #[mp Q] 175) gM
 have y9:=CK.below (O:=O) hb
 have z4:=h.lt
 have g:=h.hO
 have x0:fm<Q:=by
  obtain⟨_,_,hf⟩:=h.hf
  rw[<- hQ]
  exact block_lt hf
 replace h:=h.on hb
 obtain⟨V,hV⟩:∃V,(W.alloc (.map #[] 0)).alloc (.cells #[mp Q] 175)=V:=⟨_,rfl⟩
 have w9:V.heap.size=Q+2:=by rw[<- hV,World.size_alloc,World.size_alloc,hQ]
 have x7:Bw W V:=hV▸hb
 rw[hV]at h gQ gM y9
 obtain⟨i0,y2,y6,y7,y8⟩:=info_parts d1o
 obtain⟨⟨sb,sc,bb,bc,ms,h1,h2,h3,h4,h5,h6,n,h8⟩,hB,hO,⟨kv,z9,hf⟩,hn,z1⟩:=h
 have c6:Ce W B 6 (.slice bb bl.length bc):=by
  have:=(x7.block B z4).symm.trans h1
  exact cell_block this rfl
 have d6:Ce V B 6 (.slice bb bl.length bc):=cell_block h1 rfl
 have f6:V.frozen? (Ad B 6)=false:=frozen_block h1
 have z6:some B≠Value.ownBlock (.slice bb bl.length bc):=fun e=>(n B e.symm).2.1 rfl
 have a:∀j x,[mp Q][j]?=some x->V.cell? ((Ad (Q+1) 0).add j)=some x:=fun j x f=>by
  match j,f with
  | 0,f=>cases f;simpa[Addr.add]using cell_block (i:=0) gQ rfl
  | j+1,f=>simp at f
 have z7:∀x∈[mp Q],x.oneCell'=true:=fun x f=>by simp at f;subst f;rfl
 have x3:bl.length+1<=maxLen:=by unfold maxLen;omega
 have x8:(bl.length+1)*8<=140737488355328:=by omega
 have y5:=z1.size
 have o:∀k,O k->k<Q:=fun k hk=>hQ▸(g k hk).2
 have x4:w0.heap.size<=Q:=by have:=(g B hB).1;have:=o B hB;omega
 have z0:Q≠B:=fun e=>by have:=o B hB;omega
 have x2:∀wx:World,(Instr.makeMap 175 none).run Tryz.prog wx=.ok (.map (some wx.heap.size)) (wx.alloc (.map #[] 0)):=fun wx=>by kernel_rfl
 replace g:Hid _:=g
 replace z9:Hid _:=z9
 go_enter Tryz.func67,Tryz.ntmps67
 go_wp2_with (at_builtin;refine wpList_append_lies _ (by rfl) _ _ _ (by rfl) w0.heap.size 175 i0 _ 1 8 Tryz.underlying83 y2 y6 y7 y8 rfl (by omega) (.slice bb bl.length bc) bl.length _ (by rfl) h3 (Ad (Q+1) 0) 1 1 [mp Q] (by rfl) (by rfl) a z7 (by omega) x3 x8 y5 _ rfl ?_;intro v s w3 d z p z5;have p1:=(z.block _ (block_lt h1) z6).trans h1;have d6:Ce w3 B 6 (.slice bb bl.length bc):=cell_block p1 rfl;have f6:w3.frozen? (Ad B 6)=false:=frozen_block p1)
 have z2:v≠B:=by
  rcases p with e|e
  ·exact(n v e).2.1
  ·have:=block_lt h1
   omega
 have x9:w0.heap.size<=v:=by
  rcases p with e|e
  ·exact(hO v (n v e).1).1
  ·omega
 have z3:O v\/V.heap.size<=v:=by
  rcases p with e|e
  ·exact .inl (n v e).1
  ·exact .inr (by omega)
 have y0:v≠Q:=fun e=>by
  rcases z3 with h|h
  ·have:=o _ h;omega
  ·omega
 have y1:v∉ms:=fun e=>by
  rcases p with e2|e2
  ·exact(n v e2).2.2.1 e
  ·have:=(hO v (h8 v e).1).2
   omega
 have y3:a0b O V w3:=(a0b.grown z).mono (fun k _ e=>(n k e.symm).1)
 have z8:=y3.set B 6 (.slice (some (Ad v 0)) (bl.length+1) s) (fun _=>hB)
 have x5:=set_block (i:=6) (.slice (some (Ad v 0)) (bl.length+1) s) p1
 have y4:(w3.setCell (Ad B 6) (.slice (some (Ad v 0)) (bl.length+1) s)).heap.size=w3.heap.size:=by simp
 have x1:=z.size
 go_end0
 refine⟨rfl,fun k=>O k\/k=Q\/k=v,⟨⟨sb,sc,some (Ad v 0),s,Q::ms,?_,?_,?_,?_,?_,?_,?_,?_⟩,.inl hB,?_,⟨kv,z9.out,?_⟩,?_,?_⟩,y9.k.trans z8,?_⟩
 ·exact x5
 ·refine a1z h2 (fun q e hq=>?_)
  exact(set1_other _ _ (h6 q e).2.1).trans (z.block q hq (fun e4=>(n q e4.symm).2.2.2 e))
 ·have e:((Q::ms).reverse.map mp)=ms.reverse.map mp++[mp Q]:=by simp
  rw[e]
  exact a1z d (fun q e _=>by simp[Value.ownBlock]at e;subst e;exact set1_other _ _ z2)
 ·refine⟨?_,h4.keep (fun m y=>?_)⟩
  ·refine(set1_other _ _ z0).trans ((z.block Q (by omega) (fun e4=>?_)).trans gM)
   have:=o Q (n Q e4.symm).1
   omega
  ·exact(set1_other _ _ (h8 m y).2).trans (z.block m (hO m (h8 m y).1).2 (fun e4=>(n m e4.symm).2.2.1 y))
 ·rw[List.nodup_cons]
  exact⟨fun y=>by have:=o Q (h8 Q y).1;omega,h5⟩
 ·intro q e
  obtain⟨e1,e2,e3⟩:=h6 q e
  refine⟨.inl e1,e2,fun y=>?_⟩
  rcases List.mem_cons.1 y with rfl|y
  ·have:=o _ e1;omega
  ·exact e3 y
 ·intro q e
  simp[Value.ownBlock]at e
  subst e
  refine⟨.inr (.inr rfl),z2,fun y=>?_,fun e5=>?_⟩
  ·rcases List.mem_cons.1 y with e6|y
   ·exact y0 e6
   ·exact y1 y
  ·rcases p with e6|e6
   ·exact(n _ e6).2.2.2 e5
   ·have:=a8n h2 e5
    omega
 ·intro m y
  rcases List.mem_cons.1 y with rfl|y
  ·exact⟨.inr (.inl rfl),z0⟩
  ·exact⟨.inl (h8 m y).1,(h8 m y).2⟩
 ·intro k hk
  rw[y4]
  rcases hk with hk|rfl|rfl
  ·exact⟨(hO k hk).1,Nat.lt_of_lt_of_le (hO k hk).2 z.size⟩
  ·exact⟨x4,by omega⟩
  ·exact⟨x9,z5⟩
 ·exact z8.box hf hn
 ·rintro(hk|rfl|rfl)
  ·exact hn hk
  ·omega
  ·rcases p with e|e
   ·exact hn (n _ e).1
   ·have:=block_lt hf
    omega
 ·exact a3u z1 z8 (fun k h=>(hO k h).1)
 ·rintro k (hk|rfl|rfl)
  ·exact .inl hk
  ·exact .inr (by omega)
  ·rcases z3 with h|h
   ·exact .inl h
   ·exact .inr (by omega)
theorem d1p(n:Nat)(b:List Lc):(kvB n b).length=b.length:=by simp[kvB]
theorem c2l(kf:α->Value)(kv:List (α×Value)):(ents kf kv).size=kv.length:=by simp[ents]
theorem d1q{base T:Nat}{n:Nat}{xs:List Value}(h:W.ownsRow base T 1 (.slice b n d) n xs)(hv:xs[j]?=some v)(hj:j<n):∃g,b=some (Ad g 0)/\W.cell? (Ad g j)=some v/\n<=d:=by
 rcases h.2 with⟨e,h0⟩|⟨g,cap,u,e,_,s,z,_,_,ht⟩
 ·omega
 ·cases e
  refine⟨g,rfl,?_,z⟩
  rw[<- ht,List.getElem?_take_of_lt (by omega)]at hv
  have y:u[j]?=some v:=by simpa using hv
  simp[World.cell?,s,y]
theorem Ck.live(h:Ck w0 B u ub uc fm O sl bl lv W)(l:Nat):Ck w0 B u ub uc fm O sl bl l (W.setCell (Ad B 7) (vi (l:Nat)))/\CK O W O (W.setCell (Ad B 7) (vi (l:Nat))):=by
 obtain⟨⟨j,n,bb,a,g,h1,h2,h3,h4,h5,o,q,s⟩,hB,hO,⟨kv,y,hf⟩,hn,v⟩:=h
 have hk:a0b O W (W.setCell (Ad B 7) (vi (l:Nat))):=(a0b.refl O W).set B 7 _ (fun _=>hB)
 have z:∀p,p≠B->(W.setCell (Ad B 7) (vi (l:Nat))).heap[p]?=W.heap[p]?:=fun p hp=>set1_other _ _ hp
 have f:(W.setCell (Ad B 7) (vi (l:Nat))).heap.size=W.heap.size:=by simp
 exact⟨⟨⟨j,n,bb,a,g,set_block (i:=7) _ h1,a1z h2 (fun p e _=>z p (o p e).2.1),a1z h3 (fun p e _=>z p (q p e).2.1),h4.keep (fun m d=>z m (s m d).2),h5,o,q,s⟩,hB,fun k hk=>⟨(hO k hk).1,by rw[f];exact(hO k hk).2⟩,⟨kv,y,hk.box hf hn⟩,hn,a3u v hk (fun k h=>(hO k h).1)⟩,hk,fun _=>.inl⟩
theorem Ck.top{b:List Lc}{r:List (List Lc)}(h:Ck w0 B u ub uc fm O sl (b::r) lv W):∃y v q,W.cell? (Ad B 6)=some (.slice (some (Ad y 0)) (r.length+1) v)/\W.frozen? (Ad B 6)=false/\r.length+1<=v/\y≠B/\W.cell? (Ad y r.length)=some (mp q)/\q≠B/\q≠y/\O q/\W.heap[q]?=some (a0e sk (kvB (sumL r) b)) /\
  (Ck w0 B u ub uc fm O sl r lv (W.setCell (Ad B 6) (.slice (some (Ad y 0)) r.length v))/\CK O W O (W.setCell (Ad B 6) (.slice (some (Ad y 0)) r.length v))) /\
  (∀x:Lc,Ck w0 B u ub uc fm O sl ((b++[x])::r) lv ({ W with heap:=W.heap.setIfInBounds q (a0e sk (kvB (sumL r) b++[(x.nm,lcv (sumL (b::r)) x.fx)])) } : World)/\CK O W O ({ W with heap:=W.heap.setIfInBounds q (a0e sk (kvB (sumL r) b++[(x.nm,lcv (sumL (b::r)) x.fx)])) } : World)):=by
 obtain⟨⟨sb,sc,bb,v,a,h1,h2,h3,h4,h5,h6,h7,h8⟩,hB,hO,⟨kv,z5,hf⟩,hn,z3⟩:=h
 match a,h4 with
 | q::a,h4 =>
 have z8:=h4.2.len
 have j:((q::a).reverse.map mp)[r.length]?=some (mp q):=by
  simp only[List.reverse_cons,List.map_append,List.map_cons,List.map_nil]
  rw[List.getElem?_append_right (by simp;omega)]
  simp[z8]
 obtain⟨y,rfl,hc,s⟩:=d1q h3 j (by simp)
 obtain⟨y6,f,z4,y7⟩:=h7 y rfl
 obtain⟨z2,z9⟩:=h8 q (by simp)
 have z0:q≠y:=fun e=>z4 (by simp[e])
 refine⟨y,v,q,cell_block h1 rfl,frozen_block h1,by simpa using s,f,hc,z9,z0,z2,h4.1,?_,fun x=>?_⟩
 ·have hk:a0b O W (W.setCell (Ad B 6) (.slice (some (Ad y 0)) r.length v)):=(a0b.refl O W).set B 6 _ (fun _=>hB)
  have z:∀p,p≠B->(W.setCell (Ad B 6) (.slice (some (Ad y 0)) r.length v)).heap[p]?=W.heap[p]?:=fun p hp=>set1_other _ _ hp
  have hs:(W.setCell (Ad B 6) (.slice (some (Ad y 0)) r.length v)).heap.size=W.heap.size:=by simp
  refine⟨⟨⟨sb,sc,some (Ad y 0),v,a,set_block (i:=6) _ h1,a1z h2 (fun p e _=>z p (h6 p e).2.1),?_,h4.2.keep (fun m n=>z m (h8 m (by simp[n])).2),(List.nodup_cons.1 h5).2,fun p e=>⟨(h6 p e).1,(h6 p e).2.1,fun n=>(h6 p e).2.2 (by simp[n])⟩,fun p e=>?_,fun m n=>h8 m (by simp[n])⟩,hB,fun k hk=>⟨(hO k hk).1,by rw[hs];exact(hO k hk).2⟩,⟨kv,z5,hk.box hf hn⟩,hn,a3u z3 hk (fun k h=>(hO k h).1)⟩,hk,fun _=>.inl⟩
  ·have y5:W.ownsRow w0.heap.size 175 1 (.slice (some (Ad y 0)) r.length v) r.length (a.reverse.map mp):=by
    refine⟨by simp[z8],?_⟩
    rcases h3.2 with⟨e,h0⟩|⟨g,cap,y4,e,d,hg,s,z7,z1,ht⟩
    ·simp at h0
    ·cases e
     refine .inr ⟨y,v,y4,rfl,d,hg,by simp at s;omega,z7,z1,?_⟩
     have e2:=congrArg (List.take (r.length*1)) ht
     rw[List.take_take,Nat.min_eq_left (by simp)]at e2
     rw[e2]
     simp only[List.reverse_cons,List.map_append,List.map_cons,List.map_nil]
     rw[List.take_append_of_le_length (by simp;omega)]
     exact List.take_of_length_le (by simp;omega)
   exact a1z y5 (fun p e _=>by simp[Value.ownBlock]at e;subst e;exact z _ f)
  ·simp[Value.ownBlock]at e
   subst e
   exact⟨y6,f,fun n=>z4 (by simp[n]),y7⟩
 ·have z6:kvB (sumL r) b++[(x.nm,lcv (sumL (b::r)) x.fx)]=kvB (sumL r) (b++[x]):=by
   rw[a1o,Nat.add_comm]
   simp[kvB,List.mapIdx_append]
  rw[z6]
  obtain⟨W1,o⟩:∃W1:World,{ W with heap:=W.heap.setIfInBounds q (a0e sk (kvB (sumL r) (b++[x]))) }=W1:=⟨_,rfl⟩
  have hk:a0b O W W1:=by
   rw[<- o]
   exact⟨rfl,rfl,rfl,by simp,fun k hk hs=>by
    have:k≠q:=fun e=>hs (e▸z2)
    simp[Ne.symm this]⟩
  have y9:W1.heap[q]?=some (a0e sk (kvB (sumL r) (b++[x]))):=by
   rw[<- o]
   simp[block_lt h4.1]
  have z:∀p,p≠q->W1.heap[p]?=W.heap[p]?:=fun p y8=>by rw[<- o];simp[Ne.symm y8]
  rw[o]
  have hs:W1.heap.size=W.heap.size:=by rw[<- o];simp
  exact⟨⟨⟨sb,sc,some (Ad y 0),v,q::a,(z B (Ne.symm z9)).trans h1,a1z h2 (fun p e _=>z p (fun e2=>(h6 p e).2.2 (by simp[e2]))),a1z h3 (fun p e _=>z p (fun e2=>(h7 p e).2.2.1 (by simp[e2]))),⟨y9,h4.2.keep (fun m n=>z m (fun e=>(List.nodup_cons.1 h5).1 (e▸n)))⟩,h5,h6,h7,h8⟩,hB,fun k hk=>⟨(hO k hk).1,by rw[hs];exact(hO k hk).2⟩,⟨kv,z5,hk.box hf hn⟩,hn,a3u z3 hk (fun k h=>(hO k h).1)⟩,hk,fun _=>.inl⟩
theorem b5k(w0:World)(B:Nat)(u:Nd)(ub:Option Addr)(uc fm:Nat)(O:Nat->Prop)(sl:List Int)(b:List Lc)(r:List (List Lc))(lv:Nat)(W:World)(h:Ck w0 B u ub uc fm O sl (b::r) lv W)(hr:r.length<=100000)(hlv:lv<=100000)(hlv2:lv=sumL (b::r)):Cl 71 #[Po B 0] W fun e W'=>e=.returned (.tuple #[])/\Ck w0 B u ub uc fm O sl r (sumL r) W'/\CK O W O W':=by
 have j:Bw W W.drew:=(Below.refl _ _).drew
 have z4:=CK.below (O:=O) j
 have z7:=h.cells
 replace h:=h.on j
 obtain⟨hL,g⟩:=h.live (sumL r)
 obtain⟨gb,d,q,c6,f6,m,y0,hc,y5,y6,x8,hq,_,_⟩:=h.top
 obtain⟨x7,x5,q2,f,z3,z6,y8,x9,z0,z1,y7,y4,⟨s,z⟩,_⟩:=hL.top
 have ec:(W.drew.setCell (Ad B 7) (vi (sumL r:Nat))).cell? (Ad B 6)=W.drew.cell? (Ad B 6):=by
  obtain⟨⟨sb,sc,bb,d,ms,h1,_⟩,_⟩:=h
  exact(cell_block (i:=6) (v:=.slice bb (b::r).length d) (set_block (i:=7) _ h1) rfl).trans (cell_block (i:=6) h1 rfl).symm
 rw[ec,c6]at f
 cases f
 have z2:W.cell? (Ad B 6)=some (.slice (some (Ad gb 0)) (r.length+1) d):=c6
 have z5:W.cell? (Ad gb r.length)=some (mp q):=hc
 have x6:W.frozen? (Ad B 6)=false:=f6
 obtain⟨_,_,c7,f7⟩:=z7
 obtain⟨es,y⟩:∃es,ents sk (kvB (sumL r) b)=es:=⟨_,rfl⟩
 obtain⟨ck,o⟩:∃ck,(kvB (sumL r) b).length=ck:=⟨_,rfl⟩
 have z8:W.heap[q]?=some (.map es ck):=by
  have:W.heap[q]?=some (a0e sk (kvB (sumL r) b)):=hq
  rw[this,a0e,y,o]
 have p:es.size=b.length:=by rw[<- y,c2l,d1p]
 obtain⟨n,hn⟩:∃n,r.length=n:=⟨_,rfl⟩
 obtain⟨a,z9⟩:∃a,sumL r=a:=⟨_,rfl⟩
 rw[a1o]at hlv2
 rw[z9]at hlv2 z3 s z hL g⊢
 rw[hn]at c6 z2 hc z5 hr m s z
 have hw:IntKind.i64.wrap ((lv:Int)-(es.size:Int))=(a:Int):=by rw[p,IntKind.wrap_i64];omega
 clear p hlv2
 have y2:(n:Int)<=(d:Int):=by omega
 have y1:(0:Int)<=(n:Int):=by omega
 have y3:(n:Int)<((n+1:Nat):Int):=by omega
 have y9:(Builtin.len_ #[175] 3 #[.map (some q)]).run Tryz.prog W.drew=.ok (goInt es.size) W.drew:=run_len_map (P:=Tryz.prog) W.drew 175 3 q es ck (by kernel_rfl) z8
 clear y o hq
 go_enter Tryz.func71,Tryz.ntmps71
 go_wp2
 go_region_with (fail)
 all_goals
  go_wp2
  go_end0
  exact⟨rfl,s,z4.trans (g.trans z)⟩
theorem b2d(n:Nat)(s:List UInt8):∀(b:List Lc),(kvB n b).lookup s=(b.findIdx? (fun x=>x.nm == s)).map fun i=>lcv (n+i) ((b[i]?.map Lc.fx).getD false):=by
 intro b
 induction b generalizing n with
 | nil=>rfl
 | cons x l ih =>
  have e:kvB n (x::l)=(x.nm,lcv n x.fx)::kvB (n+1) l:=by
   simp only[kvB,List.mapIdx_cons,Nat.add_zero]
   congr 1
   apply List.ext_getElem?
   intro i
   simp only[List.getElem?_mapIdx]
   cases l[i]? with
   | none=>rfl
   | some y=>simp[Nat.add_assoc,Nat.add_comm 1 i]
  rw[e,List.lookup_cons,List.findIdx?_cons]
  by_cases hx:x.nm=s
  ·subst hx
   simp
  ·have h1:(s == x.nm)=false:=by simpa using fun h=>hx h.symm
   have h2:(x.nm == s)=false:=by simpa using hx
   rw[h1,h2,ih]
   simp only[Bool.false_eq_true,if_false]
   cases hf:l.findIdx? (fun x=>x.nm == s) with
   | none=>rfl
   | some i=>simp[Nat.add_assoc,Nat.add_comm 1 i]
theorem b6z(n:Nat)(b:List Lc):(kvB n b).map (·.1)=b.map Lc.nm:=by
 apply List.ext_getElem?
 intro i
 simp only[kvB,List.getElem?_map,List.getElem?_mapIdx]
 cases b[i]? <;> rfl
def b0t (s:List UInt8) (bl:List (List Lc)):Value:=match findL s bl with
 | some p=>.tuple #[lcv p.1 p.2,.bool true]
 | none=>.tuple #[lcv 0 false,.bool false]
theorem a5h{c:Code}{P:Program}{a:Act}{Q:Exit->Act->World->Prop}{R:Act->World->Prop}(h:∀v:Exit->Act->World->Prop,(∀y z,R y z->v .normal y z)->c.wp P v a w)(hq:∀y z,R y z->Q .normal y z):c.wp P Q a w:=h Q hq
theorem b9f(p q:Addr)(w:World) :
  CallsD Tryz.prog 40 #[.pointer (some p),.pointer (some q)] .returning w fun e u z=>e=.returned (.tuple #[])/\u=.returning/\z=w:=by
 refine callsD_of_wpS Tryz.func40 rfl fun s cs y=>?_
 apply wpS_seq
 apply wpS_region
 simp[wpOpsS,go_sem,recoverD,y,Tryz.ntmps40,Exit.thenS]
 refine wpS_of_wp ?_
 refine a5h (R:=fun v z=>v.defers=[]/\z=w) (fun Q o=>?_) ?_
 ·clear y
  have hf:#[Value.pointer (some p),.pointer (some q)]++(Array.replicate 18 undef).setIfInBounds 4 Value.nilIface=#[.pointer (some p),.pointer (some q),undef,undef,undef,undef,.nilIface,undef,undef,undef,undef,undef,undef,undef,undef,undef,undef,undef,undef,undef]:=by kernel_rfl
  rw[hf]
  clear hf
  go_wp2
 ·rintro v z ⟨h1,rfl⟩
  cases s
  simp_all [bodyPostS,results,Tryz.results40]
theorem b5l(b:Nat)(q:Addr)(a:Int)(A0 A1:Value)(older:List PanicEntry)(w:World)(hc:w.heap[b]?=some (.cells #[A0,A1] 27)) :
  CallsD Tryz.prog 40 #[Po b 0,.pointer (some q)] (.panicking ({ v:=.iface 96 (.agg #[vi a]),recovered:=false } :: older)) w fun e p z=>e=.returned (.tuple #[])/\p=.panicking ({ v:=.iface 96 (.agg #[vi a]),recovered:=true } :: older)/\z=((w.setCell (Ad b 0) (vi 2)).setCell (Ad b 1) (vi a)).alloc (.cells #[vi a] 96):=by
 have m:=block_lt hc
 have c0:=cell_block (i:=0) hc rfl
 have c1:=cell_block (i:=1) hc rfl
 have f0:=frozen_block (i:=0) hc
 have f1:=frozen_block (i:=1) hc
 have n1:¬b=w.heap.size:=by omega
 have n:∀u:World,(Instr.typeAssert (.iface 96 (.agg #[vi a])) 20 96 true).run Tryz.prog u=.ok (.tuple #[.agg #[vi a],.bool true]) u:=fun _=>by kernel_rfl
 have n2:¬w.heap.size=b:=by omega
 refine callsD_of_wpS Tryz.func40 rfl fun o cs y=>?_
 apply wpS_seq
 apply wpS_region
 simp[wpOpsS,go_sem,recoverD,y,Tryz.ntmps40,Exit.thenS]
 refine wpS_of_wp ?_
 refine a5h (R:=fun s z=>s.defers=[]/\z=((w.setCell (Ad b 0) (vi 2)).setCell (Ad b 1) (vi a)).alloc (.cells #[vi a] 96)) (fun Q j=>?_) ?_
 ·clear y
  have hf:#[Value.pointer (some (Ad b 0)),.pointer (some q)]++(Array.replicate 18 undef).setIfInBounds 4 (Value.iface 96 (.agg #[vi a]))=#[Po b 0,.pointer (some q),undef,undef,undef,undef,.iface 96 (.agg #[vi a]),undef,undef,undef,undef,undef,undef,undef,undef,undef,undef,undef,undef,undef]:=by kernel_rfl
  rw[hf]
  clear hf hc
  go_wp2
 ·rintro s z ⟨h1,rfl⟩
  cases o
  simp_all [bodyPostS,results,Tryz.results40]
theorem b5m(b:Nat)(q:Addr)(a:Int)(A0 A1:Value)(older:List PanicEntry)(w:World)(hc:w.heap[b]?=some (.cells #[A0,A1] 27))(hq:w.cell? q=some (vi a))(hq0:∃g,q=(Ad g 0)) :
  CallsD Tryz.prog 40 #[Po b 0,.pointer (some q)] (.panicking ({ v:=.iface 98 (.agg #[]),recovered:=false } :: older)) w fun e p z=>e=.returned (.tuple #[])/\p=.panicking ({ v:=.iface 98 (.agg #[]),recovered:=true } :: older)/\z=((w.setCell (Ad b 0) (vi 2)).setCell (Ad b 1) (vi a)).alloc (.cells #[] 98):=by
 have f:=block_lt hc
 have c0:=cell_block (i:=0) hc rfl
 have c1:=cell_block (i:=1) hc rfl
 have f0:=frozen_block (i:=0) hc
 have f1:=frozen_block (i:=1) hc
 have n1:¬b=w.heap.size:=by omega
 obtain⟨g,rfl⟩:=hq0
 have n:=fun o=>a2e (ext_alloc (Below.refl _ w) o) hq
 have h:∀u:World,(Instr.typeAssert (.iface 98 (.agg #[])) 20 96 true).run Tryz.prog u=.ok (.tuple #[.agg #[vi 0],.bool false]) u:=fun _=>by kernel_rfl
 have j:∀u:World,(Instr.typeAssert (.iface 98 (.agg #[])) 20 98 true).run Tryz.prog u=.ok (.tuple #[.agg #[],.bool true]) u:=fun _=>by kernel_rfl
 have n2:¬w.heap.size=b:=by omega
 refine callsD_of_wpS Tryz.func40 rfl fun m cs y=>?_
 apply wpS_seq
 apply wpS_region
 simp[wpOpsS,go_sem,recoverD,y,Tryz.ntmps40,Exit.thenS]
 refine wpS_of_wp ?_
 refine a5h (R:=fun s z=>s.defers=[]/\z=((w.setCell (Ad b 0) (vi 2)).setCell (Ad b 1) (vi a)).alloc (.cells #[] 98)) (fun Q d=>?_) ?_
 ·clear y
  have hf:#[Value.pointer (some (Ad b 0)),Po g 0]++(Array.replicate 18 undef).setIfInBounds 4 (Value.iface 98 (.agg #[]))=#[Po b 0,Po g 0,undef,undef,undef,undef,.iface 98 (.agg #[]),undef,undef,undef,undef,undef,undef,undef,undef,undef,undef,undef,undef,undef]:=by kernel_rfl
  rw[hf]
  clear hf hc
  go_wp2
 ·rintro s z ⟨h1,rfl⟩
  cases m
  simp_all [bodyPostS,results,Tryz.results40]
theorem a2h{T K E:TypeId}{d:TypeDesc}[BEq α][LawfulBEq α]{kf:α->Value}(ht:Tryz.prog.underlying T=some (.map K E))(hK:Tryz.prog.underlying K=some d)(hk:KeyK d kf)(kv:List (α×Value))(hd:(kv.map (·.1)).Nodup)(k:α)(hn:kv.lookup k=none)(v:Value)(kv':List (α×Value))(hkv:kv++[(k,v)]=kv') :
  (Instr.mapUpdate T (.map (some w.heap.size)) (kf k) v).run Tryz.prog (w.alloc (a0e kf kv))=.ok () (w.alloc (a0e kf kv')):=by
 subst hkv
 refine(a9o ht hK hk (a0a w _) hd k hn v).trans ?_
 have hp:∀(h:Array Obj) (x y:Obj),(h.push x).setIfInBounds h.size y=h.push y:=by
  intro h x y
  apply Array.toList_inj.1
  simp
 show Result.ok () ({ w.alloc (a0e kf kv)with heap:=(w.heap.push (a0e kf kv)).setIfInBounds w.heap.size (a0e kf (kv++[(k,v)])) } : World)=_
 rw[hp]
 rfl
theorem mk46(u:World):(Instr.makeMap 100 none).run Tryz.prog u=.ok (.map (some u.heap.size)) (u.alloc (a0e sk [])):=by kernel_rfl
theorem mk45(u:World):(Instr.makeMap 99 none).run Tryz.prog u=.ok (.map (some u.heap.size)) (u.alloc (a0e sk [])):=by kernel_rfl
theorem mk48(u:World):(Instr.makeMap 82 none).run Tryz.prog u=.ok (.map (some u.heap.size)) (u.alloc (a0e sk [])):=by kernel_rfl
theorem mk47(u:World):(Instr.makeMap 101 none).run Tryz.prog u=.ok (.map (some u.heap.size)) (u.alloc (a0e ik [])):=by kernel_rfl
theorem b9g(w:World):Cl 64 #[] w fun e w'=>e=.returned (.map (some w.heap.size))/\w'=w.alloc (a0e sk a0c):=by
 have f:=mk46 w
 obtain⟨O0,h⟩:∃o,a0e sk (a0c.take 0)=o:=⟨_,rfl⟩
 obtain⟨O1,i⟩:∃o,a0e sk (a0c.take 1)=o:=⟨_,rfl⟩
 obtain⟨O2,j⟩:∃o,a0e sk (a0c.take 2)=o:=⟨_,rfl⟩
 obtain⟨O3,m⟩:∃o,a0e sk (a0c.take 3)=o:=⟨_,rfl⟩
 obtain⟨O4,n⟩:∃o,a0e sk (a0c.take 4)=o:=⟨_,rfl⟩
 obtain⟨O5,p⟩:∃o,a0e sk (a0c.take 5)=o:=⟨_,rfl⟩
 obtain⟨O6,q⟩:∃o,a0e sk (a0c.take 6)=o:=⟨_,rfl⟩
 obtain⟨O7,s⟩:∃o,a0e sk (a0c.take 7)=o:=⟨_,rfl⟩
 obtain⟨O8,u⟩:∃o,a0e sk (a0c.take 8)=o:=⟨_,rfl⟩
 obtain⟨O9,v⟩:∃o,a0e sk (a0c.take 9)=o:=⟨_,rfl⟩
 obtain⟨g,y⟩:∃o,a0e sk (a0c.take 10)=o:=⟨_,rfl⟩
 obtain⟨d,z⟩:∃o,a0e sk (a0c.take 11)=o:=⟨_,rfl⟩
 rw[show([]:List (List UInt8×Value))=a0c.take 0 from rfl,h]at f
 have z0:(Instr.mapUpdate 100 (.map (some w.heap.size)) (.string ⟨#[111,114]⟩) (.agg #[vi 21,vi 1])).run Tryz.prog (w.alloc O0)=.ok () (w.alloc O1):=h▸i▸a2h Tryz.underlying100 Tryz.underlying9 a1b (a0c.take 0) (by decide) [111,114] rfl _ _ rfl
 have z1:(Instr.mapUpdate 100 (.map (some w.heap.size)) (.string ⟨#[97,110,100]⟩) (.agg #[vi 20,vi 2])).run Tryz.prog (w.alloc O1)=.ok () (w.alloc O2):=i▸j▸a2h Tryz.underlying100 Tryz.underlying9 a1b (a0c.take 1) (by decide) [97,110,100] rfl _ _ rfl
 have z2:(Instr.mapUpdate 100 (.map (some w.heap.size)) (.string ⟨#[61,61]⟩) (.agg #[vi 7,vi 3])).run Tryz.prog (w.alloc O2)=.ok () (w.alloc O3):=j▸m▸a2h Tryz.underlying100 Tryz.underlying9 a1b (a0c.take 2) (by decide) [61,61] rfl _ _ rfl
 have z3:(Instr.mapUpdate 100 (.map (some w.heap.size)) (.string ⟨#[60]⟩) (.agg #[vi 8,vi 3])).run Tryz.prog (w.alloc O3)=.ok () (w.alloc O4):=m▸n▸a2h Tryz.underlying100 Tryz.underlying9 a1b (a0c.take 3) (by decide) [60] rfl _ _ rfl
 have z4:(Instr.mapUpdate 100 (.map (some w.heap.size)) (.string ⟨#[60,61]⟩) (.agg #[vi 9,vi 3])).run Tryz.prog (w.alloc O4)=.ok () (w.alloc O5):=n▸p▸a2h Tryz.underlying100 Tryz.underlying9 a1b (a0c.take 4) (by decide) [60,61] rfl _ _ rfl
 have z5:(Instr.mapUpdate 100 (.map (some w.heap.size)) (.string ⟨#[46,46]⟩) (.agg #[vi 6,vi 4])).run Tryz.prog (w.alloc O5)=.ok () (w.alloc O6):=p▸q▸a2h Tryz.underlying100 Tryz.underlying9 a1b (a0c.take 5) (by decide) [46,46] rfl _ _ rfl
 have z6:(Instr.mapUpdate 100 (.map (some w.heap.size)) (.string ⟨#[43]⟩) (.agg #[vi 1,vi 5])).run Tryz.prog (w.alloc O6)=.ok () (w.alloc O7):=q▸s▸a2h Tryz.underlying100 Tryz.underlying9 a1b (a0c.take 6) (by decide) [43] rfl _ _ rfl
 have z7:(Instr.mapUpdate 100 (.map (some w.heap.size)) (.string ⟨#[45]⟩) (.agg #[vi 2,vi 5])).run Tryz.prog (w.alloc O7)=.ok () (w.alloc O8):=s▸u▸a2h Tryz.underlying100 Tryz.underlying9 a1b (a0c.take 7) (by decide) [45] rfl _ _ rfl
 have z8:(Instr.mapUpdate 100 (.map (some w.heap.size)) (.string ⟨#[42]⟩) (.agg #[vi 3,vi 6])).run Tryz.prog (w.alloc O8)=.ok () (w.alloc O9):=u▸v▸a2h Tryz.underlying100 Tryz.underlying9 a1b (a0c.take 8) (by decide) [42] rfl _ _ rfl
 have z9:(Instr.mapUpdate 100 (.map (some w.heap.size)) (.string ⟨#[47]⟩) (.agg #[vi 4,vi 6])).run Tryz.prog (w.alloc O9)=.ok () (w.alloc g):=v▸y▸a2h Tryz.underlying100 Tryz.underlying9 a1b (a0c.take 9) (by decide) [47] rfl _ _ rfl
 have a:(Instr.mapUpdate 100 (.map (some w.heap.size)) (.string ⟨#[37]⟩) (.agg #[vi 5,vi 6])).run Tryz.prog (w.alloc g)=.ok () (w.alloc d):=y▸z▸a2h Tryz.underlying100 Tryz.underlying9 a1b (a0c.take 10) (by decide) [37] rfl _ _ rfl
 rw[show a0c=a0c.take 11 from rfl,z]
 clear h i j m n p q s u v y z
 go_enter Tryz.func64,Tryz.ntmps64
 go_wp2
 go_ret
 exact⟨rfl,rfl⟩
def spv (p:List UInt8×Int×Nat):Value:=.agg #[.string ⟨p.1.toArray⟩,vi ((p.2.2+1:Nat):Int)]
structure Sp (seen:Array Nat) (kv:List (Int×Value)):Prop where
 nodup:(kv.map (·.1)).Nodup
 from_:∀q∈kv,∃j p,opsL[j]?=some p/\seen.contains j=true/\q=(p.2.1,spv p)
 all:∀j p,opsL[j]?=some p->seen.contains j=true->(p.2.1,spv p)∈kv
theorem c6o:Sp #[] []:=⟨by simp,fun q hq=>by simp at hq,fun j p _ h=>by simp at h⟩
theorem d1r:∀i,i<11->∀j,j<11->(opsL.getD i ([],0,0)).2.1=(opsL.getD j ([],0,0)).2.1->i=j:=by decide
theorem b7a{q:List UInt8×Int×Nat}(hi:opsL[i]?=some p)(hj:opsL[j]?=some q)(h:p.2.1=q.2.1):i=j:=by
 have y:opsL.getD i ([],0,0)=p:=by simp[List.getD,hi]
 have z:opsL.getD j ([],0,0)=q:=by simp[List.getD,hj]
 exact d1r i (List.getElem?_eq_some_iff.1 hi).1 j (List.getElem?_eq_some_iff.1 hj).1 (by rw[y,z];exact h)
theorem Sp.new(h:Sp seen kv)(hj:opsL[j]?=some p)(hs:seen.contains j=false):kv.lookup p.2.1=none:=look_none fun q hq e=>by
 obtain⟨i,p',y,z,rfl⟩:=h.from_ q hq
 have:=b7a y hj e
 subst this
 rw[hs]at z
 cases z
theorem Sp.step(h:Sp seen kv)(hj:opsL[j]?=some p)(hs:seen.contains j=false):Sp (seen.push j) (kv++[(p.2.1,spv p)]):=by
 refine⟨?_,fun q hq=>?_,fun i p' y z=>?_⟩
 ·rw[List.map_append,List.nodup_append]
  refine⟨h.nodup,by simp,?_⟩
  intro a s b u e
  simp at u
  subst u
  subst e
  obtain⟨q,hq,v⟩:=List.mem_map.1 s
  obtain⟨i,p',y,z,rfl⟩:=h.from_ q hq
  have:=b7a y hj v
  subst this
  rw[hs]at z
  cases z
 ·rcases List.mem_append.1 hq with hq|hq
  ·obtain⟨i,p',y,z,rfl⟩:=h.from_ q hq
   exact⟨i,p',y,by rw[contains_push,z];rfl,rfl⟩
  ·simp at hq
   exact⟨j,p,hj,by rw[contains_push];simp,hq⟩
 ·rw[contains_push]at z
  by_cases e:i=j
  ·subst e
   rw[hj]at y
   cases y
   simp
  ·have:seen.contains i=true:=by simpa[e]using z
   exact List.mem_append.2 (.inl (h.all i p' y this))
theorem Sp.done(h:Sp seen kv)(ha:∀j,j<11->seen.contains j=true):c1u kv:=by
 refine⟨h.nodup,fun o=>?_⟩
 unfold opOf
 cases hf:opsL.find? (fun p=>p.2.1 == o) with
 | none =>
  rw[look_none]
  ·rfl
  intro q hq e
  obtain⟨i,p',s,y,rfl⟩:=h.from_ q hq
  have:=List.find?_eq_none.1 hf p' (List.mem_of_getElem? s)
  simp at this
  exact this e
 | some p =>
  have u:=List.mem_of_find?_eq_some hf
  have v:p.2.1=o:=by simpa using List.find?_some hf
  obtain⟨j,z⟩:=List.getElem?_of_mem u
  have:=h.all j p z (ha j (List.getElem?_eq_some_iff.1 z).1)
  rw[v]at this
  rw[b1r h.nodup this]
  rfl
abbrev ES:Array MapEntry:=ents sk a0c
theorem d6f{e:MapEntry}(h:e∈ES.toList):∃j p,opsL[j]?=some p/\e={ key:=sk p.1,val:=.agg #[vi p.2.1,vi ((p.2.2+1:Nat):Int)],born:=j }:=by
 obtain⟨i,q,hq,rfl⟩:=b1q h
 unfold a0c at hq
 rw[List.getElem?_map]at hq
 cases ho:opsL[i]? with
 | none=>rw[ho]at hq;cases hq
 | some p =>
  rw[ho]at hq
  obtain rfl:=Option.some.inj hq
  exact⟨i,p,ho,rfl⟩
theorem d1s:∀x∈ES.toList,x.born<11:=fun x z=>by
 obtain⟨j,p,y,rfl⟩:=d6f z
 exact(List.getElem?_eq_some_iff.1 y).1
theorem c6p:(ES.toList.map (·.born)).Nodup:=by
 have:ES.toList.map (·.born)=List.range 11:=by rfl
 rw[this]
 exact List.nodup_range
theorem d1t(h:(leftOf ES seen).size=0):∀j,j<11->seen.contains j=true:=fun j y=>by
 obtain⟨p,hp⟩:∃p,a0c[j]?=some p:=⟨_,List.getElem?_eq_getElem (show j<a0c.length from y)⟩
 have z:=b6o (kf:=sk) hp
 cases hc:seen.contains j with
 | true=>rfl
 | false =>
  have:({ key:=sk p.1,val:=p.2,born:=j } : MapEntry)∈leftOf ES seen:=by
   unfold leftOf
   rw[Array.mem_filter]
   exact⟨Array.mem_toList_iff.1 z,by show(!seen.contains j)=true;rw[hc];rfl⟩
  rw[Array.eq_empty_of_size_eq_zero h]at this
  simp at this
abbrev a4b (w : World) : Prop := Lib.TabIs Tryz.prog w "strings.asciiSpace" .u8 Lib.asciiSpaceTab
theorem a4b.below{u:World}(h:a4b w)(hb:Bw w u):a4b u:=by
 have v : Tryz.prog.globalNamed "strings.asciiSpace" = some 0 := by kernel_rfl
 unfold a4b Lib.TabIs World.var? at h⊢
 rw[v]at h⊢
 simp only[Option.bind_some]at h⊢
 have z:0<w.heap.size:=by
  rcases Nat.lt_or_ge 0 w.heap.size with y|y
  ·exact y
  ·rw[Array.getElem?_eq_none y]at h
   cases h
 rw[hb.block 0 z]
 exact h
abbrev b2e:ByteArray:=⟨#[97,110,100,32,100,111,32,101,108,115,101,32,101,109,105,116,32,101,110,100,32,102,97,108,115,101,32,102,111,114,32,102,117,110,99,116,105,111,110,32,105,102,32,108,111,99,97,108,32,110,101,120,116,32,110,105,108,32,110,111,116,32,111,114,32,114,101,116,117,114,110,32,116,104,101,110,32,116,114,117,101,32,119,104,105,108,101]⟩
theorem b9h:Lib.fields b2e.data.toList=a0u:=by decide
theorem c2m:∀(j:Nat) b,b2e.data.toList[j]?=some b->b.toNat<128:=fun j b h=>by
 have:b2e.data.toList.all (fun b=>decide (b.toNat<128))=true:=by decide
 simpa using List.all_eq_true.1 this b (List.mem_of_getElem? h)
theorem c6q(s:List UInt8)(l:List (List UInt8))(h:l.contains s=false):(l.map fun s=>(s,Value.agg #[])).lookup s=none:=look_none fun p hp e=>by
 obtain⟨x,z,rfl⟩:=List.mem_map.1 hp
 simp only at e
 subst e
 rw[List.contains_iff_mem.2 z]at h
 cases h
theorem d1u:∀i,i<18->(a0u.take i).contains (a0u.getD i [])=false:=by decide
theorem c2n:∀i,i<19->(a0u.take i).Nodup:=by decide
theorem d1v{wr:World}{m1:Nat}{s:List UInt8}(hs:a0u[i]?=some s)(hm:wr.heap[m1]?=some (a0e sk (a0s.take i))):(Instr.mapUpdate 99 (.map (some m1)) (sk s) (.agg #[])).run Tryz.prog wr=.ok () { wr with heap:=wr.heap.setIfInBounds m1 (a0e sk (a0s.take (i+1))) }:=by
 have y:i<18:=(List.getElem?_eq_some_iff.1 hs).1
 have z:a0s.take i=(a0u.take i).map fun s=>(s,Value.agg #[]):=by unfold a0s;rw[List.map_take]
 have u:a0u.getD i []=s:=by simp[List.getD,hs]
 have v:a0s.take i++[(s,Value.agg #[])]=a0s.take (i+1):=by
  rw[List.take_add_one]
  congr 1
  unfold a0s
  rw[List.getElem?_map,hs]
  rfl
 have hp:=a9o (P:=Tryz.prog) (w:=wr) (T:=99) (K:=9) (E:=97) (kf:=sk) (kv:=a0s.take i) (B:=m1) Tryz.underlying99 Tryz.underlying9 a1b hm (by rw[z,List.map_map,show((fun x:List UInt8×Value=>x.1) ∘ fun s=>(s,Value.agg #[]))=id from rfl,List.map_id];exact c2n i (by omega)) s (by rw[z];exact c6q s _ (u▸d1u i y)) (.agg #[])
 rw[v]at hp
 exact hp
abbrev put5 (W:World) (B:Nat) (a b c d e:Value):World:=(put4 W B a b c d).setCell (Ad B 4) e
theorem put5_self(W:World)(B:Nat)(a b c d e:Value):a0b (fun k=>k=B) W (put5 W B a b c d e):=(a2g W B a b c d).set B 4 e (fun _=>rfl)
theorem put5_same{a b c d:Value}(a' b' c' d' e':Value)(h:W.heap[B]?=some (.cells #[a,b,c,d,e] 103)):(put5 W B a' b' c' d' e').heap[B]?=some (.cells #[a',b',c',d',e'] 103):=set_block _ (set_block _ (set_block _ (set_block _ (set_block _ h))))
theorem d6g{a b c d:Value}(h:tm[0]?.getD undef=Po B 0)(hx:W.heap[B]?=some (.cells #[a,b,c,d,e] 103)):(results Tryz.f41 tm).run Tryz.prog W=.ok (.agg #[a,b,c,d,e]) W:=by
 have c0:Ce W B 0 a:=cell_block hx rfl
 have c1:Ce W B 1 b:=cell_block hx rfl
 have c2:Ce W B 2 c:=cell_block hx rfl
 have c3:Ce W B 3 d:=cell_block hx rfl
 have c4:Ce W B 4 e:=cell_block hx rfl
 simp[results,Tryz.results41,go_sem,h,c0,c1,c2,c3,c4]
theorem b3x{r:Nat}{a:Option Nat}{b:Nat}{s:Array Nat}{c:Nat}(h:W.heap[r]?=some (.mapIter a b s c)):W.iterSeen r=s:=by
 unfold World.iterSeen
 rw[h]
theorem a4f(W:World)(m:Nat)(o:Obj):a0b (fun q=>q=m) W { W with heap:=W.heap.setIfInBounds m o }:=⟨rfl,rfl,rfl,by simp,fun k hk hn=>by
 show(W.heap.setIfInBounds m o)[k]?=_
 rw[Array.getElem?_setIfInBounds]
 rw[if_neg (fun e=>hn e.symm)]⟩
theorem a7l{o o':Obj}(h:W.heap[m]?=some o'):({ W with heap:=W.heap.setIfInBounds m o } : World).heap[m]?=some o:=by
 have:=block_lt h
 show(W.heap.setIfInBounds m o)[m]?=_
 rw[Array.getElem?_setIfInBounds,if_pos rfl,if_pos this]
theorem a8o(w:World)(hT:a4b w):Cl 41 #[] w fun e w'=>∃m1 m2 m3 m4 m5,e=.returned (.agg #[.map (some m1),.map (some m2),.map (some m3),.map (some m4),.map (some m5)])/\Wd w' w'.heap.size m1 m2 m3 m4 m5/\Bw w w':=by
 have z1:=a0a w (.cells #[.map none,.map none,.map none,.map none,.map none] 103)
 have b1:=ext_alloc (Below.refl w.heap.size w) (.cells #[.map none,.map none,.map none,.map none,.map none] 103)
 obtain⟨A1,hA1⟩:∃A,w.alloc (.cells #[.map none,.map none,.map none,.map none,.map none] 103)=A:=⟨_,rfl⟩
 have s1:A1.heap.size=w.heap.size+1:=by rw[<- hA1];simp
 rw[hA1]at z1 b1
 have z2:=a0a A1 (a0e sk [])
 have b2:=ext_alloc b1 (a0e sk [])
 have x2:=ext_alloc (Below.refl A1.heap.size A1) (a0e sk [])
 obtain⟨A2,hA2⟩:∃A,A1.alloc (a0e sk [])=A:=⟨_,rfl⟩
 have s2:A2.heap.size=w.heap.size+1+1:=by rw[<- hA2,World.size_alloc,s1]
 rw[hA2,s1]at z2
 rw[hA2]at b2 x2
 have k1:=mk45 A1
 rw[hA2,s1]at k1
 have z3:=a0a A2 (a0e sk a0c)
 have b3:=ext_alloc b2 (a0e sk a0c)
 have x3:=ext_alloc (Below.refl A2.heap.size A2) (a0e sk a0c)
 obtain⟨A3,hA3⟩:∃A,A2.alloc (a0e sk a0c)=A:=⟨_,rfl⟩
 have s3:A3.heap.size=w.heap.size+1+1+1:=by rw[<- hA3,World.size_alloc,s2]
 rw[hA3,s2]at z3
 rw[hA3]at b3 x3
 have c2:=b9g A2
 rw[hA3,s2]at c2
 have z4:=a0a A3 (a0e ik [])
 have b4:=ext_alloc b3 (a0e ik [])
 have x4:=ext_alloc (Below.refl A3.heap.size A3) (a0e ik [])
 obtain⟨A4,hA4⟩:∃A,A3.alloc (a0e ik [])=A:=⟨_,rfl⟩
 have s4:A4.heap.size=w.heap.size+1+1+1+1:=by rw[<- hA4,World.size_alloc,s3]
 rw[hA4,s3]at z4
 rw[hA4]at b4 x4
 have k3:=mk47 A3
 rw[hA4,s3]at k3
 obtain⟨O40,hO40⟩:∃o,a0e sk (a1i.take 0)=o:=⟨_,rfl⟩
 obtain⟨O41,hO41⟩:∃o,a0e sk (a1i.take 1)=o:=⟨_,rfl⟩
 obtain⟨O42,hO42⟩:∃o,a0e sk (a1i.take 2)=o:=⟨_,rfl⟩
 obtain⟨O43,hO43⟩:∃o,a0e sk (a1i.take 3)=o:=⟨_,rfl⟩
 have k4:=mk48 A4
 rw[show([]:List (List UInt8×Value))=a1i.take 0 from rfl,hO40,s4]at k4
 have p40:(Instr.mapUpdate 82 (.map (some (w.heap.size+1+1+1+1))) (.string ⟨#[45]⟩) (vi 24)).run Tryz.prog (A4.alloc O40)=.ok () (A4.alloc O41):=s4▸hO40▸hO41▸a2h Tryz.underlying82 Tryz.underlying9 a1b (a1i.take 0) (by decide) [45] rfl _ _ rfl
 have p41:(Instr.mapUpdate 82 (.map (some (w.heap.size+1+1+1+1))) (.string ⟨#[110,111,116]⟩) (vi 23)).run Tryz.prog (A4.alloc O41)=.ok () (A4.alloc O42):=s4▸hO41▸hO42▸a2h Tryz.underlying82 Tryz.underlying9 a1b (a1i.take 1) (by decide) [110,111,116] rfl _ _ rfl
 have p42:(Instr.mapUpdate 82 (.map (some (w.heap.size+1+1+1+1))) (.string ⟨#[35]⟩) (vi 25)).run Tryz.prog (A4.alloc O42)=.ok () (A4.alloc O43):=s4▸hO42▸hO43▸a2h Tryz.underlying82 Tryz.underlying9 a1b (a1i.take 2) (by decide) [35] rfl _ _ rfl
 have z5:=a0a A4 (a0e sk a1i)
 have b5:=ext_alloc b4 (a0e sk a1i)
 have x5:=ext_alloc (Below.refl A4.heap.size A4) (a0e sk a1i)
 obtain⟨A5,hA5⟩:∃A,A4.alloc (a0e sk a1i)=A:=⟨_,rfl⟩
 have s5:A5.heap.size=w.heap.size+1+1+1+1+1:=by rw[<- hA5,World.size_alloc,s4]
 rw[hA5,s4]at z5
 rw[hA5]at b5 x5
 rw[show a1i=a1i.take 3 from rfl,hO43]at hA5
 clear hO40 hO41 hO42 hO43
 obtain⟨O50,hO50⟩:∃o,a0e sk (a0n.take 0)=o:=⟨_,rfl⟩
 obtain⟨O51,hO51⟩:∃o,a0e sk (a0n.take 1)=o:=⟨_,rfl⟩
 obtain⟨O52,hO52⟩:∃o,a0e sk (a0n.take 2)=o:=⟨_,rfl⟩
 obtain⟨O53,hO53⟩:∃o,a0e sk (a0n.take 3)=o:=⟨_,rfl⟩
 have k5:=mk48 A5
 rw[show([]:List (List UInt8×Value))=a0n.take 0 from rfl,hO50,s5]at k5
 have p50:(Instr.mapUpdate 82 (.map (some (w.heap.size+1+1+1+1+1))) (.string ⟨#[110,105,108]⟩) (vi 15)).run Tryz.prog (A5.alloc O50)=.ok () (A5.alloc O51):=s5▸hO50▸hO51▸a2h Tryz.underlying82 Tryz.underlying9 a1b (a0n.take 0) (by decide) [110,105,108] rfl _ _ rfl
 have p51:(Instr.mapUpdate 82 (.map (some (w.heap.size+1+1+1+1+1))) (.string ⟨#[116,114,117,101]⟩) (vi 16)).run Tryz.prog (A5.alloc O51)=.ok () (A5.alloc O52):=s5▸hO51▸hO52▸a2h Tryz.underlying82 Tryz.underlying9 a1b (a0n.take 1) (by decide) [116,114,117,101] rfl _ _ rfl
 have p52:(Instr.mapUpdate 82 (.map (some (w.heap.size+1+1+1+1+1))) (.string ⟨#[102,97,108,115,101]⟩) (vi 17)).run Tryz.prog (A5.alloc O52)=.ok () (A5.alloc O53):=s5▸hO52▸hO53▸a2h Tryz.underlying82 Tryz.underlying9 a1b (a0n.take 2) (by decide) [102,97,108,115,101] rfl _ _ rfl
 have z6:=a0a A5 (a0e sk a0n)
 have b6:=ext_alloc b5 (a0e sk a0n)
 have x6:=ext_alloc (Below.refl A5.heap.size A5) (a0e sk a0n)
 obtain⟨A6,hA6⟩:∃A,A5.alloc (a0e sk a0n)=A:=⟨_,rfl⟩
 have s6:A6.heap.size=w.heap.size+1+1+1+1+1+1:=by rw[<- hA6,World.size_alloc,s5]
 rw[hA6,s5]at z6
 rw[hA6]at b6 x6
 rw[show a0n=a0n.take 3 from rfl,hO53]at hA6
 clear hO50 hO51 hO52 hO53
 have hB6:=b6
 have hz2:A6.heap[w.heap.size+1]?=some (a0e sk []):=block_below x6 (block_below x5 (block_below x4 (block_below x3 z2)))
 have hz3:A6.heap[w.heap.size+1+1]?=some (a0e sk a0c):=block_below x6 (block_below x5 (block_below x4 z3))
 have hz4:A6.heap[w.heap.size+1+1+1]?=some (a0e ik []):=block_below x6 (block_below x5 z4)
 have hz5:A6.heap[w.heap.size+1+1+1+1]?=some (a0e sk a1i):=block_below x6 z5
 have hz1:A6.heap[w.heap.size]?=some (.cells #[.map none,.map none,.map none,.map none,.map none] 103):=block_below x6 (block_below x5 (block_below x4 (block_below x3 (block_below x2 z1))))
 go_enter Tryz.func41,Tryz.ntmps41
 go_wp2_with (first|(go_at_call 64;refine c2.mono ?_;rintro e w1 ⟨rfl,rfl⟩)|(go_at_call 65;refine Hid.out ?_))
 clear c2 k1 k3 k4 k5 p40 p41 p42 p50 p51 p52 hA1 hA2 hA3 hA4 hA5 hA6 z1 z2 z3 z4 z5 x2 x3 x4 x5 x6 b1 b2 b3 b4 b5 b6 s1 s2 s3 s4 s5
 have xb:=ext_alloc (Below.refl A6.heap.size A6) (.cells #[.map (some (w.heap.size+1)),.map (some (w.heap.size+1+1)),.map (some (w.heap.size+1+1+1)),.map (some (w.heap.size+1+1+1+1)),.map (some (w.heap.size+1+1+1+1+1))] 103)
 have zb:=a0a A6 (.cells #[.map (some (w.heap.size+1)),.map (some (w.heap.size+1+1)),.map (some (w.heap.size+1+1+1)),.map (some (w.heap.size+1+1+1+1)),.map (some (w.heap.size+1+1+1+1+1))] 103)
 obtain⟨U,hU⟩:∃U,A6.alloc (.cells #[.map (some (w.heap.size+1)),.map (some (w.heap.size+1+1)),.map (some (w.heap.size+1+1+1)),.map (some (w.heap.size+1+1+1+1)),.map (some (w.heap.size+1+1+1+1+1))] 103)=U:=⟨_,rfl⟩
 have sU:U.heap.size=w.heap.size+1+1+1+1+1+1+1:=by rw[<- hU,World.size_alloc,s6]
 rw[hU]at xb zb⊢
 rw[s6]at zb
 have hBU:=ext_trans hB6 xb
 replace hz1:=block_below xb hz1
 replace hz2:=block_below xb hz2
 replace hz3:=block_below xb hz3
 replace hz4:=block_below xb hz4
 replace hz5:=block_below xb hz5
 replace z6:=block_below xb z6
 have hF:=Tryz.strings_Fields b2e U (by decide) c2m (hT.below hBU)
 rw[b9h,show a0u.length=18 from rfl]at hF
 have hst:=a0a U (.cells ((a0u.map fun l=>Value.string ⟨l.toArray⟩).toArray) 9)
 have xs:=ext_alloc (Below.refl U.heap.size U) (.cells ((a0u.map fun l=>Value.string ⟨l.toArray⟩).toArray) 9)
 obtain⟨V,hV⟩:∃V,U.alloc (.cells ((a0u.map fun l=>Value.string ⟨l.toArray⟩).toArray) 9)=V:=⟨_,rfl⟩
 rw[hV]at hF hst xs
 have sV:V.heap.size=w.heap.size+1+1+1+1+1+1+1+1:=by rw[<- hV,World.size_alloc,sU]
 have hBV:=ext_trans hBU xs
 replace hz1:=block_below xs hz1
 replace hz2:=block_below xs hz2
 replace hz3:=block_below xs hz3
 replace hz4:=block_below xs hz4
 replace hz5:=block_below xs hz5
 replace z6:=block_below xs z6
 replace zb:=block_below xs zb
 obtain⟨c,hc⟩:∃m,U.heap.size=m:=⟨_,rfl⟩
 rw[hc]at hF hst
 rw[hc]at sU
 clear hU hV xs xb hc hBU hB6 s6 hT
 obtain⟨tb,htb⟩:∃m,w.heap.size+1+1+1+1+1+1=m:=⟨_,rfl⟩
 rw[htb]at zb sU sV⊢
 obtain⟨m5,hm5⟩:∃m,w.heap.size+1+1+1+1+1=m:=⟨_,rfl⟩
 rw[hm5]at zb z6 htb⊢
 obtain⟨m4,hm4⟩:∃m,w.heap.size+1+1+1+1=m:=⟨_,rfl⟩
 rw[hm4]at zb hz5 hm5⊢
 obtain⟨m3,hm3⟩:∃m,w.heap.size+1+1+1=m:=⟨_,rfl⟩
 rw[hm3]at zb hz4 hm4⊢
 obtain⟨m2,hm2⟩:∃m,w.heap.size+1+1=m:=⟨_,rfl⟩
 rw[hm2]at zb hz3 hm3⊢
 obtain⟨m1,hm1⟩:∃m,w.heap.size+1=m:=⟨_,rfl⟩
 rw[hm1]at zb hz2 hm2⊢
 refine Lib.hid ?_
 go_wp2_with (go_at_call 65;refine hF.mono ?_;rintro e w1 ⟨rfl,hwV⟩)
 subst hwV
 subst sU
 go_loopw [16] (fun ix wr=>∃i:Nat,i<=18/\ix=vi (i:Nat)/\wr.heap[m1]?=some (a0e sk (a0s.take i))/\a0b (fun q=>q=m1) w1 wr) (fun ix _=>18-(intOf ix).toNat)
 case atStart=>exact⟨0,by omega,rfl,hz2,a0b.refl _ _⟩
 case round =>
  obtain⟨i,hi,rfl,hm,hk⟩:=hrel
  have hbx:=hk.box zb (by omega)
  have y0:Ce wr tb 0 (.map (some m1)):=cell_block hbx rfl
  have y1:Ce wr tb 1 (.map (some m2)):=cell_block hbx rfl
  by_cases hlt:i<18
  ·obtain⟨s,hs⟩:∃s,a0u[i]?=some s:=⟨_,List.getElem?_eq_getElem (show i<a0u.length from hlt)⟩
   have hlt':(i:Int)<18:=by omega
   have hcell:Ce wr (tb+1) i (sk s):=hk.cell (cell_block hst (by simp[hs])) (by omega)
   have hp:=d1v hs hm
   have hk2:=a4f wr m1 (a0e sk (a0s.take (i+1)))
   have hm2':=a7l (o:=a0e sk (a0s.take (i+1))) hm
   obtain⟨W',hW'⟩:∃W',({ wr with heap:=wr.heap.setIfInBounds m1 (a0e sk (a0s.take (i+1))) } : World)=W':=⟨_,rfl⟩
   rw[hW']at hp hk2 hm2'
   clear hW' hs hbx
   go_wp2
   go_roundw
   case rel=>exact⟨i+1,by omega,by go_num,hm2',hk.then hk2 (fun q _ e=>e)⟩
   case measure=>simp[intOf];omega
  ·have hge:¬(i:Int)<18:=by omega
   obtain rfl:i=18:=by omega
   have hbm:wr.heap[m2]?=some (.map ES 11):=hk.box hz3 (by omega)
   have hr:=run_range_map (P:=Tryz.prog) wr 100 9 129 m2 ES 11 Tryz.underlying100 hbm
   have hit:=a0a wr (.mapIter (some m2) 11 #[] 11)
   have xit:=ext_alloc (Below.refl wr.heap.size wr) (.mapIter (some m2) 11 #[] 11)
   have hzm3:=block_below xit (hk.box hz4 (by omega))
   have hbm':=block_below xit hbm
   have hbx':=block_below xit hbx
   have hzr:w1.heap.size<=wr.heap.size:=hk.size
   have hX1:=block_below xit hm
   have hX4:=block_below xit (hk.box hz5 (by omega))
   have hX5:=block_below xit (hk.box z6 (by omega))
   have hXa:=block_below xit (hk.box hz1 (by omega))
   have hK0:a0b no w (wr.alloc (.mapIter (some m2) 11 #[] 11)):=((a0b.of_below hBV).then hk (fun q hq e=>by omega)).trans (a0b.of_below xit)
   rw[show a0s.take 18=a0s from rfl]at hX1
   go_wp2
   obtain⟨X,hX⟩:∃X,wr.alloc (.mapIter (some m2) 11 #[] 11)=X:=⟨_,rfl⟩
   rw[hX]at hit hzm3 hbm' xit hbx' hX1 hX4 hX5 hXa hK0
   obtain⟨it,hit2⟩:∃m,wr.heap.size=m:=⟨_,rfl⟩
   rw[hit2]at hit hzr
   rw[hX,hit2]
   clear hr y0 y1 hX hbm
   go_loopw [28] (fun _ wq=>∃seen kv,wq.heap[it]?=some (.mapIter (some m2) 11 seen 11)/\wq.heap[m3]?=some (a0e ik kv)/\Sp seen kv/\a0b (fun q=>q=m3\/q=it) X wq) (fun _ wq=>(leftOf ES (wq.iterSeen it)).size)
   case atStart=>exact⟨#[],[],hit,hzm3,c6o,a0b.refl _ _⟩
   case round =>
    obtain⟨seen,kv,hI,hM,hS,hK⟩:=hrel
    have hbm2:=hK.box hbm' (by omega)
    have hbx2:=hK.box hbx' (by omega)
    rcases run_next_at (P:=Tryz.prog) wr 0 it m2 11 11 seen ES 11 hI hbm2 d1s (Nat.le_refl _) with⟨h0,hn⟩|⟨e,he,w3,hw3,hn⟩
    ·have hKF:=hK0.then hK (fun q hq e=>by omega)
     have ha:=hK.box hXa (by omega)
     have l0:Ce wr tb 0 (.map (some m1)):=cell_block hbx2 rfl
     have l1:Ce wr tb 1 (.map (some m2)):=cell_block hbx2 rfl
     have l2:Ce wr tb 2 (.map (some m3)):=cell_block hbx2 rfl
     have l3:Ce wr tb 3 (.map (some m4)):=cell_block hbx2 rfl
     have l4:Ce wr tb 4 (.map (some m5)):=cell_block hbx2 rfl
     have a0:Ce wr w.heap.size 0 (.map none):=cell_block ha rfl
     have a1:Ce wr w.heap.size 1 (.map none):=cell_block ha rfl
     have a2:Ce wr w.heap.size 2 (.map none):=cell_block ha rfl
     have a3:Ce wr w.heap.size 3 (.map none):=cell_block ha rfl
     have a4:Ce wr w.heap.size 4 (.map none):=cell_block ha rfl
     have f0:wr.frozen? (Ad w.heap.size 0)=false:=frozen_block ha
     have f1:wr.frozen? (Ad w.heap.size 1)=false:=frozen_block ha
     have f2:wr.frozen? (Ad w.heap.size 2)=false:=frozen_block ha
     have f3:wr.frozen? (Ad w.heap.size 3)=false:=frozen_block ha
     have f4:wr.frozen? (Ad w.heap.size 4)=false:=frozen_block ha
     have hsp:=hS.done (d1t h0)
     have r1:=hK.box hX1 (by omega)
     have r4:=hK.box hX4 (by omega)
     have r5:=hK.box hX5 (by omega)
     go_wp2
     have hk5:a0b (fun q=>q=w.heap.size) wr (put5 wr w.heap.size (.map (some m1)) (.map (some m2)) (.map (some m3)) (.map (some m4)) (.map (some m5))):=put5_self _ _ _ _ _ _ _
     have hsz:=hk5.size
     have hlt9:=block_lt r5
     refine bodyPost_ret (d6g rfl (put5_same _ _ _ _ _ ha)) rfl ⟨m1,m2,m3,m4,m5,rfl,?_,(hKF.then hk5 (fun q hq e=>by omega)).below (Nat.le_refl _) (fun _ _=>id)⟩
     exact⟨Nat.lt_of_lt_of_le (by omega) hsz,Nat.lt_of_lt_of_le (by omega) hsz,Nat.lt_of_lt_of_le (by omega) hsz,Nat.lt_of_lt_of_le (by omega) hsz,Nat.lt_of_lt_of_le (by omega) hsz,hk5.box r1 (by omega),hk5.box hbm2 (by omega),⟨kv,hsp,hk5.box hM (by omega)⟩,hk5.box r4 (by omega),hk5.box r5 (by omega)⟩
    ·have hs:=left_shrinks ES seen e he
     obtain⟨j,p,hj,rfl⟩:=d6f (mem_left he).1
     have hsj:=(mem_left he).2
     have hm0:=(mem_left he).1
     obtain⟨wd0,num,lv⟩:=p
     simp only at hn hs hsj hm0
     have hk3:a0b (fun q=>q=it) wr (ChangeMaps.setBlock w3 it (.mapIter (some m2) 11 (seen.push j) 11)):=by
      rcases hw3 with rfl|rfl
      ·exact a4f _ _ _
      ·exact(a0b.refl _ _).drew.trans (a4f _ _ _)
     have hI3:(ChangeMaps.setBlock w3 it (.mapIter (some m2) 11 (seen.push j) 11)).heap[it]?=some (.mapIter (some m2) 11 (seen.push j) 11):=by
      rcases hw3 with rfl|rfl
      ·exact a7l hI
      ·exact a7l (W:=wr.drew) hI
     obtain⟨X3,hX3⟩:∃x,ChangeMaps.setBlock w3 it (.mapIter (some m2) 11 (seen.push j) 11)=x:=⟨_,rfl⟩
     rw[hX3]at hn hk3 hI3
     clear hX3 hw3
     have hen:=run_entry_at (P:=Tryz.prog) X3 it m2 11 seen ES 11 _ hI3 (hk3.box hbm2 (by omega)) hm0 c6p
     simp only at hen
     obtain⟨bb,hbb⟩:∃b:Int,((lv+1:Nat):Int)=b:=⟨_,rfl⟩
     rw[hbb]at hn hen
     have hb4:=ext_alloc (Below.refl X3.heap.size X3) (.cells #[vi num,vi bb] 129)
     have hI4:=block_below hb4 hI3
     have hM4:=block_below hb4 (hk3.box hM (by omega))
     have hbx4:=block_below hb4 (hk3.box hbx2 (by omega))
     have g4:=a0a X3 (.cells #[vi num,vi bb] 129)
     obtain⟨X4,hX4⟩:∃x,X3.alloc (.cells #[vi num,vi bb] 129)=x:=⟨_,rfl⟩
     rw[hX4]at hb4 hI4 hM4 hbx4 g4
     have hp:=a9o (P:=Tryz.prog) (w:=X4) (T:=101) (K:=2) (E:=131) (kf:=ik) (kv:=kv) (B:=m3) Tryz.underlying101 Tryz.underlying2 d0l hM4 hS.nodup num (hS.new hj hsj) (.agg #[.string ⟨wd0.toArray⟩,vi bb])
     have hk5:=a4f X4 m3 (a0e ik (kv++[(num,.agg #[.string ⟨wd0.toArray⟩,vi bb])]))
     have hM5:=a7l (o:=a0e ik (kv++[(num,.agg #[.string ⟨wd0.toArray⟩,vi bb])])) hM4
     obtain⟨X5,hX5⟩:∃x,({ X4 with heap:=X4.heap.setIfInBounds m3 (a0e ik (kv++[(num,.agg #[.string ⟨wd0.toArray⟩,vi bb])])) } : World)=x:=⟨_,rfl⟩
     rw[hX5]at hp hk5 hM5
     clear hX5
     have v2:Ce X4 tb 2 (.map (some m3)):=cell_block hbx4 rfl
     have v3:Ce X4 X3.heap.size 0 (vi num):=cell_block g4 rfl
     have v4:Ce X4 X3.heap.size 1 (vi bb):=cell_block g4 rfl
     have hI5:=hk5.box hI4 (by omega)
     have hSn:=hS.step hj hsj
     have hSe:spv (wd0,num,lv)=.agg #[.string ⟨wd0.toArray⟩,vi bb]:=by rw[<- hbb];rfl
     rw[hSe]at hSn
     have hK5:=((hK.then hk3 (fun q _ e=>.inr e)).trans (a0b.of_below hb4)).then hk5 (fun q _ e=>.inl e)
     have hms:(leftOf ES (X5.iterSeen it)).size<(leftOf ES (wr.iterSeen it)).size:=by
      rw[b3x hI5,b3x hI];exact hs
     clear hbx2 hbm2 hI hM hS hK hk3 hI3 hM4 hbx4 g4 hb4 hI4 hk5 hs hj hsj hm0 hSe hbb he
     go_wp2
     go_roundw
     case rel=>exact⟨_,_,hI5,hM5,hSn,hK5⟩
     case measure=>exact hms
end Go.Proofs.YtfbpdbndejefdaaGreatDoor
