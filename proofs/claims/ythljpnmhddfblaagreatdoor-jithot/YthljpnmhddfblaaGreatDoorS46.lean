/- The loop's trace, and who runs it. -/
import Derived.Test.YthljpnmhddfblaaGreatDoorS43
import Derived.Test.YthljpnmhddfblaaGreatDoorS32
namespace Go.Proofs.YthljpnmhddfblaaGreatDoor
open Go.RowKit Go
set_option maxRecDepth 100000
set_option maxHeartbeats 8000000
set_option linter.all false
section
variable [DecidableEq Vl]
def trH:Tr:=⟨0,3,[⟨1,0,0,0,nilV,-1⟩,⟨1,1,0,0,nilV,-1⟩,⟨28,0,1,0,nilV,0⟩,⟨10,2,0,0,nilV,1⟩,⟨1,2,0,0,nilV,-1⟩,⟨21,0,4,0,nilV,2⟩],
 [⟨3,0,[-1,-1,-1,-1]⟩,⟨4,1,[-1,-1,-1,2]⟩,⟨5,2,[-1,-1,-1,2]⟩,⟨3,4,[5,-1,-1,2]⟩]⟩
structure Rn (w0:World) (m:Hm) (s:Ms) (R vb lo:Nat) (iv sv:Value) (vs:List Value) (vals:List Vl) (W:World):Prop where
 mh:Mh w0 m s W
 bx:W.heap[R]?=some (.cells #[.pointer (some ⟨m.B,0,none⟩),.int .i64 0,.int .i64 3,iv,sv,.slice (some ⟨vb,0,none⟩) 6 6] 104)
 vr:OwnR W vb 25 3 6 6 (flat vals)
 vl:vals.length=6
 tr:TrV lo trH iv sv vs W
 nd:(R::vb::(m.own++blks (trR trH iv sv vs))).Nodup
 lR:w0.heap.size<=R/\w0.heap.size<=vb
section
variable {w0:World} {m:Hm} {s:Ms} {R vb lo:Nat} {iv sv:Value} {vs:List Value} {vals:List Vl} {W W':World}
theorem Rn.ap(h:Rn w0 m s R vb lo iv sv vs vals W):R≠vb/\R∉m.own/\vb∉m.own/\R∉blks (trR trH iv sv vs)/\vb∉blks (trR trH iv sv vs)/\∀k∈blks (trR trH iv sv vs),k∉m.own:=by
 obtain⟨h1,h2⟩:=List.nodup_cons.1 h.nd
 obtain⟨h3,h4⟩:=List.nodup_cons.1 h2
 exact⟨fun e=>h1 (by rw[e];exact List.mem_cons_self),fun hm=>h1 (List.mem_cons_of_mem _ (List.mem_append_left _ hm)),fun hm=>h3 (List.mem_append_left _ hm),fun hm=>h1 (List.mem_cons_of_mem _ (List.mem_append_right _ hm)),fun hm=>h3 (List.mem_append_right _ hm),fun k hk hm=>(List.nodup_append.1 h4).2.2 k hm k hk rfl⟩
theorem Rn.mach(h:Rn w0 m s R vb lo iv sv vs vals W){s':Ms}(hM:Mh w0 m s' W')(hK:MK m.own W m.own W'):Rn w0 m s' R vb lo iv sv vs vals W':=by
 obtain⟨a1,a2,a3,a4,a5,a6⟩:=h.ap
 exact⟨hM,(hK.k.block R (block_lt h.bx) a2).trans h.bx,h.vr.same (hK.k.block vb h.vr.lt a3),h.vl,h.tr.wrote hK.k a6,h.nd,h.lR⟩
theorem Rn.on(h:Rn w0 m s R vb lo iv sv vs vals W)(hb:Below W.heap.size W W'):Rn w0 m s R vb lo iv sv vs vals W':=h.mach (h.mh.on hb) (MK.below hb)
theorem Rn.put(h:Rn w0 m s R vb lo iv sv vs vals W){i:Nat}{r:Vl}{e:Ending}(hP:PutV W vb i r e W'):Rn w0 m s R vb lo iv sv vs (vals.set i r) W':=by
 obtain⟨a1,a2,a3,a4,a5,a6⟩:=h.ap
 refine⟨h.mh.wrote hP.k (fun k e=>by have e':k=vb:=e;rw[e'];exact a3) (fun k e=>by have e':k=vb:=e;rw[e'];exact h.lR.2),(hP.k.block R (block_lt h.bx) a1).trans h.bx,?_,by simpa using h.vl,h.tr.wrote hP.k (fun k hk e=>by have e':k=vb:=e;exact a5 (e'▸hk)),h.nd,h.lR⟩
 have:=((h.vr.set (i*3) (.int .i64 r.k)).set (i*3+1) (.int .i64 r.n)).set (i*3+2) (.string r.s)
 rw[<- flat_set]at this
 exact this.same hP.b
structure Rc (m:Hm) (s:Ms) (R vb:Nat) (iv sv:Value) (vals:List Vl) (W:World):Prop where
 c0:W.cell? ⟨R,0,none⟩=some (.pointer (some ⟨m.B,0,none⟩))
 c3:W.cell? ⟨R,3,none⟩=some iv
 c4:W.cell? ⟨R,4,none⟩=some sv
 c5:W.cell? ⟨R,5,none⟩=some (.slice (some ⟨vb,0,none⟩) 6 6)
 va:∀(i:Nat) x,vals[i]?=some x->RegAt W vb i x
 cu:∃cur,W.heap[vb]?=some (.cells cur 25 (0,0))
theorem Rn.cs(h:Rn w0 m s R vb lo iv sv vs vals W):Rc m s R vb iv sv vals W:=by
 refine⟨cell_block h.bx rfl,cell_block h.bx rfl,cell_block h.bx rfl,cell_block h.bx rfl,fun i x hx=>?_,?_⟩
 ·obtain⟨h0,h1,h2⟩:=flat_at hx
  exact⟨⟨(h.vr.cell h0).1,(h.vr.cell h1).1,(h.vr.cell h2).1⟩,(h.vr.cell h0).2,(h.vr.cell h1).2,(h.vr.cell h2).2⟩
 ·obtain⟨_,cur,hh,_⟩:=h.vr
  exact⟨cur,hh⟩
theorem Rn.sn(h:Rn w0 m s R vb lo iv sv vs vals W){i:Nat}{q:Sn}(hq:trH.sns[i]?=some q)(hr:q.rg.length=4):∃sb sc rb rc,sv=.slice (some ⟨sb,0,none⟩) 4 sc/\SnAt W sb (i*3) q (.slice (some ⟨rb,0,none⟩) 4 rc)/\(∀(j:Nat) n,q.rg[j]?=some n->W.cell? ⟨rb,j,none⟩=some (.int .i64 n))/\rb∉m.own:=by
 obtain⟨a1,a2,a3,a4,a5,a6⟩:=h.ap
 obtain⟨sb,sc,hrs⟩:=h.tr.sns (by simp[trH])
 obtain⟨v,rb,rc,hv,hrr⟩:=h.tr.reg hq (fun e=>by rw[e]at hr;simp at hr)
 have er:v=.slice (some ⟨rb,0,none⟩) q.rg.length rc:=hrr.v
 rw[hr]at er
 subst er
 refine⟨sb,sc,rb,rc,hrs.v,snAt_of hrs hq hv,fun j n hj=>hrr.c j _ (by show(ints q.rg)[j]?=_;rw[List.getElem?_map,hj];rfl),a6 rb ?_⟩
 obtain⟨_,_,_,d⟩:=snc_get _ _ _ hq hv
 exact blks_mem.2 ⟨_,List.mem_cons_of_mem _ (List.mem_cons_of_mem _ d),rfl⟩
end
def vK (i n:Nat) (vals:List Vl):Nat->List Vl
 | 0=>vals
 | 1=>vals.set 0 (numV i)
 | 2=>(vals.set 0 (numV i)).set 1 (numV n)
 | 3=>((vals.set 0 (numV i)).set 1 (numV n)).set 2 (boV (decide (i<n)))
 | 4=>((vals.set 0 (numV i)).set 1 (numV n)).set 2 (boV (decide (i<n)))
 | 5=>(((vals.set 0 (numV i)).set 1 (numV n)).set 2 (boV (decide (i<n)))).set 4 (numV 1)
 | _=>((((vals.set 0 (numV i)).set 1 (numV n)).set 2 (boV (decide (i<n)))).set 4 (numV 1)).set 5 (numV (i+1))
abbrev sI (i n:Nat) (d:Vl) (st:Nat):Ms:=stS 3 [numV i,numV n,numV 1,d] st
section
variable {w0:World} {m:Hm} {R vb lo:Nat} {iv sv:Value} {vs:List Value} {vals:List Vl} {W:World} {i n st:Nat} {d:Vl}
theorem six{vals:List Vl}(h:vals.length=6):∃a b c d e f,vals=[a,b,c,d,e,f]:=by
 rcases vals with _|⟨a,_|⟨b,_|⟨c,_|⟨d,_|⟨e,_|⟨f,_|⟨g,r⟩⟩⟩⟩⟩⟩⟩
 all_goals first|exact⟨a,b,c,d,e,f,rfl⟩|(simp at h)
theorem reg_k(h:Rn w0 m (sI i n d st) R vb lo iv sv vs vals W)(k x:Nat){v old:Vl}(hk:k<6)(o:Ti)(ho:o.op=1)(hx:o.x=(x:Nat))(hx4:x<4)(hv:([numV i,numV n,numV 1,d]:List Vl)[x]?=some v)(hold:vals[k]?=some old) :
  Calls Tryz.prog 49 #[.pointer (some ⟨R,0,none⟩),.int .i64 (k:Nat),o.val] W fun e W'=>e=.returned (.tuple #[])/\Rn w0 m (sI i n d st) R vb lo iv sv vs (vals.set k v) W'/\Keeps (fun q=>q=vb) W W':=by
 obtain⟨a1,a2,a3,a4,a5,a6⟩:=h.ap
 have c:=h.cs
 have hc:=h.mh.cs
 obtain⟨cur,hcur⟩:=c.cu
 refine(do_reg R vb 6 6 k x m.B m.F m.fc m.g 4 m.c o ho hx W c.c0 c.c5 hc.c2 hc.d3 (hc.rg x v hv).t (c.va k old hold) hx4 hk a1 (fun e=>a3 (by rw[<- e];simp)) (fun e=>a3 (by rw[<- e];simp))).mono fun e W' k'=>?_
 obtain⟨k1,V,k2,k3⟩:=k'
 exact⟨k1,h.put (PutV.of hcur k2 k3),(PutV.of hcur k2 k3).k⟩
theorem op_k(h:Rn w0 m (sI i n d st) R vb lo iv sv vs vals W)(k x y:Nat){vx vy r old:Vl}(hk:k<6)(o:Ti)(ho:o.op=21\/o.op=28)(hx:o.x=(x:Nat))(hy:o.y=(y:Nat))(hvx:vals[x]?=some vx)(hvy:vals[y]?=some vy)(hold:vals[k]?=some old)(hop:∀u,Calls Tryz.prog 98 #[.int .i64 (o.op-20),vx.v,vy.v] u fun e w'=>e=.returned (.tuple #[r.v,.int .i64 0])/\Below u.heap.size u w') :
  Calls Tryz.prog 49 #[.pointer (some ⟨R,0,none⟩),.int .i64 (k:Nat),o.val] W fun e W'=>e=.returned (.tuple #[])/\Rn w0 m (sI i n d st) R vb lo iv sv vs (vals.set k r) W'/\Keeps (fun q=>q=vb) W W':=by
 obtain⟨a1,a2,a3,a4,a5,a6⟩:=h.ap
 have c:=h.cs
 obtain⟨cur,hcur⟩:=c.cu
 have hl:=h.vl
 have hx6:=(List.getElem?_eq_some_iff.1 hvx).1
 have hy6:=(List.getElem?_eq_some_iff.1 hvy).1
 exact(do_op R vb 6 6 k x y _ ⟨m.B,rfl⟩ o ho hx hy W c.c0 c.c5 hcur (c.va x vx hvx).t (c.va y vy hvy).t (c.va k old hold) (by omega) (by omega) hk a1 hop).mono fun e W' k'=>⟨k'.e,h.put k',k'.k⟩
theorem do_k(hn:n<=999)(hi:i<=999){k:Nat}{o:Ti}(ho:trH.ins[k]?=some o)(hl:vals.length=6)(h:Rn w0 m (sI i n d st) R vb lo iv sv vs (vK i n vals k) W)(h3:k=3->i<n) :
  Calls Tryz.prog 49 #[.pointer (some ⟨R,0,none⟩),.int .i64 (k:Nat),o.val] W fun e W'=>e=.returned (.tuple #[])/\Rn w0 m (sI i n d st) R vb lo iv sv vs (vK i n vals (k+1)) W'/\Keeps (fun q=>q=vb) W W':=by
 obtain⟨a,b,cc,d',e,f,rfl⟩:=six hl
 have hk:=(List.getElem?_eq_some_iff.1 ho).1
 have hk6:k=0\/k=1\/k=2\/k=3\/k=4\/k=5:=by simp[trH]at hk;omega
 rcases hk6 with rfl|rfl|rfl|rfl|rfl|rfl
 ·cases ho
  exact reg_k h 0 0 (by omega) _ rfl rfl (by omega) rfl rfl
 ·cases ho
  exact reg_k h 1 1 (by omega) _ rfl rfl (by omega) rfl rfl
 ·cases ho
  exact op_k h 2 0 1 (by omega) _ (.inr rfl) rfl rfl rfl rfl rfl (fun u=>lt_op (a:=i) (b:=n) (by omega) (by omega) u)
 ·cases ho
  have c:=h.cs
  have hv:(vK i n [a,b,cc,d',e,f] 3)[2]?=some (boV (decide (i<n))):=rfl
  refine(do_true R vb 6 6 3 2 _ rfl rfl (v:=boV (decide (i<n))) W c.c5 (c.va 2 _ hv).t (by omega) (by rw[boV_truth];simpa using h3 rfl)).mono fun e' W' k'=>⟨k'.1,h.on k'.2,Keeps.of_below k'.2⟩
 ·cases ho
  exact reg_k h 4 2 (by omega) _ rfl rfl (by omega) rfl rfl
 ·cases ho
  exact op_k h 5 0 4 (by omega) _ (.inl rfl) rfl rfl rfl rfl rfl (fun u=>add_op (a:=i) (b:=1) (by omega) u)
end
theorem res40{tm:Array Value}{W:World}{x:Value}(h:tm[4]?.getD undef=x):(results Tryz.f40 tm).run Tryz.prog W=.ok x W:=by
 simp[results,Tryz.results40,go_sem,h]
section
variable {w0:World} {m:Hm} {R vb lo:Nat} {iv sv:Value} {vs:List Value} {vals:List Vl} {W:World} {i n st:Nat} {d:Vl}
theorem goOn_k{V:List Vl}(h:Rn w0 m (sI i n d st) R vb lo iv sv vs V W){j:Nat}{q:Sn}(hq:trH.sns[j]?=some q)(hr:q.rg.length=4){rb rc:Nat}(hrg:∀(j:Nat) n,q.rg[j]?=some n->W.cell? ⟨rb,j,none⟩=some (.int .i64 n))(hro:rb∉m.own)(hin:∀n∈q.rg,n=-1\/∃p:Nat,n=p/\p<6)(hst:st<=60000)(hq2:0<=q.st/\q.st<=1000){s':Ms}(hs:sLay (sI i n d st) (layJ V [numV i,numV n,numV 1,d] q.rg 4) q.pc q.st=s') :
  Calls Tryz.prog 48 #[.pointer (some ⟨R,0,none⟩),.agg #[.int .i64 q.pc,.int .i64 q.st,.slice (some ⟨rb,0,none⟩) 4 rc]] W fun e W'=>e=.returned (.tuple #[])/\Rn w0 m s' R vb lo iv sv vs V W'/\Keeps (·∈m.own) W W':=by
 obtain⟨a1,a2,a3,a4,a5,a6⟩:=h.ap
 have c:=h.cs
 have:=goOn_any h.mh R vb 6 6 rb 4 rc q.pc q.st q.rg V c.c0 c.c5 (fun i x hx=>(c.va i x hx).t) hrg hr (by simp) (by omega) (by rw[h.vl];exact hin) (by rw[h.vl];exact Nat.le_refl _) (by omega) a2 a3 hro (by simp;omega) (by omega)
 refine this.mono fun e W' k=>⟨k.e,?_,k.k.k⟩
 rw[<- hs]
 exact h.mach k.h k.k
theorem round_in(hn:n<=999)(hi:i<n)(hst:st<=50000)(h:Rn w0 m (sI i n d st) R vb lo iv sv vs vals W){rb rc:Nat}(hrg:∀(j:Nat) x,([5,-1,-1,2]:List Int)[j]?=some x->W.cell? ⟨rb,j,none⟩=some (.int .i64 x))(hro:rb∉m.own)(hrv:rb≠vb) :
  Calls Tryz.prog 40 #[.pointer (some ⟨R,0,none⟩),.agg #[.int .i64 3,.int .i64 4,.slice (some ⟨rb,0,none⟩) 4 rc]] W fun e W'=>e=.returned (.bool true)/\Rn w0 m (sI (i+1) n (boV true) (st+4)) R vb lo iv sv vs (vK i n vals 6) W'/\Keeps (fun k=>k∈m.own\/k=vb) W W':=by
 have hl:=h.vl
 obtain⟨w2,hw2⟩:∃w2,(W.alloc (.cells #[.pointer (some ⟨R,0,none⟩)] 83)).alloc (.cells #[.int .i64 3,.int .i64 4,.slice (some ⟨rb,0,none⟩) 4 rc] 98)=w2:=⟨_,rfl⟩
 have E2:Below W.heap.size W w2:=by rw[<- hw2];exact ext_alloc (ext_alloc (Below.refl _ _) _) _
 have g0:w2.heap[W.heap.size]?=some (.cells #[.pointer (some ⟨R,0,none⟩)] 83):=by rw[<- hw2];exact block_alloc _ (heap_new _ _)
 have g1:w2.heap[W.heap.size+1]?=some (.cells #[.int .i64 3,.int .i64 4,.slice (some ⟨rb,0,none⟩) 4 rc] 98):=by rw[<- hw2];exact new2' W _ _
 have h2:=h.on E2
 obtain⟨ib,ic,hri⟩:=h2.tr.ins (by simp[trH])
 have ei:iv=.slice (some ⟨ib,0,none⟩) 6 ic:=hri.v
 subst ei
 have a0:=cell_block (i:=0) g0 rfl
 have c3:=h2.cs.c3
 have hmf:=hmf
 have hdo:∀(k:Nat) (o:Ti) (u:World),trH.ins[k]?=some o->Rn w0 m (sI i n d st) R vb lo (.slice (some ⟨ib,0,none⟩) 6 ic) sv vs (vK i n vals k) u->Calls Tryz.prog 49 #[.pointer (some ⟨R,0,none⟩),.int .i64 (k:Nat),o.val] u _:=fun k o u ho hu=>do_k hn (by omega) ho hl hu (fun _=>hi)
 have hgo:∀u,Rn w0 m (sI i n d st) R vb lo (.slice (some ⟨ib,0,none⟩) 6 ic) sv vs (vK i n vals 6) u->Keeps (fun q=>q=vb) w2 u->Calls Tryz.prog 48 #[.pointer (some ⟨R,0,none⟩),.agg #[.int .i64 3,.int .i64 4,.slice (some ⟨rb,0,none⟩) 4 rc]] u fun e W'=>e=.returned (.tuple #[])/\Rn w0 m (sI (i+1) n (boV true) (st+4)) R vb lo (.slice (some ⟨ib,0,none⟩) 6 ic) sv vs (vK i n vals 6) W'/\Keeps (·∈m.own) u W':=fun u hu hk =>
  goOn_k hu (j:=3) (q:=⟨3,4,[5,-1,-1,2]⟩) rfl rfl (fun j x hx=>hk.cell (cellB E2 (hrg j x hx)) hrv) hro (fun n hn=>by have:n=5\/n=-1\/n=2:=(by simpa using hn);exact this.elim (fun h=>.inr ⟨5,h,by omega⟩) (fun h=>h.elim .inl (fun h=>.inr ⟨2,h,by omega⟩))) (by omega) (by simp) (by
   obtain⟨a,b,cc,d',e,f,rfl⟩:=six hl
   simp[sLay,sI,stS,layJ,vK,hi])
 have hins:∀(k:Nat) u,k<6->Rn w0 m (sI i n d st) R vb lo (.slice (some ⟨ib,0,none⟩) 6 ic) sv vs (vK i n vals k) u->∃o,trH.ins[k]?=some o/\ib<u.heap.size/\TiAt u ib (k*8) o:=fun k u hk hu=>by
  obtain⟨ib',ic',hr'⟩:=hu.tr.ins (by simp[trH])
  have ei:(Value.slice (some ⟨ib,0,none⟩) 6 ic)=.slice (some ⟨ib',0,none⟩) 6 ic':=hr'.v
  cases ei
  have hk':k<trH.ins.length:=by simpa[trH]using hk
  exact⟨_,List.getElem?_eq_getElem hk',hr'.lt,tiAt_of hr' (List.getElem?_eq_getElem hk')⟩
 have hnv:vb<W.heap.size:=h.vr.lt
 have hgb:∀u,Keeps (fun q=>q=vb) w2 u->u.heap[W.heap.size]?=some (.cells #[.pointer (some ⟨R,0,none⟩)] 83)/\u.heap[W.heap.size+1]?=some (.cells #[.int .i64 3,.int .i64 4,.slice (some ⟨rb,0,none⟩) 4 rc] 98):=fun u hk=>⟨(hk.block _ (block_lt g0) (fun e=>by have e':W.heap.size=vb:=e;omega)).trans g0,(hk.block _ (block_lt g1) (fun e=>by have e':W.heap.size+1=vb:=e;omega)).trans g1⟩
 replace hdo:Hid _:=hdo
 replace hgo:Hid _:=hgo
 replace hins:Hid _:=hins
 replace hgb:Hid _:=hgb
 replace h2:Hid _:=h2
 replace hi:Hid _:=hi
 clear h hri hrg g1 g0
 go_enter_defers Tryz.func40,Tryz.ntmps40
 go_wp2
 go_loopw [14] (fun j wr=>∃k:Nat,k<=6/\j=.int .i64 (k:Nat)/\Hid (Rn w0 m (sI i n d st) R vb lo (.slice (some ⟨ib,0,none⟩) 6 ic) sv vs (vK i n vals k) wr)/\Hid (Keeps (fun q=>q=vb) w2 wr)) (fun j _=>6-(intOf j).toNat)
 case atStart=>exact⟨0,Nat.zero_le _,rfl,h2,Keeps.refl _ _⟩
 case round =>
  rename World=>v
  obtain⟨k,hk,rfl,hrn,hkv⟩:=hrel
  by_cases hlt:k<6
  ·obtain⟨o,ho,hib,ti⟩:=hins.out k v hlt hrn.out
   obtain⟨p0,p1,p2,p3,p4,p5,p6,p7⟩:=ti
   have gq:=(hgb.out v hkv.out).1
   have hbl:=block_lt gq
   have a0':=cell_block (i:=0) gq rfl
   have hv1:v.heap.size≠W.heap.size:=by omega
   have E4:Below v.heap.size v (v.alloc o.box):=ext_alloc (Below.refl _ _) _
   have hc4:=hdo.out k o (v.alloc o.box) ho (hrn.out.on E4)
   have fin:∀u,Keeps (fun q=>q=vb) (v.alloc o.box) u->Keeps (fun q=>q=vb) w2 u:=fun u hu=>(hkv.out.trans (Keeps.of_below E4)).trans hu
   replace fin:Hid _:=fin
   clear gq
   go_wp2_with (go_at_call 49;refine hc4.mono ?_;rintro e w4 ⟨rfl,hr4,hk4⟩)
   go_roundw
   case measure=>simp[intOf];omega
   case rel=>exact⟨k+1,by omega,by go_num,hr4,fin.out _ hk4⟩
  ·have hk6:k=6:=by omega
   subst hk6
   obtain⟨g0,g1⟩:=hgb.out v hkv.out
   have a0':=cell_block (i:=0) g0 rfl
   have b0:=cell_block (i:=0) g1 rfl
   have b1:=cell_block (i:=1) g1 rfl
   have b2:=cell_block (i:=2) g1 rfl
   have hg:=hgo.out v hrn.out hkv.out
   clear g0 g1
   go_wp2_with (go_at_call 48;refine hg.mono ?_;rintro e w4 ⟨rfl,hr4,hk4⟩)
   refine leaves_cons (f:=47) (args:=#[.pointer (some ⟨W.heap.size,0,none⟩)]) (by simp) (by simp[go_sem]) ?_
   refine(catch47_idle _ _).mono ?_
   rintro e u' w'' ⟨rfl,rfl,rfl⟩
   refine⟨_,res40 rfl,rfl,hr4,?_⟩
   exact((Keeps.of_below E2).trans (hkv.out.mono fun _ _ h=>.inr h)).trans (hk4.mono fun _ _ h=>.inl h)
end
section
variable {w0:World} {m:Hm} {R vb lo:Nat} {iv sv:Value} {vs:List Value} {vals:List Vl} {W:World} {i n st:Nat} {d:Vl}
theorem round_out(hn:n<=999)(hi:i=n)(hst:st<=50000)(h:Rn w0 m (sI i n d st) R vb lo iv sv vs vals W){rb rc:Nat}  :
  Calls Tryz.prog 40 #[.pointer (some ⟨R,0,none⟩),.agg #[.int .i64 3,.int .i64 4,.slice (some ⟨rb,0,none⟩) 4 rc]] W fun e W'=>e=.returned (.bool false)/\Rn w0 m (stS 4 [numV i,numV n,numV 1,boV false] (st+1)) R vb lo iv sv vs (vK i n vals 3) W'/\Keeps (fun k=>k∈m.own\/k=vb) W W':=by
 have hl:=h.vl
 obtain⟨w2,hw2⟩:∃w2,(W.alloc (.cells #[.pointer (some ⟨R,0,none⟩)] 83)).alloc (.cells #[.int .i64 3,.int .i64 4,.slice (some ⟨rb,0,none⟩) 4 rc] 98)=w2:=⟨_,rfl⟩
 have E2:Below W.heap.size W w2:=by rw[<- hw2];exact ext_alloc (ext_alloc (Below.refl _ _) _) _
 have g0:w2.heap[W.heap.size]?=some (.cells #[.pointer (some ⟨R,0,none⟩)] 83):=by rw[<- hw2];exact block_alloc _ (heap_new _ _)
 have g1:w2.heap[W.heap.size+1]?=some (.cells #[.int .i64 3,.int .i64 4,.slice (some ⟨rb,0,none⟩) 4 rc] 98):=by rw[<- hw2];exact new2' W _ _
 have h2:=h.on E2
 obtain⟨ib,ic,hri⟩:=h2.tr.ins (by simp[trH])
 have ei:iv=.slice (some ⟨ib,0,none⟩) 6 ic:=hri.v
 subst ei
 have a0:=cell_block (i:=0) g0 rfl
 have c3:=h2.cs.c3
 have hmf:=hmf
 have hdo:∀(k:Nat) (o:Ti) (u:World),k<3->trH.ins[k]?=some o->Rn w0 m (sI i n d st) R vb lo (.slice (some ⟨ib,0,none⟩) 6 ic) sv vs (vK i n vals k) u->Calls Tryz.prog 49 #[.pointer (some ⟨R,0,none⟩),.int .i64 (k:Nat),o.val] u _:=fun k o u hk ho hu=>do_k hn (by omega) ho hl hu (fun e=>absurd e (by omega))
 have hlf:∀u,Rn w0 m (sI i n d st) R vb lo (.slice (some ⟨ib,0,none⟩) 6 ic) sv vs (vK i n vals 3) u->∃rb rc,(∀(j:Nat) x,([-1,-1,-1,2]:List Int)[j]?=some x->u.cell? ⟨rb,j,none⟩=some (.int .i64 x))/\rb∉m.own/\Calls Tryz.prog 49 #[.pointer (some ⟨R,0,none⟩),.int .i64 (3:Nat),Ti.val ⟨10,2,0,0,nilV,1⟩] u fun e W'=>e=.panicked (pan (exV 4 1 (.slice (some ⟨rb,0,none⟩) 4 rc)))/\Below u.heap.size u W':=fun u hu=>by
  obtain⟨sb,sc,rb,rc,e,hS,hr,ho⟩:=hu.sn (i:=1) rfl rfl
  have c:=hu.cs
  obtain⟨d0,d1,d2⟩:=hS
  have c4:=c.c4
  rw[e]at c4
  refine⟨rb,rc,hr,ho,do_left R vb 6 6 3 2 sb 4 sc 1 ⟨10,2,0,0,nilV,1⟩ rfl rfl rfl (v:=boV false) u c.c5 (c.va 2 _ ?_).t (by omega) (boV_truth false) c4 d0 d1 d2 (by omega)⟩
  obtain⟨a,b,cc,d',e,f,rfl⟩:=six hl
  simp[vK,hi]
 have hgo:∀u rb rc,Rn w0 m (sI i n d st) R vb lo (.slice (some ⟨ib,0,none⟩) 6 ic) sv vs (vK i n vals 3) u->(∀(j:Nat) x,([-1,-1,-1,2]:List Int)[j]?=some x->u.cell? ⟨rb,j,none⟩=some (.int .i64 x))->rb∉m.own->Calls Tryz.prog 48 #[.pointer (some ⟨R,0,none⟩),.agg #[.int .i64 4,.int .i64 1,.slice (some ⟨rb,0,none⟩) 4 rc]] u fun e W'=>e=.returned (.tuple #[])/\Rn w0 m (stS 4 [numV i,numV n,numV 1,boV false] (st+1)) R vb lo (.slice (some ⟨ib,0,none⟩) 6 ic) sv vs (vK i n vals 3) W'/\Keeps (·∈m.own) u W':=fun u rb rc hu hrg hro =>
  goOn_k hu (j:=1) (q:=⟨4,1,[-1,-1,-1,2]⟩) rfl rfl hrg hro (fun n hn=>by have:n=-1\/n=2:=(by simpa using hn);exact this.elim .inl (fun h=>.inr ⟨2,h,by omega⟩)) (by omega) (by simp) (by
   obtain⟨a,b,cc,d',e,f,rfl⟩:=six hl
   simp[sLay,sI,stS,layJ,vK,hi])
 have hins:∀(k:Nat) u,k<6->Rn w0 m (sI i n d st) R vb lo (.slice (some ⟨ib,0,none⟩) 6 ic) sv vs (vK i n vals k) u->∃o,trH.ins[k]?=some o/\ib<u.heap.size/\TiAt u ib (k*8) o:=fun k u hk hu=>by
  obtain⟨ib',ic',hr'⟩:=hu.tr.ins (by simp[trH])
  have ei:(Value.slice (some ⟨ib,0,none⟩) 6 ic)=.slice (some ⟨ib',0,none⟩) 6 ic':=hr'.v
  cases ei
  have hk':k<trH.ins.length:=by simpa[trH]using hk
  exact⟨_,List.getElem?_eq_getElem hk',hr'.lt,tiAt_of hr' (List.getElem?_eq_getElem hk')⟩
 have hnv:vb<W.heap.size:=h.vr.lt
 have hgb:∀u,Keeps (fun q=>q=vb) w2 u->u.heap[W.heap.size]?=some (.cells #[.pointer (some ⟨R,0,none⟩)] 83)/\u.heap[W.heap.size+1]?=some (.cells #[.int .i64 3,.int .i64 4,.slice (some ⟨rb,0,none⟩) 4 rc] 98):=fun u hk=>⟨(hk.block _ (block_lt g0) (fun e=>by have e':W.heap.size=vb:=e;omega)).trans g0,(hk.block _ (block_lt g1) (fun e=>by have e':W.heap.size+1=vb:=e;omega)).trans g1⟩
 replace hdo:Hid _:=hdo
 replace hlf:Hid _:=hlf
 replace hgo:Hid _:=hgo
 replace hins:Hid _:=hins
 replace hgb:Hid _:=hgb
 replace h2:Hid _:=h2
 replace hi:Hid _:=hi
 clear h hri g1 g0
 go_enter_defers Tryz.func40,Tryz.ntmps40
 go_wp2
 go_loopw [14] (fun j wr=>∃k:Nat,k<=3/\j=.int .i64 (k:Nat)/\Hid (Rn w0 m (sI i n d st) R vb lo (.slice (some ⟨ib,0,none⟩) 6 ic) sv vs (vK i n vals k) wr)/\Hid (Keeps (fun q=>q=vb) w2 wr)) (fun j _=>6-(intOf j).toNat)
 case atStart=>exact⟨0,Nat.zero_le _,rfl,h2,Keeps.refl _ _⟩
 case round =>
  rename World=>v
  obtain⟨k,hk,rfl,hrn,hkv⟩:=hrel
  by_cases hlt:k<3
  ·obtain⟨o,ho,hib,ti⟩:=hins.out k v (by omega) hrn.out
   obtain⟨p0,p1,p2,p3,p4,p5,p6,p7⟩:=ti
   have gq:=(hgb.out v hkv.out).1
   have hbl:=block_lt gq
   have a0':=cell_block (i:=0) gq rfl
   have hv1:v.heap.size≠W.heap.size:=by omega
   have E4:Below v.heap.size v (v.alloc o.box):=ext_alloc (Below.refl _ _) _
   have hc4:=hdo.out k o (v.alloc o.box) hlt ho (hrn.out.on E4)
   have fin:∀u,Keeps (fun q=>q=vb) (v.alloc o.box) u->Keeps (fun q=>q=vb) w2 u:=fun u hu=>(hkv.out.trans (Keeps.of_below E4)).trans hu
   replace fin:Hid _:=fin
   clear gq
   go_wp2_with (go_at_call 49;refine hc4.mono ?_;rintro e w4 ⟨rfl,hr4,hk4⟩)
   go_roundw
   case measure=>simp[intOf];omega
   case rel=>exact⟨k+1,by omega,by go_num,hr4,fin.out _ hk4⟩
  ·have hk3:k=3:=by omega
   subst hk3
   obtain⟨o,ho,hib,ti⟩:=hins.out 3 v (by omega) hrn.out
   obtain rfl:(⟨10,2,0,0,nilV,1⟩:Ti)=o:=by simpa[trH]using ho
   obtain⟨p0,p1,p2,p3,p4,p5,p6,p7⟩:=ti
   have gq:=(hgb.out v hkv.out).1
   have hbl:=block_lt gq
   have a0':=cell_block (i:=0) gq rfl
   have hv1:v.heap.size≠W.heap.size:=by omega
   have E4:Below v.heap.size v (v.alloc (Ti.box ⟨10,2,0,0,nilV,1⟩)):=ext_alloc (Below.refl _ _) _
   have hr4:=hrn.out.on E4
   have gq4:=block_below E4 gq
   obtain⟨rb,rc,hrg,hro,hc4⟩:=hlf.out _ hr4
   have fin:∀w4,Below (v.alloc (Ti.box ⟨10,2,0,0,nilV,1⟩)).heap.size (v.alloc (Ti.box ⟨10,2,0,0,nilV,1⟩)) w4->w4.heap[W.heap.size]?=some (.cells #[.pointer (some ⟨R,0,none⟩)] 83)/\Keeps (fun k=>k∈m.own\/k=vb) W w4/\∀u,Below w4.heap.size w4 u->Calls Tryz.prog 48 #[.pointer (some ⟨R,0,none⟩),.agg #[.int .i64 4,.int .i64 1,.slice (some ⟨rb,0,none⟩) 4 rc]] u fun e W'=>e=.returned (.tuple #[])/\(Rn w0 m (stS 4 [numV i,numV n,numV 1,boV false] (st+1)) R vb lo (.slice (some ⟨ib,0,none⟩) 6 ic) sv vs (vK i n vals 3) W'/\Keeps (fun k=>k∈m.own\/k=vb) w4 W'):=fun w4 h4=>⟨block_below h4 gq4,((((Keeps.of_below E2).trans (hkv.out.mono fun _ _ h=>.inr h)).trans (Keeps.of_below E4)).trans (Keeps.of_below h4)),fun u hu=>(hgo.out u rb rc ((hr4.on h4).on hu) (fun j x hx=>cellB hu (cellB h4 (hrg j x hx))) hro).mono fun e W' k'=>⟨k'.1,k'.2.1,(Keeps.of_below hu).trans (k'.2.2.mono fun _ _ h=>.inl h)⟩⟩
   replace fin:Hid _:=fin
   replace hrg:Hid _:=hrg
   replace hr4:Hid _:=hr4
   replace hro:Hid _:=hro
   clear gq gq4 ho
   go_wp2_with (go_at_call 49;refine hc4.mono ?_;rintro e w4 ⟨rfl,h4⟩)
   obtain⟨f1,f2,f3⟩:=fin.out w4 h4
   refine leaves_cons (f:=47) (args:=#[.pointer (some ⟨W.heap.size,0,none⟩)]) (by simp) (by simp[go_sem]) ?_
   refine(catch47_exit _ _ _ _ _ _ _ _ _ f1 f3).mono ?_
   rintro e u' w'' ⟨rfl,rfl,hr5,hk5⟩
   refine⟨_,res40 rfl,rfl,hr5,f2.trans hk5⟩
end
theorem res31(tm:Array Value)(W:World):(results Tryz.f31 tm).run Tryz.prog W=.ok (.tuple #[]) W:=by
 simp[results,Tryz.results31,go_sem]
def stepsIn (B:Nat) (w:World):Nat:=match w.cell? ⟨B,5,none⟩ with|some (.int _ k)=>k.toNat|_=>0
section
variable {w0:World} {m:Hm} {R vb lo:Nat} {iv sv:Value} {vs:List Value} {vals:List Vl} {W:World} {i n st:Nat} {d:Vl}
theorem Rn.steps{s:Ms}{k:Nat}(h:Rn w0 m s R vb lo iv sv vs vals W)(e:s.st=k):stepsIn m.B W=k:=by
 have:=h.mh.cs.c5
 simp[stepsIn,this,e]
theorem Rn.last(h:Rn w0 m (sI i n d st) R vb lo iv sv vs vals W):∃sb sc rb rc,sv=.slice (some ⟨sb,0,none⟩) 4 sc/\SnAt W sb 9 ⟨3,4,[5,-1,-1,2]⟩ (.slice (some ⟨rb,0,none⟩) 4 rc)/\(∀(j:Nat) n,([5,-1,-1,2]:List Int)[j]?=some n->W.cell? ⟨rb,j,none⟩=some (.int .i64 n))/\rb∉m.own/\rb≠vb/\sb<W.heap.size:=by
 obtain⟨a1,a2,a3,a4,a5,a6⟩:=h.ap
 obtain⟨sb,sc,hrs⟩:=h.tr.sns (by simp[trH])
 obtain⟨v,rb,rc,hv,hrr⟩:=h.tr.reg (show trH.sns[3]?=some (⟨3,4,[5,-1,-1,2]⟩:Sn) from rfl) (fun e=>by simp at e)
 have er:v=.slice (some ⟨rb,0,none⟩) 4 rc:=hrr.v
 subst er
 obtain⟨_,_,_,d⟩:=snc_get _ _ _ (show trH.sns[3]?=some (⟨3,4,[5,-1,-1,2]⟩:Sn) from rfl) hv
 have hm:rb∈blks (trR trH iv sv vs):=blks_mem.2 ⟨_,List.mem_cons_of_mem _ (List.mem_cons_of_mem _ d),rfl⟩
 exact⟨sb,sc,rb,rc,hrs.v,snAt_of hrs rfl hv,fun j n hj=>hrr.c j _ (by show(ints _)[j]?=_;rw[List.getElem?_map,hj];rfl),a6 rb hm,fun e=>a5 (e▸hm),hrs.lt⟩
structure RdQ (w0:World) (m:Hm) (n R vb lo:Nat) (iv sv:Value) (vs:List Value) (W:World) (e:Ending) (W':World):Prop where
 e:e=.returned (.tuple #[])
 h:∃vals,Rn w0 m (stS 4 [numV n,numV n,numV 1,boV false] (4*n+4)) R vb lo iv sv vs vals W'
 k:Keeps (fun k=>k∈m.own\/k=vb) W W'
theorem rounds_any(hn:n<=200)(hi:i<=n)(h:Rn w0 m (sI i n d (4*i+3)) R vb lo iv sv vs vals W) :
  Calls Tryz.prog 31 #[.pointer (some ⟨R,0,none⟩),.int .i64 4000] W (RdQ w0 m n R vb lo iv sv vs W):=by
 obtain⟨sb,sc,rb,rc,rfl,hS,hrg,hro,hrv,hsl⟩:=h.last
 obtain⟨s0,s1,s2⟩:=hS
 simp only[Nat.reduceAdd]at s0 s1 s2
 have c4:=h.cs.c4
 have hRl:R<W.heap.size:=block_lt h.bx
 have hol:=h.mh.ltm
 have hvl:vb<W.heap.size:=h.vr.lt
 have hin:∀(j:Nat) d vals u,j<n->Rn w0 m (sI j n d (4*j+3)) R vb lo iv (.slice (some ⟨sb,0,none⟩) 4 sc) vs vals u->Keeps (fun k=>k∈m.own\/k=vb) W u->Calls Tryz.prog 40 #[.pointer (some ⟨R,0,none⟩),.agg #[.int .i64 3,.int .i64 4,.slice (some ⟨rb,0,none⟩) 4 rc]] u _:=fun j d vals u hj hu hk=>round_in (by omega) hj (by omega) hu (fun q x hx=>hk.cell (hrg q x hx) (fun e=>e.elim hro hrv)) hro hrv
 have hout:∀d vals u,Rn w0 m (sI n n d (4*n+3)) R vb lo iv (.slice (some ⟨sb,0,none⟩) 4 sc) vs vals u->Calls Tryz.prog 40 #[.pointer (some ⟨R,0,none⟩),.agg #[.int .i64 3,.int .i64 4,.slice (some ⟨rb,0,none⟩) 4 rc]] u _:=fun d vals u hu=>round_out (by omega) rfl (by omega) hu
 have hbx:∀u w1,w1.heap[W.heap.size]?=some (.cells #[.int .i64 3,.int .i64 4,.slice (some ⟨rb,0,none⟩) 4 rc] 98)->W.heap.size<w1.heap.size->Keeps (fun k=>k∈m.own\/k=vb) w1 u->u.heap[W.heap.size]?=some (.cells #[.int .i64 3,.int .i64 4,.slice (some ⟨rb,0,none⟩) 4 rc] 98):=fun u w1 hw hl hk=>(hk.block _ hl (fun e=>e.elim (fun e=>by have:=hol _ e;omega) (fun e=>by omega))).trans hw
 replace h:Hid _:=h
 replace hin:Hid _:=hin
 replace hout:Hid _:=hout
 replace hbx:Hid _:=hbx
 replace hi:Hid _:=hi
 clear hrg hro hrv hol hvl
 go_enter Tryz.func31,Tryz.ntmps31
 go_wp2
 go_region
 all_goals
  go_wp2
  go_loopw [5] (fun b wr=>∃j:Nat,j<=n/\((b=.bool true/\∃d vals,Hid (Rn w0 m (sI j n d (4*j+3)) R vb lo iv (.slice (some ⟨sb,0,none⟩) 4 sc) vs vals wr))\/(b=.bool false/\∃vals,Hid (Rn w0 m (stS 4 [numV n,numV n,numV 1,boV false] (4*n+4)) R vb lo iv (.slice (some ⟨sb,0,none⟩) 4 sc) vs vals wr)))/\Hid (Keeps (fun k=>k∈m.own\/k=vb) W wr)/\Hid (wr.heap[W.heap.size]?=some (.cells #[.int .i64 3,.int .i64 4,.slice (some ⟨rb,0,none⟩) 4 rc] 98))) (fun _ wr=>4*n+10-stepsIn m.B wr)
  case atStart =>
   refine⟨i,hi.out,.inl ⟨rfl,d,vals,h.out.on ?_⟩,Keeps.of_below ?_,?_⟩
   ·exact ext_drew (ext_alloc (Below.refl _ _) _)
   ·exact ext_drew (ext_alloc (Below.refl _ _) _)
   ·exact heap_new W _
  case round =>
   rename World=>v
   obtain⟨j,hj,hcase,hkv,hgv⟩:=hrel
   have b0:=cell_block (i:=0) hgv.out rfl
   have b1:=cell_block (i:=1) hgv.out rfl
   have b2:=cell_block (i:=2) hgv.out rfl
   rcases hcase with⟨rfl,d,vals,hv⟩|⟨rfl,vals,hv⟩
   ·have e0:=hv.out.cs.c0
    have e5:v.cell? ⟨m.B,5,none⟩=some (.int .i64 ((4*j+3:Nat):Int)):=hv.out.mh.cs.c5
    obtain⟨q,hq⟩:∃q:Nat,4*j+3=q:=⟨_,rfl⟩
    rw[hq]at e5
    have hq2:((q:Nat):Int)+4<=4000:=by omega
    have hme:=hv.out.steps (k:=q) (by simp;omega)
    replace hq:Hid _:=hq
    replace hme:Hid _:=hme
    by_cases hlt:j<n
    ·have e1:4*(j+1)+3=4*j+3+4:=by omega
     have hc:∀u,Below v.heap.size v u->Calls Tryz.prog 40 #[.pointer (some ⟨R,0,none⟩),.agg #[.int .i64 3,.int .i64 4,.slice (some ⟨rb,0,none⟩) 4 rc]] u fun e W'=>e=.returned (.bool true)/\Hid (Rn w0 m (sI (j+1) n (boV true) (4*(j+1)+3)) R vb lo iv (.slice (some ⟨sb,0,none⟩) 4 sc) vs (vK j n vals 6) W')/\Hid (Keeps (fun k=>k∈m.own\/k=vb) W W')/\Hid (W'.heap[W.heap.size]?=some (.cells #[.int .i64 3,.int .i64 4,.slice (some ⟨rb,0,none⟩) 4 rc] 98)):=fun u hu=>(hin.out j d vals u hlt (hv.out.on hu) (hkv.out.trans (Keeps.of_below hu))).mono fun e W' k=>⟨k.1,e1▸k.2.1,hkv.out.trans ((Keeps.of_below hu).trans k.2.2),hbx.out _ u (block_below hu hgv.out) (block_lt (block_below hu hgv.out)) k.2.2⟩
     replace hc:Hid _:=hc
     try clear e1
     go_wp2
     go_quiet (fail)
     go_wp2_with (go_at_call 40;refine(hc.out _ (drewN_below (Below.refl _ _))).mono ?_;rintro e w4 ⟨rfl,hr4,hk4,hg4⟩)
     go_roundw
     case measure=>rw[hme.out,hr4.out.steps (k:=4*(j+1)+3) rfl];have:=hq.out;omega
     case rel=>exact⟨j+1,by omega,.inl ⟨rfl,_,_,hr4⟩,hk4,hg4⟩
    ·obtain rfl:j=n:=by omega
     have hc:∀u,Below v.heap.size v u->Calls Tryz.prog 40 #[.pointer (some ⟨R,0,none⟩),.agg #[.int .i64 3,.int .i64 4,.slice (some ⟨rb,0,none⟩) 4 rc]] u fun e W'=>e=.returned (.bool false)/\Hid (Rn w0 m (stS 4 [numV j,numV j,numV 1,boV false] (4*j+4)) R vb lo iv (.slice (some ⟨sb,0,none⟩) 4 sc) vs (vK j j vals 3) W')/\Hid (Keeps (fun k=>k∈m.own\/k=vb) W W')/\Hid (W'.heap[W.heap.size]?=some (.cells #[.int .i64 3,.int .i64 4,.slice (some ⟨rb,0,none⟩) 4 rc] 98)):=fun u hu=>(hout.out d vals u (hv.out.on hu)).mono fun e W' k=>⟨k.1,k.2.1,hkv.out.trans ((Keeps.of_below hu).trans k.2.2),hbx.out _ u (block_below hu hgv.out) (block_lt (block_below hu hgv.out)) k.2.2⟩
     replace hc:Hid _:=hc
     try clear e1
     go_wp2
     go_quiet (fail)
     go_wp2_with (go_at_call 40;refine(hc.out _ (drewN_below (Below.refl _ _))).mono ?_;rintro e w4 ⟨rfl,hr4,hk4,hg4⟩)
     go_roundw
     case measure=>rw[hme.out,hr4.out.steps (k:=4*j+4) rfl];have:=hq.out;omega
     case rel=>exact⟨j,by omega,.inr ⟨rfl,_,hr4⟩,hk4,hg4⟩
   ·go_wp2
    go_quiet (fail)
    go_wp2
    simp only[bodyPost]
    refine⟨trivial,.tuple #[],res31 _ _,?_⟩
    exact⟨rfl,⟨_,hv.out.on (drewN_below (Below.refl _ _))⟩,hkv.out.trans (Keeps.of_below (drewN_below (Below.refl _ _)))⟩
end
section
variable {w0:World} {m:Hm} {lo:Nat} {iv sv:Value} {vs:List Value} {W:World} {s:Ms}
structure OnQ (w0:World) (m:Hm) (s:Ms) (lo:Nat) (iv sv:Value) (vs:List Value) (W:World) (e:Ending) (W':World):Prop where
 h:∃R vb,e=.returned (.pointer (some ⟨R,0,none⟩))/\W.heap.size<=R/\W.heap.size<=vb/\Rn w0 m s R vb lo iv sv vs [nilV,nilV,nilV,nilV,nilV,nilV] W'
 k:Below W.heap.size W W'
theorem on_any(h:Mh w0 m s W)(hT:TrV lo trH iv sv vs W)(nd:(m.own++blks (trR trH iv sv vs)).Nodup) :
  Calls Tryz.prog 84 #[.pointer (some ⟨m.B,0,none⟩),.agg #[.int .i64 0,.int .i64 3,iv,sv]] W (OnQ w0 m s lo iv sv vs W):=by
 obtain⟨ib,ic,hri⟩:=hT.ins (by simp[trH])
 have ei:iv=.slice (some ⟨ib,0,none⟩) 6 ic:=hri.v
 subst ei
 obtain⟨mc,hmk,hms,hml⟩:=made_regs 6 (by omega)
 have hmk':∀u:World,(Instr.makeSlice 27 (.int .i64 6) (.int .i64 6)).run Tryz.prog u=.ok (.slice (some ⟨u.heap.size,0,none⟩) 6 6) (u.alloc (.cells mc 25)):=hmk
 clear hmk
 obtain⟨o1,ho1⟩:∃o1,Obj.cells #[.int .i64 0,.int .i64 3,.slice (some ⟨ib,0,none⟩) 6 ic,sv] 102=o1:=⟨_,rfl⟩
 obtain⟨o3,ho3⟩:∃o3,Obj.cells #[.pointer (some ⟨m.B,0,none⟩),.int .i64 0,.int .i64 3,.slice (some ⟨ib,0,none⟩) 6 ic,sv,.slice (some ⟨W.heap.size+1,0,none⟩) 6 6] 104=o3:=⟨_,rfl⟩
 have fin:OnQ w0 m s lo (.slice (some ⟨ib,0,none⟩) 6 ic) sv vs W (.returned (.pointer (some ⟨W.heap.size+1+1,0,none⟩))) ((((W.alloc o1).alloc (.cells mc 25)).alloc o3).drew):=by
  have E:Below W.heap.size W ((((W.alloc o1).alloc (.cells mc 25)).alloc o3).drew):=ext_drew (ext_alloc (ext_alloc (ext_alloc (Below.refl _ _) _) _) _)
  have hlo:=h.bl.size
  refine⟨⟨W.heap.size+1+1,W.heap.size+1,rfl,by omega,by omega,h.on E,?_,⟨rfl,mc,?_,Nat.le_refl _,by unfold maxLen;omega,hms,?_⟩,rfl,hT.below E,?_,by omega,by omega⟩,E⟩
  ·rw[ho3];exact new3 W _ _ _
  ·exact block_alloc o3 (new2' W _ _)
  ·rw[List.take_of_length_le (by rw[Array.length_toList];omega),hml];rfl
  ·refine List.nodup_cons.2 ⟨fun hm=>?_,List.nodup_cons.2 ⟨fun hm=>?_,nd⟩⟩
   ·rcases List.mem_cons.1 hm with e|hm
    ·omega
    ·rcases List.mem_append.1 hm with hm|hm
     ·have:=h.ltm _ hm;omega
     ·have:=(hT.lt _ hm).2;omega
   ·rcases List.mem_append.1 hm with hm|hm
    ·have:=h.ltm _ hm;omega
    ·have:=(hT.lt _ hm).2;omega
 subst ho1
 subst ho3
 replace fin:Hid _:=fin
 clear h hT nd hri hms hml
 go_enter Tryz.func84,Tryz.ntmps84
 go_wp2
 go_region
 all_goals
  go_wp2
  go_ret
  exact fin.out
end
end
end Go.Proofs.YthljpnmhddfblaaGreatDoor
