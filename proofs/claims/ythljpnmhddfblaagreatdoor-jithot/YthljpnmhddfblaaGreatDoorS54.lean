/- The traces' driver runs the loop. -/
import Derived.Test.YthljpnmhddfblaaGreatDoorS53
namespace Go.Proofs.YthljpnmhddfblaaGreatDoor
open Go.RowKit Go.Shelf Go
set_option maxRecDepth 100000
set_option maxHeartbeats 8000000
set_option linter.all false
section
variable [DecidableEq Vl]
def XF (n:Nat) (y:Po) (x:Sx):Prop:=(((n:Nat):Int)<y.hot->x=⟨0,0,0⟩)/\(((n:Nat):Int)=y.hot->x=⟨0,1,0⟩)/\(y.hot<((n:Nat):Int)->x.kept=1/\x.tried=1/\4*((n:Nat)-y.hot)<=x.inside)
structure DvE (w0:World) (m:Hm) (D mt mc mr:Nat) (y:Po) (n:Nat) (W':World):Prop where
 ex:∃(d:Vl) (x:Sx) (hv:Value) (T C R:DataW Value),d.s.size<=300/\Dr w0 m ⟨⟨0,(7:Nat),0,[numV n,numV n,numV 1,d]⟩,((4*n+5+1:Nat):Int),1,0,numV n⟩ D mt mc mr y x hv T C R W'/\XF n y x
structure RnE (n:Nat) (y:Po) (W:World) (e:Ending) (W':World):Prop where
 ex:∃F' fc T tc U uc x,e=.returned (.tuple #[.agg #[.slice (some ⟨F',0,none⟩) 1 fc,.slice (some ⟨T,0,none⟩) 0 tc,.slice (some ⟨U,0,none⟩) 0 uc,.int .i64 ((4*n+5+1:Nat):Int),.int .i64 1,.int .i64 0,.int .i64 (numV n).k,.int .i64 (numV n).n,.string (numV n).s],.agg #[.int .i64 x.kept,.int .i64 x.tried,.int .i64 x.inside],.int .i64 0])/\XF n y x
structure RnQ (n:Nat) (y:Po) (W:World) (e:Ending) (W':World):Prop where
 r:RnE n y W e W'
 k:Below W.heap.size W W'
theorem res5{tm:Array Value}{W:World}{B C:Nat}{a b c d e f g h i j k l z:Value}(hp:tm[6]?.getD undef=.pointer (some ⟨B,0,none⟩))(hq:tm[7]?.getD undef=.pointer (some ⟨C,0,none⟩))(hz:tm[8]?.getD undef=z)(hx:W.heap[B]?=some (.cells #[a,b,c,d,e,f,g,h,i] 38))(hy:W.heap[C]?=some (.cells #[j,k,l] 40)):(results Tryz.f5 tm).run Tryz.prog W=.ok (.tuple #[.agg #[a,b,c,d,e,f,g,h,i],.agg #[j,k,l],z]) W:=by
 obtain⟨d0,d1,d2,d3,d4,d5,d6,d7,d8⟩:=nine hx
 have e0:W.cell? ⟨C,0,none⟩=some j:=cell_block hy rfl
 have e1:W.cell? ⟨C,1,none⟩=some k:=cell_block hy rfl
 have e2:W.cell? ⟨C,2,none⟩=some l:=cell_block hy rfl
 simp[results,Tryz.results5,go_sem,hp,hq,hz,d0,d1,d2,d3,d4,d5,d6,d7,d8,e0,e1,e2]
theorem run_any{W:World}{f:Fd}{b off cf n:Nat}(hF:RowF W.heap.size W (some ⟨b,off,none⟩) [f])(hfp:f.p=0)(hfr:f.r=4)(hcs:f.cs=csL n)(his:f.is=odL)(hn:n<=200)(y:Po)(hh:1<=y.hot/\y.hot<=60000)(hm:16<=y.most/\y.most<=400)(hca:1<=y.cache/\y.cache<=20)(htr:1<=y.tries/\y.tries<=100) :
  Calls Tryz.prog 5 #[PV (some ⟨b,off,none⟩) 1 cf 0,.agg #[.int .i64 y.hot,.int .i64 y.most,.int .i64 y.cache,.int .i64 y.tries],.int .i64 4000] W (RnQ n y W):=by
 obtain⟨W4,hW4⟩:∃W4,(((W.alloc (.cells #[.slice (some ⟨b,off,none⟩) 1 cf,.int .i64 0] 45)).alloc (.cells #[.int .i64 y.hot,.int .i64 y.most,.int .i64 y.cache,.int .i64 y.tries] 23)).alloc zst).alloc (.cells #[.int .i64 0,.int .i64 0,.int .i64 0] 40)=W4:=⟨_,rfl⟩
 have E4:Below W.heap.size W W4:=by rw[<- hW4];exact ext_alloc (ext_alloc (ext_alloc (ext_alloc (Below.refl _ _) _) _) _) _
 have k0:W4.heap[W.heap.size]?=some (.cells #[.slice (some ⟨b,off,none⟩) 1 cf,.int .i64 0] 45):=by rw[<- hW4];exact block_alloc _ (block_alloc _ (block_alloc _ (heap_new _ _)))
 have k1:W4.heap[W.heap.size+1]?=some (.cells #[.int .i64 y.hot,.int .i64 y.most,.int .i64 y.cache,.int .i64 y.tries] 23):=by rw[<- hW4];exact block_alloc _ (block_alloc _ (new2' W _ _))
 have k2:W4.heap[W.heap.size+1+1]?=some zst:=by
  rw[<- hW4];have:=new2' (W.alloc (.cells #[.slice (some ⟨b,off,none⟩) 1 cf,.int .i64 0] 45)) (.cells #[.int .i64 y.hot,.int .i64 y.most,.int .i64 y.cache,.int .i64 y.tries] 23) zst;simp only[World.size_alloc]at this;exact block_alloc _ this
 have k3:W4.heap[W.heap.size+1+1+1]?=some (.cells #[.int .i64 0,.int .i64 0,.int .i64 0] 40):=by
  rw[<- hW4];have:=new2' ((W.alloc (.cells #[.slice (some ⟨b,off,none⟩) 1 cf,.int .i64 0] 45)).alloc (.cells #[.int .i64 y.hot,.int .i64 y.most,.int .i64 y.cache,.int .i64 y.tries] 23)) zst (.cells #[.int .i64 0,.int .i64 0,.int .i64 0] 40);simp only[World.size_alloc]at this;exact this
 have hprog:=prog_loop hn hfp hfr hcs his
 have hF4:RowF W4.heap.size W4 (some ⟨b,off,none⟩) [f]:=(hF.below E4).mono E4.size
 have hbe:Calls Tryz.prog 6 #[PV (some ⟨b,off,none⟩) 1 cf 0] W4 fun e W'=>∃F g,e=.returned (.tuple #[.agg #[.slice (some ⟨F,0,none⟩) 1 1,.slice none 0 0,.slice none 0 0,.int .i64 0,.int .i64 0,.int .i64 0,.int .i64 0,.int .i64 0,.string ⟨#[]⟩],.int .i64 0])/\Hid (OwnR W' g 25 3 4 4 (flat [nilV,nilV,nilV,nilV]))/\Hid (W'.heap[F]?=some (.cells #[.int .i64 0,.int .i64 0,.int .i64 0,.slice (some ⟨g,0,none⟩) 4 4] 66))/\Below W4.heap.size W4 W':=by
  have d1:W4.cell? ⟨b,off+0*4+1,none⟩=some (.int .i64 (4:Nat)):=by
   obtain⟨b',off',e,_,hc⟩:=hF4.2 (by simp)
   cases e
   have:=(hc 0 f rfl).1.r
   rw[hfr]at this
   exact this
  refine(begin_cells b off 1 cf 0 4 W4 (by omega) d1 (by omega) fun u hu=>(may_prog (some ⟨b,off,none⟩) cf [f] 0 u ((hF4.below hu).mono hu.size)).mono fun e w q=>⟨by rw[<- hprog];exact q.1,q.2⟩).mono fun e W' q=>?_
  obtain⟨F,g,q1,q2,q3,_,_,_,q4⟩:=q
  exact⟨F,g,q1,q2,q3,q4⟩
 replace hbe:Hid _:=hbe
 clear hprog hF4
 have c0:=cell_block (i:=0) k0 rfl
 have c1:=cell_block (i:=1) k0 rfl
 go_enter Tryz.func5,Tryz.ntmps5
 go_wp2_with (go_at_call 6;(try rw[hW4]);refine(show Calls Tryz.prog 6 _ _ _ from hbe.out).mono ?_;rintro e w5 ⟨F,g,rfl,hO,hFr,hb5⟩;refine Hid.out ?_)
 refine Lib.hid ?_
 clear c0 c1 hbe
 have E5:=ext_trans E4 hb5
 have K0:=block_below hb5 k0
 have K1:=block_below hb5 k1
 have K2:=block_below hb5 k2
 have K3:=block_below hb5 k3
 obtain⟨N,hN⟩:∃N,w5.heap.size=N:=⟨_,rfl⟩
 obtain⟨u5,hu5⟩:∃u5,w5.alloc zst=u5:=⟨_,rfl⟩
 have gN:u5.heap[N]?=some zst:=by rw[<- hu5,<- hN];exact heap_new _ _
 obtain⟨r0,r1,r2,r3,r4,r5,r6,r7,r8⟩:=nine gN
 obtain⟨z0,z1,z2,z3,z4,z5,z6,z7,z8⟩:=frz gN
 obtain⟨Y,hY⟩:∃Y,set9 u5 N (.slice (some ⟨F,0,none⟩) 1 1) (.slice none 0 0) (.slice none 0 0) (.int .i64 0) (.int .i64 0) (.int .i64 0) (.int .i64 0) (.int .i64 0) (.string ⟨#[]⟩)=Y:=⟨_,rfl⟩
 have P1:Y.heap[N]?=some (.cells #[.slice (some ⟨F,0,none⟩) 1 1,.slice none 0 0,.slice none 0 0,.int .i64 0,.int .i64 0,.int .i64 0,.int .i64 0,.int .i64 0,.string ⟨#[]⟩] 38):=by rw[<- hY];exact set9_block gN
 have EY:Below w5.heap.size w5 Y:=by rw[<- hY,<- hu5];exact set9_below (ext_alloc (Below.refl _ _) _) (Nat.le_of_eq hN) _ _ _ _ _ _ _ _ _
 unfold set9 at hY
 have hFY:=hFr.out
 have hOY:=hO.out
 replace hFY:=block_below EY hFY
 replace hOY:OwnR Y g 25 3 4 4 (flat [nilV,nilV,nilV,nilV]):=hOY.same (EY.block _ hOY.lt)
 have M0:=block_below EY K0
 have M1:=block_below EY K1
 have M2:=block_below EY K2
 have M3:=block_below EY K3
 have p0:=cell_block (i:=0) M1 rfl
 have p1:=cell_block (i:=1) M1 rfl
 have p2:=cell_block (i:=2) M1 rfl
 have p3:=cell_block (i:=3) M1 rfl
 have E7:=ext_trans E5 EY
 replace hFY:Hid _:=hFY
 replace hOY:Hid _:=hOY
 replace P1:Hid _:=P1
 clear K0 K1 K2 K3 gN EY E5 hO hFr k0 k1 k2 k3 E4 hW4 hb5
 go_wp2_with (first|(go_at_call 7;refine(policy_yes y.hot y.most y.cache y.tries ⟨hh.1,hh.2⟩ ⟨by omega,hm.2⟩ ⟨by omega,hca.2⟩ ⟨by omega,htr.2⟩ _).mono ?_;rintro e w6 ⟨rfl,hb6⟩)|(go_at_call 8;refine(from_yes 0 4000 60000 (by omega) (by omega) _).mono ?_;rintro e w6' ⟨rfl,rfl⟩;refine Hid.out ?_))
 refine Lib.hid ?_
 have Q0:=block_below hb6 M0
 have Q1:=block_below hb6 M1
 have Q2:=block_below hb6 M2
 have Q3:=block_below hb6 M3
 have QN:=block_below hb6 P1.out
 have QF:=block_below hb6 hFY.out
 have hOY':OwnR Y g 25 3 4 4 (flat [nilV,nilV,nilV,nilV]):=hOY.out
 have Qg:OwnR w6' g 25 3 4 4 (flat [nilV,nilV,nilV,nilV]):=hOY'.same (hb6.block _ hOY'.lt)
 clear hOY'
 have EW:=ext_trans E7 hb6
 have hS6:∀u,Below w6'.heap.size w6' u->u.cell? ⟨W.heap.size,0,none⟩=some (.slice (some ⟨b,off,none⟩) 1 cf)/\u.cell? ⟨W.heap.size,1,none⟩=some (.int .i64 0)/\u.cell? ⟨W.heap.size+1,0,none⟩=some (.int .i64 y.hot)/\u.cell? ⟨W.heap.size+1,1,none⟩=some (.int .i64 y.most)/\u.cell? ⟨W.heap.size+1,2,none⟩=some (.int .i64 y.cache)/\u.cell? ⟨W.heap.size+1,3,none⟩=some (.int .i64 y.tries)/\u.cell? ⟨N,0,none⟩=some (.slice (some ⟨F,0,none⟩) 1 1)/\u.cell? ⟨N,1,none⟩=some (.slice none 0 0)/\u.cell? ⟨N,2,none⟩=some (.slice none 0 0)/\u.cell? ⟨N,3,none⟩=some (.int .i64 0)/\u.cell? ⟨N,4,none⟩=some (.int .i64 0)/\u.cell? ⟨N,5,none⟩=some (.int .i64 0)/\u.cell? ⟨N,6,none⟩=some (.int .i64 0)/\u.cell? ⟨N,7,none⟩=some (.int .i64 0)/\u.cell? ⟨N,8,none⟩=some (.string ⟨#[]⟩):=fun u hu=>by
  have z0:=block_below hu Q0
  have z1:=block_below hu Q1
  have z2:=block_below hu QN
  exact⟨cell_block z0 rfl,cell_block z0 rfl,cell_block z1 rfl,cell_block z1 rfl,cell_block z1 rfl,cell_block z1 rfl,cell_block z2 rfl,cell_block z2 rfl,cell_block z2 rfl,cell_block z2 rfl,cell_block z2 rfl,cell_block z2 rfl,cell_block z2 rfl,cell_block z2 rfl,cell_block z2 rfl⟩
 have hSm:Small (begS 0 4):=⟨by decide,fun x hx=>by simp[begS]at hx;subst hx;decide,fun x hx v hv=>by simp[begS]at hx;subst hx;simp at hv;subst hv;decide,by decide,fun x hx=>by simp[begS]at hx,fun x hx=>by simp[begS]at hx,by decide,fun x hx=>by simp[begS]at hx,by decide⟩
 have h10:∀u,Below w6'.heap.size w6' u->Calls Tryz.prog 10 #[PV (some ⟨b,off,none⟩) 1 cf 0,.agg #[.slice (some ⟨F,0,none⟩) 1 1,.slice none 0 0,.slice none 0 0,.int .i64 0,.int .i64 0,.int .i64 0,.int .i64 0,.int .i64 0,.string ⟨#[]⟩]] u fun e w7=>∃B,e=.returned (.pointer (some ⟨B,0,none⟩))/\Below u.heap.size u w7/\Hid (∃m:Hm,m.B=B/\m.fv=.slice (some ⟨b,off,none⟩) 1 cf/\(∃a c,m.tv=.slice a 0 c)/\(∃a c,m.uv=.slice a 0 c)/\Mh u m (stS 0 [nilV,nilV,nilV,nilV] 0) w7):=fun u hu=>by
  have zF:=block_below hu QF
  have zg:OwnR u g 25 3 4 4 (flat [nilV,nilV,nilV,nilV]):=Qg.same (hu.block _ Qg.lt)
  have hI:StIn u.heap.size u (.slice (some ⟨F,0,none⟩) 1 1) (.slice none 0 0) (.slice none 0 0) (begS 0 4):=by
   refine⟨⟨_,_,rfl,by simp[maxLen,begS],fun _=>⟨F,0,rfl,block_lt zF,fun j x hj=>?_⟩⟩,⟨_,_,rfl,by simp[maxLen,begS],fun e=>absurd rfl e⟩,⟨_,_,rfl,by simp[maxLen,begS],fun e=>absurd rfl e⟩⟩
   rcases j with _|j
   ·simp[begS]at hj
    subst hj
    exact⟨cell_block zF rfl,cell_block zF rfl,cell_block zF rfl,_,cell_block zF rfl,zg.row⟩
   ·simp[begS]at hj
  exact(new_any _ _ _ _ _ _ _ rfl 0 (begS 0 4) u hI hSm).mono fun e w7 q=>by
   obtain⟨p,rfl,_,hMc⟩:=q
   obtain⟨m,m1,m2,m3,m4,m5,m6⟩:=mh_new hMc
   exact⟨p.B,rfl,hMc.bl,m,m1,m2,m4,m5,m6⟩
 have E6:=ext_drew (Below.refl w6'.heap.size w6')
 have hS0:=hS6 _ E6
 have hFw:RowF w6'.drew.heap.size w6'.drew (some ⟨b,off,none⟩) [f]:=(hF.below (ext_trans EW E6)).mono (ext_trans EW E6).size
 replace hS6:Hid _:=hS6
 replace h10:Hid _:=h10
 replace Q2:Hid _:=Q2
 replace Q3:Hid _:=Q3
 replace hFw:Hid _:=hFw
 have EW6:Hid (Below W.heap.size W w6'):=EW
 clear QF Qg EW hSm M0 M1 M2 M3 Q0 Q1 QN p0 p1 p2 p3 P1 hFY hOY hb6 hF
 go_wp2
 refine wp_region_held_drew (S:=fun u=>u.cell? ⟨W.heap.size,0,none⟩=some (.slice (some ⟨b,off,none⟩) 1 cf)/\u.cell? ⟨W.heap.size,1,none⟩=some (.int .i64 0)/\u.cell? ⟨W.heap.size+1,0,none⟩=some (.int .i64 y.hot)/\u.cell? ⟨W.heap.size+1,1,none⟩=some (.int .i64 y.most)/\u.cell? ⟨W.heap.size+1,2,none⟩=some (.int .i64 y.cache)/\u.cell? ⟨W.heap.size+1,3,none⟩=some (.int .i64 y.tries)/\u.cell? ⟨N,0,none⟩=some (.slice (some ⟨F,0,none⟩) 1 1)/\u.cell? ⟨N,1,none⟩=some (.slice none 0 0)/\u.cell? ⟨N,2,none⟩=some (.slice none 0 0)/\u.cell? ⟨N,3,none⟩=some (.int .i64 0)/\u.cell? ⟨N,4,none⟩=some (.int .i64 0)/\u.cell? ⟨N,5,none⟩=some (.int .i64 0)/\u.cell? ⟨N,6,none⟩=some (.int .i64 0)/\u.cell? ⟨N,7,none⟩=some (.int .i64 0)/\u.cell? ⟨N,8,none⟩=some (.string ⟨#[]⟩)) (by kernel_rfl) hS0 (fun hS0=>?_)
 change wpAnyH _ _ _ _ _ 6 _ _ _
 refine' wpAnyH_take (i := 0) (oi := { dst := some 32, op := Op.load 45 (Operand.tmp 3), type := 45, pos := "jit.go:18", after := #[], guard := none }) (v := _) (fuel := 5) rfl (by kernel_rfl) (by kernel_rfl) (by kernel_rfl) (fun _ _ _ h => h) (Or.inl ⟨by rfl, ?hy1⟩) hS0 ?rest1
 case hy1=>(intro w ⟨_,_,_,_,_,_,_,_,_,_,_,_,_,_,_⟩;go_simp;try with_reducible rfl)
 try simp only[Act.put,List.setIfInBounds_toArray,List.set_cons_zero,List.set_cons_succ]
 refine' wpAnyH_take (i := 1) (oi := { dst := some 33, op := Op.load 38 (Operand.tmp 9), type := 38, pos := "jit.go:18", after := #[], guard := none }) (v := _) (fuel := 4) rfl (by kernel_rfl) (by kernel_rfl) (by kernel_rfl) (fun _ _ _ h => h) (Or.inl ⟨by rfl, ?hy2⟩) hS0 ?rest2
 case hy2=>(intro w ⟨_,_,_,_,_,_,_,_,_,_,_,_,_,_,_⟩;go_simp;try with_reducible rfl)
 try simp only[Act.put,List.setIfInBounds_toArray,List.set_cons_zero,List.set_cons_succ]
 refine' wpAnyH_take (i := 3) (oi := { dst := some 35, op := Op.load 23 (Operand.tmp 4), type := 23, pos := "jit.go:18", after := #[], guard := none }) (v := _) (fuel := 3) rfl (by kernel_rfl) (by kernel_rfl) (by kernel_rfl) (fun _ _ _ h => h) (Or.inl ⟨by rfl, ?hy3⟩) hS0 ?rest3
 case hy3=>(intro w ⟨_,_,_,_,_,_,_,_,_,_,_,_,_,_,_⟩;go_simp;try with_reducible rfl)
 try simp only[Act.put,List.setIfInBounds_toArray,List.set_cons_zero,List.set_cons_succ]
 refine wpAnyH_ready (rs:=[2]) (by kernel_rfl) (by simp) ?_
 refine AllReadyH.cons (o := { dst := some 34, op := Op.call { callee := Callee.value (Operand.func 10), args := #[Operand.tmp 32, Operand.tmp 33], argTypes := #[45, 38] }, type := 53, pos := "jit.go:18", after := #[{ on := 0, ground := Ground.data }, { on := 1, ground := Ground.data }], guard := none }) rfl (fun K hK => ?_) AllReadyH.nil
 go_simp
 go_at_call 10
 refine(h10.out _ E6).mono ?_
 rintro e w7 ⟨B,rfl,hb7,hq7⟩
 have E7:=ext_trans E6 hb7
 refine hK.out _ _ (hS6.out _ E7) (fun _=>?_)
 clear hK K
 try simp only[Act.put,List.setIfInBounds_toArray,List.set_cons_zero,List.set_cons_succ]
 refine wpAnyH_ready (rs:=[4]) (by kernel_rfl) (by simp) ?_
 refine AllReadyH.cons (o := { dst := some 36, op := Op.call { callee := Callee.value (Operand.func 9), args := #[Operand.tmp 34, Operand.tmp 35], argTypes := #[53, 23] }, type := 51, pos := "jit.go:18", after := #[{ on := 2, ground := Ground.data }, { on := 3, ground := Ground.data }, { on := 2, ground := Ground.chain }], guard := none }) rfl (fun K hK => ?_) AllReadyH.nil
 go_simp
 go_at_call 9
 refine(newDriver_any B y w7).mono ?_
 rintro e w8 ⟨⟨D,mt,mc,mr,rfl,nd⟩,hb8⟩
 have E8:=ext_trans E7 hb8
 refine hK.out _ _ (hS6.out _ E8) (fun _=>?_)
 clear hK K
 try simp only[Act.put,List.setIfInBounds_toArray,List.set_cons_zero,List.set_cons_succ]
 refine' wpAnyH_take (i := 5) (oi := { dst := some 11, op := Op.assign (Operand.tmp 36), type := 51, pos := "jit.go:18", after := #[{ on := 4, ground := Ground.data }, { on := 4, ground := Ground.chain }, { on := 0, ground := Ground.phase }, { on := 1, ground := Ground.phase }, { on := 2, ground := Ground.phase }, { on := 3, ground := Ground.phase }, { on := 4, ground := Ground.phase }], guard := none }) (v := _) (fuel := 0) rfl (by kernel_rfl) (by kernel_rfl) (by kernel_rfl) (fun _ _ _ h => h) (Or.inl ⟨by rfl, ?hy4⟩) (hS6.out _ E8) ?rest4
 case hy4=>(intro w ⟨_,_,_,_,_,_,_,_,_,_,_,_,_,_,_⟩;go_simp;try with_reducible rfl)
 try simp only[Act.put,List.setIfInBounds_toArray,List.set_cons_zero,List.set_cons_succ]
 refine wpAnyH_done (by kernel_rfl) ?_ _
 obtain⟨m,rfl,hm1,htv,huv,hMh⟩:=hq7.out
 obtain⟨nD,nmt,nmc,nmr,o1,o2,o3,o4⟩:=nd
 have hl:=hMh.lt
 have h7s:=hb7.size
 have hDr:Dr w6'.drew m (stS 0 [nilV,nilV,nilV,nilV] 0) D mt mc mr y ⟨0,0,0⟩ (.slice none 0 0) D0 D0 D0 w8:=by
  refine⟨hMh.on hb8,nD,⟨0,by omega,hd_new nmt⟩,⟨0,by omega,hd_new nmc⟩,⟨0,by omega,hd_new nmr⟩,?_,by omega,by omega,by omega,by omega⟩
  have q1:=hMh.bf
  have q2:=hMh.bg
  have q3:=hMh.fg
  simp only[Hm.own,List.nodup_cons,List.mem_cons,List.not_mem_nil,or_false,not_or,List.nodup_nil,not_false_eq_true,and_true]
  omega
 have hP:Ph w6'.drew m n:=⟨f,hfp,hfr,hcs,his,⟨_,_,hm1,hFw.out⟩⟩
 have hdr:=drive_any hP hn htv huv hh (mo:=y.most.toNat) (Int.toNat_of_nonneg (by omega)).symm (by omega) (by omega) hca.1 htr.1 hDr (hd_new nmt) (hd_new nmc) (hd_new nmr)
 replace hdr:Calls Tryz.prog 11 #[.pointer (some ⟨D,0,none⟩),.int .i64 4000] w8 fun e W'=>e=.returned (.tuple #[])/\DvE w6'.drew m D mt mc mr y n W':=hdr.mono fun e W' q=>⟨q.1,⟨q.2⟩⟩
 replace hdr:Hid _:=hdr
 clear hDr hP hMh hm1 nD nmt nmc nmr hS6 h10 hq7 E7
 go_wp2_with (go_at_call 11;refine(show Calls Tryz.prog 11 _ _ _ from hdr.out).mono ?_;rintro e w9 ⟨rfl,hq9⟩;refine Hid.out ?_)
 refine Lib.hid ?_
 obtain⟨dd,x,hv,T9,C9,R9,hds,hD9,hx⟩:=hq9.ex
 have B9:=hD9.mh.bl
 have EW9:=ext_trans (ext_trans EW6.out E6) B9
 have Q2':=block_below B9 (block_below E6 Q2.out)
 have Q3':=block_below B9 (block_below E6 Q3.out)
 have hDlt:w6'.drew.heap.size<=D:=hD9.lo.1
 have l2:W.heap.size+1+1<w6'.heap.size:=block_lt Q2.out
 have l3:W.heap.size+1+1+1<w6'.heap.size:=block_lt Q3.out
 have l6:=E6.size
 have hD2:D≠W.heap.size+1+1:=by omega
 have hD3:D≠W.heap.size+1+1+1:=by omega
 have hSm9:Small (Ms.to ⟨⟨0,(7:Nat),0,[numV n,numV n,numV 1,dd]⟩,((4*n+5+1:Nat):Int),1,0,numV n⟩):=by
  have a1:(numV n).s.size<=300:=by rw[(numV_k (by omega)).2.2];decide
  have a2:(numV 1).s.size<=300:=by rw[(numV_k (by omega)).2.2];decide
  refine⟨(by show(1:Nat)<=40;omega),fun z hz=>?_,fun z hz v hv=>?_,(by show(0:Nat)<=200;omega),fun z hz=>by simp at hz,fun z hz=>by simp at hz,(by show(0:Nat)<=60000;omega),fun z hz=>by simp at hz,a1⟩
  ·simp at hz;subst hz;simp
  ·simp at hz;subst hz;simp at hv;rcases hv with rfl|rfl|rfl
   ·exact a1
   ·exact a2
   ·exact hds
 obtain⟨st,hst⟩:∃st:Int,((4*n+5+1:Nat):Int)=st:=⟨_,rfl⟩
 obtain⟨lk,hlk⟩:∃z:Int,(numV n).k=z:=⟨_,rfl⟩
 obtain⟨ln,hln⟩:∃z:Int,(numV n).n=z:=⟨_,rfl⟩
 obtain⟨ls,hls⟩:∃z:ByteArray,(numV n).s=z:=⟨_,rfl⟩
 have h12:∀u,Below w9.heap.size w9 u->Calls Tryz.prog 12 #[.pointer (some ⟨m.B,0,none⟩)] u fun e W'=>∃F fc T tc U uc,e=.returned (.agg #[.slice (some ⟨F,0,none⟩) 1 fc,.slice (some ⟨T,0,none⟩) 0 tc,.slice (some ⟨U,0,none⟩) 0 uc,.int .i64 st,.int .i64 1,.int .i64 0,.int .i64 lk,.int .i64 ln,.string ls])/\Below u.heap.size u W':=fun u hu=>by
  rw[<- hst,<- hlk,<- hln,<- hls]
  exact mfresh_h (hD9.mh.on hu) htv huv hSm9
 have hS8:∀u,Below w9.heap.size w9 u->(u.cell? ⟨D,0,none⟩=some (.pointer (some ⟨m.B,0,none⟩))/\u.cell? ⟨D,5,none⟩=some (.int .i64 x.kept)/\u.cell? ⟨D,6,none⟩=some (.int .i64 x.tried)/\u.cell? ⟨D,7,none⟩=some (.int .i64 x.inside)):=fun u hu=>by
  have z:=block_below hu hD9.bx
  exact⟨cell_block z rfl,cell_block z rfl,cell_block z rfl,cell_block z rfl⟩
 have h38:∀(u:World) (F' fc T tc U uc:Nat),Below w9.heap.size w9 u->(u.cell? ⟨W.heap.size+1+1,0,none⟩=some (.slice none 0 0)/\u.cell? ⟨W.heap.size+1+1,1,none⟩=some (.slice none 0 0)/\u.cell? ⟨W.heap.size+1+1,2,none⟩=some (.slice none 0 0)/\u.cell? ⟨W.heap.size+1+1,3,none⟩=some (.int .i64 0)/\u.cell? ⟨W.heap.size+1+1,4,none⟩=some (.int .i64 0)/\u.cell? ⟨W.heap.size+1+1,5,none⟩=some (.int .i64 0)/\u.cell? ⟨W.heap.size+1+1,6,none⟩=some (.int .i64 0)/\u.cell? ⟨W.heap.size+1+1,7,none⟩=some (.int .i64 0)/\u.cell? ⟨W.heap.size+1+1,8,none⟩=some (.string ⟨#[]⟩))/\(u.frozen? ⟨W.heap.size+1+1,0,none⟩=false/\u.frozen? ⟨W.heap.size+1+1,1,none⟩=false/\u.frozen? ⟨W.heap.size+1+1,2,none⟩=false/\u.frozen? ⟨W.heap.size+1+1,3,none⟩=false/\u.frozen? ⟨W.heap.size+1+1,4,none⟩=false/\u.frozen? ⟨W.heap.size+1+1,5,none⟩=false/\u.frozen? ⟨W.heap.size+1+1,6,none⟩=false/\u.frozen? ⟨W.heap.size+1+1,7,none⟩=false/\u.frozen? ⟨W.heap.size+1+1,8,none⟩=false)/\(∃Z,((((((((((u.setCell ⟨W.heap.size+1+1,0,none⟩ (.slice (some ⟨F',0,none⟩) 1 fc)).setCell ⟨W.heap.size+1+1,1,none⟩ (.slice (some ⟨T,0,none⟩) 0 tc)).setCell ⟨W.heap.size+1+1,2,none⟩ (.slice (some ⟨U,0,none⟩) 0 uc)).setCell ⟨W.heap.size+1+1,3,none⟩ (.int .i64 st)).setCell ⟨W.heap.size+1+1,4,none⟩ (.int .i64 1)).setCell ⟨W.heap.size+1+1,5,none⟩ (.int .i64 0)).setCell ⟨W.heap.size+1+1,6,none⟩ (.int .i64 lk)).setCell ⟨W.heap.size+1+1,7,none⟩ (.int .i64 ln)).setCell ⟨W.heap.size+1+1,8,none⟩ (.string ls)))=Z/\(Z.cell? ⟨D,0,none⟩=some (.pointer (some ⟨m.B,0,none⟩))/\Z.cell? ⟨D,5,none⟩=some (.int .i64 x.kept)/\Z.cell? ⟨D,6,none⟩=some (.int .i64 x.tried)/\Z.cell? ⟨D,7,none⟩=some (.int .i64 x.inside))/\Hid ((Z.cell? ⟨W.heap.size+1+1+1,0,none⟩=some (.int .i64 0)/\Z.cell? ⟨W.heap.size+1+1+1,1,none⟩=some (.int .i64 0)/\Z.cell? ⟨W.heap.size+1+1+1,2,none⟩=some (.int .i64 0))/\(Z.frozen? ⟨W.heap.size+1+1+1,0,none⟩=false/\Z.frozen? ⟨W.heap.size+1+1+1,1,none⟩=false/\Z.frozen? ⟨W.heap.size+1+1+1,2,none⟩=false)/\((((Z.setCell ⟨W.heap.size+1+1+1,0,none⟩ (.int .i64 x.kept)).setCell ⟨W.heap.size+1+1+1,1,none⟩ (.int .i64 x.tried)).setCell ⟨W.heap.size+1+1+1,2,none⟩ (.int .i64 x.inside)).cell? ⟨D,0,none⟩=some (.pointer (some ⟨m.B,0,none⟩))/\(((Z.setCell ⟨W.heap.size+1+1+1,0,none⟩ (.int .i64 x.kept)).setCell ⟨W.heap.size+1+1+1,1,none⟩ (.int .i64 x.tried)).setCell ⟨W.heap.size+1+1+1,2,none⟩ (.int .i64 x.inside)).cell? ⟨D,5,none⟩=some (.int .i64 x.kept)/\(((Z.setCell ⟨W.heap.size+1+1+1,0,none⟩ (.int .i64 x.kept)).setCell ⟨W.heap.size+1+1+1,1,none⟩ (.int .i64 x.tried)).setCell ⟨W.heap.size+1+1+1,2,none⟩ (.int .i64 x.inside)).cell? ⟨D,6,none⟩=some (.int .i64 x.tried)/\(((Z.setCell ⟨W.heap.size+1+1+1,0,none⟩ (.int .i64 x.kept)).setCell ⟨W.heap.size+1+1+1,1,none⟩ (.int .i64 x.tried)).setCell ⟨W.heap.size+1+1+1,2,none⟩ (.int .i64 x.inside)).cell? ⟨D,7,none⟩=some (.int .i64 x.inside))/\Hid ((((Z.setCell ⟨W.heap.size+1+1+1,0,none⟩ (.int .i64 x.kept)).setCell ⟨W.heap.size+1+1+1,1,none⟩ (.int .i64 x.tried)).setCell ⟨W.heap.size+1+1+1,2,none⟩ (.int .i64 x.inside)).heap[W.heap.size+1+1]?=some (.cells #[.slice (some ⟨F',0,none⟩) 1 fc,.slice (some ⟨T,0,none⟩) 0 tc,.slice (some ⟨U,0,none⟩) 0 uc,.int .i64 st,.int .i64 1,.int .i64 0,.int .i64 lk,.int .i64 ln,.string ls] 38)/\(((Z.setCell ⟨W.heap.size+1+1+1,0,none⟩ (.int .i64 x.kept)).setCell ⟨W.heap.size+1+1+1,1,none⟩ (.int .i64 x.tried)).setCell ⟨W.heap.size+1+1+1,2,none⟩ (.int .i64 x.inside)).heap[W.heap.size+1+1+1]?=some (.cells #[.int .i64 x.kept,.int .i64 x.tried,.int .i64 x.inside] 40)/\Below W.heap.size W (((Z.setCell ⟨W.heap.size+1+1+1,0,none⟩ (.int .i64 x.kept)).setCell ⟨W.heap.size+1+1+1,1,none⟩ (.int .i64 x.tried)).setCell ⟨W.heap.size+1+1+1,2,none⟩ (.int .i64 x.inside))))):=fun u F' fc T tc U uc hu=>by
  have z2:=block_below hu Q2'
  have z3:=block_below hu Q3'
  have zD:=block_below hu hD9.bx
  obtain⟨Z,hZ⟩:∃Z,(set9 u (W.heap.size+1+1) (.slice (some ⟨F',0,none⟩) 1 fc) (.slice (some ⟨T,0,none⟩) 0 tc) (.slice (some ⟨U,0,none⟩) 0 uc) (.int .i64 st) (.int .i64 1) (.int .i64 0) (.int .i64 lk) (.int .i64 ln) (.string ls))=Z:=⟨_,rfl⟩
  have y2:Z.heap[W.heap.size+1+1]?=some (.cells #[.slice (some ⟨F',0,none⟩) 1 fc,.slice (some ⟨T,0,none⟩) 0 tc,.slice (some ⟨U,0,none⟩) 0 uc,.int .i64 st,.int .i64 1,.int .i64 0,.int .i64 lk,.int .i64 ln,.string ls] 38):=by rw[<- hZ];exact set9_block z2
  have y3:Z.heap[W.heap.size+1+1+1]?=some (.cells #[.int .i64 0,.int .i64 0,.int .i64 0] 40):=by rw[<- hZ];exact(set9_other (by omega)).trans z3
  have yD:=zD
  rw[show u.heap[D]?=Z.heap[D]? from by rw[<- hZ];exact(set9_other hD2).symm]at yD
  have x3:=set_block (i:=2) (.int .i64 x.inside) (set_block (i:=1) (.int .i64 x.tried) (set_block (i:=0) (.int .i64 x.kept) y3))
  simp only[List.setIfInBounds_toArray,List.set_cons_zero,List.set_cons_succ]at x3
  have EZ:Below W.heap.size W Z:=by rw[<- hZ];exact set9_below (ext_trans EW9 hu) (by omega) _ _ _ _ _ _ _ _ _
  have E3:=((EZ.setCell (p:=⟨W.heap.size+1+1+1,0,none⟩) (show W.heap.size<=W.heap.size+1+1+1 by omega) (.int .i64 x.kept)).setCell (p:=⟨W.heap.size+1+1+1,1,none⟩) (show W.heap.size<=W.heap.size+1+1+1 by omega) (.int .i64 x.tried)).setCell (p:=⟨W.heap.size+1+1+1,2,none⟩) (show W.heap.size<=W.heap.size+1+1+1 by omega) (.int .i64 x.inside)
  have n23:W.heap.size+1+1≠W.heap.size+1+1+1:=by omega
  have x2:(((Z.setCell ⟨W.heap.size+1+1+1,0,none⟩ (.int .i64 x.kept)).setCell ⟨W.heap.size+1+1+1,1,none⟩ (.int .i64 x.tried)).setCell ⟨W.heap.size+1+1+1,2,none⟩ (.int .i64 x.inside)).heap[W.heap.size+1+1]?=_:=(set1_other _ _ n23).trans ((set1_other _ _ n23).trans ((set1_other _ _ n23).trans y2))
  have xD:(((Z.setCell ⟨W.heap.size+1+1+1,0,none⟩ (.int .i64 x.kept)).setCell ⟨W.heap.size+1+1+1,1,none⟩ (.int .i64 x.tried)).setCell ⟨W.heap.size+1+1+1,2,none⟩ (.int .i64 x.inside)).heap[D]?=_:=(set1_other _ _ hD3).trans ((set1_other _ _ hD3).trans ((set1_other _ _ hD3).trans yD))
  refine⟨nine z2,frz z2,Z,hZ,⟨cell_block yD rfl,cell_block yD rfl,cell_block yD rfl,cell_block yD rfl⟩,⟨⟨cell_block y3 rfl,cell_block y3 rfl,cell_block y3 rfl⟩,⟨frozen_block y3,frozen_block y3,frozen_block y3⟩,⟨cell_block xD rfl,cell_block xD rfl,cell_block xD rfl,cell_block xD rfl⟩,x2,x3,E3⟩⟩
 have E9:=ext_drew (Below.refl w9.heap.size w9)
 have hS0:=hS8 _ E9
 replace hS8:Hid _:=hS8
 replace h12:Hid _:=h12
 replace h38:Hid _:=h38
 have hfin:∀F' fc T tc U uc,RnE n y W (.returned (.tuple #[.agg #[.slice (some ⟨F',0,none⟩) 1 fc,.slice (some ⟨T,0,none⟩) 0 tc,.slice (some ⟨U,0,none⟩) 0 uc,.int .i64 st,.int .i64 1,.int .i64 0,.int .i64 lk,.int .i64 ln,.string ls],.agg #[.int .i64 x.kept,.int .i64 x.tried,.int .i64 x.inside],.int .i64 0])) w9:=fun F' fc T tc U uc=>⟨F',fc,T,tc,U,uc,x,by rw[<- hst,<- hlk,<- hln,<- hls],hx⟩
 replace hfin:Hid _:=hfin
 clear hst hlk hln hls hx hY hu5 hN r0 r1 r2 r3 r4 r5 r6 r7 r8 z0 z1 z2 z3 z4 z5 z6 z7 z8 hb7 hb8 E6 E8 l2 l3 l6 hDlt o1 o2 o3 o4 hl h7s hD2 hD3
 clear EW9 EW6
 clear hD9 B9 Q2' Q3' Q2 Q3 hds hSm9 htv huv hFw hdr
 go_wp2
 refine wp_region_held_drew (S:=fun u=>(u.cell? ⟨D,0,none⟩=some (.pointer (some ⟨m.B,0,none⟩))/\u.cell? ⟨D,5,none⟩=some (.int .i64 x.kept)/\u.cell? ⟨D,6,none⟩=some (.int .i64 x.tried)/\u.cell? ⟨D,7,none⟩=some (.int .i64 x.inside))) (by kernel_rfl) hS0 (fun hS0=>?_)
 change wpAnyH _ _ _ _ _ 12 _ _ _
 refine' wpAnyH_take (i := 0) (oi := { dst := some 40, op := Op.move (Operand.tmp 11), type := 51, pos := "jit.go:20", after := #[], guard := none }) (v := _) (fuel := 11) rfl (by kernel_rfl) (by kernel_rfl) (by kernel_rfl) (fun _ _ _ h => h) (Or.inl ⟨by rfl, ?hy501⟩) hS0 ?rest501
 case hy501=>(intro w ⟨_,_,_,_⟩;go_simp;try with_reducible rfl)
 try simp only[Act.put,List.setIfInBounds_toArray,List.set_cons_zero,List.set_cons_succ]
 refine' wpAnyH_take (i := 1) (oi := { dst := some 41, op := Op.nilCheck (Operand.tmp 40), type := 0, pos := "jit.go:20", after := #[{ on := 0, ground := Ground.data }], guard := none }) (v := _) (fuel := 10) rfl (by kernel_rfl) (by kernel_rfl) (by kernel_rfl) (fun _ _ _ h => h) (Or.inl ⟨by rfl, ?hy502⟩) hS0 ?rest502
 case hy502=>(intro w ⟨_,_,_,_⟩;go_simp;try with_reducible rfl)
 try simp only[Act.put,List.setIfInBounds_toArray,List.set_cons_zero,List.set_cons_succ]
 refine' wpAnyH_take (i := 2) (oi := { dst := some 42, op := Op.fieldAddr 61 (Operand.tmp 41) 0, type := 0, pos := "jit.go:20", after := #[{ on := 1, ground := Ground.data }], guard := none }) (v := _) (fuel := 9) rfl (by kernel_rfl) (by kernel_rfl) (by kernel_rfl) (fun _ _ _ h => h) (Or.inl ⟨by rfl, ?hy503⟩) hS0 ?rest503
 case hy503=>(intro w ⟨_,_,_,_⟩;go_simp;try with_reducible rfl)
 try simp only[Act.put,List.setIfInBounds_toArray,List.set_cons_zero,List.set_cons_succ]
 refine' wpAnyH_take (i := 3) (oi := { dst := some 43, op := Op.load 53 (Operand.tmp 42), type := 53, pos := "jit.go:20", after := #[{ on := 2, ground := Ground.data }], guard := none }) (v := _) (fuel := 8) rfl (by kernel_rfl) (by kernel_rfl) (by kernel_rfl) (fun _ _ _ h => h) (Or.inl ⟨by rfl, ?hy504⟩) hS0 ?rest504
 case hy504=>(intro w ⟨_,_,_,_⟩;go_simp;try with_reducible rfl)
 try simp only[Act.put,List.setIfInBounds_toArray,List.set_cons_zero,List.set_cons_succ]
 refine' wpAnyH_take (i := 5) (oi := { dst := some 45, op := Op.move (Operand.tmp 11), type := 51, pos := "jit.go:20", after := #[{ on := 9, ground := Ground.gcOnly Departure.lateStores }], guard := none }) (v := _) (fuel := 7) rfl (by kernel_rfl) (by kernel_rfl) (by kernel_rfl) (fun _ _ _ h => h) (Or.inl ⟨by rfl, ?hy505⟩) hS0 ?rest505
 case hy505=>(intro w ⟨_,_,_,_⟩;go_simp;try with_reducible rfl)
 try simp only[Act.put,List.setIfInBounds_toArray,List.set_cons_zero,List.set_cons_succ]
 refine' wpAnyH_take (i := 6) (oi := { dst := some 46, op := Op.nilCheck (Operand.tmp 45), type := 0, pos := "jit.go:20", after := #[{ on := 5, ground := Ground.data }, { on := 9, ground := Ground.gcOnly Departure.lateStores }], guard := none }) (v := _) (fuel := 6) rfl (by kernel_rfl) (by kernel_rfl) (by kernel_rfl) (fun _ _ _ h => h) (Or.inl ⟨by rfl, ?hy506⟩) hS0 ?rest506
 case hy506=>(intro w ⟨_,_,_,_⟩;go_simp;try with_reducible rfl)
 try simp only[Act.put,List.setIfInBounds_toArray,List.set_cons_zero,List.set_cons_succ]
 refine' wpAnyH_take (i := 7) (oi := { dst := some 47, op := Op.fieldAddr 61 (Operand.tmp 46) 2, type := 0, pos := "jit.go:20", after := #[{ on := 6, ground := Ground.data }, { on := 9, ground := Ground.gcOnly Departure.lateStores }], guard := none }) (v := _) (fuel := 5) rfl (by kernel_rfl) (by kernel_rfl) (by kernel_rfl) (fun _ _ _ h => h) (Or.inl ⟨by rfl, ?hy507⟩) hS0 ?rest507
 case hy507=>(intro w ⟨_,_,_,_⟩;go_simp;try with_reducible rfl)
 try simp only[Act.put,List.setIfInBounds_toArray,List.set_cons_zero,List.set_cons_succ]
 refine' wpAnyH_take (i := 8) (oi := { dst := some 48, op := Op.load 40 (Operand.tmp 47), type := 40, pos := "jit.go:20", after := #[{ on := 7, ground := Ground.data }, { on := 9, ground := Ground.gcOnly Departure.lateStores }], guard := none }) (v := _) (fuel := 4) rfl (by kernel_rfl) (by kernel_rfl) (by kernel_rfl) (fun _ _ _ h => h) (Or.inl ⟨by rfl, ?hy508⟩) hS0 ?rest508
 case hy508=>(intro w ⟨_,_,_,_⟩;go_simp;try with_reducible rfl)
 try simp only[Act.put,List.setIfInBounds_toArray,List.set_cons_zero,List.set_cons_succ]
 refine wpAnyH_ready (rs:=[4]) (by kernel_rfl) (by simp) ?_
 refine AllReadyH.cons (o := { dst := some 44, op := Op.call { callee := Callee.value (Operand.func 12), args := #[Operand.tmp 43], argTypes := #[53] }, type := 38, pos := "jit.go:20", after := #[{ on := 3, ground := Ground.data }], guard := none }) rfl (fun K hK => ?_) AllReadyH.nil
 go_simp
 go_at_call 12
 refine(h12.out _ E9).mono ?_
 rintro e w10 ⟨F',fc,T,tc,U,uc,rfl,hb10⟩
 have E10:=ext_trans E9 hb10
 refine hK.out _ _ (hS8.out _ E10) (fun _=>?_)
 clear hK K
 try simp only[Act.put,List.setIfInBounds_toArray,List.set_cons_zero,List.set_cons_succ]
 refine wpAnyH_ready (rs:=[9]) (by kernel_rfl) (by simp) ?_
 refine AllReadyH.cons (o := { dst := none, op := Op.store 38 (Operand.tmp 6) (Operand.tmp 44), type := 0, pos := "jit.go:20", after := #[{ on := 4, ground := Ground.data }, { on := 4, ground := Ground.chain }, { on := 0, ground := Ground.phase }, { on := 1, ground := Ground.phase }, { on := 2, ground := Ground.phase }, { on := 3, ground := Ground.phase }, { on := 4, ground := Ground.phase }, { on := 5, ground := Ground.textOnly Departure.lateStores }, { on := 6, ground := Ground.textOnly Departure.lateStores }, { on := 7, ground := Ground.textOnly Departure.lateStores }, { on := 8, ground := Ground.textOnly Departure.lateStores }], guard := none }) rfl (fun K hK => ?_) AllReadyH.nil
 obtain⟨⟨r0,r1,r2,r3,r4,r5,r6,r7,r8⟩,⟨z0,z1,z2,z3,z4,z5,z6,z7,z8⟩,Z,hZ,hH11,hR11⟩:=h38.out w10 F' fc T tc U uc E10
 go_simp
 refine hK.out _ _ hH11 (fun _=>?_)
 clear hK K
 try simp only[Act.put,List.setIfInBounds_toArray,List.set_cons_zero,List.set_cons_succ]
 refine wpAnyH_ready (rs:=[10]) (by kernel_rfl) (by simp) ?_
 refine AllReadyH.cons (o := { dst := none, op := Op.store 40 (Operand.tmp 7) (Operand.tmp 48), type := 0, pos := "jit.go:20", after := #[{ on := 8, ground := Ground.data }, { on := 9, ground := Ground.chain }, { on := 0, ground := Ground.phase }, { on := 1, ground := Ground.phase }, { on := 2, ground := Ground.phase }, { on := 3, ground := Ground.phase }, { on := 4, ground := Ground.phase }, { on := 5, ground := Ground.phase }, { on := 6, ground := Ground.phase }, { on := 7, ground := Ground.phase }, { on := 8, ground := Ground.phase }, { on := 9, ground := Ground.phase }], guard := none }) rfl (fun K hK => ?_) AllReadyH.nil
 obtain⟨⟨r0,r1,r2⟩,⟨z0,z1,z2⟩,hH12,hR12⟩:=hR11.out
 go_simp
 refine hK.out _ _ hH12 (fun _=>?_)
 clear hK K
 try simp only[Act.put,List.setIfInBounds_toArray,List.set_cons_zero,List.set_cons_succ]
 refine' wpAnyH_take (i := 11) (oi := { dst := some 8, op := Op.assign (Operand.const (Value.int IntKind.i64 0)), type := 36, pos := "jit.go:20", after := #[{ on := 10, ground := Ground.chain }, { on := 0, ground := Ground.phase }, { on := 1, ground := Ground.phase }, { on := 2, ground := Ground.phase }, { on := 3, ground := Ground.phase }, { on := 4, ground := Ground.phase }, { on := 5, ground := Ground.phase }, { on := 6, ground := Ground.phase }, { on := 7, ground := Ground.phase }, { on := 8, ground := Ground.phase }, { on := 9, ground := Ground.phase }, { on := 10, ground := Ground.phase }], guard := none }) (v := _) (fuel := 0) rfl (by kernel_rfl) (by kernel_rfl) (by kernel_rfl) (fun _ _ _ h => h) (Or.inl ⟨by rfl, ?hy509⟩) hH12 ?rest509
 case hy509=>(intro w ⟨_,_,_,_⟩;go_simp;try with_reducible rfl)
 try simp only[Act.put,List.setIfInBounds_toArray,List.set_cons_zero,List.set_cons_succ]
 refine wpAnyH_done (by kernel_rfl) ?_ _
 go_wp2
 obtain⟨P2,P3,P4⟩:=hR12.out
 exact bodyPost_ret (res5 rfl rfl rfl P2 P3) rfl ⟨⟨(hfin.out F' fc T tc U uc).ex⟩,P4⟩
theorem res4{tm:Array Value}{W:World}{B:Nat}{a b c:Value}(hp:tm[2]?.getD undef=.pointer (some ⟨B,0,none⟩))(hx:W.heap[B]?=some (.cells #[a,b,c] 25)):(results Tryz.f4 tm).run Tryz.prog W=.ok (.agg #[a,b,c]) W:=by
 have d0:W.cell? ⟨B,0,none⟩=some a:=cell_block hx rfl
 have d1:W.cell? ⟨B,1,none⟩=some b:=cell_block hx rfl
 have d2:W.cell? ⟨B,2,none⟩=some c:=cell_block hx rfl
 simp[results,Tryz.results4,go_sem,hp,d0,d1,d2]
theorem int_any(k:Int)(w:World):Calls Tryz.prog 4 #[.int .i64 k] w fun e w'=>e=.returned (.agg #[.int .i64 2,.int .i64 k,.string ⟨#[]⟩])/\Below w.heap.size w w':=by
 obtain⟨w1,hw1⟩:∃w1,w.alloc (.cells #[.int .i64 0,.int .i64 0,.string ⟨#[]⟩] 25)=w1:=⟨_,rfl⟩
 have E1:Below w.heap.size w w1:=by rw[<- hw1];exact ext_alloc (Below.refl _ _) _
 have g1:w1.heap[w.heap.size]?=some (.cells #[.int .i64 0,.int .i64 0,.string ⟨#[]⟩] 25):=by rw[<- hw1];exact heap_new _ _
 have c0:=cell_block (i:=0) g1 rfl
 have c1:=cell_block (i:=1) g1 rfl
 have c2:=cell_block (i:=2) g1 rfl
 have z0:=frozen_block (i:=0) g1
 have z1:=frozen_block (i:=1) g1
 have z2:=frozen_block (i:=2) g1
 have x3:=set_block (i:=2) (.string ⟨#[]⟩) (set_block (i:=1) (.int .i64 k) (set_block (i:=0) (.int .i64 2) g1))
 simp only[List.setIfInBounds_toArray,List.set_cons_zero,List.set_cons_succ]at x3
 have E2:=((E1.setCell (p:=⟨w.heap.size,0,none⟩) (Nat.le_refl _) (.int .i64 2)).setCell (p:=⟨w.heap.size,1,none⟩) (Nat.le_refl _) (.int .i64 k)).setCell (p:=⟨w.heap.size,2,none⟩) (Nat.le_refl _) (.string ⟨#[]⟩)
 have d0:=cell_block (i:=0) x3 rfl
 have d1:=cell_block (i:=1) x3 rfl
 have d2:=cell_block (i:=2) x3 rfl
 replace E2:Hid _:=E2
 replace x3:Hid _:=x3
 clear E1 g1 d0 d1 d2
 go_enter Tryz.func4,Tryz.ntmps4
 go_wp2
 exact bodyPost_ret (res4 (B:=w.heap.size) rfl x3.out) rfl ⟨rfl,E2.out⟩
def Po.bad (y:Po):Prop:=y.hot<1\/60000<y.hot\/y.most<16\/400<y.most\/y.cache<1\/20<y.cache\/y.tries<1\/100<y.tries
theorem law_bad(r:Int)(y:Po)(W:World)(h:y.bad):Calls Tryz.prog 3 #[.int .u8 r,.agg #[.int .i64 y.hot,.int .i64 y.most,.int .i64 y.cache,.int .i64 y.tries]] W fun e w'=>e=.returned (.bool true)/\Below W.heap.size W w':=by
 obtain⟨w1,hw1⟩:∃w1,W.alloc (.cells #[.int .i64 y.hot,.int .i64 y.most,.int .i64 y.cache,.int .i64 y.tries] 23)=w1:=⟨_,rfl⟩
 have g1:w1.heap[W.heap.size]?=some (.cells #[.int .i64 y.hot,.int .i64 y.most,.int .i64 y.cache,.int .i64 y.tries] 23):=by rw[<- hw1];exact heap_new _ _
 have c0:=cell_block (i:=0) g1 rfl
 have c1:=cell_block (i:=1) g1 rfl
 have c2:=cell_block (i:=2) g1 rfl
 have c3:=cell_block (i:=3) g1 rfl
 have EW:Hid (Below W.heap.size W w1):=by rw[<- hw1];exact ext_alloc (Below.refl _ _) _
 clear g1
 unfold Po.bad at h
 by_cases h1:y.hot<1
 ·go_enter Tryz.func3,Tryz.ntmps3
  go_wp2
  go_ret
  exact⟨rfl,EW.out⟩
 by_cases h2:60000<y.hot
 ·go_enter Tryz.func3,Tryz.ntmps3
  go_wp2
  go_ret
  exact⟨rfl,EW.out⟩
 by_cases h3:y.most<16
 ·go_enter Tryz.func3,Tryz.ntmps3
  go_wp2
  go_ret
  exact⟨rfl,EW.out⟩
 by_cases h4:400<y.most
 ·go_enter Tryz.func3,Tryz.ntmps3
  go_wp2
  go_ret
  exact⟨rfl,EW.out⟩
 by_cases h5:y.cache<1
 ·go_enter Tryz.func3,Tryz.ntmps3
  go_wp2
  go_ret
  exact⟨rfl,EW.out⟩
 by_cases h6:20<y.cache
 ·go_enter Tryz.func3,Tryz.ntmps3
  go_wp2
  go_ret
  exact⟨rfl,EW.out⟩
 by_cases h7:y.tries<1
 ·go_enter Tryz.func3,Tryz.ntmps3
  go_wp2
  go_ret
  exact⟨rfl,EW.out⟩
 have h8:100<y.tries:=by omega
 go_enter Tryz.func3,Tryz.ntmps3
 go_wp2
 go_ret
 exact⟨rfl,EW.out⟩
theorem law_good{r n:Nat}(hn:r % 201=n)(hr:r<256)(y:Po)(W:World)(hh:1<=y.hot/\y.hot<=60000)(hm:16<=y.most/\y.most<=400)(hca:1<=y.cache/\y.cache<=20)(htr:1<=y.tries/\y.tries<=100):Calls Tryz.prog 3 #[.int .u8 (r:Nat),.agg #[.int .i64 y.hot,.int .i64 y.most,.int .i64 y.cache,.int .i64 y.tries]] W fun e w'=>e=.returned (.bool true)/\Below W.heap.size W w':=by
 obtain⟨w1,hw1⟩:∃w1,W.alloc (.cells #[.int .i64 y.hot,.int .i64 y.most,.int .i64 y.cache,.int .i64 y.tries] 23)=w1:=⟨_,rfl⟩
 have g1:w1.heap[W.heap.size]?=some (.cells #[.int .i64 y.hot,.int .i64 y.most,.int .i64 y.cache,.int .i64 y.tries] 23):=by rw[<- hw1];exact heap_new _ _
 have c0:=cell_block (i:=0) g1 rfl
 have c1:=cell_block (i:=1) g1 rfl
 have c2:=cell_block (i:=2) g1 rfl
 have c3:=cell_block (i:=3) g1 rfl
 have EW:Hid (Below W.heap.size W w1):=by rw[<- hw1];exact ext_alloc (Below.refl _ _) _
 have h1:¬y.hot<1:=by omega
 have h2:¬60000<y.hot:=by omega
 have h3:¬y.most<16:=by omega
 have h4:¬400<y.most:=by omega
 have h5:¬y.cache<1:=by omega
 have h6:¬20<y.cache:=by omega
 have h7:¬y.tries<1:=by omega
 have h8:¬100<y.tries:=by omega
 have e1:(Int.tmod (r:Nat) 201)=(n:Nat):=by rw[<- hn];rfl
 have e2:IntKind.i64.wrap ((r:Nat):Int)=(r:Nat):=IntWalk.i64_in _ ⟨by omega,by omega⟩
 have e3:IntKind.i64.wrap ((n:Nat):Int)=(n:Nat):=IntWalk.i64_in _ ⟨by omega,by omega⟩
 go_enter Tryz.func3,Tryz.ntmps3
 go_wp2_with (go_at_call 4;refine(int_any _ _).mono ?_;rintro e w2 ⟨rfl,hb2⟩;refine Hid.out ?_)
 refine Lib.hid ?_
 go_wp2_with (go_at_call 4;refine(int_any _ _).mono ?_;rintro e w3 ⟨rfl,hb3⟩;refine Hid.out ?_)
 refine Lib.hid ?_
 go_wp2_with (go_at_call 4;refine(int_any _ _).mono ?_;rintro e w4 ⟨rfl,hb4⟩;refine Hid.out ?_)
 refine Lib.hid ?_
 have g4:=block_below hb4 (block_below hb3 (block_below hb2 g1))
 have hW4:W.heap.size<w4.heap.size:=block_lt g4
 have n0:¬W.heap.size=w4.heap.size:=by omega
 have n1:¬W.heap.size=w4.heap.size+1:=by omega
 have n2:¬W.heap.size=w4.heap.size+1+1:=by omega
 have n3:¬W.heap.size=w4.heap.size+1+1+1:=by omega
 obtain⟨V,hV⟩:∃V,(((w4.alloc (.cells #[.int .i64 2,.int .i64 0,.string ⟨#[]⟩,.int .i64 2,.int .i64 (n:Nat),.string ⟨#[]⟩,.int .i64 2,.int .i64 1,.string ⟨#[]⟩] 25)).alloc (.cells #[.int .i64 0,.int .i64 4,.slice (some ⟨w4.heap.size,0,none⟩) 3 3,.slice (some ⟨w4.heap.size+1+1,0,none⟩) 8 8] 30)).alloc (.cells #[.int .i64 2,.int .i64 0,.int .i64 0,.int .i64 0,.int .i64 2,.int .i64 1,.int .i64 1,.int .i64 0,.int .i64 2,.int .i64 2,.int .i64 2,.int .i64 0,.int .i64 28,.int .i64 3,.int .i64 0,.int .i64 1,.int .i64 9,.int .i64 3,.int .i64 7,.int .i64 0,.int .i64 21,.int .i64 0,.int .i64 0,.int .i64 2,.int .i64 10,.int .i64 3,.int .i64 0,.int .i64 0,.int .i64 12,.int .i64 0,.int .i64 0,.int .i64 0] 32)).alloc (.cells #[.int .i64 0,.int .i64 4,.slice (some ⟨w4.heap.size,0,none⟩) 3 3,.slice (some ⟨w4.heap.size+1+1,0,none⟩) 8 8] 30)=V:=⟨_,rfl⟩
 have x0:V.heap[w4.heap.size]?=some (.cells #[.int .i64 2,.int .i64 0,.string ⟨#[]⟩,.int .i64 2,.int .i64 (n:Nat),.string ⟨#[]⟩,.int .i64 2,.int .i64 1,.string ⟨#[]⟩] 25):=by rw[<- hV];exact block_alloc _ (block_alloc _ (block_alloc _ (heap_new _ _)))
 have x2:V.heap[w4.heap.size+1+1]?=some (.cells #[.int .i64 2,.int .i64 0,.int .i64 0,.int .i64 0,.int .i64 2,.int .i64 1,.int .i64 1,.int .i64 0,.int .i64 2,.int .i64 2,.int .i64 2,.int .i64 0,.int .i64 28,.int .i64 3,.int .i64 0,.int .i64 1,.int .i64 9,.int .i64 3,.int .i64 7,.int .i64 0,.int .i64 21,.int .i64 0,.int .i64 0,.int .i64 2,.int .i64 10,.int .i64 3,.int .i64 0,.int .i64 0,.int .i64 12,.int .i64 0,.int .i64 0,.int .i64 0] 32):=by
  rw[<- hV];have:=new2' (w4.alloc (.cells #[.int .i64 2,.int .i64 0,.string ⟨#[]⟩,.int .i64 2,.int .i64 (n:Nat),.string ⟨#[]⟩,.int .i64 2,.int .i64 1,.string ⟨#[]⟩] 25)) (.cells #[.int .i64 0,.int .i64 4,.slice (some ⟨w4.heap.size,0,none⟩) 3 3,.slice (some ⟨w4.heap.size+1+1,0,none⟩) 8 8] 30) (.cells #[.int .i64 2,.int .i64 0,.int .i64 0,.int .i64 0,.int .i64 2,.int .i64 1,.int .i64 1,.int .i64 0,.int .i64 2,.int .i64 2,.int .i64 2,.int .i64 0,.int .i64 28,.int .i64 3,.int .i64 0,.int .i64 1,.int .i64 9,.int .i64 3,.int .i64 7,.int .i64 0,.int .i64 21,.int .i64 0,.int .i64 0,.int .i64 2,.int .i64 10,.int .i64 3,.int .i64 0,.int .i64 0,.int .i64 12,.int .i64 0,.int .i64 0,.int .i64 0] 32);simp only[World.size_alloc]at this;exact block_alloc _ this
 have x3:V.heap[w4.heap.size+1+1+1]?=some (.cells #[.int .i64 0,.int .i64 4,.slice (some ⟨w4.heap.size,0,none⟩) 3 3,.slice (some ⟨w4.heap.size+1+1,0,none⟩) 8 8] 30):=by
  rw[<- hV];have:=new2' ((w4.alloc (.cells #[.int .i64 2,.int .i64 0,.string ⟨#[]⟩,.int .i64 2,.int .i64 (n:Nat),.string ⟨#[]⟩,.int .i64 2,.int .i64 1,.string ⟨#[]⟩] 25)).alloc (.cells #[.int .i64 0,.int .i64 4,.slice (some ⟨w4.heap.size,0,none⟩) 3 3,.slice (some ⟨w4.heap.size+1+1,0,none⟩) 8 8] 30)) (.cells #[.int .i64 2,.int .i64 0,.int .i64 0,.int .i64 0,.int .i64 2,.int .i64 1,.int .i64 1,.int .i64 0,.int .i64 2,.int .i64 2,.int .i64 2,.int .i64 0,.int .i64 28,.int .i64 3,.int .i64 0,.int .i64 1,.int .i64 9,.int .i64 3,.int .i64 7,.int .i64 0,.int .i64 21,.int .i64 0,.int .i64 0,.int .i64 2,.int .i64 10,.int .i64 3,.int .i64 0,.int .i64 0,.int .i64 12,.int .i64 0,.int .i64 0,.int .i64 0] 32) (.cells #[.int .i64 0,.int .i64 4,.slice (some ⟨w4.heap.size,0,none⟩) 3 3,.slice (some ⟨w4.heap.size+1+1,0,none⟩) 8 8] 30);simp only[World.size_alloc]at this;exact this
 have EV:Below w4.heap.size w4 V:=by rw[<- hV];exact ext_alloc (ext_alloc (ext_alloc (ext_alloc (Below.refl _ _) _) _) _) _
 have gV:=block_below EV g4
 have EWV:Hid (Below W.heap.size W V):=ext_trans (ext_trans (ext_trans (ext_trans EW.out hb2) hb3) hb4) EV
 clear EW
 clear c0 c1 c2 c3
 have c0:=cell_block (i:=0) g4 rfl
 have c1:=cell_block (i:=1) g4 rfl
 have c2:=cell_block (i:=2) g4 rfl
 have c3:=cell_block (i:=3) g4 rfl
 have b0:=cell_block (i:=0) gV rfl
 have b1:=cell_block (i:=1) gV rfl
 have b2:=cell_block (i:=2) gV rfl
 have b3:=cell_block (i:=3) gV rfl
 have hn2:n<=200:=by omega
 obtain⟨p1,p2,p3⟩:=numV_k (i:=n) (by omega)
 obtain⟨q1,q2,q3⟩:=numV_k (i:=0) (by omega)
 obtain⟨s1,s2,s3⟩:=numV_k (i:=1) (by omega)
 have hRF:∃f:Fd,f.p=0/\f.r=4/\f.cs=csL n/\f.is=odL/\RowF V.heap.size V (some ⟨w4.heap.size+1+1+1,0,none⟩) [f]:=by
  refine⟨⟨0,4,rfl,rfl,some ⟨w4.heap.size,0,none⟩,3,csL n,some ⟨w4.heap.size+1+1,0,none⟩,8,odL⟩,rfl,rfl,rfl,rfl,by simp[maxLen],fun _=>⟨_,_,rfl,block_lt x3,fun j f hj=>?_⟩⟩
  rcases j with _|j
  ·simp at hj
   subst hj
   refine⟨⟨cell_block x3 rfl,cell_block x3 rfl,cell_block x3 rfl,cell_block x3 rfl⟩,⟨by simp[maxLen,csL],fun _=>⟨_,_,rfl,block_lt x0,fun j x hx=>?_⟩⟩,⟨by simp[maxLen,odL],fun _=>⟨_,_,rfl,block_lt x2,fun j x hx=>?_⟩⟩⟩
   ·rcases j with _|_|_|j
    ·simp[csL]at hx;subst hx;exact⟨by rw[q1];exact cell_block x0 rfl,by rw[q2];exact cell_block x0 rfl,by rw[q3];exact cell_block x0 rfl⟩
    ·simp[csL]at hx;subst hx;exact⟨by rw[p1];exact cell_block x0 rfl,by rw[p2];exact cell_block x0 rfl,by rw[p3];exact cell_block x0 rfl⟩
    ·simp[csL]at hx;subst hx;exact⟨by rw[s1];exact cell_block x0 rfl,by rw[s2];exact cell_block x0 rfl,by rw[s3];exact cell_block x0 rfl⟩
    ·simp[csL]at hx
   ·rcases j with _|_|_|_|_|_|_|_|j <;> first|(simp[odL]at hx;done)|(simp[odL]at hx;subst hx;exact⟨cell_block x2 rfl,cell_block x2 rfl,cell_block x2 rfl,cell_block x2 rfl⟩)
  ·simp at hj
 obtain⟨f,f1,f2,f3,f4,f5⟩:=hRF
 have hrun:=run_any f5 f1 f2 f3 f4 hn2 y hh hm hca htr (cf:=1)
 replace hrun:Hid _:=hrun
 replace gV:Hid _:=gV
 clear x0 x2 x3 EV f5 f1 f2 f3 f4 g1 g4 hb2 hb3 hb4 hw1
 go_wp2_with (go_at_call 5;(try rw[hV]);refine(show Calls Tryz.prog 5 _ _ _ from hrun.out).mono ?_;rintro e w5 ⟨⟨F',fc,T,tc,U,uc,x,rfl,hx⟩,hb5⟩;refine Hid.out ?_)
 refine Lib.hid ?_
 have g5:=block_below hb5 gV.out
 have EW5:Hid (Below W.heap.size W w5):=ext_trans EWV.out hb5
 clear EWV
 have hV5:=hb5.size
 have hW5:W.heap.size<w5.heap.size:=block_lt g5
 clear c0 c1 c2 c3 b0 b1 b2 b3 hV
 have c0:=cell_block (i:=0) g5 rfl
 have m0:¬W.heap.size=w5.heap.size:=by omega
 have m1:¬W.heap.size=w5.heap.size+1:=by omega
 obtain⟨hx1,hx2,hx3⟩:=hx
 clear g5 gV hb5 hV5 hrun q1 q2 q3 s1 s2 s3
 by_cases k1:((n:Nat):Int)<y.hot
 ·obtain rfl:=hx1 k1
  clear hx2 hx3
  go_wp2
  go_ret
  exact⟨rfl,by first|exact EW5.out|exact ext_alloc EW5.out _|exact ext_alloc (ext_alloc EW5.out _) _⟩
 by_cases k2:((n:Nat):Int)=y.hot
 ·obtain rfl:=hx2 k2
  clear hx1 hx3
  go_wp2
  go_ret
  exact⟨rfl,by first|exact EW5.out|exact ext_alloc EW5.out _|exact ext_alloc (ext_alloc EW5.out _) _⟩
 obtain⟨j1,j2,j3⟩:=hx3 (by omega)
 have j4:IntKind.i64.wrap ((n:Nat)-y.hot)=(n:Nat)-y.hot:=IntWalk.i64_in _ ⟨by omega,by omega⟩
 have j5:IntKind.i64.wrap (4*((n:Nat)-y.hot))=4*((n:Nat)-y.hot):=IntWalk.i64_in _ ⟨by omega,by omega⟩
 clear hx1 hx2 hx3
 go_wp2
 go_ret
 exact⟨rfl,by first|exact EW5.out|exact ext_alloc EW5.out _|exact ext_alloc (ext_alloc EW5.out _) _⟩
theorem hot_any{r:Nat}(hr:r<256)(y:Po)(W:World):Calls Tryz.prog 3 #[.int .u8 (r:Nat),.agg #[.int .i64 y.hot,.int .i64 y.most,.int .i64 y.cache,.int .i64 y.tries]] W fun e w'=>e=.returned (.bool true)/\Below W.heap.size W w':=by
 by_cases h:y.bad
 ·exact law_bad _ y W h
 ·unfold Po.bad at h
  exact law_good rfl hr y W ⟨by omega,by omega⟩ ⟨by omega,by omega⟩ ⟨by omega,by omega⟩ ⟨by omega,by omega⟩
end
end Go.Proofs.YthljpnmhddfblaaGreatDoor
