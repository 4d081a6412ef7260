/- Plain orders, as far as memory goes: an operation (by hand: the loads of the order first, the two registers in both orders). -/
import Derived.Test.YthljpnmhddfblaaGreatDoorS26
import Derived.Deep.RegionHeld2
namespace Go.Proofs.YthljpnmhddfblaaGreatDoor
open Go.RowKit Go
set_option maxRecDepth 100000
set_option maxHeartbeats 8000000
set_option linter.all false
section
variable [DecidableEq Vl]
theorem pl_op(B g n cp a b c:Nat)(op:Int)(va vb vc:Vl)(R:Int⊕Vl)(W:World)(ha:RegAt W g a va)(hb:RegAt W g b vb)(hc:RegAt W g c vc)(hla:a<n)(hlb:b<n)(hlc:c<n)(h1:(op == 1)=false)(h2:(op == 2)=false)(h3:(op == 3)=false)(h4:(op == 4)=false)(h5:(op == 5)=false)(h6:(op == 6)=false)(h7:(op == 7)=false)(h13:(op == 13)=false)(h30:(op == 30)=false)(h31:(op == 31)=false)(ho1:21<=op)(ho2:op<=29)
  (hq:∀w2,Below W.heap.size W w2->Calls Tryz.prog 80 #[.pointer (some ⟨B,0,none⟩),.int .i64 (op-20),vb.v,vc.v] w2 (VQ w2 R)) :
  Calls Tryz.prog 54 #[.pointer (some ⟨B,0,none⟩),.slice (some ⟨g,0,none⟩) n cp,.agg #[.int .i64 op,.int .i64 (a:Nat),.int .i64 (b:Nat),.int .i64 (c:Nat)]] W (PQ W g a R):=by
 have hg:=World.block_lt_of_cell? _ _ ha.t.k
 simp only at hg
 have hb1:=ext_alloc (Below.refl W.heap.size W) (.cells #[.int .i64 op,.int .i64 (a:Nat),.int .i64 (b:Nat),.int .i64 (c:Nat)] 32)
 have g1:(W.alloc (.cells #[.int .i64 op,.int .i64 (a:Nat),.int .i64 (b:Nat),.int .i64 (c:Nat)] 32)).heap[W.heap.size]?=some (.cells #[.int .i64 op,.int .i64 (a:Nat),.int .i64 (b:Nat),.int .i64 (c:Nat)] 32):=heap_new _ _
 obtain⟨w1,hw1⟩:∃w1,W.alloc (.cells #[.int .i64 op,.int .i64 (a:Nat),.int .i64 (b:Nat),.int .i64 (c:Nat)] 32)=w1:=⟨_,rfl⟩
 rw[hw1]at hb1 g1
 have o0:w1.cell? ⟨W.heap.size,0,none⟩=some (.int .i64 op):=cell_block g1 rfl
 have o1:w1.cell? ⟨W.heap.size,1,none⟩=some (.int .i64 (a:Nat)):=cell_block g1 rfl
 have o2:w1.cell? ⟨W.heap.size,2,none⟩=some (.int .i64 (b:Nat)):=cell_block g1 rfl
 have o3:w1.cell? ⟨W.heap.size,3,none⟩=some (.int .i64 (c:Nat)):=cell_block g1 rfl
 obtain⟨⟨b0,b1,b2⟩,_,_,_⟩:=hb.on hb1
 obtain⟨⟨c0,c1,c2⟩,_,_,_⟩:=hc.on hb1
 have hS:∀u,Below w1.heap.size w1 u->u.cell? ⟨W.heap.size,1,none⟩=some (.int .i64 (a:Nat))/\RegAt u g a va:=fun u h=>⟨cellB h o1,(ha.on hb1).on h⟩
 have hq':∀w2,Below W.heap.size W w2->Calls Tryz.prog 80 #[.pointer (some ⟨B,0,none⟩),.int .i64 (op-20),vb.v,vc.v] w2 (VT w2 R):=fun w2 h=>(hq w2 h).mono fun _ _ k=>k.two
 have hO:∀u,Below w1.heap.size w1 u->u.cell? ⟨W.heap.size,0,none⟩=some (.int .i64 op)/\u.cell? ⟨W.heap.size,1,none⟩=some (.int .i64 (a:Nat))/\u.cell? ⟨W.heap.size,2,none⟩=some (.int .i64 (b:Nat))/\u.cell? ⟨W.heap.size,3,none⟩=some (.int .i64 (c:Nat)):=fun u h=>⟨cellB h o0,cellB h o1,cellB h o2,cellB h o3⟩
 have hw20:IntKind.i64.wrap (op-20)=op-20:=IntWalk.i64_in _ ⟨by omega,by omega⟩
 replace hq':Hid _:=hq'
 replace hS:Hid _:=hS
 replace hO:Hid _:=hO
 clear hq g1 ha hb hc
 have hg':g≠W.heap.size:=by omega
 go_enter Tryz.func54,Tryz.ntmps54
 go_wp2
 refine wp_region_held_drew (S:=fun u=>u.cell? ⟨W.heap.size,0,none⟩=some (.int .i64 op)/\u.cell? ⟨W.heap.size,1,none⟩=some (.int .i64 (a:Nat))/\u.cell? ⟨W.heap.size,2,none⟩=some (.int .i64 (b:Nat))/\u.cell? ⟨W.heap.size,3,none⟩=some (.int .i64 (c:Nat))) (by kernel_rfl) (hO.out _ (ext_drew (Below.refl _ _))) (fun hHeld=>?_)
 change wpAnyH _ _ _ _ _ 20 _ _ _
 refine' wpAnyH_take (i := 0) (oi := { dst := some 8, op := Op.move (Operand.tmp 1), type := 27, pos := "order.go:51", after := #[], guard := none }) (v := _) (fuel := 19) rfl (by kernel_rfl) (by kernel_rfl) (by kernel_rfl) (fun _ _ _ h => h) (Or.inl ⟨by rfl, ?hy0⟩) hHeld ?rest0
 case hy0=>(intro w ⟨_,_,_,_⟩;go_simp;try with_reducible rfl)
 simp only[Act.put,List.setIfInBounds_toArray,List.set_cons_zero,List.set_cons_succ]
 refine' wpAnyH_take (i := 1) (oi := { dst := some 9, op := Op.fieldAddr 32 (Operand.tmp 5) 1, type := 0, pos := "order.go:51", after := #[], guard := none }) (v := _) (fuel := 18) rfl (by kernel_rfl) (by kernel_rfl) (by kernel_rfl) (fun _ _ _ h => h) (Or.inl ⟨by rfl, ?hy1⟩) hHeld ?rest1
 case hy1=>(intro w ⟨_,_,_,_⟩;go_simp;try with_reducible rfl)
 simp only[Act.put,List.setIfInBounds_toArray,List.set_cons_zero,List.set_cons_succ]
 refine' wpAnyH_take (i := 2) (oi := { dst := some 10, op := Op.load 3 (Operand.tmp 9), type := 3, pos := "order.go:51", after := #[{ on := 1, ground := Ground.data }], guard := none }) (v := _) (fuel := 17) rfl (by kernel_rfl) (by kernel_rfl) (by kernel_rfl) (fun _ _ _ h => h) (Or.inl ⟨by rfl, ?hy2⟩) hHeld ?rest2
 case hy2=>(intro w ⟨_,_,_,_⟩;go_simp;try with_reducible rfl)
 simp only[Act.put,List.setIfInBounds_toArray,List.set_cons_zero,List.set_cons_succ]
 refine' wpAnyH_take (i := 3) (oi := { dst := some 11, op := Op.move (Operand.tmp 0), type := 53, pos := "order.go:51", after := #[], guard := none }) (v := _) (fuel := 16) rfl (by kernel_rfl) (by kernel_rfl) (by kernel_rfl) (fun _ _ _ h => h) (Or.inl ⟨by rfl, ?hy3⟩) hHeld ?rest3
 case hy3=>(intro w ⟨_,_,_,_⟩;go_simp;try with_reducible rfl)
 simp only[Act.put,List.setIfInBounds_toArray,List.set_cons_zero,List.set_cons_succ]
 refine' wpAnyH_take (i := 4) (oi := { dst := some 12, op := Op.fieldAddr 32 (Operand.tmp 5) 0, type := 0, pos := "order.go:51", after := #[], guard := none }) (v := _) (fuel := 15) rfl (by kernel_rfl) (by kernel_rfl) (by kernel_rfl) (fun _ _ _ h => h) (Or.inl ⟨by rfl, ?hy4⟩) hHeld ?rest4
 case hy4=>(intro w ⟨_,_,_,_⟩;go_simp;try with_reducible rfl)
 simp only[Act.put,List.setIfInBounds_toArray,List.set_cons_zero,List.set_cons_succ]
 refine' wpAnyH_take (i := 5) (oi := { dst := some 13, op := Op.load 3 (Operand.tmp 12), type := 3, pos := "order.go:51", after := #[{ on := 4, ground := Ground.data }], guard := none }) (v := _) (fuel := 14) rfl (by kernel_rfl) (by kernel_rfl) (by kernel_rfl) (fun _ _ _ h => h) (Or.inl ⟨by rfl, ?hy5⟩) hHeld ?rest5
 case hy5=>(intro w ⟨_,_,_,_⟩;go_simp;try with_reducible rfl)
 simp only[Act.put,List.setIfInBounds_toArray,List.set_cons_zero,List.set_cons_succ]
 refine' wpAnyH_take (i := 6) (oi := { dst := some 14, op := Op.binOp BinOp.sub 3 (Operand.tmp 13) (Operand.const (Value.int IntKind.i64 20)) 3, type := 3, pos := "order.go:51", after := #[{ on := 5, ground := Ground.data }], guard := none }) (v := _) (fuel := 13) rfl (by kernel_rfl) (by kernel_rfl) (by kernel_rfl) (fun _ _ _ h => h) (Or.inl ⟨by rfl, ?hy6⟩) hHeld ?rest6
 case hy6=>(intro w ⟨_,_,_,_⟩;go_simp;try with_reducible rfl)
 simp only[Act.put,List.setIfInBounds_toArray,List.set_cons_zero,List.set_cons_succ]
 refine' wpAnyH_take (i := 7) (oi := { dst := some 15, op := Op.move (Operand.tmp 1), type := 27, pos := "order.go:51", after := #[], guard := none }) (v := _) (fuel := 12) rfl (by kernel_rfl) (by kernel_rfl) (by kernel_rfl) (fun _ _ _ h => h) (Or.inl ⟨by rfl, ?hy7⟩) hHeld ?rest7
 case hy7=>(intro w ⟨_,_,_,_⟩;go_simp;try with_reducible rfl)
 simp only[Act.put,List.setIfInBounds_toArray,List.set_cons_zero,List.set_cons_succ]
 refine' wpAnyH_take (i := 8) (oi := { dst := some 16, op := Op.fieldAddr 32 (Operand.tmp 5) 2, type := 0, pos := "order.go:51", after := #[], guard := none }) (v := _) (fuel := 11) rfl (by kernel_rfl) (by kernel_rfl) (by kernel_rfl) (fun _ _ _ h => h) (Or.inl ⟨by rfl, ?hy8⟩) hHeld ?rest8
 case hy8=>(intro w ⟨_,_,_,_⟩;go_simp;try with_reducible rfl)
 simp only[Act.put,List.setIfInBounds_toArray,List.set_cons_zero,List.set_cons_succ]
 refine' wpAnyH_take (i := 9) (oi := { dst := some 17, op := Op.load 3 (Operand.tmp 16), type := 3, pos := "order.go:51", after := #[{ on := 8, ground := Ground.data }], guard := none }) (v := _) (fuel := 10) rfl (by kernel_rfl) (by kernel_rfl) (by kernel_rfl) (fun _ _ _ h => h) (Or.inl ⟨by rfl, ?hy9⟩) hHeld ?rest9
 case hy9=>(intro w ⟨_,_,_,_⟩;go_simp;try with_reducible rfl)
 simp only[Act.put,List.setIfInBounds_toArray,List.set_cons_zero,List.set_cons_succ]
 refine' wpAnyH_take (i := 10) (oi := { dst := some 18, op := Op.indexAddr 27 (Operand.tmp 15) (Operand.tmp 17), type := 0, pos := "order.go:51", after := #[{ on := 7, ground := Ground.data }, { on := 9, ground := Ground.data }], guard := none }) (v := _) (fuel := 9) rfl (by kernel_rfl) (by kernel_rfl) (by kernel_rfl) (fun _ _ _ h => h) (Or.inl ⟨by rfl, ?hy10⟩) hHeld ?rest10
 case hy10=>(intro w ⟨_,_,_,_⟩;go_simp;try with_reducible rfl)
 simp only[Act.put,List.setIfInBounds_toArray,List.set_cons_zero,List.set_cons_succ]
 refine' wpAnyH_take (i := 12) (oi := { dst := some 20, op := Op.move (Operand.tmp 1), type := 27, pos := "order.go:51", after := #[], guard := none }) (v := _) (fuel := 8) rfl (by kernel_rfl) (by kernel_rfl) (by kernel_rfl) (fun _ _ _ h => h) (Or.inl ⟨by rfl, ?hy12⟩) hHeld ?rest12
 case hy12=>(intro w ⟨_,_,_,_⟩;go_simp;try with_reducible rfl)
 simp only[Act.put,List.setIfInBounds_toArray,List.set_cons_zero,List.set_cons_succ]
 refine' wpAnyH_take (i := 13) (oi := { dst := some 21, op := Op.fieldAddr 32 (Operand.tmp 5) 3, type := 0, pos := "order.go:51", after := #[], guard := none }) (v := _) (fuel := 7) rfl (by kernel_rfl) (by kernel_rfl) (by kernel_rfl) (fun _ _ _ h => h) (Or.inl ⟨by rfl, ?hy13⟩) hHeld ?rest13
 case hy13=>(intro w ⟨_,_,_,_⟩;go_simp;try with_reducible rfl)
 simp only[Act.put,List.setIfInBounds_toArray,List.set_cons_zero,List.set_cons_succ]
 refine' wpAnyH_take (i := 14) (oi := { dst := some 22, op := Op.load 3 (Operand.tmp 21), type := 3, pos := "order.go:51", after := #[{ on := 13, ground := Ground.data }], guard := none }) (v := _) (fuel := 6) rfl (by kernel_rfl) (by kernel_rfl) (by kernel_rfl) (fun _ _ _ h => h) (Or.inl ⟨by rfl, ?hy14⟩) hHeld ?rest14
 case hy14=>(intro w ⟨_,_,_,_⟩;go_simp;try with_reducible rfl)
 simp only[Act.put,List.setIfInBounds_toArray,List.set_cons_zero,List.set_cons_succ]
 refine' wpAnyH_take (i := 15) (oi := { dst := some 23, op := Op.indexAddr 27 (Operand.tmp 20) (Operand.tmp 22), type := 0, pos := "order.go:51", after := #[{ on := 12, ground := Ground.data }, { on := 14, ground := Ground.data }], guard := none }) (v := _) (fuel := 5) rfl (by kernel_rfl) (by kernel_rfl) (by kernel_rfl) (fun _ _ _ h => h) (Or.inl ⟨by rfl, ?hy15⟩) hHeld ?rest15
 case hy15=>(intro w ⟨_,_,_,_⟩;go_simp;try with_reducible rfl)
 simp only[Act.put,List.setIfInBounds_toArray,List.set_cons_zero,List.set_cons_succ]
 refine wpAnyH_ready (rs:=[11,16]) (by kernel_rfl) (by simp) ?_
 refine AllReadyH.cons (o := { dst := some 19, op := Op.load 25 (Operand.tmp 18), type := 25, pos := "order.go:51", after := #[{ on := 10, ground := Ground.data }], guard := none }) rfl (fun K hK => ?_) ?_
 ·go_simp
  refine hK.out _ _ hHeld (fun _=>?_)
  clear hK K
  try simp only[Act.put,List.setIfInBounds_toArray,List.set_cons_zero,List.set_cons_succ]
  refine wpAnyH_ready (rs:=[16]) (by kernel_rfl) (by simp) ?_
  refine AllReadyH.cons (o := { dst := some 24, op := Op.load 25 (Operand.tmp 23), type := 25, pos := "order.go:51", after := #[{ on := 15, ground := Ground.data }], guard := none }) rfl (fun K hK => ?_) AllReadyH.nil
  go_simp
  refine hK.out _ _ hHeld (fun _=>?_)
  clear hK K
  try simp only[Act.put,List.setIfInBounds_toArray,List.set_cons_zero,List.set_cons_succ]
  refine wpAnyH_ready (rs:=[17]) (by kernel_rfl) (by simp) ?_
  refine AllReadyH.cons (o := { dst := some 25, op := Op.call { callee := Callee.value (Operand.func 80), args := #[Operand.tmp 11, Operand.tmp 14, Operand.tmp 19, Operand.tmp 24], argTypes := #[53, 3, 25, 25] }, type := 25, pos := "order.go:51", after := #[{ on := 3, ground := Ground.data }, { on := 6, ground := Ground.data }, { on := 11, ground := Ground.data }, { on := 16, ground := Ground.data }], guard := none }) rfl (fun K hK => ?_) AllReadyH.nil
  go_simp
  go_at_call 80
  refine(hq'.out _ (ext_drew hb1)).mono ?_
  rintro e w2 ⟨hb2,(⟨cc,hR,rfl⟩|⟨r,hR,rfl⟩)⟩
  ·exact⟨rfl,.inl ⟨cc,hR,rfl,ext_trans (ext_drew hb1) hb2⟩⟩
  obtain⟨k1,⟨_,_,_⟩,fa0,fa1,fa2⟩:=hS.out w2 (ext_trans (ext_drew (Below.refl _ _)) hb2)
  have hH2:=hO.out w2 (ext_trans (ext_drew (Below.refl _ _)) hb2)
  refine hK.out _ _ hH2 (fun _=>?_)
  clear hK K
  try simp only[Act.put,List.setIfInBounds_toArray,List.set_cons_zero,List.set_cons_succ]
  refine' wpAnyH_take (i := 18) (oi := { dst := some 26, op := Op.indexAddr 27 (Operand.tmp 8) (Operand.tmp 10), type := 0, pos := "order.go:51", after := #[{ on := 0, ground := Ground.data }, { on := 2, ground := Ground.data }, { on := 0, ground := Ground.phase }, { on := 1, ground := Ground.phase }, { on := 2, ground := Ground.phase }, { on := 3, ground := Ground.phase }, { on := 4, ground := Ground.phase }, { on := 5, ground := Ground.phase }, { on := 6, ground := Ground.phase }, { on := 7, ground := Ground.phase }, { on := 8, ground := Ground.phase }, { on := 9, ground := Ground.phase }, { on := 10, ground := Ground.phase }, { on := 11, ground := Ground.phase }, { on := 12, ground := Ground.phase }, { on := 13, ground := Ground.phase }, { on := 14, ground := Ground.phase }, { on := 15, ground := Ground.phase }, { on := 16, ground := Ground.phase }, { on := 17, ground := Ground.phase }], guard := none }) (v := _) (fuel := 1) rfl (by kernel_rfl) (by kernel_rfl) (by kernel_rfl) (fun _ _ _ h => h) (Or.inl ⟨by rfl, ?hy1811⟩) hH2 ?rest1811
  case hy1811=>(intro w ⟨_,_,_,_⟩;go_simp;try with_reducible rfl)
  try simp only[Act.put,List.setIfInBounds_toArray,List.set_cons_zero,List.set_cons_succ]
  refine wpAnyH_ready (rs:=[19]) (by kernel_rfl) (by simp) ?_
  refine AllReadyH.cons (o := { dst := none, op := Op.store 25 (Operand.tmp 26) (Operand.tmp 25), type := 0, pos := "order.go:51", after := #[{ on := 18, ground := Ground.data }, { on := 17, ground := Ground.data }, { on := 17, ground := Ground.chain }, { on := 0, ground := Ground.phase }, { on := 1, ground := Ground.phase }, { on := 2, ground := Ground.phase }, { on := 3, ground := Ground.phase }, { on := 4, ground := Ground.phase }, { on := 5, ground := Ground.phase }, { on := 6, ground := Ground.phase }, { on := 7, ground := Ground.phase }, { on := 8, ground := Ground.phase }, { on := 9, ground := Ground.phase }, { on := 10, ground := Ground.phase }, { on := 11, ground := Ground.phase }, { on := 12, ground := Ground.phase }, { on := 13, ground := Ground.phase }, { on := 14, ground := Ground.phase }, { on := 15, ground := Ground.phase }, { on := 16, ground := Ground.phase }, { on := 17, ground := Ground.phase }], guard := none }) rfl (fun K hK => ?_) AllReadyH.nil
  go_simp
  refine hK.out _ _ ?_ (fun _=>?_)
  ·simpa[World.cell?_setCell_far,hg']using hH2
  clear hK K
  try simp only[Act.put,List.setIfInBounds_toArray,List.set_cons_zero,List.set_cons_succ]
  refine wpAnyH_done (by kernel_rfl) ?_ _
  go_wp2
  go_end0
  exact .inr ⟨r,hR,rfl,w2,ext_trans (ext_drew hb1) hb2,rfl⟩
 refine AllReadyH.cons (o := { dst := some 24, op := Op.load 25 (Operand.tmp 23), type := 25, pos := "order.go:51", after := #[{ on := 15, ground := Ground.data }], guard := none }) rfl (fun K hK => ?_) AllReadyH.nil
 ·go_simp
  refine hK.out _ _ hHeld (fun _=>?_)
  clear hK K
  try simp only[Act.put,List.setIfInBounds_toArray,List.set_cons_zero,List.set_cons_succ]
  refine wpAnyH_ready (rs:=[11]) (by kernel_rfl) (by simp) ?_
  refine AllReadyH.cons (o := { dst := some 19, op := Op.load 25 (Operand.tmp 18), type := 25, pos := "order.go:51", after := #[{ on := 10, ground := Ground.data }], guard := none }) rfl (fun K hK => ?_) AllReadyH.nil
  go_simp
  refine hK.out _ _ hHeld (fun _=>?_)
  clear hK K
  try simp only[Act.put,List.setIfInBounds_toArray,List.set_cons_zero,List.set_cons_succ]
  refine wpAnyH_ready (rs:=[17]) (by kernel_rfl) (by simp) ?_
  refine AllReadyH.cons (o := { dst := some 25, op := Op.call { callee := Callee.value (Operand.func 80), args := #[Operand.tmp 11, Operand.tmp 14, Operand.tmp 19, Operand.tmp 24], argTypes := #[53, 3, 25, 25] }, type := 25, pos := "order.go:51", after := #[{ on := 3, ground := Ground.data }, { on := 6, ground := Ground.data }, { on := 11, ground := Ground.data }, { on := 16, ground := Ground.data }], guard := none }) rfl (fun K hK => ?_) AllReadyH.nil
  go_simp
  go_at_call 80
  refine(hq'.out _ (ext_drew hb1)).mono ?_
  rintro e w2 ⟨hb2,(⟨cc,hR,rfl⟩|⟨r,hR,rfl⟩)⟩
  ·exact⟨rfl,.inl ⟨cc,hR,rfl,ext_trans (ext_drew hb1) hb2⟩⟩
  obtain⟨k1,⟨_,_,_⟩,fa0,fa1,fa2⟩:=hS.out w2 (ext_trans (ext_drew (Below.refl _ _)) hb2)
  have hH2:=hO.out w2 (ext_trans (ext_drew (Below.refl _ _)) hb2)
  refine hK.out _ _ hH2 (fun _=>?_)
  clear hK K
  try simp only[Act.put,List.setIfInBounds_toArray,List.set_cons_zero,List.set_cons_succ]
  refine' wpAnyH_take (i := 18) (oi := { dst := some 26, op := Op.indexAddr 27 (Operand.tmp 8) (Operand.tmp 10), type := 0, pos := "order.go:51", after := #[{ on := 0, ground := Ground.data }, { on := 2, ground := Ground.data }, { on := 0, ground := Ground.phase }, { on := 1, ground := Ground.phase }, { on := 2, ground := Ground.phase }, { on := 3, ground := Ground.phase }, { on := 4, ground := Ground.phase }, { on := 5, ground := Ground.phase }, { on := 6, ground := Ground.phase }, { on := 7, ground := Ground.phase }, { on := 8, ground := Ground.phase }, { on := 9, ground := Ground.phase }, { on := 10, ground := Ground.phase }, { on := 11, ground := Ground.phase }, { on := 12, ground := Ground.phase }, { on := 13, ground := Ground.phase }, { on := 14, ground := Ground.phase }, { on := 15, ground := Ground.phase }, { on := 16, ground := Ground.phase }, { on := 17, ground := Ground.phase }], guard := none }) (v := _) (fuel := 1) rfl (by kernel_rfl) (by kernel_rfl) (by kernel_rfl) (fun _ _ _ h => h) (Or.inl ⟨by rfl, ?hy1816⟩) hH2 ?rest1816
  case hy1816=>(intro w ⟨_,_,_,_⟩;go_simp;try with_reducible rfl)
  try simp only[Act.put,List.setIfInBounds_toArray,List.set_cons_zero,List.set_cons_succ]
  refine wpAnyH_ready (rs:=[19]) (by kernel_rfl) (by simp) ?_
  refine AllReadyH.cons (o := { dst := none, op := Op.store 25 (Operand.tmp 26) (Operand.tmp 25), type := 0, pos := "order.go:51", after := #[{ on := 18, ground := Ground.data }, { on := 17, ground := Ground.data }, { on := 17, ground := Ground.chain }, { on := 0, ground := Ground.phase }, { on := 1, ground := Ground.phase }, { on := 2, ground := Ground.phase }, { on := 3, ground := Ground.phase }, { on := 4, ground := Ground.phase }, { on := 5, ground := Ground.phase }, { on := 6, ground := Ground.phase }, { on := 7, ground := Ground.phase }, { on := 8, ground := Ground.phase }, { on := 9, ground := Ground.phase }, { on := 10, ground := Ground.phase }, { on := 11, ground := Ground.phase }, { on := 12, ground := Ground.phase }, { on := 13, ground := Ground.phase }, { on := 14, ground := Ground.phase }, { on := 15, ground := Ground.phase }, { on := 16, ground := Ground.phase }, { on := 17, ground := Ground.phase }], guard := none }) rfl (fun K hK => ?_) AllReadyH.nil
  go_simp
  refine hK.out _ _ ?_ (fun _=>?_)
  ·simpa[World.cell?_setCell_far,hg']using hH2
  clear hK K
  try simp only[Act.put,List.setIfInBounds_toArray,List.set_cons_zero,List.set_cons_succ]
  refine wpAnyH_done (by kernel_rfl) ?_ _
  go_wp2
  go_end0
  exact .inr ⟨r,hR,rfl,w2,ext_trans (ext_drew hb1) hb2,rfl⟩
end
end Go.Proofs.YthljpnmhddfblaaGreatDoor
