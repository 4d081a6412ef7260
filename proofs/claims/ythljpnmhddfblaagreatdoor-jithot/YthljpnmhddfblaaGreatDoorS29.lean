/- A frame of a function. -/
import Derived.Test.YthljpnmhddfblaaGreatDoorS28
import Derived.Test.YthljpnmhddfblaaGreatDoorS27
namespace Go.Proofs.YthljpnmhddfblaaGreatDoor
open Go.RowKit Go
set_option maxRecDepth 100000
set_option maxHeartbeats 8000000
set_option linter.all false
section
variable [DecidableEq Vl]
theorem flat_rep(r j:Nat)(hj:j<r*3):(flat (List.replicate r nilV))[j]?=#[Value.int .i64 0,Value.int .i64 0,Value.string ⟨#[]⟩][j % 3]?:=by
 induction r generalizing j with
 | zero=>omega
 | succ r ih =>
  have e:flat (List.replicate (r+1) nilV)=[Value.int .i64 0,Value.int .i64 0,Value.string ⟨#[]⟩]++flat (List.replicate r nilV):=by simp[flat,List.replicate_succ,nilV]
  rw[e]
  match j,hj with
  | 0,_=>rfl
  | 1,_=>rfl
  | 2,_=>rfl
  | j+3,hj =>
   rw[List.getElem?_append_right (by simp)]
   simp only[List.length_cons,List.length_nil,Nat.zero_add,Nat.reduceAdd,Nat.add_sub_cancel]
   rw[ih j (by omega),Nat.add_mod_right]
theorem made_regs(r:Nat)(hr:r<=250):∃mc:Array Value,(∀u:World,(Instr.makeSlice 27 (.int .i64 (r:Nat)) (.int .i64 (r:Nat))).run Tryz.prog u=.ok (.slice (some ⟨u.heap.size,0,none⟩) r r) (u.alloc (.cells mc 25)))/\mc.size=r*3/\mc.toList=flat (List.replicate r nilV):=by
 obtain⟨i0,hi0,hz0,hz1,hz2⟩:=info_parts info26
 refine⟨madeCells #[.int .i64 0,.int .i64 0,.string ⟨#[]⟩] (r*3),fun u=>?_,size_madeCells _ _,?_⟩
 ·have:=run_makeSlice (P:=Tryz.prog) (w:=u) 27 25 i0 _ Tryz.underlying27 hi0 hz0 .i64 .i64 (r:Nat) (r:Nat) (by omega) (by omega) (by rw[hz1];omega) (by rw[hz2];omega) (by omega)
  rw[hz1]at this
  simp only[Int.toNat_natCast]at this
  exact this
 ·have hl:(madeCells #[.int .i64 0,.int .i64 0,.string ⟨#[]⟩] (r*3)).toList.length=r*3:=by rw[Array.length_toList];exact size_madeCells _ _
  have hl2:(flat (List.replicate r nilV)).length=r*3:=by rw[flat_length,List.length_replicate]
  apply List.ext_getElem?
  intro j
  by_cases hj:j<r*3
  ·rw[flat_rep r j hj]
   have h3:j % 3<3:=Nat.mod_lt _ (by omega)
   have h4:j % 3=0\/j % 3=1\/j % 3=2:=by omega
   simp only[madeCells,Array.toList_map,Array.toList_range,List.getElem?_map,List.getElem?_range hj,Option.map_some]
   rcases h4 with h4|h4|h4 <;> simp[h4]
  ·rw[List.getElem?_eq_none (by omega),List.getElem?_eq_none (by omega)]
theorem res25{tm:Array Value}{W:World}{B:Nat}{a b c d:Value}(h:tm[4]?.getD undef=.pointer (some ⟨B,0,none⟩))(hx:W.heap[B]?=some (.cells #[a,b,c,d] 66)):(results Tryz.f14 tm).run Tryz.prog W=.ok (.agg #[a,b,c,d]) W:=by
 have d0:W.cell? ⟨B,0,none⟩=some a:=cell_block hx rfl
 have d1:W.cell? ⟨B,1,none⟩=some b:=cell_block hx rfl
 have d2:W.cell? ⟨B,2,none⟩=some c:=cell_block hx rfl
 have d3:W.cell? ⟨B,3,none⟩=some d:=cell_block hx rfl
 simp[results,Tryz.results14,go_sem,h,d0,d1,d2,d3]
theorem frame_cells(B b off nf cf n r:Nat)(W:World)(c0:W.cell? ⟨B,0,none⟩=some (.slice (some ⟨b,off,none⟩) nf cf))(hn:n<nf)(d1:W.cell? ⟨b,off+n*4+1,none⟩=some (.int .i64 (r:Nat)))(hr:r<=250) :
  Calls Tryz.prog 14 #[.pointer (some ⟨B,0,none⟩),.int .i64 (n:Nat)] W fun e W'=>∃g,e=.returned (.agg #[.int .i64 (n:Nat),.int .i64 0,.int .i64 0,.slice (some ⟨g,0,none⟩) r r])/\OwnR W' g 25 3 r r (flat (List.replicate r nilV))/\W.heap.size<=g/\Below W.heap.size W W':=by
 have hB:=World.block_lt_of_cell? _ _ c0
 have hb:=World.block_lt_of_cell? _ _ d1
 simp only at hB hb
 obtain⟨mc,hmk,hms,hml⟩:=made_regs r hr
 go_enter Tryz.func14,Tryz.ntmps14
 go_wp2
 refine bodyPost_ret (res25 (B:=W.heap.size) rfl (block_alloc _ (heap_new _ _))) rfl ⟨W.heap.size+1,rfl,⟨by rw[flat_length,List.length_replicate],mc,?_,Nat.le_refl _,by unfold maxLen;omega,hms,?_⟩,by omega,ext_alloc (ext_alloc (Below.refl _ _) _) _⟩
 ·have:=heap_new (W.alloc (.cells #[.int .i64 (n:Nat),.int .i64 0,.int .i64 0,.slice (some ⟨W.heap.size+1,0,none⟩) r r] 66)) (.cells mc 25)
  simpa using this
 ·rw[<- hml,List.take_of_length_le (by rw[Array.length_toList];omega)]
theorem tfrom_any(a n b:Int)(w:World):Calls Tryz.prog 162 #[.int .i64 a,.int .i64 n,.int .i64 b] w fun r w'=>r=.returned (.bool (frB a n b))/\w'=w:=by
 rcases(Bool.eq_false_or_eq_true (decide (a<=n)))with hn|hn
 all_goals
  go_enter Tryz.func162,Tryz.ntmps162
  go_wp2
  go_ret
  exact⟨ret_bool (by simp[frB,hn]),rfl⟩
theorem hsf:∀(a:Addr) (m:Mode) (fn:Fn) (x y:Array Value) (w:World),(store a (.func fn x y) m).run Tryz.prog w=stored Tryz.prog w a (.func fn x y) m:=fun a m fn x y w=>run_store Tryz.prog w a _ m rfl
theorem hsn:∀(a:Addr) (m:Mode) (w:World),(store a .nilFunc m).run Tryz.prog w=stored Tryz.prog w a .nilFunc m:=fun a m w=>run_store Tryz.prog w a _ m rfl
def opH (op:Int):Prop:=op=1\/op=10\/op=21\/op=28
def askN (op:Int):Nat:=if op=1 then 0 else if op=10 then 1 else 2
abbrev rowL (op:Int):Value:=if op=1 then .agg #[.int .i64 0,.func (.func 160) #[] #[],.bool false,.bool false,.bool true] else if op=10 then .agg #[.int .i64 1,.nilFunc,.bool false,.bool true,.bool false] else .agg #[.int .i64 2,.nilFunc,.bool false,.bool true,.bool true]
theorem rowOf_any(op:Int)(ho:opH op)(w:World):Calls Tryz.prog 153 #[.int .i64 op] w fun r w'=>r=.returned (.tuple #[rowL op,.bool true])/\Below w.heap.size w w':=by
 rcases ho with rfl|rfl|rfl|rfl
 all_goals
  have hf:=tfrom_any
  have hsf:=hsf
  have hsn:=hsn
  go_enter Tryz.func153,Tryz.ntmps153
  go_wp2_with (go_at_call 162;refine(hf _ _ _ _).mono ?_;rintro e w' ⟨rfl,rfl⟩)
 ·exact bodyPost_ret (v:=.tuple #[.agg #[.int .i64 0,.func (.func 160) #[] #[],.bool false,.bool false,.bool true],.bool true]) (by simp[results,Tryz.results153,go_sem]) rfl ⟨rfl,ext_alloc (Below.refl _ _) _⟩
 ·exact bodyPost_ret (v:=.tuple #[.agg #[.int .i64 1,.nilFunc,.bool false,.bool true,.bool false],.bool true]) (by simp[results,Tryz.results153,go_sem]) rfl ⟨rfl,ext_alloc (Below.refl _ _) _⟩
 ·exact bodyPost_ret (v:=.tuple #[.agg #[.int .i64 2,.nilFunc,.bool false,.bool true,.bool true],.bool true]) (by simp[results,Tryz.results153,go_sem]) rfl ⟨rfl,ext_alloc (Below.refl _ _) _⟩
 ·exact bodyPost_ret (v:=.tuple #[.agg #[.int .i64 2,.nilFunc,.bool false,.bool true,.bool true],.bool true]) (by simp[results,Tryz.results153,go_sem]) rfl ⟨rfl,ext_alloc (Below.refl _ _) _⟩
theorem asks_any(op:Int)(ho:opH op)(w:World):Calls Tryz.prog 139 #[.int .i64 op] w fun r w'=>r=.returned (.int .i64 (askN op:Nat))/\Below w.heap.size w w':=by
 have q1:∀u,Calls Tryz.prog 153 #[.int .i64 1] u fun r w'=>r=.returned (.tuple #[.agg #[.int .i64 0,.func (.func 160) #[] #[],.bool false,.bool false,.bool true],.bool true])/\Below u.heap.size u w':=fun u=>rowOf_any 1 (.inl rfl) u
 have q10:∀u,Calls Tryz.prog 153 #[.int .i64 10] u fun r w'=>r=.returned (.tuple #[.agg #[.int .i64 1,.nilFunc,.bool false,.bool true,.bool false],.bool true])/\Below u.heap.size u w':=fun u=>rowOf_any 10 (.inr (.inl rfl)) u
 have q21:∀u,Calls Tryz.prog 153 #[.int .i64 21] u fun r w'=>r=.returned (.tuple #[.agg #[.int .i64 2,.nilFunc,.bool false,.bool true,.bool true],.bool true])/\Below u.heap.size u w':=fun u=>rowOf_any 21 (.inr (.inr (.inl rfl))) u
 have q28:∀u,Calls Tryz.prog 153 #[.int .i64 28] u fun r w'=>r=.returned (.tuple #[.agg #[.int .i64 2,.nilFunc,.bool false,.bool true,.bool true],.bool true])/\Below u.heap.size u w':=fun u=>rowOf_any 28 (.inr (.inr (.inr rfl))) u
 have hsf:=hsf
 have hsn:=hsn
 rcases ho with rfl|rfl|rfl|rfl
 ·go_enter Tryz.func139,Tryz.ntmps139
  go_wp2_with (go_at_call 153;refine(q1 _).mono ?_;rintro e w' ⟨rfl,hb⟩)
  go_ret
  exact⟨rfl,ext_alloc hb _⟩
 ·go_enter Tryz.func139,Tryz.ntmps139
  go_wp2_with (go_at_call 153;refine(q10 _).mono ?_;rintro e w' ⟨rfl,hb⟩)
  go_ret
  exact⟨rfl,ext_alloc hb _⟩
 ·go_enter Tryz.func139,Tryz.ntmps139
  go_wp2_with (go_at_call 153;refine(q21 _).mono ?_;rintro e w' ⟨rfl,hb⟩)
  go_ret
  exact⟨rfl,ext_alloc hb _⟩
 ·go_enter Tryz.func139,Tryz.ntmps139
  go_wp2_with (go_at_call 153;refine(q28 _).mono ?_;rintro e w' ⟨rfl,hb⟩)
  go_ret
  exact⟨rfl,ext_alloc hb _⟩
theorem asked_any(B:Nat)(o:Ti)(ho:opH o.op)(W:World)(hB:W.heap[B]?=some o.box):Calls Tryz.prog 141 #[.pointer (some ⟨B,0,none⟩)] W fun r W'=>∃G,r=.returned (.slice (some ⟨G,0,none⟩) (askN o.op) 3)/\W.heap.size<=G/\W'.heap[G]?=some (.cells #[.pointer (some ⟨B,1,none⟩),.pointer (some ⟨B,2,none⟩),.pointer (some ⟨B,3,none⟩)] 215)/\Below W.heap.size W W':=by
 have c0:W.cell? ⟨B,0,none⟩=some (.int .i64 o.op):=cell_block hB rfl
 have hBl:=block_lt hB
 have q:∀u,Calls Tryz.prog 139 #[.int .i64 o.op] u _:=fun u=>asks_any o.op ho u
 obtain⟨n,hn⟩:∃n,askN o.op=n:=⟨_,rfl⟩
 have hn3:n<=2:=by rw[<- hn];unfold askN;split <;> (try split) <;> omega
 rw[hn]at q⊢
 have hC:∀u u',Below u.heap.size u u'->Below W.heap.size W u->u'.cell? ⟨B,0,none⟩=some (.int .i64 o.op)/\Below W.heap.size W u':=fun u u' h1 h2=>⟨cellB (ext_trans h2 h1) c0,ext_trans h2 h1⟩
 have k1:(0:Int)<=(n:Int):=by omega
 have k2:(n:Int)<=3:=by omega
 have k3:(n:Int).toNat=n:=by omega
 replace hC:Hid _:=hC
 replace q:Hid _:=q
 clear hn ho
 go_enter Tryz.func141,Tryz.ntmps141
 go_wp2
 go_region_held3 (fun u=>u.cell? ⟨B,0,none⟩=some (.int .i64 o.op)) (go_keep) (first|(go_at_call 139;refine(q.out _).mono ?_;rintro e w' ⟨rfl,hb⟩;obtain⟨c1,E1⟩:=hC.out _ _ hb (by first|exact ext_drew (Below.refl _ _)|exact ext_alloc (ext_drew (Below.refl _ _)) _)))
 all_goals
  go_wp2
  go_ret
  first|exact⟨W.heap.size,rfl,Nat.le_refl _,(hb.block W.heap.size (by simp)).trans (heap_new W.drew _),E1⟩|exact⟨_,rfl,E1.size,heap_new _ _,ext_alloc E1 _⟩
end
end Go.Proofs.YthljpnmhddfblaaGreatDoor
