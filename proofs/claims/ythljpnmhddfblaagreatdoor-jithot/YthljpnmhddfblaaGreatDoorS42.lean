/- A call is begun, ag far ag memory goes. -/
import Derived.Test.YthljpnmhddfblaaGreatDoorS36
import Derived.Shelf.Spec.SlicesInsert
import Derived.Test.YthljpnmhddfblaaGreatDoorS33
namespace Go.Proofs.YthljpnmhddfblaaGreatDoor
open Go.RowKit Go
set_option maxRecDepth 100000
set_option maxHeartbeats 8000000
set_option linter.all false
section
variable [DecidableEq Vl]
section
variable {w0:World} {p:Mp} {fv:Value} {mn:Int} {s:St} {W:World}
end
theorem mul64_14(w:World):Calls Tryz.prog 151 #[.int .u64 1,.int .u64 4] w fun e w'=>e=.returned (.tuple #[.int .u64 0,.int .u64 4])/\w'=w:=by
 have hb1:bits BinOp.and IntKind.u64 1 4294967295=1:=by kernel_rfl
 have hb4:bits BinOp.and IntKind.u64 4 4294967295=4:=by kernel_rfl
 have hb0:bits BinOp.and IntKind.u64 0 4294967295=0:=by kernel_rfl
 have w4:IntKind.u64.wrap 4=4:=by kernel_rfl
 have w0:IntKind.u64.wrap 0=0:=by kernel_rfl
 go_enter Tryz.func151,Tryz.ntmps151
 go_wp2
 exact bodyPost_ret (v:=.tuple #[.int .u64 0,.int .u64 4]) (by simp[results,Tryz.results151,go_sem,hb1,hb4,hb0,w4,w0]) rfl ⟨rfl,rfl⟩
theorem mul_14(w:World):Calls Tryz.prog 129 #[.int .u64 1,.int .u64 4] w fun e w'=>e=.returned (.tuple #[.int .u64 0,.int .u64 4])/\w'=w:=by
 have h:=mul64_14
 go_enter Tryz.func129,Tryz.ntmps129
 go_wp2_with (go_at_call 151;refine(h _).mono ?_;rintro e w' ⟨rfl,rfl⟩)
 exact bodyPost_ret (v:=.tuple #[.int .u64 0,.int .u64 4]) (by simp[results,Tryz.results129,go_sem]) rfl ⟨rfl,rfl⟩
theorem run_copy1{P:Program}(w:World)(dT sT ty elem:TypeId)(g o dLen dCap:Nat)(a:Addr)(sLen sCap n:Nat)(cur:Array Value)(t:TypeId)(cs:List Value)
  (hu:P.underlying dT=some (.slice elem)) (hs:(P.info? elem).map (·.size)=some 1) (hg:w.heap[g]?=some (.cells cur t (0,0))) (hm:Nat.min sLen dLen=n) (hn:cs.length=n*1)
  (hsrc:∀j v,cs[j]?=some v->w.cell? (a.add j)=some v) (hfit:o+cs.length<=cur.size) (h1:∀v∈cs,v.oneCell'=true) :
  (Builtin.copy_ #[dT,sT] ty #[.slice (some ⟨g,o,none⟩) dLen dCap,.slice (some a) sLen sCap]).run P w =
   .ok (goInt n) (w.setRow g (cur.toList.take o++cs++cur.toList.drop (o+cs.length)).toArray):=by
 have hl:=run_loadCells_list (P:=P) w a cs hsrc
 have hst:=run_storeCells_at P g o t cs 0 cur w hg (by simpa using hfit) h1
 rw[hn,Nat.mul_one]at hl
 cases hq:P.info? elem with
 | none=>simp[hq]at hs
 | some i =>
  have hi:i.size=1:=by simpa[hq]using hs
  simp[Builtin.copy_,run_underlying hu,Builtin.lenOf,Builtin.firstCells,sizeOf,typeInfo,hq,hi,hm,hl,hst]
theorem size3:(Tryz.prog.info? 3).map (·.size)=some 1:=by kernel_rfl
abbrev n1:Value:=.int .i64 (-1)
abbrev n0:Value:=.int .i64 0
def repB (k:Nat):Obj:=if k=1 then .cells #[n1,n0,n0,n0] 3 else if k=2 then .cells #[n1,n1,n0,n0] 3 else if k=4 then .cells #[n1,n1,n1,n1] 3 else .cells #[n0,n0,n0,n0] 3
theorem copy_1(w:World)(N b:Nat)(hN:w.heap[N]?=some (repB 0))(hb:w.cell? ⟨b,0,none⟩=some n1):∃w',(Builtin.copy_ #[96,96] 3 #[.slice (some ⟨N,0,none⟩) 4 4,.slice (some ⟨b,0,none⟩) 1 1]).run Tryz.prog w=.ok (.int .i64 1) w'/\w'.heap[N]?=some (repB 1)/\Keeps (fun q=>q=N) w w':=by
 have hr:=run_copy1 (P:=Tryz.prog) w 96 96 3 3 N 0 4 4 ⟨b,0,none⟩ 1 1 1 #[n0,n0,n0,n0] 3 [n1] Tryz.underlying96 size3 hN rfl rfl (fun j v hj=>by
  match j,hj with
  | 0,hj=>cases hj;exact hb
  | j+1,hj=>simp at hj) (by simp) (by simp[Value.oneCell'])
 exact⟨_,hr,setRow_heap w N _ _ 3 (0,0) hN,⟨rfl,rfl,rfl,Nat.le_of_eq (size_setRow _ _ _).symm,fun k _ hn=>setRow_other w N k _ hn⟩⟩
theorem copy_2(w:World)(N:Nat)(hN:w.heap[N]?=some (repB 1)):∃w',(Builtin.copy_ #[96,96] 3 #[.slice (some ⟨N,1,none⟩) 3 3,.slice (some ⟨N,0,none⟩) 1 4]).run Tryz.prog w=.ok (.int .i64 1) w'/\w'.heap[N]?=some (repB 2)/\Keeps (fun q=>q=N) w w':=by
 have hr:=run_copy1 (P:=Tryz.prog) w 96 96 3 3 N 1 3 3 ⟨N,0,none⟩ 1 4 1 #[n1,n0,n0,n0] 3 [n1] Tryz.underlying96 size3 hN rfl rfl (fun j v hj=>by
  match j,hj with
  | 0,hj=>cases hj;exact cell_block (i:=0) hN rfl
  | j+1,hj=>simp at hj) (by simp) (by simp[Value.oneCell'])
 exact⟨_,hr,setRow_heap w N _ _ 3 (0,0) hN,⟨rfl,rfl,rfl,Nat.le_of_eq (size_setRow _ _ _).symm,fun k _ hn=>setRow_other w N k _ hn⟩⟩
theorem copy_4(w:World)(N:Nat)(hN:w.heap[N]?=some (repB 2)):∃w',(Builtin.copy_ #[96,96] 3 #[.slice (some ⟨N,2,none⟩) 2 2,.slice (some ⟨N,0,none⟩) 2 4]).run Tryz.prog w=.ok (.int .i64 2) w'/\w'.heap[N]?=some (repB 4)/\Keeps (fun q=>q=N) w w':=by
 have hr:=run_copy1 (P:=Tryz.prog) w 96 96 3 3 N 2 2 2 ⟨N,0,none⟩ 2 4 2 #[n1,n1,n0,n0] 3 [n1,n1] Tryz.underlying96 size3 hN rfl rfl (fun j v hj=>by
  match j,hj with
  | 0,hj=>cases hj;exact cell_block (i:=0) hN rfl
  | 1,hj=>cases hj;exact cell_block (i:=1) hN rfl
  | j+2,hj=>simp at hj) (by simp) (by simp[Value.oneCell'])
 exact⟨_,hr,setRow_heap w N _ _ 3 (0,0) hN,⟨rfl,rfl,rfl,Nat.le_of_eq (size_setRow _ _ _).symm,fun k _ hn=>setRow_other w N k _ hn⟩⟩
structure RpQ (w:World) (e:Ending) (w':World):Prop where
 ex:∃N,e=.returned (.slice (some ⟨N,0,none⟩) 4 4)/\w.heap.size<=N/\w'.heap[N]?=some (repB 4)/\Below w.heap.size w w'
theorem repeat_4(b:Nat)(w:World)(hb:w.cell? ⟨b,0,none⟩=some n1):Calls Tryz.prog 100 #[.slice (some ⟨b,0,none⟩) 1 1,.int .i64 4] w (RpQ w):=by
 obtain⟨mc,hmk,hms,hml⟩:=made_ints 4 (by omega)
 obtain rfl:mc=#[n0,n0,n0,n0]:=Array.toList_inj.1 hml
 have hmk':(Instr.makeSlice 96 (.int .i64 4) (.int .i64 4)).run Tryz.prog w=.ok (.slice (some ⟨w.heap.size,0,none⟩) 4 4) (w.alloc (.cells #[n0,n0,n0,n0] 3)):=hmk w
 obtain⟨W1,hW1⟩:∃W1,w.alloc (.cells #[n0,n0,n0,n0] 3)=W1:=⟨_,rfl⟩
 have E1:Below w.heap.size w W1:=by rw[<- hW1];exact ext_alloc (Below.refl _ _) _
 have gN:W1.heap[w.heap.size]?=some (repB 0):=by rw[<- hW1];exact heap_new _ _
 rw[hW1]at hmk'
 obtain⟨N,hN⟩:∃N,w.heap.size=N:=⟨_,rfl⟩
 rw[hN]at hmk' gN
 obtain⟨W2,hr1,g2,hk2⟩:=copy_1 W1 N b gN (cellB E1 hb)
 have hm:=mul_14
 replace hW1:Hid _:=hW1
 replace hN:Hid _:=hN
 replace E1:Hid _:=E1
 have hK0:Hid (Keeps (fun q=>q=N) W1 W2):=hk2
 have g0:Hid (W2.heap[N]?=some (repB 1)):=g2
 clear hmk hms hml gN hb hk2 g2
 go_enter Tryz.func100,Tryz.ntmps100
 go_wp2_with (go_at_call 129;refine(hm _).mono ?_;rintro e w' ⟨rfl,rfl⟩)
 clear hm hmk' hr1
 go_loopw [8] (fun i wr=>∃k:Nat,(k=1\/k=2\/k=4)/\i=.int .i64 (k:Nat)/\Hid (wr.heap[N]?=some (repB k))/\Hid (Keeps (fun q=>q=N) W1 wr)) (fun i _=>4-(intOf i).toNat)
 case atStart=>exact⟨1,.inl rfl,rfl,g0,hK0⟩
 case round =>
  clear g0 hK0
  obtain⟨k,hk,rfl,hg,hK⟩:=hrel
  rename World=>v
  rcases hk with rfl|rfl|rfl
  ·obtain⟨v2,hr,g2,hk2⟩:=copy_2 v.drew N hg.out
   have hK2:Hid (Keeps (fun q=>q=N) W1 v2):=hK.out.trans (Keeps.of_below (ext_drew (Below.refl _ _)) |>.trans hk2)
   replace g2:Hid _:=g2
   clear hg hK hk2
   go_wp2
   go_region
   all_goals
    go_roundw
    case measure=>simp[intOf]
    case rel=>exact⟨_,_,_,_,_,_,_,_,_,_,_,_,_,_,⟨2,.inr (.inl rfl),rfl,g2,hK2⟩,rfl⟩
  ·obtain⟨v2,hr,g2,hk2⟩:=copy_4 v.drew N hg.out
   have hK2:Hid (Keeps (fun q=>q=N) W1 v2):=hK.out.trans (Keeps.of_below (ext_drew (Below.refl _ _)) |>.trans hk2)
   replace g2:Hid _:=g2
   clear hg hK hk2
   go_wp2
   go_region
   all_goals
    go_roundw
    case measure=>simp[intOf]
    case rel=>exact⟨_,_,_,_,_,_,_,_,_,_,_,_,_,_,⟨4,.inr (.inr rfl),rfl,g2,hK2⟩,rfl⟩
  ·go_wp2
   go_ret
   have h1:=hN.out
   subst h1
   exact⟨_,rfl,Nat.le_refl _,hg.out,(Keeps.of_below E1.out |>.trans hK.out).below (Nat.le_refl _) (fun k hk e=>by omega)⟩
end
end Go.Proofs.YthljpnmhddfblaaGreatDoor
