/- stands; the small things of a table. -/
import Derived.Test.YthljpnmhddfblaaGreatDoorS07
import Derived.Test.YthljpnmhddfblaaGreatDoorS06
namespace Go.Proofs.YthljpnmhddfblaaGreatDoor
open Go.RowKit Go.Shelf Go
set_option maxRecDepth 100000
set_option maxHeartbeats 8000000
set_option linter.all false
def vlEq:DecidableEq Vl:=fun x y =>
 if h:x.k=y.k/\x.n=y.n/\x.s.toList=y.s.toList then .isTrue (Vl.ext' h.1 h.2.1 h.2.2) else .isFalse (fun e=>h (by subst e;exact⟨rfl,rfl,rfl⟩))
section
variable [DecidableEq Vl]
end
section
variable [DecidableEq Vl]
attribute [local go_sem] Oper.semAt_some
theorem size_ownFrom{β:Type}{B k:Nat} : OwnFrom B (fun(_:β) W=>k<=W.heap.size):=fun _ _ _ _ hs hg _=>Nat.le_trans hs hg.size
theorem block_alloc{W:World}{B:Nat}{o:Obj}(o':Obj)(h:W.heap[B]?=some o):(W.alloc o').heap[B]?=some o:=(Below.heap_alloc _ _ _ (Array.getElem?_eq_some_iff.1 h).1).trans h
theorem block_below{W W':World}{B:Nat}{o:Obj}(hb:Below W.heap.size W W')(h:W.heap[B]?=some o):W'.heap[B]?=some o:=(hb.block B (Array.getElem?_eq_some_iff.1 h).1).trans h
end
section
variable [DecidableEq Vl]
def nilV:Vl:=⟨0,0,⟨#[]⟩,by decide,by decide,by decide⟩
abbrev bx (x:Vl):Obj:=.cells #[.int .i64 x.k,.int .i64 x.n,.string x.s] 25
theorem set_block{W:World}{B i:Nat}{c:Array Value}{t:TypeId}{z:Nat×Nat}(v:Value)(h:W.heap[B]?=some (.cells c t z)):(W.setCell ⟨B,i,none⟩ v).heap[B]?=some (.cells (c.setIfInBounds i v) t z):=by
 obtain⟨hlt,hk⟩:=Array.getElem?_eq_some_iff.1 h
 show(W.heap.modify B _)[B]?=_
 rw[Array.getElem?_eq_getElem (by rw[Array.size_modify];exact hlt),Array.getElem_modify_self,hk]
 rfl
theorem cell_block{W:World}{B i:Nat}{c:Array Value}{t:TypeId}{z:Nat×Nat}{v:Value}(h:W.heap[B]?=some (.cells c t z))(hv:c[i]?=some v):W.cell? ⟨B,i,none⟩=some v:=by
 simp[World.cell?,h,hv]
theorem frozen_block{W:World}{B i:Nat}{c:Array Value}{t:TypeId}(h:W.heap[B]?=some (.cells c t)):W.frozen? ⟨B,i,none⟩=false:=by
 simp[World.frozen?,h]
structure In3 (W:World) (B:Nat) (x:Vl):Prop where
 c0:W.cell? ⟨B,0,none⟩=some (.int .i64 x.k)
 c1:W.cell? ⟨B,1,none⟩=some (.int .i64 x.n)
 c2:W.cell? ⟨B,2,none⟩=some (.string x.s)
 f0:W.frozen? ⟨B,0,none⟩=false
 f1:W.frozen? ⟨B,1,none⟩=false
 f2:W.frozen? ⟨B,2,none⟩=false
theorem in3{W:World}{B:Nat}{x:Vl}(h:W.heap[B]?=some (bx x)):In3 W B x:=⟨cell_block h rfl,cell_block h rfl,cell_block h rfl,frozen_block h,frozen_block h,frozen_block h⟩
abbrev put3 (W:World) (B:Nat) (x:Vl):World:=((W.setCell ⟨B,0,none⟩ (.int .i64 x.k)).setCell ⟨B,1,none⟩ (.int .i64 x.n)).setCell ⟨B,2,none⟩ (.string x.s)
theorem put3_same{W:World}{B:Nat}{x:Vl}(y:Vl)(h:W.heap[B]?=some (bx x)):(put3 W B y).heap[B]?=some (bx y):=set_block _ (set_block _ (set_block _ h))
theorem put3_below{m:Nat}{w W:World}{B:Nat}(y:Vl)(h:Below m w W)(hB:m<=B):Below m w (put3 W B y):=((h.setCell (p:=⟨B,0,none⟩) hB _).setCell (p:=⟨B,1,none⟩) hB _).setCell (p:=⟨B,2,none⟩) hB _
theorem set1_other(W:World){B i C:Nat}(v:Value)(h:C≠B):(W.setCell ⟨B,i,none⟩ v).heap[C]?=W.heap[C]?:=Below.heap_setCell _ ⟨B,i,none⟩ _ C h
theorem block_put{W:World}{B D:Nat}{o o':Obj}(h:W.heap[B]?=some o)(hne:B≠D):(W.putObj D o').heap[B]?=some o:=(World.putObj_heap_other hne).trans h
def look (zs:List (Vl×Vl)) (k:Vl):Vl:=((zs.find? (fun p=>decide (p.1=k))).map (·.2)).getD nilV
end
structure Od where
 op:Int
 a:Int
 b:Int
 c:Int
 wo:(Lit.int .i64 op).wf=true
 wa:(Lit.int .i64 a).wf=true
 wb:(Lit.int .i64 b).wf=true
 wc:(Lit.int .i64 c).wf=true
abbrev Od.v (x:Od):Value:=.agg #[.int .i64 x.op,.int .i64 x.a,.int .i64 x.b,.int .i64 x.c]
structure Fd where
 p:Int
 r:Int
 wp:(Lit.int .i64 p).wf=true
 wr:(Lit.int .i64 r).wf=true
 ca:Option Addr
 cc:Nat
 cs:List Vl
 ia:Option Addr
 ic:Nat
 is:List Od
abbrev Fd.cv (f:Fd):Value:=.slice f.ca f.cs.length f.cc
abbrev Fd.iv (f:Fd):Value:=.slice f.ia f.is.length f.ic
abbrev Fd.v (f:Fd):Value:=.agg #[.int .i64 f.p,.int .i64 f.r,f.cv,f.iv]
abbrev plc (f:Fd) (x:Od) (i:Nat):Value:=.agg #[.int .i64 f.p,.int .i64 f.r,f.cv,f.iv,.int .i64 x.op,.int .i64 x.a,.int .i64 x.b,.int .i64 x.c,.int .i64 i]
def belB (n e:Int):Bool:=decide (0<=n)&&decide (n<e)
def frB (a n b:Int):Bool:=decide (a<=n)&&decide (n<=b)
theorem below_any(n e:Int)(w:World):Calls Tryz.prog 18 #[.int .i64 n,.int .i64 e] w fun r w'=>r=.returned (.bool (belB n e))/\w'=w:=by
 rcases(Bool.eq_false_or_eq_true (decide (0<=n)))with hn|hn
 all_goals
  go_enter Tryz.func18,Tryz.ntmps18
  go_wp2
  go_ret
  exact⟨ret_bool (by simp[belB,hn]),rfl⟩
theorem from_any(a n b:Int)(w:World):Calls Tryz.prog 35 #[.int .i64 a,.int .i64 n,.int .i64 b] w fun r w'=>r=.returned (.bool (frB a n b))/\w'=w:=by
 rcases(Bool.eq_false_or_eq_true (decide (a<=n)))with hn|hn
 all_goals
  go_enter Tryz.func35,Tryz.ntmps35
  go_wp2
  go_ret
  exact⟨ret_bool (by simp[frB,hn]),rfl⟩
theorem reg_any(f:Fd)(x:Od)(i:Nat)(n:Int)(w:World):Calls Tryz.prog 60 #[plc f x i,.int .i64 n] w fun r w'=>r=.returned (.bool (belB n f.r))/\Below w.heap.size w w':=by
 go_enter Tryz.func60,Tryz.ntmps60
 go_wp2_with (go_at_call 18;refine(below_any _ _ _).mono ?_;rintro e w' ⟨rfl,rfl⟩)
 go_ret
 refine⟨rfl,?_⟩
 repeat(first|exact Below.refl _ _|refine ext_alloc ?_ _)
theorem const_any(f:Fd)(x:Od)(i:Nat)(n:Int)(w:World):Calls Tryz.prog 61 #[plc f x i,.int .i64 n] w fun r w'=>r=.returned (.bool (belB n f.cs.length))/\Below w.heap.size w w':=by
 go_enter Tryz.func61,Tryz.ntmps61
 go_wp2_with (go_at_call 18;refine(below_any _ _ _).mono ?_;rintro e w' ⟨rfl,rfl⟩)
 go_ret
 refine⟨rfl,?_⟩
 repeat(first|exact Below.refl _ _|refine ext_alloc ?_ _)
theorem order_any(f:Fd)(x:Od)(i:Nat)(n:Int)(w:World):Calls Tryz.prog 62 #[plc f x i,.int .i64 n] w fun r w'=>r=.returned (.bool (belB n f.is.length))/\Below w.heap.size w w':=by
 go_enter Tryz.func62,Tryz.ntmps62
 go_wp2_with (go_at_call 18;refine(below_any _ _ _).mono ?_;rintro e w' ⟨rfl,rfl⟩)
 go_ret
 refine⟨rfl,?_⟩
 repeat(first|exact Below.refl _ _|refine ext_alloc ?_ _)
theorem back_any(f:Fd)(x:Od)(i:Nat)(n:Int)(w:World):Calls Tryz.prog 63 #[plc f x i,.int .i64 n] w fun r w'=>r=.returned (.bool (frB 0 n i))/\Below w.heap.size w w':=by
 go_enter Tryz.func63,Tryz.ntmps63
 go_wp2_with (go_at_call 35;refine(from_any _ _ _ _).mono ?_;rintro e w' ⟨rfl,rfl⟩)
 go_ret
 refine⟨rfl,?_⟩
 repeat(first|exact Below.refl _ _|refine ext_alloc ?_ _)
def argB (f:Fd) (x:Od) (n:Int):Bool:=frB 0 n 5&&belB (wrap64 (x.b+n)) f.r
theorem args_any(f:Fd)(x:Od)(i:Nat)(n:Int)(w:World):Calls Tryz.prog 64 #[plc f x i,.int .i64 n] w fun r w'=>r=.returned (.bool (argB f x n))/\Below w.heap.size w w':=by
 unfold argB
 rcases(Bool.eq_false_or_eq_true (frB 0 n 5))with hn|hn
 ·have h1:=from_any 0 n 5
  rw[hn]at h1
  go_enter Tryz.func64,Tryz.ntmps64
  go_wp2_with (first|(go_at_call 35;refine(h1 _).mono ?_;rintro e w' ⟨rfl,rfl⟩)|(go_at_call 60;refine(reg_any f x i _ _).mono ?_;rintro e w' ⟨rfl,hb⟩))
  go_ret
  refine⟨ret_bool (by simp[hn]),?_⟩
  exact ext_trans (ext_alloc (Below.refl _ _) _) hb
 ·have h1:=from_any 0 n 5
  rw[hn]at h1
  go_enter Tryz.func64,Tryz.ntmps64
  go_wp2_with (first|(go_at_call 35;refine(h1 _).mono ?_;rintro e w' ⟨rfl,rfl⟩)|(go_at_call 60;refine(reg_any f x i _ _).mono ?_;rintro e w' ⟨rfl,hb⟩))
  go_ret
  refine⟨ret_bool (by simp[hn]),?_⟩
  repeat(first|exact Below.refl _ _|refine ext_alloc ?_ _)
def fieldsR (op:Int):Option (List Nat) :=
 if op=1\/op=6\/op=30\/op=31 then some [60,60]
 else if op=2 then some [60,61]
 else if op=3\/op=12\/op=13 then some [60]
 else if op=4\/op=5\/op=7 then some [60,60,60]
 else if op=8 then some [62]
 else if op=9 then some [60,62]
 else if op=10 then some [63]
 else if op=11 then some [60,60,64]
 else if 21<=op/\op<=29 then some [60,60,60]
 else none
def fnV (n:Nat):Value:=.func (.func n) #[] #[]
theorem fields_1(w:World):Calls Tryz.prog 46 #[.int .i64 1] w fun e w'=>e=.returned (.slice (some ⟨w.heap.size,0,none⟩) 2 2)/\w'=w.alloc (.cells #[fnV 60,fnV 60] 114):=by
 go_enter Tryz.func46,Tryz.ntmps46
 go_wp2
 go_ret
 exact⟨rfl,rfl⟩
theorem fields_2(w:World):Calls Tryz.prog 46 #[.int .i64 2] w fun e w'=>e=.returned (.slice (some ⟨w.heap.size,0,none⟩) 2 2)/\w'=w.alloc (.cells #[fnV 60,fnV 61] 114):=by
 go_enter Tryz.func46,Tryz.ntmps46
 go_wp2
 go_ret
 exact⟨rfl,rfl⟩
theorem fields_3(w:World):Calls Tryz.prog 46 #[.int .i64 3] w fun e w'=>e=.returned (.slice (some ⟨w.heap.size,0,none⟩) 1 1)/\w'=w.alloc (.cells #[fnV 60] 114):=by
 go_enter Tryz.func46,Tryz.ntmps46
 go_wp2
 go_ret
 exact⟨rfl,rfl⟩
theorem fields_4(w:World):Calls Tryz.prog 46 #[.int .i64 4] w fun e w'=>e=.returned (.slice (some ⟨w.heap.size,0,none⟩) 3 3)/\w'=w.alloc (.cells #[fnV 60,fnV 60,fnV 60] 114):=by
 go_enter Tryz.func46,Tryz.ntmps46
 go_wp2
 go_ret
 exact⟨rfl,rfl⟩
theorem fields_5(w:World):Calls Tryz.prog 46 #[.int .i64 5] w fun e w'=>e=.returned (.slice (some ⟨w.heap.size,0,none⟩) 3 3)/\w'=w.alloc (.cells #[fnV 60,fnV 60,fnV 60] 114):=by
 go_enter Tryz.func46,Tryz.ntmps46
 go_wp2
 go_ret
 exact⟨rfl,rfl⟩
theorem fields_6(w:World):Calls Tryz.prog 46 #[.int .i64 6] w fun e w'=>e=.returned (.slice (some ⟨w.heap.size,0,none⟩) 2 2)/\w'=w.alloc (.cells #[fnV 60,fnV 60] 114):=by
 go_enter Tryz.func46,Tryz.ntmps46
 go_wp2
 go_ret
 exact⟨rfl,rfl⟩
theorem fields_7(w:World):Calls Tryz.prog 46 #[.int .i64 7] w fun e w'=>e=.returned (.slice (some ⟨w.heap.size,0,none⟩) 3 3)/\w'=w.alloc (.cells #[fnV 60,fnV 60,fnV 60] 114):=by
 go_enter Tryz.func46,Tryz.ntmps46
 go_wp2
 go_ret
 exact⟨rfl,rfl⟩
theorem fields_8(w:World):Calls Tryz.prog 46 #[.int .i64 8] w fun e w'=>e=.returned (.slice (some ⟨w.heap.size,0,none⟩) 1 1)/\w'=w.alloc (.cells #[fnV 62] 114):=by
 go_enter Tryz.func46,Tryz.ntmps46
 go_wp2
 go_ret
 exact⟨rfl,rfl⟩
theorem fields_9(w:World):Calls Tryz.prog 46 #[.int .i64 9] w fun e w'=>e=.returned (.slice (some ⟨w.heap.size,0,none⟩) 2 2)/\w'=w.alloc (.cells #[fnV 60,fnV 62] 114):=by
 go_enter Tryz.func46,Tryz.ntmps46
 go_wp2
 go_ret
 exact⟨rfl,rfl⟩
theorem fields_10(w:World):Calls Tryz.prog 46 #[.int .i64 10] w fun e w'=>e=.returned (.slice (some ⟨w.heap.size,0,none⟩) 1 1)/\w'=w.alloc (.cells #[fnV 63] 114):=by
 go_enter Tryz.func46,Tryz.ntmps46
 go_wp2
 go_ret
 exact⟨rfl,rfl⟩
theorem fields_11(w:World):Calls Tryz.prog 46 #[.int .i64 11] w fun e w'=>e=.returned (.slice (some ⟨w.heap.size,0,none⟩) 3 3)/\w'=w.alloc (.cells #[fnV 60,fnV 60,fnV 64] 114):=by
 go_enter Tryz.func46,Tryz.ntmps46
 go_wp2
 go_ret
 exact⟨rfl,rfl⟩
theorem fields_12(w:World):Calls Tryz.prog 46 #[.int .i64 12] w fun e w'=>e=.returned (.slice (some ⟨w.heap.size,0,none⟩) 1 1)/\w'=w.alloc (.cells #[fnV 60] 114):=by
 go_enter Tryz.func46,Tryz.ntmps46
 go_wp2
 go_ret
 exact⟨rfl,rfl⟩
theorem fields_13(w:World):Calls Tryz.prog 46 #[.int .i64 13] w fun e w'=>e=.returned (.slice (some ⟨w.heap.size,0,none⟩) 1 1)/\w'=w.alloc (.cells #[fnV 60] 114):=by
 go_enter Tryz.func46,Tryz.ntmps46
 go_wp2
 go_ret
 exact⟨rfl,rfl⟩
theorem fields_21(w:World):Calls Tryz.prog 46 #[.int .i64 21] w fun e w'=>e=.returned (.slice (some ⟨w.heap.size,0,none⟩) 3 3)/\w'=w.alloc (.cells #[fnV 60,fnV 60,fnV 60] 114):=by
 go_enter Tryz.func46,Tryz.ntmps46
 go_wp2_with (go_at_call 35;refine(from_any _ _ _ _).mono ?_;rintro e w' ⟨rfl,rfl⟩)
 go_ret
 exact⟨rfl,rfl⟩
theorem fields_22(w:World):Calls Tryz.prog 46 #[.int .i64 22] w fun e w'=>e=.returned (.slice (some ⟨w.heap.size,0,none⟩) 3 3)/\w'=w.alloc (.cells #[fnV 60,fnV 60,fnV 60] 114):=by
 go_enter Tryz.func46,Tryz.ntmps46
 go_wp2_with (go_at_call 35;refine(from_any _ _ _ _).mono ?_;rintro e w' ⟨rfl,rfl⟩)
 go_ret
 exact⟨rfl,rfl⟩
theorem fields_23(w:World):Calls Tryz.prog 46 #[.int .i64 23] w fun e w'=>e=.returned (.slice (some ⟨w.heap.size,0,none⟩) 3 3)/\w'=w.alloc (.cells #[fnV 60,fnV 60,fnV 60] 114):=by
 go_enter Tryz.func46,Tryz.ntmps46
 go_wp2_with (go_at_call 35;refine(from_any _ _ _ _).mono ?_;rintro e w' ⟨rfl,rfl⟩)
 go_ret
 exact⟨rfl,rfl⟩
theorem fields_24(w:World):Calls Tryz.prog 46 #[.int .i64 24] w fun e w'=>e=.returned (.slice (some ⟨w.heap.size,0,none⟩) 3 3)/\w'=w.alloc (.cells #[fnV 60,fnV 60,fnV 60] 114):=by
 go_enter Tryz.func46,Tryz.ntmps46
 go_wp2_with (go_at_call 35;refine(from_any _ _ _ _).mono ?_;rintro e w' ⟨rfl,rfl⟩)
 go_ret
 exact⟨rfl,rfl⟩
theorem fields_25(w:World):Calls Tryz.prog 46 #[.int .i64 25] w fun e w'=>e=.returned (.slice (some ⟨w.heap.size,0,none⟩) 3 3)/\w'=w.alloc (.cells #[fnV 60,fnV 60,fnV 60] 114):=by
 go_enter Tryz.func46,Tryz.ntmps46
 go_wp2_with (go_at_call 35;refine(from_any _ _ _ _).mono ?_;rintro e w' ⟨rfl,rfl⟩)
 go_ret
 exact⟨rfl,rfl⟩
theorem fields_26(w:World):Calls Tryz.prog 46 #[.int .i64 26] w fun e w'=>e=.returned (.slice (some ⟨w.heap.size,0,none⟩) 3 3)/\w'=w.alloc (.cells #[fnV 60,fnV 60,fnV 60] 114):=by
 go_enter Tryz.func46,Tryz.ntmps46
 go_wp2_with (go_at_call 35;refine(from_any _ _ _ _).mono ?_;rintro e w' ⟨rfl,rfl⟩)
 go_ret
 exact⟨rfl,rfl⟩
theorem fields_27(w:World):Calls Tryz.prog 46 #[.int .i64 27] w fun e w'=>e=.returned (.slice (some ⟨w.heap.size,0,none⟩) 3 3)/\w'=w.alloc (.cells #[fnV 60,fnV 60,fnV 60] 114):=by
 go_enter Tryz.func46,Tryz.ntmps46
 go_wp2_with (go_at_call 35;refine(from_any _ _ _ _).mono ?_;rintro e w' ⟨rfl,rfl⟩)
 go_ret
 exact⟨rfl,rfl⟩
theorem fields_28(w:World):Calls Tryz.prog 46 #[.int .i64 28] w fun e w'=>e=.returned (.slice (some ⟨w.heap.size,0,none⟩) 3 3)/\w'=w.alloc (.cells #[fnV 60,fnV 60,fnV 60] 114):=by
 go_enter Tryz.func46,Tryz.ntmps46
 go_wp2_with (go_at_call 35;refine(from_any _ _ _ _).mono ?_;rintro e w' ⟨rfl,rfl⟩)
 go_ret
 exact⟨rfl,rfl⟩
theorem fields_29(w:World):Calls Tryz.prog 46 #[.int .i64 29] w fun e w'=>e=.returned (.slice (some ⟨w.heap.size,0,none⟩) 3 3)/\w'=w.alloc (.cells #[fnV 60,fnV 60,fnV 60] 114):=by
 go_enter Tryz.func46,Tryz.ntmps46
 go_wp2_with (go_at_call 35;refine(from_any _ _ _ _).mono ?_;rintro e w' ⟨rfl,rfl⟩)
 go_ret
 exact⟨rfl,rfl⟩
theorem fields_30(w:World):Calls Tryz.prog 46 #[.int .i64 30] w fun e w'=>e=.returned (.slice (some ⟨w.heap.size,0,none⟩) 2 2)/\w'=w.alloc (.cells #[fnV 60,fnV 60] 114):=by
 go_enter Tryz.func46,Tryz.ntmps46
 go_wp2
 go_ret
 exact⟨rfl,rfl⟩
theorem fields_31(w:World):Calls Tryz.prog 46 #[.int .i64 31] w fun e w'=>e=.returned (.slice (some ⟨w.heap.size,0,none⟩) 2 2)/\w'=w.alloc (.cells #[fnV 60,fnV 60] 114):=by
 go_enter Tryz.func46,Tryz.ntmps46
 go_wp2
 go_ret
 exact⟨rfl,rfl⟩
theorem fields_no(op:Int)(w:World)(h1:(op == 1)=false)(h2:(op == 2)=false)(h3:(op == 3)=false)(h4:(op == 4)=false)(h5:(op == 5)=false)(h6:(op == 6)=false)(h7:(op == 7)=false)(h8:(op == 8)=false)(h9:(op == 9)=false)(h10:(op == 10)=false)(h11:(op == 11)=false)(h12:(op == 12)=false)(h13:(op == 13)=false)(h30:(op == 30)=false)(h31:(op == 31)=false)(hf:frB 21 op 29=false):Calls Tryz.prog 46 #[.int .i64 op] w fun e w'=>e=.returned (.slice none 0 0)/\w'=w:=by
 have hF:=from_any 21 op 29
 rw[hf]at hF
 go_enter Tryz.func46,Tryz.ntmps46
 go_wp2_with (go_at_call 35;refine(hF _).mono ?_;rintro e w' ⟨rfl,rfl⟩)
 go_ret
 exact⟨rfl,rfl⟩
theorem fields_some(op:Int)(l:List Nat)(h:fieldsR op=some l)(w:World):Calls Tryz.prog 46 #[.int .i64 op] w fun e w'=>e=.returned (.slice (some ⟨w.heap.size,0,none⟩) l.length l.length)/\w'=w.alloc (.cells (l.map fnV).toArray 114):=by
 unfold fieldsR at h
 split at h
 ·rename_i o
  cases h
  rcases o with rfl|rfl|rfl|rfl
  ·exact fields_1 w
  ·exact fields_6 w
  ·exact fields_30 w
  ·exact fields_31 w
 split at h
 ·rename_i o;cases h;subst o;exact fields_2 w
 split at h
 ·rename_i o
  cases h
  rcases o with rfl|rfl|rfl
  ·exact fields_3 w
  ·exact fields_12 w
  ·exact fields_13 w
 split at h
 ·rename_i o
  cases h
  rcases o with rfl|rfl|rfl
  ·exact fields_4 w
  ·exact fields_5 w
  ·exact fields_7 w
 split at h
 ·rename_i o;cases h;subst o;exact fields_8 w
 split at h
 ·rename_i o;cases h;subst o;exact fields_9 w
 split at h
 ·rename_i o;cases h;subst o;exact fields_10 w
 split at h
 ·rename_i o;cases h;subst o;exact fields_11 w
 split at h
 ·rename_i o
  cases h
  have:op=21\/op=22\/op=23\/op=24\/op=25\/op=26\/op=27\/op=28\/op=29:=by omega
  rcases this with rfl|rfl|rfl|rfl|rfl|rfl|rfl|rfl|rfl
  ·exact fields_21 w
  ·exact fields_22 w
  ·exact fields_23 w
  ·exact fields_24 w
  ·exact fields_25 w
  ·exact fields_26 w
  ·exact fields_27 w
  ·exact fields_28 w
  ·exact fields_29 w
 ·cases h
theorem fields_none(op:Int)(h:fieldsR op=none)(w:World):Calls Tryz.prog 46 #[.int .i64 op] w fun e w'=>e=.returned (.slice none 0 0)/\w'=w:=by
 unfold fieldsR at h
 split at h
 ·cases h
 split at h
 ·cases h
 split at h
 ·cases h
 split at h
 ·cases h
 split at h
 ·cases h
 split at h
 ·cases h
 split at h
 ·cases h
 split at h
 ·cases h
 split at h
 ·cases h
 rename_i a0 a1 a2 a3 a4 a5 a6 a7 a8
 have hd:frB 21 op 29=false:=by simp only[frB];simp;omega
 have key:∀n:Int,op≠n->(op == n)=false:=fun n hn=>by simpa using hn
 exact fields_no op w (key 1 (by omega)) (key 2 (by omega)) (key 3 (by omega)) (key 4 (by omega)) (key 5 (by omega)) (key 6 (by omega)) (key 7 (by omega)) (key 8 (by omega)) (key 9 (by omega)) (key 10 (by omega)) (key 11 (by omega)) (key 12 (by omega)) (key 13 (by omega)) (key 30 (by omega)) (key 31 (by omega)) hd
end Go.Proofs.YthljpnmhddfblaaGreatDoor
