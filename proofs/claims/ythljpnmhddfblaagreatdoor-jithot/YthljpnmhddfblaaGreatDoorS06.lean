/- Walks of the value package, on the way to the statements of chapter 1. -/
import Derived.Test.YthljpnmhddfblaaGreatDoorS02
import Derived.Lib.Hide
import Derived.Test.YthljpnmhddfblaaGreatDoorS03
namespace Go.Proofs.YthljpnmhddfblaaGreatDoor
open Go.RowKit Go
set_option maxRecDepth 100000
set_option maxHeartbeats 8000000
set_option linter.all false
def mayB (k n:Int) (s:ByteArray):Bool :=
 if k=3 then n == 0&&decide ((s.size:Int)<=300)
 else if s.toList.isEmpty=false then false
 else if k=0 then n == 0
 else if k=1 then n == 0||n == 1
 else if k=4\/k=5 then decide (0<=n)&&decide (n<=2147483647)
 else k == 2
abbrev val (k n:Int) (s:ByteArray):Value:=.agg #[.int .i64 k,.int .i64 n,.string s]
theorem hmf:∀(fn:Fn) (first cap:Array Value) (w:World),(Instr.makeFunc fn first cap).run Tryz.prog w=.ok (.func fn first cap) w:=fun _ _ _ _=>rfl
theorem ext_alloc{a w:World}(h:Below a.heap.size a w)(o:Obj):Below a.heap.size a (w.alloc o):=h.alloc h.size o
theorem ext_trans{a b c:World}(h:Below a.heap.size a b)(k:Below b.heap.size b c):Below a.heap.size a c:=h.trans (k.mono h.size)
theorem asks0(w:World)(o1:Obj)(k n:Int)(s:ByteArray):Asks (w.heap.size+1+1) (w.heap.size+1) k n s
  (((w.alloc o1).alloc (.cells #[.int .i64 k,.int .i64 n,.string s] 25)).alloc (.cells #[.slice (some ⟨w.heap.size+1,0,none⟩) 1 1] 27)):=by
 refine⟨?_,?_,?_,?_⟩
 ·rw[World.cell?_alloc_at _ _ _ _ (by simp)];rfl
 all_goals rw[World.cell?_alloc_past _ _ _ (by simp),World.cell?_alloc_at _ _ _ _ (by simp)];rfl
theorem Asks.alloc{c v:Nat}{k n:Int}{s:ByteArray}{w:World}(h:Asks c v k n s w)(o:Obj):Asks c v k n s (w.alloc o):=by
 obtain⟨hp,h0,h1,h2⟩:=h
 have hc:=World.block_lt_of_cell? _ _ hp
 have hv:=World.block_lt_of_cell? _ _ h0
 exact⟨(World.cell?_alloc_past _ _ _ hc).trans hp,(World.cell?_alloc_past _ _ _ hv).trans h0,(World.cell?_alloc_past _ _ _ hv).trans h1,(World.cell?_alloc_past _ _ _ hv).trans h2⟩
theorem may_text(k n:Int)(s:ByteArray)(w:World)(hk:(k == 3)=true) :
  Calls Tryz.prog 36 #[val k n s] w fun e w'=>e=.returned (.bool (n == 0&&decide ((s.size:Int)<=300)))/\Below w.heap.size w w':=by
 have hmf:=hmf
 rcases(Bool.eq_false_or_eq_true (n == 0))with hn|hn
 all_goals
  go_enter Tryz.func36,Tryz.ntmps36
  go_wp2_with (first|(go_at_call 45;go_in)|(go_at_call 58;refine(ask1 _ k n s _ _ (w.heap.size+1) _ (by simp) (asks0 _ _ _ _ _)).mono ?_;rw[hk];rintro e w' ⟨rfl,rfl⟩))
  go_ret
  refine⟨ret_bool (by simp[hn]),?_⟩
  repeat(first|exact Below.refl _ _|refine ext_alloc ?_ _)
theorem may_more(k n:Int)(s:ByteArray)(w:World)(hk:(k == 3)=false)(he:s.toList.isEmpty=false) :
  Calls Tryz.prog 36 #[val k n s] w fun e w'=>e=.returned (.bool (false))/\Below w.heap.size w w':=by
 have hmf:=hmf
 go_enter Tryz.func36,Tryz.ntmps36
 go_wp2_with (first|(go_at_call 45;go_in)|(go_at_call 58;refine(ask1 _ k n s _ _ (w.heap.size+1) _ (by simp) (asks0 _ _ _ _ _)).mono ?_;rw[hk];rintro e w' ⟨rfl,rfl⟩))
 go_ret
 refine⟨ret_bool (by rfl),?_⟩
 repeat(first|exact Below.refl _ _|refine ext_alloc ?_ _)
theorem may_nil(k n:Int)(s:ByteArray)(w:World)(hk:(k == 3)=false)(he:s.toList.isEmpty=true)(h0:(k == 0)=true) :
  Calls Tryz.prog 36 #[val k n s] w fun e w'=>e=.returned (.bool (n == 0))/\Below w.heap.size w w':=by
 have hmf:=hmf
 go_enter Tryz.func36,Tryz.ntmps36
 go_wp2_with (first|(go_at_call 45;go_in)|(go_at_call 58;refine(ask1 _ k n s _ _ (w.heap.size+1) _ (by simp) (asks0 _ _ _ _ _)).mono ?_;rw[hk];rintro e w' ⟨rfl,rfl⟩;refine Hid.out ?_))
 refine Lib.hid ?_
 go_wp2_with (first|(go_at_call 58;refine(ask1 _ k n s _ _ (w.heap.size+1) _ (by simp) (((asks0 _ _ _ _ _).alloc _).alloc _)).mono ?_;rw[h0];rintro e w' ⟨rfl,rfl⟩))
 go_ret
 refine⟨ret_bool (by rfl),?_⟩
 repeat(first|exact Below.refl _ _|refine ext_alloc ?_ _)
theorem may_bool(k n:Int)(s:ByteArray)(w:World)(hk:(k == 3)=false)(he:s.toList.isEmpty=true)(h0:(k == 0)=false)(h1:(k == 1)=true) :
  Calls Tryz.prog 36 #[val k n s] w fun e w'=>e=.returned (.bool (n == 0||n == 1))/\Below w.heap.size w w':=by
 have hmf:=hmf
 rcases(Bool.eq_false_or_eq_true (n == 0))with hn|hn
 all_goals
  go_enter Tryz.func36,Tryz.ntmps36
  go_wp2_with (first|(go_at_call 45;go_in)|(go_at_call 58;refine(ask1 _ k n s _ _ (w.heap.size+1) _ (by simp) (asks0 _ _ _ _ _)).mono ?_;rw[hk];rintro e w' ⟨rfl,rfl⟩;refine Hid.out ?_))
  refine Lib.hid ?_
  go_wp2_with (first|(go_at_call 58;refine(ask1 _ k n s _ _ (w.heap.size+1) _ (by simp) (((asks0 _ _ _ _ _).alloc _).alloc _)).mono ?_;rw[h0];rintro e w' ⟨rfl,rfl⟩;refine Hid.out ?_))
  refine Lib.hid ?_
  go_wp2_with (first|(go_at_call 58;refine(ask1 _ k n s _ _ (w.heap.size+1) _ (by simp) (((((asks0 _ _ _ _ _).alloc _).alloc _).alloc _).alloc _)).mono ?_;rw[h1];rintro e w' ⟨rfl,rfl⟩))
  go_ret
  refine⟨ret_bool (by simp[hn]),?_⟩
  repeat(first|exact Below.refl _ _|refine ext_alloc ?_ _)
theorem may_far(k n:Int)(s:ByteArray)(w:World)(hk:(k == 3)=false)(he:s.toList.isEmpty=true)(h0:(k == 0)=false)(h1:(k == 1)=false)(h4:(k == 4||k == 5)=true) :
  Calls Tryz.prog 36 #[val k n s] w fun e w'=>e=.returned (.bool (decide (0<=n)&&decide (n<=2147483647)))/\Below w.heap.size w w':=by
 have hmf:=hmf
 rcases(Bool.eq_false_or_eq_true (decide (0<=n)))with hn|hn
 all_goals
  go_enter Tryz.func36,Tryz.ntmps36
  go_wp2_with (first|(go_at_call 45;go_in)|(go_at_call 58;refine(ask1 _ k n s _ _ (w.heap.size+1) _ (by simp) (asks0 _ _ _ _ _)).mono ?_;rw[hk];rintro e w' ⟨rfl,rfl⟩;refine Hid.out ?_))
  refine Lib.hid ?_
  go_wp2_with (first|(go_at_call 58;refine(ask1 _ k n s _ _ (w.heap.size+1) _ (by simp) (((asks0 _ _ _ _ _).alloc _).alloc _)).mono ?_;rw[h0];rintro e w' ⟨rfl,rfl⟩;refine Hid.out ?_))
  refine Lib.hid ?_
  go_wp2_with (first|(go_at_call 58;refine(ask1 _ k n s _ _ (w.heap.size+1) _ (by simp) (((((asks0 _ _ _ _ _).alloc _).alloc _).alloc _).alloc _)).mono ?_;rw[h1];rintro e w' ⟨rfl,rfl⟩;refine Hid.out ?_))
  refine Lib.hid ?_
  go_wp2_with (first|(go_at_call 58;refine(ask2 _ _ k n s _ _ (w.heap.size+1) _ (by simp) (((((((asks0 _ _ _ _ _).alloc _).alloc _).alloc _).alloc _).alloc _).alloc _)).mono ?_;rw[h4];rintro e w' ⟨rfl,rfl⟩))
  go_ret
  refine⟨ret_bool (by simp[hn]),?_⟩
  repeat(first|exact Below.refl _ _|refine ext_alloc ?_ _)
theorem may_int(k n:Int)(s:ByteArray)(w:World)(hk:(k == 3)=false)(he:s.toList.isEmpty=true)(h0:(k == 0)=false)(h1:(k == 1)=false)(h4:(k == 4||k == 5)=false)(h2:(k == 2)=true) :
  Calls Tryz.prog 36 #[val k n s] w fun e w'=>e=.returned (.bool (true))/\Below w.heap.size w w':=by
 have hmf:=hmf
 go_enter Tryz.func36,Tryz.ntmps36
 go_wp2_with (first|(go_at_call 45;go_in)|(go_at_call 58;refine(ask1 _ k n s _ _ (w.heap.size+1) _ (by simp) (asks0 _ _ _ _ _)).mono ?_;rw[hk];rintro e w' ⟨rfl,rfl⟩;refine Hid.out ?_))
 refine Lib.hid ?_
 go_wp2_with (first|(go_at_call 58;refine(ask1 _ k n s _ _ (w.heap.size+1) _ (by simp) (((asks0 _ _ _ _ _).alloc _).alloc _)).mono ?_;rw[h0];rintro e w' ⟨rfl,rfl⟩;refine Hid.out ?_))
 refine Lib.hid ?_
 go_wp2_with (first|(go_at_call 58;refine(ask1 _ k n s _ _ (w.heap.size+1) _ (by simp) (((((asks0 _ _ _ _ _).alloc _).alloc _).alloc _).alloc _)).mono ?_;rw[h1];rintro e w' ⟨rfl,rfl⟩;refine Hid.out ?_))
 refine Lib.hid ?_
 go_wp2_with (first|(go_at_call 58;refine(ask2 _ _ k n s _ _ (w.heap.size+1) _ (by simp) (((((((asks0 _ _ _ _ _).alloc _).alloc _).alloc _).alloc _).alloc _).alloc _)).mono ?_;rw[h4];rintro e w' ⟨rfl,rfl⟩;refine Hid.out ?_))
 refine Lib.hid ?_
 go_wp2_with (first|(go_at_call 58;refine(ask1 _ k n s _ _ (w.heap.size+1) _ (by simp) (((((((((asks0 _ _ _ _ _).alloc _).alloc _).alloc _).alloc _).alloc _).alloc _).alloc _).alloc _)).mono ?_;rw[h2];rintro e w' ⟨rfl,rfl⟩))
 go_ret
 refine⟨ret_bool (by rfl),?_⟩
 repeat(first|exact Below.refl _ _|refine ext_alloc ?_ _)
theorem may_none(k n:Int)(s:ByteArray)(w:World)(hk:(k == 3)=false)(he:s.toList.isEmpty=true)(h0:(k == 0)=false)(h1:(k == 1)=false)(h4:(k == 4||k == 5)=false)(h2:(k == 2)=false) :
  Calls Tryz.prog 36 #[val k n s] w fun e w'=>e=.returned (.bool (false))/\Below w.heap.size w w':=by
 have hmf:=hmf
 go_enter Tryz.func36,Tryz.ntmps36
 go_wp2_with (first|(go_at_call 45;go_in)|(go_at_call 58;refine(ask1 _ k n s _ _ (w.heap.size+1) _ (by simp) (asks0 _ _ _ _ _)).mono ?_;rw[hk];rintro e w' ⟨rfl,rfl⟩;refine Hid.out ?_))
 refine Lib.hid ?_
 go_wp2_with (first|(go_at_call 58;refine(ask1 _ k n s _ _ (w.heap.size+1) _ (by simp) (((asks0 _ _ _ _ _).alloc _).alloc _)).mono ?_;rw[h0];rintro e w' ⟨rfl,rfl⟩;refine Hid.out ?_))
 refine Lib.hid ?_
 go_wp2_with (first|(go_at_call 58;refine(ask1 _ k n s _ _ (w.heap.size+1) _ (by simp) (((((asks0 _ _ _ _ _).alloc _).alloc _).alloc _).alloc _)).mono ?_;rw[h1];rintro e w' ⟨rfl,rfl⟩;refine Hid.out ?_))
 refine Lib.hid ?_
 go_wp2_with (first|(go_at_call 58;refine(ask2 _ _ k n s _ _ (w.heap.size+1) _ (by simp) (((((((asks0 _ _ _ _ _).alloc _).alloc _).alloc _).alloc _).alloc _).alloc _)).mono ?_;rw[h4];rintro e w' ⟨rfl,rfl⟩;refine Hid.out ?_))
 refine Lib.hid ?_
 go_wp2_with (first|(go_at_call 58;refine(ask1 _ k n s _ _ (w.heap.size+1) _ (by simp) (((((((((asks0 _ _ _ _ _).alloc _).alloc _).alloc _).alloc _).alloc _).alloc _).alloc _).alloc _)).mono ?_;rw[h2];rintro e w' ⟨rfl,rfl⟩))
 go_ret
 refine⟨ret_bool (by rfl),?_⟩
 repeat(first|exact Below.refl _ _|refine ext_alloc ?_ _)
theorem may_any(k n:Int)(s:ByteArray)(w:World):Calls Tryz.prog 36 #[val k n s] w fun e w'=>e=.returned (.bool (mayB k n s))/\Below w.heap.size w w':=by
 unfold mayB
 by_cases h3:k=3
 ·rw[if_pos h3];exact may_text k n s w (by simpa using h3)
 rw[if_neg h3]
 have h3':(k == 3)=false:=by simpa using h3
 rcases Bool.eq_false_or_eq_true s.toList.isEmpty with he|he
 ·rw[if_neg (by rw[he];decide)]
  by_cases h0:k=0
  ·rw[if_pos h0];exact may_nil k n s w h3' he (by simpa using h0)
  rw[if_neg h0]
  have h0':(k == 0)=false:=by simpa using h0
  by_cases h1:k=1
  ·rw[if_pos h1];exact may_bool k n s w h3' he h0' (by simpa using h1)
  rw[if_neg h1]
  have h1':(k == 1)=false:=by simpa using h1
  by_cases h4:k=4\/k=5
  ·rw[if_pos h4];exact may_far k n s w h3' he h0' h1' (by simpa using h4)
  rw[if_neg h4]
  have h4':(k == 4||k == 5)=false:=by simpa using h4
  rcases Bool.eq_false_or_eq_true (k == 2)with h2|h2
  ·rw[h2];exact may_int k n s w h3' he h0' h1' h4' h2
  ·rw[h2];exact may_none k n s w h3' he h0' h1' h4' h2
 ·rw[if_pos he];exact may_more k n s w h3' he
theorem may_t(k n:Int)(s:ByteArray)(w:World)(h:mayB k n s=true):Calls Tryz.prog 36 #[val k n s] w fun e w'=>e=.returned (.bool true)/\Below w.heap.size w w':=h▸may_any k n s w
theorem may_f(k n:Int)(s:ByteArray)(w:World)(h:mayB k n s=false):Calls Tryz.prog 36 #[val k n s] w fun e w'=>e=.returned (.bool false)/\Below w.heap.size w w':=h▸may_any k n s w
abbrev box (k n:Int) (s:ByteArray):Obj:=.cells #[.int .i64 k,.int .i64 n,.string s] 25
abbrev E0:ByteArray:=⟨#[]⟩
structure Asks2 (c v:Nat) (k n k' n':Int) (s s':ByteArray) (w:World):Prop where
 hp:w.cell? ⟨c,0,none⟩=some (.slice (some ⟨v,0,none⟩) 2 2)
 h0:w.cell? ⟨v,0,none⟩=some (.int .i64 k)
 h1:w.cell? ⟨v,1,none⟩=some (.int .i64 n)
 h2:w.cell? ⟨v,2,none⟩=some (.string s)
 h3:w.cell? ⟨v,3,none⟩=some (.int .i64 k')
 h4:w.cell? ⟨v,4,none⟩=some (.int .i64 n')
 h5:w.cell? ⟨v,5,none⟩=some (.string s')
theorem Asks2.alloc{c v:Nat}{k n k' n':Int}{s s':ByteArray}{w:World}(h:Asks2 c v k n k' n' s s' w)(o:Obj):Asks2 c v k n k' n' s s' (w.alloc o):=by
 obtain⟨hp,h0,h1,h2,h3,h4,h5⟩:=h
 have hc:=World.block_lt_of_cell? _ _ hp
 have hv:=World.block_lt_of_cell? _ _ h0
 exact⟨(World.cell?_alloc_past _ _ _ hc).trans hp,(World.cell?_alloc_past _ _ _ hv).trans h0,(World.cell?_alloc_past _ _ _ hv).trans h1,(World.cell?_alloc_past _ _ _ hv).trans h2,(World.cell?_alloc_past _ _ _ hv).trans h3,(World.cell?_alloc_past _ _ _ hv).trans h4,(World.cell?_alloc_past _ _ _ hv).trans h5⟩
theorem each21t(b c v:Nat)(y k n k' n':Int)(s s':ByteArray)(w:World)(hc:w.cell? ⟨b,0,none⟩=some (.int .i64 y))(ha:Asks2 c v k n k' n' s s' w)(h:(k == y)=true)(h':(k' == y)=true) :
  Calls Tryz.prog 58 #[.slice (some ⟨b,0,none⟩) 1 1,.pointer (some ⟨c,0,none⟩)] w fun e w'=>e=.returned (.bool true)/\w'=(w.alloc (box k n s)).alloc (box k' n' s'):=by
 have hb:=World.block_lt_of_cell? _ _ hc
 have hv:=World.block_lt_of_cell? _ _ ha.h0
 obtain⟨hp,h0,h1,h2,h3,h4,h5⟩:=ha
 have hb2:b<w.heap.size+1:=Nat.lt_succ_of_lt hb
 have hv2:v<w.heap.size+1:=Nat.lt_succ_of_lt hv
 go_enter Tryz.func58,Tryz.ntmps58
 go_wp2
 refine wp_loop_rounds 3 ?_
 rw[rounds_succ]
 go_wp2_with (go_at_call 59;refine(contains1 _ y _ _ ((World.cell?_alloc_past _ _ _ hb).trans hc)).mono ?_;rw[h];rintro e w' ⟨rfl,rfl⟩)
 rw[rounds_succ]
 go_wp2_with (go_at_call 59;refine(contains1 _ y _ _ ((World.cell?_alloc_past _ _ _ (by simpa using hb2)).trans ((World.cell?_alloc_past _ _ _ hb).trans hc))).mono ?_;rw[h'];rintro e w' ⟨rfl,rfl⟩)
 rw[rounds_succ]
 go_wp2
 go_ret
 exact⟨rfl,rfl⟩
theorem vnumber_any(n:Int)(w:World) :
  Calls Tryz.prog 95 #[.int .i64 n] w fun e w'=>e=.returned (val 2 n ⟨#[]⟩)/\w'=w.alloc (box 2 n ⟨#[]⟩):=by
 go_enter Tryz.func95,Tryz.ntmps95
 go_wp2
 exact bodyPost_ret (v:=val 2 n ⟨#[]⟩) (by simp[results,Tryz.results95,go_sem]) rfl ⟨rfl,rfl⟩
theorem boolean_any(b:Bool)(w:World) :
  Calls Tryz.prog 73 #[.bool b] w fun e w'=>e=.returned (val 1 (if b then 1 else 0) ⟨#[]⟩)/\w'=w.alloc (box 1 (if b then 1 else 0) ⟨#[]⟩):=by
 cases b
 all_goals
  go_enter Tryz.func73,Tryz.ntmps73
  go_wp2
  exact bodyPost_ret (v:=val 1 _ ⟨#[]⟩) (by simp[results,Tryz.results73,go_sem]) rfl ⟨rfl,rfl⟩
end Go.Proofs.YthljpnmhddfblaaGreatDoor
