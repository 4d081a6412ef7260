/- Walks of the value package, on the way to the statements of chapter 1. -/
import Derived.Test.YtfbpdbndejefdaaGreatDoorS01
import Derived.Test.YtfbpdbndejefdaaGreatDoorS03
import Derived.Lib.Hide
namespace Go.Proofs.YtfbpdbndejefdaaGreatDoor.V
open Go.RowKit Go
set_option maxRecDepth 100000
set_option maxHeartbeats 8000000
set_option linter.all false
variable {a w:World}
def mayB (k n:Int) (s:ByteArray):Bool :=
 if k=3 then n == 0&&decide ((s.size:Int)<=300)
 else if s.toList.isEmpty=false then false
 else if k=0 then n == 0
 else if k=1 then n == 0||n == 1
 else if k=4\/k=5 then decide (0<=n)&&decide (n<=2147483647)
 else k == 2
abbrev val (k n:Int) (s:ByteArray):Value:=.agg #[vi k,vi n,.string s]
theorem hmf:∀(fn:Fn) (z cap:Array Value) (w:World),(Instr.makeFunc fn z cap).run Tryz.prog w=.ok (.func fn z cap) w:=fun _ _ _ _=>rfl
theorem ext_alloc(h:Bw a w)(o:Obj):Bw a (w.alloc o):=h.alloc h.size o
theorem ext_trans{b c:World}(h:Bw a b)(k:Bw b c):Bw a c:=h.trans (k.mono h.size)
theorem a4g(w:World)(o1:Obj)(k n:Int)(s:ByteArray):Asks (w.heap.size+1+1) (w.heap.size+1) k n s
  (((w.alloc o1).alloc (.cells #[vi k,vi n,.string s] 52)).alloc (.cells #[.slice (some (Ad (w.heap.size+1) 0)) 1 1] 61)):=by
 refine⟨?_,?_,?_,?_⟩
 ·rw[World.cell?_alloc_at _ _ _ _ (by simp)];rfl
 all_goals rw[World.cell?_alloc_past _ _ _ (by simp),World.cell?_alloc_at _ _ _ _ (by simp)];rfl
theorem Asks.alloc{c v:Nat}{k n:Int}{s:ByteArray}(h:Asks c v k n s w)(o:Obj):Asks c v k n s (w.alloc o):=by
 obtain⟨hp,h0,h1,h2⟩:=h
 have z:=World.block_lt_of_cell? _ _ hp
 have hv:=World.block_lt_of_cell? _ _ h0
 exact⟨(World.cell?_alloc_past _ _ _ z).trans hp,(World.cell?_alloc_past _ _ _ hv).trans h0,(World.cell?_alloc_past _ _ _ hv).trans h1,(World.cell?_alloc_past _ _ _ hv).trans h2⟩
theorem c5i(k n:Int)(s:ByteArray)(w:World)(hk:(k == 3)=true) :
  Cl 35 #[val k n s] w fun e z=>e=.returned (.bool (n == 0&&decide ((s.size:Int)<=300)))/\Bw w z:=by
 have hmf:=hmf
 rcases(Bool.eq_false_or_eq_true (n == 0))with hn|hn
 all_goals
  go_enter Tryz.func35,Tryz.ntmps35
  go_wp2_with (first|(go_at_call 54;go_in)|(go_at_call 85;refine(ask1 _ k n s _ _ (w.heap.size+1) _ (by simp) (a4g _ _ _ _ _)).mono ?_;rw[hk];rintro e z ⟨rfl,rfl⟩))
  go_ret
  refine⟨ret_bool (by simp[hn]),?_⟩
  repeat(first|exact Below.refl _ _|refine ext_alloc ?_ _)
theorem c5j(k n:Int)(s:ByteArray)(w:World)(hk:(k == 3)=false)(he:s.toList.isEmpty=false) :
  Cl 35 #[val k n s] w fun e z=>e=.returned (.bool (false))/\Bw w z:=by
 have hmf:=hmf
 go_enter Tryz.func35,Tryz.ntmps35
 go_wp2_with (first|(go_at_call 54;go_in)|(go_at_call 85;refine(ask1 _ k n s _ _ (w.heap.size+1) _ (by simp) (a4g _ _ _ _ _)).mono ?_;rw[hk];rintro e z ⟨rfl,rfl⟩))
 go_ret
 refine⟨ret_bool (by rfl),?_⟩
 repeat(first|exact Below.refl _ _|refine ext_alloc ?_ _)
theorem d0m(k n:Int)(s:ByteArray)(w:World)(hk:(k == 3)=false)(he:s.toList.isEmpty=true)(h0:(k == 0)=true) :
  Cl 35 #[val k n s] w fun e z=>e=.returned (.bool (n == 0))/\Bw w z:=by
 have hmf:=hmf
 go_enter Tryz.func35,Tryz.ntmps35
 go_wp2_with (first|(go_at_call 54;go_in)|(go_at_call 85;refine(ask1 _ k n s _ _ (w.heap.size+1) _ (by simp) (a4g _ _ _ _ _)).mono ?_;rw[hk];rintro e z ⟨rfl,rfl⟩;refine Hid.out ?_))
 refine Lib.hid ?_
 go_wp2_with (first|(go_at_call 85;refine(ask1 _ k n s _ _ (w.heap.size+1) _ (by simp) (((a4g _ _ _ _ _).alloc _).alloc _)).mono ?_;rw[h0];rintro e z ⟨rfl,rfl⟩))
 go_ret
 refine⟨ret_bool (by rfl),?_⟩
 repeat(first|exact Below.refl _ _|refine ext_alloc ?_ _)
theorem c5k(k n:Int)(s:ByteArray)(w:World)(hk:(k == 3)=false)(he:s.toList.isEmpty=true)(h0:(k == 0)=false)(h1:(k == 1)=true) :
  Cl 35 #[val k n s] w fun e z=>e=.returned (.bool (n == 0||n == 1))/\Bw w z:=by
 have hmf:=hmf
 rcases(Bool.eq_false_or_eq_true (n == 0))with hn|hn
 all_goals
  go_enter Tryz.func35,Tryz.ntmps35
  go_wp2_with (first|(go_at_call 54;go_in)|(go_at_call 85;refine(ask1 _ k n s _ _ (w.heap.size+1) _ (by simp) (a4g _ _ _ _ _)).mono ?_;rw[hk];rintro e z ⟨rfl,rfl⟩;refine Hid.out ?_))
  refine Lib.hid ?_
  go_wp2_with (first|(go_at_call 85;refine(ask1 _ k n s _ _ (w.heap.size+1) _ (by simp) (((a4g _ _ _ _ _).alloc _).alloc _)).mono ?_;rw[h0];rintro e z ⟨rfl,rfl⟩;refine Hid.out ?_))
  refine Lib.hid ?_
  go_wp2_with (first|(go_at_call 85;refine(ask1 _ k n s _ _ (w.heap.size+1) _ (by simp) (((((a4g _ _ _ _ _).alloc _).alloc _).alloc _).alloc _)).mono ?_;rw[h1];rintro e z ⟨rfl,rfl⟩))
  go_ret
  refine⟨ret_bool (by simp[hn]),?_⟩
  repeat(first|exact Below.refl _ _|refine ext_alloc ?_ _)
theorem d0n(k n:Int)(s:ByteArray)(w:World)(hk:(k == 3)=false)(he:s.toList.isEmpty=true)(h0:(k == 0)=false)(h1:(k == 1)=false)(h4:(k == 4||k == 5)=true) :
  Cl 35 #[val k n s] w fun e z=>e=.returned (.bool (decide (0<=n)&&decide (n<=2147483647)))/\Bw w z:=by
 have hmf:=hmf
 rcases(Bool.eq_false_or_eq_true (decide (0<=n)))with hn|hn
 all_goals
  go_enter Tryz.func35,Tryz.ntmps35
  go_wp2_with (first|(go_at_call 54;go_in)|(go_at_call 85;refine(ask1 _ k n s _ _ (w.heap.size+1) _ (by simp) (a4g _ _ _ _ _)).mono ?_;rw[hk];rintro e z ⟨rfl,rfl⟩;refine Hid.out ?_))
  refine Lib.hid ?_
  go_wp2_with (first|(go_at_call 85;refine(ask1 _ k n s _ _ (w.heap.size+1) _ (by simp) (((a4g _ _ _ _ _).alloc _).alloc _)).mono ?_;rw[h0];rintro e z ⟨rfl,rfl⟩;refine Hid.out ?_))
  refine Lib.hid ?_
  go_wp2_with (first|(go_at_call 85;refine(ask1 _ k n s _ _ (w.heap.size+1) _ (by simp) (((((a4g _ _ _ _ _).alloc _).alloc _).alloc _).alloc _)).mono ?_;rw[h1];rintro e z ⟨rfl,rfl⟩;refine Hid.out ?_))
  refine Lib.hid ?_
  go_wp2_with (first|(go_at_call 85;refine(ask2 _ _ k n s _ _ (w.heap.size+1) _ (by simp) (((((((a4g _ _ _ _ _).alloc _).alloc _).alloc _).alloc _).alloc _).alloc _)).mono ?_;rw[h4];rintro e z ⟨rfl,rfl⟩))
  go_ret
  refine⟨ret_bool (by simp[hn]),?_⟩
  repeat(first|exact Below.refl _ _|refine ext_alloc ?_ _)
theorem d0o(k n:Int)(s:ByteArray)(w:World)(hk:(k == 3)=false)(he:s.toList.isEmpty=true)(h0:(k == 0)=false)(h1:(k == 1)=false)(h4:(k == 4||k == 5)=false)(h2:(k == 2)=true) :
  Cl 35 #[val k n s] w fun e z=>e=.returned (.bool (true))/\Bw w z:=by
 have hmf:=hmf
 go_enter Tryz.func35,Tryz.ntmps35
 go_wp2_with (first|(go_at_call 54;go_in)|(go_at_call 85;refine(ask1 _ k n s _ _ (w.heap.size+1) _ (by simp) (a4g _ _ _ _ _)).mono ?_;rw[hk];rintro e z ⟨rfl,rfl⟩;refine Hid.out ?_))
 refine Lib.hid ?_
 go_wp2_with (first|(go_at_call 85;refine(ask1 _ k n s _ _ (w.heap.size+1) _ (by simp) (((a4g _ _ _ _ _).alloc _).alloc _)).mono ?_;rw[h0];rintro e z ⟨rfl,rfl⟩;refine Hid.out ?_))
 refine Lib.hid ?_
 go_wp2_with (first|(go_at_call 85;refine(ask1 _ k n s _ _ (w.heap.size+1) _ (by simp) (((((a4g _ _ _ _ _).alloc _).alloc _).alloc _).alloc _)).mono ?_;rw[h1];rintro e z ⟨rfl,rfl⟩;refine Hid.out ?_))
 refine Lib.hid ?_
 go_wp2_with (first|(go_at_call 85;refine(ask2 _ _ k n s _ _ (w.heap.size+1) _ (by simp) (((((((a4g _ _ _ _ _).alloc _).alloc _).alloc _).alloc _).alloc _).alloc _)).mono ?_;rw[h4];rintro e z ⟨rfl,rfl⟩;refine Hid.out ?_))
 refine Lib.hid ?_
 go_wp2_with (first|(go_at_call 85;refine(ask1 _ k n s _ _ (w.heap.size+1) _ (by simp) (((((((((a4g _ _ _ _ _).alloc _).alloc _).alloc _).alloc _).alloc _).alloc _).alloc _).alloc _)).mono ?_;rw[h2];rintro e z ⟨rfl,rfl⟩))
 go_ret
 refine⟨ret_bool (by rfl),?_⟩
 repeat(first|exact Below.refl _ _|refine ext_alloc ?_ _)
theorem c5l(k n:Int)(s:ByteArray)(w:World)(hk:(k == 3)=false)(he:s.toList.isEmpty=true)(h0:(k == 0)=false)(h1:(k == 1)=false)(h4:(k == 4||k == 5)=false)(h2:(k == 2)=false) :
  Cl 35 #[val k n s] w fun e z=>e=.returned (.bool (false))/\Bw w z:=by
 have hmf:=hmf
 go_enter Tryz.func35,Tryz.ntmps35
 go_wp2_with (first|(go_at_call 54;go_in)|(go_at_call 85;refine(ask1 _ k n s _ _ (w.heap.size+1) _ (by simp) (a4g _ _ _ _ _)).mono ?_;rw[hk];rintro e z ⟨rfl,rfl⟩;refine Hid.out ?_))
 refine Lib.hid ?_
 go_wp2_with (first|(go_at_call 85;refine(ask1 _ k n s _ _ (w.heap.size+1) _ (by simp) (((a4g _ _ _ _ _).alloc _).alloc _)).mono ?_;rw[h0];rintro e z ⟨rfl,rfl⟩;refine Hid.out ?_))
 refine Lib.hid ?_
 go_wp2_with (first|(go_at_call 85;refine(ask1 _ k n s _ _ (w.heap.size+1) _ (by simp) (((((a4g _ _ _ _ _).alloc _).alloc _).alloc _).alloc _)).mono ?_;rw[h1];rintro e z ⟨rfl,rfl⟩;refine Hid.out ?_))
 refine Lib.hid ?_
 go_wp2_with (first|(go_at_call 85;refine(ask2 _ _ k n s _ _ (w.heap.size+1) _ (by simp) (((((((a4g _ _ _ _ _).alloc _).alloc _).alloc _).alloc _).alloc _).alloc _)).mono ?_;rw[h4];rintro e z ⟨rfl,rfl⟩;refine Hid.out ?_))
 refine Lib.hid ?_
 go_wp2_with (first|(go_at_call 85;refine(ask1 _ k n s _ _ (w.heap.size+1) _ (by simp) (((((((((a4g _ _ _ _ _).alloc _).alloc _).alloc _).alloc _).alloc _).alloc _).alloc _).alloc _)).mono ?_;rw[h2];rintro e z ⟨rfl,rfl⟩))
 go_ret
 refine⟨ret_bool (by rfl),?_⟩
 repeat(first|exact Below.refl _ _|refine ext_alloc ?_ _)
theorem a4h(k n:Int)(s:ByteArray)(w:World):Cl 35 #[val k n s] w fun e p=>e=.returned (.bool (mayB k n s))/\Bw w p:=by
 unfold mayB
 by_cases h3:k=3
 ·rw[if_pos h3];exact c5i k n s w (by simpa using h3)
 rw[if_neg h3]
 have z:(k == 3)=false:=by simpa using h3
 rcases Bool.eq_false_or_eq_true s.toList.isEmpty with y|y
 ·rw[if_neg (by rw[y];decide)]
  by_cases h0:k=0
  ·rw[if_pos h0];exact d0m k n s w z y (by simpa using h0)
  rw[if_neg h0]
  have v:(k == 0)=false:=by simpa using h0
  by_cases h1:k=1
  ·rw[if_pos h1];exact c5k k n s w z y v (by simpa using h1)
  rw[if_neg h1]
  have u:(k == 1)=false:=by simpa using h1
  by_cases h4:k=4\/k=5
  ·rw[if_pos h4];exact d0n k n s w z y v u (by simpa using h4)
  rw[if_neg h4]
  have q:(k == 4||k == 5)=false:=by simpa using h4
  rcases Bool.eq_false_or_eq_true (k == 2)with h2|h2
  ·rw[h2];exact d0o k n s w z y v u q h2
  ·rw[h2];exact c5l k n s w z y v u q h2
 ·rw[if_pos y];exact c5j k n s w z y
theorem a1r(k n:Int)(s:ByteArray)(w:World)(h:mayB k n s=true):Cl 35 #[val k n s] w fun e z=>e=.returned (.bool true)/\Bw w z:=h▸a4h k n s w
theorem c0p(k n:Int)(s:ByteArray)(w:World)(h:mayB k n s=false):Cl 35 #[val k n s] w fun e z=>e=.returned (.bool false)/\Bw w z:=h▸a4h k n s w
abbrev box (k n:Int) (s:ByteArray):Obj:=.cells #[vi k,vi n,.string s] 52
abbrev E0:ByteArray:=⟨#[]⟩
end Go.Proofs.YtfbpdbndejefdaaGreatDoor.V
