import Derived.Test.YtomniogfpfbolaaGreatDoorS06
import Derived.Lib.Hide
namespace Go.Proofs.YtomniogfpfbolaaGreatDoor.V
open Go.RowKit Go
set_option maxRecDepth 100000
set_option maxHeartbeats 8000000
set_option linter.all false
variable {a:World}
def mayB (k n:Int) (s:ByteArray):Bool :=
 if k=3 then n == 0&&decide ((s.size:Int)<=300)
 else if s.toList.isEmpty=false then false
 else if k=0 then n == 0
 else if k=1 then n == 0||n == 1
 else if k=4\/k=5 then decide (0<=n)&&decide (n<=2147483647)
 else k == 2
abbrev val (k n:Int) (s:ByteArray):Value:=.agg #[vi k,vi n,.string s]
theorem q1z{w:World}(h:Bw a w)(o:Obj):Bw a (w.alloc o):=h.alloc h.size o
theorem q3z{b c:World}(h:Bw a b)(k:Bw b c):Bw a c:=h.trans (k.mono h.size)
abbrev box (k n:Int) (s:ByteArray):Obj:=.cells #[vi k,vi n,.string s] 75
abbrev E0:ByteArray:=⟨#[]⟩
theorem b5c(k n:Int)(s:ByteArray)(w:World)(k0:(k == 0)=true)(hn:n<0) :
  Cl 34 #[val k n s] w fun e z=>e=.returned (.bool false)/\z=w.alloc (box k n s):=by
 go_enter Tryz.func34,Tryz.ntmps34
 go_wp2
 go_ret
 exact⟨by simp_all,rfl⟩
theorem b5d(k n:Int)(s:ByteArray)(w:World)(k0:(k == 0)=true)(hn:0<n) :
  Cl 34 #[val k n s] w fun e z=>e=.returned (.bool false)/\z=w.alloc (box k n s):=by
 go_enter Tryz.func34,Tryz.ntmps34
 go_wp2
 go_ret
 exact⟨by simp_all,rfl⟩
theorem c5z(k n:Int)(s:ByteArray)(w:World)(k0:(k == 0)=true)(hn:0<=n)(hn':n<=0) :
  Cl 34 #[val k n s] w fun e z=>e=.returned (.bool s.toList.isEmpty)/\z=w.alloc (box k n s):=by
 go_enter Tryz.func34,Tryz.ntmps34
 go_wp2
 go_ret
 exact⟨by simp_all,rfl⟩
theorem b3a(k n:Int)(s:ByteArray)(w:World)(k0:(k == 0)=false)(k1:(k == 1)=true)(hn:n<0) :
  Cl 34 #[val k n s] w fun e z=>e=.returned (.bool false)/\z=w.alloc (box k n s):=by
 go_enter Tryz.func34,Tryz.ntmps34
 go_wp2
 go_ret
 exact⟨by simp_all,rfl⟩
theorem b3b(k n:Int)(s:ByteArray)(w:World)(k0:(k == 0)=false)(k1:(k == 1)=true)(hn:1<n) :
  Cl 34 #[val k n s] w fun e z=>e=.returned (.bool false)/\z=w.alloc (box k n s):=by
 go_enter Tryz.func34,Tryz.ntmps34
 go_wp2
 go_ret
 exact⟨by simp_all,rfl⟩
theorem c0z(k n:Int)(s:ByteArray)(w:World)(k0:(k == 0)=false)(k1:(k == 1)=true)(hn:0<=n)(hn':n<=1) :
  Cl 34 #[val k n s] w fun e z=>e=.returned (.bool s.toList.isEmpty)/\z=w.alloc (box k n s):=by
 go_enter Tryz.func34,Tryz.ntmps34
 go_wp2
 go_ret
 exact⟨by simp_all,rfl⟩
theorem c6a(k n:Int)(s:ByteArray)(w:World)(k0:(k == 0)=false)(k1:(k == 1)=false)(k2:(k == 2)=true)(hn:-9223372036854775808<=n)(hn':n<=9223372036854775807) :
  Cl 34 #[val k n s] w fun e z=>e=.returned (.bool s.toList.isEmpty)/\z=w.alloc (box k n s):=by
 go_enter Tryz.func34,Tryz.ntmps34
 go_wp2
 go_ret
 exact⟨by simp_all,rfl⟩
theorem b5e(k n:Int)(s:ByteArray)(w:World)(k0:(k == 0)=false)(k1:(k == 1)=false)(k2:(k == 2)=false)(k3:(k == 3)=true)(hn:n<0) :
  Cl 34 #[val k n s] w fun e z=>e=.returned (.bool false)/\z=w.alloc (box k n s):=by
 go_enter Tryz.func34,Tryz.ntmps34
 go_wp2
 go_ret
 exact⟨by simp_all,rfl⟩
theorem b5f(k n:Int)(s:ByteArray)(w:World)(k0:(k == 0)=false)(k1:(k == 1)=false)(k2:(k == 2)=false)(k3:(k == 3)=true)(hn:0<n) :
  Cl 34 #[val k n s] w fun e z=>e=.returned (.bool false)/\z=w.alloc (box k n s):=by
 go_enter Tryz.func34,Tryz.ntmps34
 go_wp2
 go_ret
 exact⟨by simp_all,rfl⟩
theorem c6b(k n:Int)(s:ByteArray)(w:World)(k0:(k == 0)=false)(k1:(k == 1)=false)(k2:(k == 2)=false)(k3:(k == 3)=true)(hn:0<=n)(hn':n<=0) :
  Cl 34 #[val k n s] w fun e z=>e=.returned (.bool (decide ((s.size:Int)<=300)))/\z=w.alloc (box k n s):=by
 go_enter Tryz.func34,Tryz.ntmps34
 go_wp2
 go_ret
 exact⟨by simp_all,rfl⟩
theorem b5g(k n:Int)(s:ByteArray)(w:World)(k0:(k == 0)=false)(k1:(k == 1)=false)(k2:(k == 2)=false)(k3:(k == 3)=false)(k4:(k == 4)=true)(hn:n<0) :
  Cl 34 #[val k n s] w fun e z=>e=.returned (.bool false)/\z=w.alloc (box k n s):=by
 go_enter Tryz.func34,Tryz.ntmps34
 go_wp2
 go_ret
 exact⟨by simp_all,rfl⟩
theorem b5h(k n:Int)(s:ByteArray)(w:World)(k0:(k == 0)=false)(k1:(k == 1)=false)(k2:(k == 2)=false)(k3:(k == 3)=false)(k4:(k == 4)=true)(hn:2147483647<n) :
  Cl 34 #[val k n s] w fun e z=>e=.returned (.bool false)/\z=w.alloc (box k n s):=by
 go_enter Tryz.func34,Tryz.ntmps34
 go_wp2
 go_ret
 exact⟨by simp_all,rfl⟩
theorem c6c(k n:Int)(s:ByteArray)(w:World)(k0:(k == 0)=false)(k1:(k == 1)=false)(k2:(k == 2)=false)(k3:(k == 3)=false)(k4:(k == 4)=true)(hn:0<=n)(hn':n<=2147483647) :
  Cl 34 #[val k n s] w fun e z=>e=.returned (.bool s.toList.isEmpty)/\z=w.alloc (box k n s):=by
 go_enter Tryz.func34,Tryz.ntmps34
 go_wp2
 go_ret
 exact⟨by simp_all,rfl⟩
theorem b5i(k n:Int)(s:ByteArray)(w:World)(k0:(k == 0)=false)(k1:(k == 1)=false)(k2:(k == 2)=false)(k3:(k == 3)=false)(k4:(k == 4)=false)(k5:(k == 5)=true)(hn:n<0) :
  Cl 34 #[val k n s] w fun e z=>e=.returned (.bool false)/\z=w.alloc (box k n s):=by
 go_enter Tryz.func34,Tryz.ntmps34
 go_wp2
 go_ret
 exact⟨by simp_all,rfl⟩
theorem b5j(k n:Int)(s:ByteArray)(w:World)(k0:(k == 0)=false)(k1:(k == 1)=false)(k2:(k == 2)=false)(k3:(k == 3)=false)(k4:(k == 4)=false)(k5:(k == 5)=true)(hn:2147483647<n) :
  Cl 34 #[val k n s] w fun e z=>e=.returned (.bool false)/\z=w.alloc (box k n s):=by
 go_enter Tryz.func34,Tryz.ntmps34
 go_wp2
 go_ret
 exact⟨by simp_all,rfl⟩
theorem c6d(k n:Int)(s:ByteArray)(w:World)(k0:(k == 0)=false)(k1:(k == 1)=false)(k2:(k == 2)=false)(k3:(k == 3)=false)(k4:(k == 4)=false)(k5:(k == 5)=true)(hn:0<=n)(hn':n<=2147483647) :
  Cl 34 #[val k n s] w fun e z=>e=.returned (.bool s.toList.isEmpty)/\z=w.alloc (box k n s):=by
 go_enter Tryz.func34,Tryz.ntmps34
 go_wp2
 go_ret
 exact⟨by simp_all,rfl⟩
theorem c1a(k n:Int)(s:ByteArray)(w:World)(k0:(k == 0)=false)(k1:(k == 1)=false)(k2:(k == 2)=false)(k3:(k == 3)=false)(k4:(k == 4)=false)(k5:(k == 5)=false) :
  Cl 34 #[val k n s] w fun e z=>e=.returned (.bool false)/\z=w.alloc (box k n s):=by
 go_enter Tryz.func34,Tryz.ntmps34
 go_wp2
 go_ret
 exact⟨by simp_all,rfl⟩
theorem b7d(k n:Int)(s:ByteArray)(w:World)(hn:-9223372036854775808<=n)(hn':n<=9223372036854775807) :
  Cl 34 #[val k n s] w fun e y=>e=.returned (.bool (mayB k n s))/\y=w.alloc (box k n s):=by
 have key:∀b:Bool,mayB k n s=b->(Cl 34 #[val k n s] w fun e y=>e=.returned (.bool b)/\y=w.alloc (box k n s))->Cl 34 #[val k n s] w fun e y=>e=.returned (.bool (mayB k n s))/\y=w.alloc (box k n s):=by
  intro b p h;rw[p];exact h
 have z:s.toList.isEmpty=true\/s.toList.isEmpty=false:=(Bool.eq_false_or_eq_true _)
 by_cases k0:k=0
 ·subst k0
  by_cases a:n<0
  ·exact key false (by unfold mayB;rcases z with e|e <;> simp[e];omega) (b5c 0 n s w rfl a)
  ·by_cases b:0<n
   ·exact key false (by unfold mayB;rcases z with e|e <;> simp[e];omega) (b5d 0 n s w rfl b)
   ·exact key _ (by unfold mayB;rcases z with e|e <;> simp[e];omega) (c5z 0 n s w rfl (by omega) (by omega))
 have q:(k == 0)=false:=by simpa using k0
 by_cases k1:k=1
 ·subst k1
  by_cases a:n<0
  ·exact key false (by unfold mayB;rcases z with e|e <;> simp[e];omega) (b3a 1 n s w rfl rfl a)
  ·by_cases b:1<n
   ·exact key false (by unfold mayB;rcases z with e|e <;> simp[e];omega) (b3b 1 n s w rfl rfl b)
   ·exact key _ (by unfold mayB;rcases z with e|e <;> simp[e];omega) (c0z 1 n s w rfl rfl (by omega) (by omega))
 have r:(k == 1)=false:=by simpa using k1
 by_cases k2:k=2
 ·subst k2
  exact key _ (by unfold mayB;rcases z with e|e <;> simp[e]) (c6a 2 n s w rfl rfl rfl hn hn')
 have t:(k == 2)=false:=by simpa using k2
 by_cases k3:k=3
 ·subst k3
  by_cases a:n<0
  ·exact key false (by unfold mayB;simp;omega) (b5e 3 n s w rfl rfl rfl rfl a)
  ·by_cases b:0<n
   ·exact key false (by unfold mayB;simp;omega) (b5f 3 n s w rfl rfl rfl rfl b)
   ·obtain rfl:n=0:=by omega
    exact key _ (by unfold mayB;simp) (c6b 3 0 s w rfl rfl rfl rfl (by omega) (by omega))
 have u:(k == 3)=false:=by simpa using k3
 by_cases k4:k=4
 ·subst k4
  by_cases a:n<0
  ·exact key false (by unfold mayB;rcases z with e|e <;> simp[e];omega) (b5g 4 n s w rfl rfl rfl rfl rfl a)
  ·by_cases b:2147483647<n
   ·exact key false (by unfold mayB;rcases z with e|e <;> simp[e];omega) (b5h 4 n s w rfl rfl rfl rfl rfl b)
   ·exact key _ (by unfold mayB;rcases z with e|e <;> simp[e];omega) (c6c 4 n s w rfl rfl rfl rfl rfl (by omega) (by omega))
 have v:(k == 4)=false:=by simpa using k4
 by_cases k5:k=5
 ·subst k5
  by_cases a:n<0
  ·exact key false (by unfold mayB;rcases z with e|e <;> simp[e];omega) (b5i 5 n s w rfl rfl rfl rfl rfl rfl a)
  ·by_cases b:2147483647<n
   ·exact key false (by unfold mayB;rcases z with e|e <;> simp[e];omega) (b5j 5 n s w rfl rfl rfl rfl rfl rfl b)
   ·exact key _ (by unfold mayB;rcases z with e|e <;> simp[e];omega) (c6d 5 n s w rfl rfl rfl rfl rfl rfl (by omega) (by omega))
 have x:(k == 5)=false:=by simpa using k5
 exact key false (by unfold mayB;rcases z with e|e <;> simp[e,k0,k1,k2,k3,k4,k5]) (c1a k n s w q r t u v x)
theorem d4g(k n:Int)(s:ByteArray)(w:World)(hn:-9223372036854775808<=n)(hn':n<=9223372036854775807)(h:mayB k n s=true) :
  Cl 34 #[val k n s] w fun e z=>e=.returned (.bool true)/\z=w.alloc (box k n s):=h▸b7d k n s w hn hn'
theorem d4h(k n:Int)(s:ByteArray)(w:World)(hn:-9223372036854775808<=n)(hn':n<=9223372036854775807)(h:mayB k n s=false) :
  Cl 34 #[val k n s] w fun e z=>e=.returned (.bool false)/\z=w.alloc (box k n s):=h▸b7d k n s w hn hn'
end Go.Proofs.YtomniogfpfbolaaGreatDoor.V
