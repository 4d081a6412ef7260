import Derived.Test.YtomniogfpfbolaaGreatDoorS15
namespace Go.Proofs.YtomniogfpfbolaaGreatDoor.V
open Go.RowKit Go
set_option maxRecDepth 100000
set_option maxHeartbeats 8000000
set_option linter.all false
abbrev RIn (f:Fd) (x:Od) (i:Nat) (w:World) (b:Bool):Prop:=Cl 35 #[f.v,x.v,vi i] w fun e w'=>e=.returned (.bool b)/\Bw w w'
theorem d4q(k:Int)(hk:k=4\/k=5\/k=7\/k=21\/k=22\/k=23\/k=24\/k=25\/k=26\/k=27\/k=28\/k=29)(f:Fd)(a b c:Int)(i:Nat)(w:World) :
  Cl 35 #[f.v,.agg #[vi k,vi a,vi b,vi c],vi i] w fun e z=>e=.returned (.bool ((belB a f.r)&&(belB b f.r)&&(belB c f.r)))/\Bw w z:=by
 rcases hk with rfl|rfl|rfl|rfl|rfl|rfl|rfl|rfl|rfl|rfl|rfl|rfl <;> cases h0:(belB a f.r) <;> cases h1:(belB b f.r)
 all_goals
  go_enter Tryz.func35,Tryz.ntmps35
  go_wp2_with (first|(go_at_call 51;refine(a4u f _ _).mono ?_;(first|rw[h0]|rw[h1]|skip);rintro e z ⟨rfl,rfl⟩)|(go_at_call 52;refine(a4v f _ _).mono ?_;(first|rw[h0]|rw[h1]|skip);rintro e z ⟨rfl,rfl⟩))
  go_ret
  refine⟨ret_bool (by simp_all),?_⟩
  repeat(first|exact bz0|refine q1z ?_ _)
theorem d7l(k:Int)(hk:k=1\/k=6\/k=30\/k=31)(f:Fd)(a b c:Int)(i:Nat)(w:World) :
  Cl 35 #[f.v,.agg #[vi k,vi a,vi b,vi c],vi i] w fun e z=>e=.returned (.bool ((belB a f.r)&&(belB b f.r)&&(c == 0)))/\Bw w z:=by
 rcases hk with rfl|rfl|rfl|rfl <;> cases h0:(belB a f.r) <;> cases h1:(belB b f.r)
 all_goals
  go_enter Tryz.func35,Tryz.ntmps35
  go_wp2_with (first|(go_at_call 51;refine(a4u f _ _).mono ?_;(first|rw[h0]|rw[h1]|skip);rintro e z ⟨rfl,rfl⟩)|(go_at_call 52;refine(a4v f _ _).mono ?_;(first|rw[h0]|rw[h1]|skip);rintro e z ⟨rfl,rfl⟩))
  go_ret
  refine⟨ret_bool (by simp_all),?_⟩
  repeat(first|exact bz0|refine q1z ?_ _)
theorem ri_a(k:Int)(hk:k=3\/k=12\/k=13)(f:Fd)(a b c:Int)(i:Nat)(w:World) :
  Cl 35 #[f.v,.agg #[vi k,vi a,vi b,vi c],vi i] w fun e z=>e=.returned (.bool ((belB a f.r)&&(b == 0)&&(c == 0)))/\Bw w z:=by
 rcases hk with rfl|rfl|rfl <;> cases h0:(belB a f.r) <;> cases h1:(b == 0)
 all_goals
  go_enter Tryz.func35,Tryz.ntmps35
  go_wp2_with (first|(go_at_call 51;refine(a4u f _ _).mono ?_;(first|rw[h0]|skip);rintro e z ⟨rfl,rfl⟩)|(go_at_call 52;refine(a4v f _ _).mono ?_;(first|rw[h0]|skip);rintro e z ⟨rfl,rfl⟩))
  go_ret
  refine⟨ret_bool (by simp_all),?_⟩
  repeat(first|exact bz0|refine q1z ?_ _)
theorem ri_2(k:Int)(hk:k=2)(f:Fd)(a b c:Int)(i:Nat)(w:World) :
  Cl 35 #[f.v,.agg #[vi k,vi a,vi b,vi c],vi i] w fun e z=>e=.returned (.bool ((belB a f.r)&&(decide (0<=b))&&(decide (b<f.cs.length))&&(c == 0)))/\Bw w z:=by
 subst hk;cases h0:(belB a f.r) <;> cases h1:(decide (0<=b)) <;> cases h2:(decide (b<f.cs.length))
 all_goals
  go_enter Tryz.func35,Tryz.ntmps35
  go_wp2_with (first|(go_at_call 51;refine(a4u f _ _).mono ?_;(first|rw[h0]|skip);rintro e z ⟨rfl,rfl⟩)|(go_at_call 52;refine(a4v f _ _).mono ?_;(first|rw[h0]|skip);rintro e z ⟨rfl,rfl⟩))
  go_ret
  refine⟨ret_bool (by simp_all),?_⟩
  repeat(first|exact bz0|refine q1z ?_ _)
theorem ri_8(k:Int)(hk:k=8)(f:Fd)(a b c:Int)(i:Nat)(w:World) :
  Cl 35 #[f.v,.agg #[vi k,vi a,vi b,vi c],vi i] w fun e z=>e=.returned (.bool ((belB a f.is.length)&&(b == 0)&&(c == 0)))/\Bw w z:=by
 subst hk;cases h0:(belB a f.is.length) <;> cases h1:(b == 0)
 all_goals
  go_enter Tryz.func35,Tryz.ntmps35
  go_wp2_with (first|(go_at_call 51;refine(a4u f _ _).mono ?_;(first|rw[h0]|skip);rintro e z ⟨rfl,rfl⟩)|(go_at_call 52;refine(a4v f _ _).mono ?_;(first|rw[h0]|skip);rintro e z ⟨rfl,rfl⟩))
  go_ret
  refine⟨ret_bool (by simp_all),?_⟩
  repeat(first|exact bz0|refine q1z ?_ _)
theorem ri_9(k:Int)(hk:k=9)(f:Fd)(a b c:Int)(i:Nat)(w:World) :
  Cl 35 #[f.v,.agg #[vi k,vi a,vi b,vi c],vi i] w fun e z=>e=.returned (.bool ((belB a f.r)&&(belB b f.is.length)&&(c == 0)))/\Bw w z:=by
 subst hk;cases h0:(belB a f.r) <;> cases h1:(belB b f.is.length)
 all_goals
  go_enter Tryz.func35,Tryz.ntmps35
  go_wp2_with (first|(go_at_call 51;refine(a4u f _ _).mono ?_;(first|rw[h0]|rw[h1]|skip);rintro e z ⟨rfl,rfl⟩)|(go_at_call 52;refine(a4v f _ _).mono ?_;(first|rw[h0]|rw[h1]|skip);rintro e z ⟨rfl,rfl⟩))
  go_ret
  refine⟨ret_bool (by simp_all),?_⟩
  repeat(first|exact bz0|refine q1z ?_ _)
theorem d7m(k:Int)(hk:k=10)(f:Fd)(a b c:Int)(i:Nat)(w:World) :
  Cl 35 #[f.v,.agg #[vi k,vi a,vi b,vi c],vi i] w fun e z=>e=.returned (.bool ((decide (0<=a))&&(decide (a<=i))&&(b == 0)&&(c == 0)))/\Bw w z:=by
 subst hk;cases h0:(decide (0<=a)) <;> cases h1:(decide (a<=i)) <;> cases h2:(b == 0)
 all_goals
  go_enter Tryz.func35,Tryz.ntmps35
  go_wp2_with (first|(go_at_call 51;refine(a4u f _ _).mono ?_;(first|skip|skip);rintro e z ⟨rfl,rfl⟩)|(go_at_call 52;refine(a4v f _ _).mono ?_;(first|skip|skip);rintro e z ⟨rfl,rfl⟩))
  go_ret
  refine⟨ret_bool (by simp_all),?_⟩
  repeat(first|exact bz0|refine q1z ?_ _)
theorem d7n(k:Int)(hk:k=11)(f:Fd)(a b c:Int)(i:Nat)(w:World) :
  Cl 35 #[f.v,.agg #[vi k,vi a,vi b,vi c],vi i] w fun e z=>e=.returned (.bool ((belB a f.r)&&(belB b f.r)&&(decide (0<=c))&&(decide (c<=5))&&(belB (wrap64 (b+c)) f.r)))/\Bw w z:=by
 subst hk;cases h0:(belB a f.r) <;> cases h1:(belB b f.r) <;> cases h2:(decide (0<=c)) <;> cases h3:(decide (c<=5))
 all_goals
  go_enter Tryz.func35,Tryz.ntmps35
  go_wp2_with (first|(go_at_call 51;refine(a4u f _ _).mono ?_;(first|rw[h0]|rw[h1]|skip);rintro e z ⟨rfl,rfl⟩)|(go_at_call 52;refine(a4v f _ _).mono ?_;(first|rw[h0]|rw[h1]|skip);rintro e z ⟨rfl,rfl⟩))
  go_ret
  refine⟨ret_bool (by simp_all),?_⟩
  repeat(first|exact bz0|refine q1z ?_ _)
theorem d4r(f:Fd)(op a b c:Int)(i:Nat)(w:World)(h:20<op)(h2:11<wrap64 (op-20)) :
  Cl 35 #[f.v,.agg #[vi op,vi a,vi b,vi c],vi i] w fun e z=>e=.returned (.bool false)/\Bw w z:=by
 go_enter Tryz.func35,Tryz.ntmps35
 go_wp2
 go_ret
 refine⟨rfl,?_⟩
 repeat(first|exact bz0|refine q1z ?_ _)
theorem d1d(f:Fd)(op a b c:Int)(i:Nat)(w:World)(h:¬20<op)(h1:(op == 1)=false)(h2:(op == 2)=false)(h3:(op == 3)=false)(h4:(op == 4)=false)(h5:(op == 5)=false)(h6:(op == 6)=false)(h7:(op == 7)=false)(h8:(op == 8)=false)(h9:(op == 9)=false)(h10:(op == 10)=false)(h11:(op == 11)=false)(h12:(op == 12)=false)(h13:(op == 13)=false) :
  Cl 35 #[f.v,.agg #[vi op,vi a,vi b,vi c],vi i] w fun e z=>e=.returned (.bool false)/\Bw w z:=by
 go_enter Tryz.func35,Tryz.ntmps35
 go_wp2
 go_ret
 refine⟨rfl,?_⟩
 repeat(first|exact bz0|refine q1z ?_ _)
theorem d4s(f:Fd)(x:Od)(i:Nat)(w:World):RIn f x i w (a1r f x i):=by
 by_cases g_ri_abc:x.op=4\/x.op=5\/x.op=7\/x.op=21\/x.op=22\/x.op=23\/x.op=24\/x.op=25\/x.op=26\/x.op=27\/x.op=28\/x.op=29
 ·have e:a1r f x i=((belB x.a f.r)&&(belB x.b f.r)&&(belB x.c f.r)):=by rcases g_ri_abc with h|h|h|h|h|h|h|h|h|h|h|h <;> simp[a1r,h,a4b,belB,frB,argB,Bool.and_assoc]
  rw[RIn,e]
  exact d4q x.op g_ri_abc f x.a x.b x.c i w
 by_cases g_ri_ab:x.op=1\/x.op=6\/x.op=30\/x.op=31
 ·have e:a1r f x i=((belB x.a f.r)&&(belB x.b f.r)&&(x.c == 0)):=by rcases g_ri_ab with h|h|h|h <;> simp[a1r,h,a4b,belB,frB,argB,Bool.and_assoc]
  rw[RIn,e]
  exact d7l x.op g_ri_ab f x.a x.b x.c i w
 by_cases g_ri_a:x.op=3\/x.op=12\/x.op=13
 ·have e:a1r f x i=((belB x.a f.r)&&(x.b == 0)&&(x.c == 0)):=by rcases g_ri_a with h|h|h <;> simp[a1r,h,a4b,belB,frB,argB,Bool.and_assoc]
  rw[RIn,e]
  exact ri_a x.op g_ri_a f x.a x.b x.c i w
 by_cases g_ri_2:x.op=2
 ·have e:a1r f x i=((belB x.a f.r)&&(decide (0<=x.b))&&(decide (x.b<f.cs.length))&&(x.c == 0)):=by simp[a1r,g_ri_2,a4b,belB,frB,argB,Bool.and_assoc]
  rw[RIn,e]
  exact ri_2 x.op g_ri_2 f x.a x.b x.c i w
 by_cases g_ri_8:x.op=8
 ·have e:a1r f x i=((belB x.a f.is.length)&&(x.b == 0)&&(x.c == 0)):=by simp[a1r,g_ri_8,a4b,belB,frB,argB,Bool.and_assoc]
  rw[RIn,e]
  exact ri_8 x.op g_ri_8 f x.a x.b x.c i w
 by_cases g_ri_9:x.op=9
 ·have e:a1r f x i=((belB x.a f.r)&&(belB x.b f.is.length)&&(x.c == 0)):=by simp[a1r,g_ri_9,a4b,belB,frB,argB,Bool.and_assoc]
  rw[RIn,e]
  exact ri_9 x.op g_ri_9 f x.a x.b x.c i w
 by_cases g_ri_10:x.op=10
 ·have e:a1r f x i=((decide (0<=x.a))&&(decide (x.a<=i))&&(x.b == 0)&&(x.c == 0)):=by simp[a1r,g_ri_10,a4b,belB,frB,argB,Bool.and_assoc]
  rw[RIn,e]
  exact d7m x.op g_ri_10 f x.a x.b x.c i w
 by_cases g_ri_11:x.op=11
 ·have e:a1r f x i=((belB x.a f.r)&&(belB x.b f.r)&&(decide (0<=x.c))&&(decide (x.c<=5))&&(belB (wrap64 (x.b+x.c)) f.r)):=by simp[a1r,g_ri_11,a4b,belB,frB,argB,Bool.and_assoc]
  rw[RIn,e]
  exact d7n x.op g_ri_11 f x.a x.b x.c i w
 have o:∀n:Int,(1<=n/\n<=13)\/(21<=n/\n<=31)->x.op≠n:=fun n hn e=>by omega
 have hn:a4b x.op=none:=by
  unfold a4b
  repeat' split
  all_goals first|rfl|omega
 have e:a1r f x i=false:=by simp[a1r,hn]
 rw[e]
 have z:-9223372036854775808<=x.op/\x.op<=9223372036854775807:=by simpa[Lit.wf,IntKind.min,IntKind.max,IntKind.signed,IntKind.bits]using x.wo
 by_cases h20:20<x.op
 ·exact d4r f x.op x.a x.b x.c i w h20 (by rw[b3l (by omega) (by omega)];have:=o x.op;omega)
 ·have key:∀n:Int,1<=n/\n<=13->(x.op == n)=false:=fun n hn=>by simpa using o n (.inl hn)
  exact d1d f x.op x.a x.b x.c i w h20 (key 1 (by omega)) (key 2 (by omega)) (key 3 (by omega)) (key 4 (by omega)) (key 5 (by omega)) (key 6 (by omega)) (key 7 (by omega)) (key 8 (by omega)) (key 9 (by omega)) (key 10 (by omega)) (key 11 (by omega)) (key 12 (by omega)) (key 13 (by omega))
end Go.Proofs.YtomniogfpfbolaaGreatDoor.V
