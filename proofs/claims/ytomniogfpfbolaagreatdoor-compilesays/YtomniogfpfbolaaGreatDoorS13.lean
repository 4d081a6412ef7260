import Derived.Test.YtomniogfpfbolaaGreatDoorS05
import Derived.Test.YtomniogfpfbolaaGreatDoorS09
namespace Go.Proofs.YtomniogfpfbolaaGreatDoor.V
open Go.RowKit Go
set_option maxRecDepth 100000
set_option maxHeartbeats 8000000
set_option linter.all false
structure Od where
 op:Int
 a:Int
 b:Int
 c:Int
 wo:(Lit.int .i64 op).wf=true
 wa:(Lit.int .i64 a).wf=true
 wb:(Lit.int .i64 b).wf=true
 wc:(Lit.int .i64 c).wf=true
abbrev Od.v (x:Od):Value:=.agg #[vi x.op,vi x.a,vi x.b,vi x.c]
structure Fd where
 p:Int
 r:Int
 wp:(Lit.int .i64 p).wf=true
 wr:(Lit.int .i64 r).wf=true
 ca:Option Addr
 cc:Nat
 cs:List Vl
 ia:Option Addr
 ic:Nat
 is:List Od
abbrev Fd.cv (f:Fd):Value:=.slice f.ca f.cs.length f.cc
abbrev Fd.iv (f:Fd):Value:=.slice f.ia f.is.length f.ic
abbrev Fd.v (f:Fd):Value:=.agg #[vi f.p,vi f.r,f.cv,f.iv]
def belB (n e:Int):Bool:=decide (0<=n)&&decide (n<e)
def frB (a n b:Int):Bool:=decide (a<=n)&&decide (n<=b)
def argB (f:Fd) (x:Od) (n:Int):Bool:=frB 0 n 5&&belB (wrap64 (x.b+n)) f.r
def a4b (op:Int):Option (List Nat) :=
 if op=1\/op=6\/op=30\/op=31 then some [109,109]
 else if op=2 then some [109,110]
 else if op=3\/op=12\/op=13 then some [109]
 else if op=4\/op=5\/op=7 then some [109,109,109]
 else if op=8 then some [111]
 else if op=9 then some [109,111]
 else if op=10 then some [112]
 else if op=11 then some [109,109,113]
 else if 21<=op/\op<=29 then some [109,109,109]
 else none
abbrev fbox (f:Fd):Obj:=.cells #[vi f.p,vi f.r,f.cv,f.iv] 43
theorem a4u(f:Fd)(n:Int)(w:World):Cl 51 #[f.v,vi n] w fun e z=>e=.returned (.bool (belB n f.r))/\z=w.alloc (fbox f):=by
 rcases(Bool.eq_false_or_eq_true (decide (0<=n)))with hn|hn
 all_goals
  go_enter Tryz.func51,Tryz.ntmps51
  go_wp2
  go_ret
  exact⟨ret_bool (by simp[belB,hn]),rfl⟩
theorem a4v(f:Fd)(n:Int)(w:World):Cl 52 #[f.v,vi n] w fun e z=>e=.returned (.bool (belB n f.is.length))/\z=w.alloc (fbox f):=by
 rcases(Bool.eq_false_or_eq_true (decide (0<=n)))with hn|hn
 all_goals
  go_enter Tryz.func52,Tryz.ntmps52
  go_wp2
  go_ret
  exact⟨ret_bool (by simp[belB,hn]),rfl⟩
end Go.Proofs.YtomniogfpfbolaaGreatDoor.V
