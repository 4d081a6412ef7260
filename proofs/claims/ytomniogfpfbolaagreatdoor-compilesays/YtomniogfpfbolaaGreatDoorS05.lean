import Derived.Test.YtomniogfpfbolaaGreatDoorS01
import Derived.RangeFuncNested
import Derived.RangeFuncBound
import Derived.Shelf.RegionOpen
import Derived.WalkKit
import Derived.OwnWalkIn
import Derived.LoopNIn
import Derived.LoopIn
namespace Go.Proofs.YtomniogfpfbolaaGreatDoor.V
open Go.RowKit Go.Shelf Go
set_option maxRecDepth 100000
set_option maxHeartbeats 8000000
set_option linter.all false
section
attribute [local go_sem] Oper.semAt_some
structure Vl where
 k:Int
 n:Int
 s:ByteArray
 wk:(Lit.int .i64 k).wf=true
 wn:(Lit.int .i64 n).wf=true
 ws:s.size<=maxLen
abbrev Vl.v (x:Vl):Value:=.agg #[vi x.k,vi x.n,.string x.s]
structure b8o (W:World) (b o:Nat) (x:Vl):Prop where
 k:W.cell? (Ad b o)=some (vi x.k)
 n:W.cell? (Ad b (o+1))=some (vi x.n)
 s:W.cell? (Ad b (o+2))=some (.string x.s)
theorem b8o.below{n₀:Nat}{A B:World}(h:Below n₀ A B){b o:Nat}{x:Vl}(hb:b<n₀)(t:b8o A b o x):b8o B b o x :=
 ⟨(h.cell (p:=(Ad b o)) hb).trans t.k,(h.cell (p:=(Ad b (o+1))) hb).trans t.n,(h.cell (p:=(Ad b (o+2))) hb).trans t.s⟩
end
end Go.Proofs.YtomniogfpfbolaaGreatDoor.V
