/- with: a pair put behind all others, in memory of its own. -/
import Derived.Deep.RegionHeld3
import Derived.Test.YthljpnmhddfblaaGreatDoorS12
import Derived.Deep.AppendLies
namespace Go.Proofs.YthljpnmhddfblaaGreatDoor
open Go.RowKit Go.Shelf Go
set_option maxRecDepth 100000
set_option maxHeartbeats 8000000
set_option linter.all false
section
variable [DecidableEq Vl]
theorem info26:(Tryz.prog.info? 25).map (fun i=>(i.zero,i.size,i.bytes))=some (some (.agg #[.int .i64 0,.int .i64 0,.string ⟨#[]⟩]),3,32):=by kernel_rfl
abbrev trio (x:Vl):List Value:=[.int .i64 x.k,.int .i64 x.n,.string x.s]
def flat (xs:List Vl):List Value:=xs.flatMap trio
theorem flat_snoc(xs:List Vl)(x:Vl):flat (xs++[x])=flat xs++trio x:=by simp[flat]
theorem flat_length(xs:List Vl):(flat xs).length=xs.length*3:=by
 induction xs with
 | nil=>rfl
 | cons x xs ih=>simp[flat]at ih⊢;omega
theorem news{W:World}{B:Nat}{x:Vl}(h:W.heap[B]?=some (bx x)):∀j u,(trio x)[j]?=some u->W.cell? ((⟨B,0,none⟩:Addr).add j)=some u:=World.news_of_block (cs:=#[.int .i64 x.k,.int .i64 x.n,.string x.s]) h
def swap (k v:Vl) (p:Vl×Vl):Vl×Vl:=if p.1=k then (p.1,v) else p
theorem put2_same{W:World}{B:Nat}{p q p' q':Value}(h:W.heap[B]?=some (.cells #[p,q] 79)):((W.setCell ⟨B,0,none⟩ p').setCell ⟨B,1,none⟩ q').heap[B]?=some (.cells #[p',q'] 79):=set_block _ (set_block _ h)
theorem put2_other(W:World){B C:Nat}(p q:Value)(h:C≠B):((W.setCell ⟨B,0,none⟩ p).setCell ⟨B,1,none⟩ q).heap[C]?=W.heap[C]?:=(set1_other _ _ h).trans (set1_other _ _ h)
theorem put2_below{m:Nat}{w W:World}{B:Nat}(p q:Value)(h:Below m w W)(hB:m<=B):Below m w ((W.setCell ⟨B,0,none⟩ p).setCell ⟨B,1,none⟩ q):=(h.setCell (p:=⟨B,0,none⟩) hB _).setCell (p:=⟨B,1,none⟩) hB _
end
section
attribute [local go_sem] Oper.semAt_some
variable [DecidableEq Vl]
end
section
variable [DecidableEq Vl]
end
end Go.Proofs.YthljpnmhddfblaaGreatDoor
