/- Tables in memory: the values, the rows of values, the pairs. -/
import Derived.RangeFuncNested
import Derived.RangeFuncBound
import Derived.Shelf.RegionOpen
import Derived.WalkKit
import Derived.OwnWalkIn
import Derived.LoopNIn
import Derived.LoopIn
import Derived.Test.YthljpnmhddfblaaGreatDoorProg
namespace Go.Proofs.YthljpnmhddfblaaGreatDoor
open Go.RowKit Go.Shelf Go
set_option maxRecDepth 100000
set_option maxHeartbeats 8000000
set_option linter.all false
section
attribute [local go_sem] Oper.semAt_some
structure Vl where
 k:Int
 n:Int
 s:ByteArray
 wk:(Lit.int .i64 k).wf=true
 wn:(Lit.int .i64 n).wf=true
 ws:s.size<=maxLen
abbrev Vl.v (x:Vl):Value:=.agg #[.int .i64 x.k,.int .i64 x.n,.string x.s]
theorem Vl.ext'{x y:Vl}(hk:x.k=y.k)(hn:x.n=y.n)(hs:x.s.toList=y.s.toList):x=y:=by
 obtain⟨k,n,s,_,_,_⟩:=x
 obtain⟨k',n',s',_,_,_⟩:=y
 simp only at hk hn hs
 subst hk hn
 have:s=s':=WideShapes.bytes_inj (by rwa [ByteArray.toList_eq,ByteArray.toList_eq]at hs)
 subst this
 rfl
structure Three (W:World) (b o:Nat) (x:Vl):Prop where
 k:W.cell? ⟨b,o,none⟩=some (.int .i64 x.k)
 n:W.cell? ⟨b,o+1,none⟩=some (.int .i64 x.n)
 s:W.cell? ⟨b,o+2,none⟩=some (.string x.s)
theorem Three.below{n₀:Nat}{A B:World}(h:Below n₀ A B){b o:Nat}{x:Vl}(hb:b<n₀)(t:Three A b o x):Three B b o x :=
 ⟨(h.cell (p:=⟨b,o,none⟩) hb).trans t.k,(h.cell (p:=⟨b,o+1,none⟩) hb).trans t.n,(h.cell (p:=⟨b,o+2,none⟩) hb).trans t.s⟩
def Row (n₀:Nat) (W:World) (sv:Value) (xs:List Vl):Prop :=
 ∃(a:Option Addr) (cap:Nat),sv=.slice a xs.length cap/\xs.length<=maxLen /\
  (xs≠[]->∃b off,a=some ⟨b,off,none⟩/\b<n₀/\∀j x,xs[j]?=some x->Three W b (off+j*3) x)
theorem Row.below{n₀:Nat}{A B:World}(h:Below n₀ A B){sv:Value}{xs:List Vl}(r:Row n₀ A sv xs):Row n₀ B sv xs:=by
 obtain⟨a,cap,e,hl,hx⟩:=r
 refine⟨a,cap,e,hl,fun hne=>?_⟩
 obtain⟨b,off,ea,hb,hc⟩:=hx hne
 exact⟨b,off,ea,hb,fun j x hj=>(hc j x hj).below h hb⟩
def Kept (m Bt:Nat) (W W':World):Prop:=Below m W W'/\W'.heap[Bt]?=W.heap[Bt]?
theorem Kept.refl(m Bt:Nat)(W:World):Kept m Bt W W:=⟨Below.refl _ _,rfl⟩
theorem Kept.trans{m Bt:Nat}{A B C:World}(h:Kept m Bt A B)(k:Kept m Bt B C):Kept m Bt A C:=⟨h.1.trans k.1,k.2.trans h.2⟩
theorem Kept.putObj{m Bt:Nat}{w:World}(hn:m<=w.heap.size)(hB:Bt<w.heap.size)(W:World)(l:Nat)(o o':Obj)(hl:w.heap.size<=l)(h:W.heap[l]?=some o)(h1:o.isCells=false)(h2:o.isWalk=false):Kept m Bt W (W.putObj l o') :=
 ⟨belowK_b hn W l o o' hl h h1 h2,World.putObj_heap_other (by omega)⟩
theorem take_snoc{α:Type}{zs:List α}{k:Nat}{x:α}(h:zs[k]?=some x):zs.take (k+1)=zs.take k++[x]:=by
 rw[List.take_add_one,h];rfl
end
end Go.Proofs.YthljpnmhddfblaaGreatDoor
