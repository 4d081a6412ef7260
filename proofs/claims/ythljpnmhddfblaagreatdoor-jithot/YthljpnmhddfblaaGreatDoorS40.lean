/- A region in a round: by the walk of a region outside all rounds. -/
import Derived.Test.YthljpnmhddfblaaGreatDoorS39
import Derived.StillTail
namespace Go.Proofs.YthljpnmhddfblaaGreatDoor
open Go.RowKit Go.Shelf Go
set_option maxRecDepth 100000
set_option maxHeartbeats 8000000
set_option linter.all false
def noDefer (l:List Oper):Bool:=l.all fun o=>match o.op with|.defer _=>false|_=>true
section
variable {P:Program} {ops:Array Oper} {l n:Nat} {K:Act->World->Prop}
abbrev QN (K:Act->World->Prop):Exit->Act->World->Prop:=Exit.then K (fun _ _ _=>False)
theorem qn_lets:¬LetsOut (QN K):=fun⟨_,_,h⟩=>h
theorem opIn_of{o:Oper}(ho:∀c,o.op≠.defer c){X:Act->World->Prop}{a:Act}{w:World}(h:o.wp P a w X (QN K)):Oper.wpIn (Fence.wide.inRound l) n P o a w X (QN K):=by
 refine⟨fun f _=>trivial,?_⟩
 rw[show(Fence.wide.inRound l).round=some l from rfl,Oper.semAt_some l _ _ ho]
 unfold Oper.wp at h
 generalize (execOp a.eval o).run P w=r at *
 cases r with
 | ok x w' =>
  cases x with
  | value v=>exact h
  | skip=>exact h
  | defer d=>exact h
  | enter f args =>
   refine⟨fun hh=>by simp[Fence.inRound,Fence.wide]at hh,?_⟩
   have h':Calls P f args w' _:=h
   exact CallsIn.inRound l (callsIn_wide.2 h')
  | row r args =>
   refine⟨fun hh=>by simp[Fence.inRound,Fence.wide]at hh,?_⟩
   have h':Rows P r args w' _:=h
   exact fun c cs _=>let ⟨v,w2,q,s⟩:=h' c cs;⟨v,w2,q,stepsIn_wide.2 s⟩
  | _=>exact False.elim h
 | halt x w' =>
  cases x <;> simp only[Oper.upon,Oper.uponIn]at h⊢ <;> exact h
theorem wpOpIn_of(hd:noDefer ops.toList=true){i:Nat}{X:Act->World->Prop}{a:Act}{w:World}(h:wpOp P ops (QN K) i X a w):wpOpIn (Fence.wide.inRound l) n P ops (QN K) i X a w:=by
 unfold wpOp at h
 unfold wpOpIn
 cases ho:ops[i]? with
 | none=>simpa[ho]using h
 | some o =>
  simp only[ho]at h⊢
  have hno:∀c,o.op≠.defer c:=fun c e=>by
   have hm:o∈ops.toList:=by
    have:=Array.mem_of_getElem? ho
    simpa using this
   have:=List.all_eq_true.1 hd o hm
   rw[e]at this
   cases this
  split
  ·rename_i hw
   rw[if_pos hw]at h
   rcases h with h|h
   ·exact opIn_of hno h
   ·exact absurd h.2 qn_lets
  ·rename_i hw
   rw[if_neg hw]at h
   exact⟨fun _ _=>trivial,h⟩
theorem wpAnyIn_of(hd:noDefer ops.toList=true):∀(fuel:Nat) (listed:Array Bool) (a:Act) (w:World),wpAny P .any ops (QN K) fuel listed a w->wpAnyIn (Fence.wide.inRound l) n P .any ops (QN K) fuel listed a w
 | 0,_,_,_,h=>h
 | fuel+1,listed,a,w,h=>⟨h.1,fun i hi=>wpOpIn_mono (fun a' w'=>wpAnyIn_of hd fuel _ a' w') (wpOpIn_of hd (h.2 i hi))⟩
theorem region_round_any{id:Nat}{S:World->Prop}{Q:Exit->Act->World->Prop}{a:Act}{w:World}(hm:P.follows .mixedOrders=true)(hd:noDefer ops.toList=true)(hS:S w.drew)(h:S w.drew->wpAnyH P .any ops (QN (fun a w=>Q .normal a w)) S ops.size (Array.replicate ops.size false) a w.drew):(Code.region id ops true).wpIn (Fence.wide.inRound l) n P Q a w:=by
 refine wpIn_mono (wpIn_region_any hm (wpAnyIn_of hd _ _ _ _ (wpAny_of_held _ _ _ _ (h hS)))) ?_
 intro e a w h
 cases e <;> first|exact h|exact h.elim
theorem region_round_held{id:Nat}{S:World->Prop}{Q':Exit->Act->World->Prop}{a:Act}{w:World}(hm:P.follows .mixedOrders=true)(hd:noDefer ops.toList=true)(hS:S w.drew)(h:S w.drew->wpAnyH P .any ops (QN K) S ops.size (Array.replicate ops.size false) a w.drew):(Code.region id ops true).wpIn (Fence.wide.inRound l) n P (Exit.then K Q') a w :=
 region_round_any hm hd hS h
end
end Go.Proofs.YthljpnmhddfblaaGreatDoor
