import Derived.Test.YtomniogfpfbolaaGreatDoorS01
import Derived.Laws.IdiomRangeMap
namespace Go.Proofs.YtomniogfpfbolaaGreatDoor
open Go Go.RowKit
set_option maxRecDepth 100000
set_option maxHeartbeats 8000000
set_option linter.all false
variable {α:Type} {d:TypeDesc} {P:Program} {w:World} {T K E:TypeId} {B:Nat}
structure KeyK {α:Type} (d:TypeDesc) (kf:α->Value):Prop where
 inj:∀a b,kf a=kf b->a=b
 key:∀a,MapKept.IsKey d (kf a)
def ents {α:Type} (kf:α->Value) (kv:List (α×Value)):Array MapEntry:=(kv.mapIdx fun i p=>{ key:=kf p.1,val:=p.2,born:=i:MapEntry }).toArray
def a0f {α:Type} (kf:α->Value) (kv:List (α×Value)):Obj:=.map (ents kf kv) kv.length
theorem b1v{α:Type}{kf:α->Value}{kv:List (α×Value)}{e:MapEntry}(h:e∈(ents kf kv).toList):∃i p,kv[i]?=some p/\e={ key:=kf p.1,val:=p.2,born:=i }:=by
 unfold ents at h
 simp only[List.mem_mapIdx]at h
 obtain⟨i,z,rfl⟩:=h
 exact⟨i,kv[i],List.getElem?_eq_getElem z,rfl⟩
theorem b7c{α:Type}{kf:α->Value}{kv:List (α×Value)}{i:Nat}{p:α×Value}(h:kv[i]?=some p):({ key:=kf p.1,val:=p.2,born:=i } : MapEntry)∈(ents kf kv).toList:=by
 unfold ents
 simp only[List.mem_mapIdx]
 obtain⟨z,rfl⟩:=List.getElem?_eq_some_iff.1 h
 exact⟨i,z,rfl⟩
theorem c0v(kf:α->Value)(kv:List (α×Value))(k:α)(v:Value):(ents kf kv).push { key:=kf k,val:=v,born:=kv.length }=ents kf (kv++[(k,v)]):=by
 unfold ents
 simp
theorem b1w[BEq α][LawfulBEq α]{kv:List (α×Value)}{k:α}{v:Value}(hd:(kv.map (·.1)).Nodup)(h:(k,v)∈kv):kv.lookup k=some v:=by
 induction kv with
 | nil=>simp at h
 | cons p l ih =>
  obtain⟨x,w⟩:=p
  simp only[List.map_cons,List.nodup_cons]at hd
  rcases List.mem_cons.1 h with e|y
  ·cases e
   simp[List.lookup]
  ·have z:¬k=x:=fun e=>hd.1 (by subst e;exact List.mem_map.2 ⟨(k,v),y,rfl⟩)
   rw[List.lookup_cons,beq_false_of_ne z]
   exact ih hd.2 y
theorem a6b[BEq α][LawfulBEq α]{kv:List (α×Value)}{k:α}(h:∀p∈kv,p.1≠k):kv.lookup k=none:=by
 induction kv with
 | nil=>rfl
 | cons p l ih =>
  obtain⟨y,x⟩:=p
  have z:¬k=y:=fun e=>h (y,x) (by simp) e.symm
  rw[List.lookup_cons,beq_false_of_ne z]
  exact ih fun q hq=>h q (by simp[hq])
theorem c0w[BEq α][LawfulBEq α]{kf:α->Value}(hk:KeyK d kf)(kv:List (α×Value))(hd:(kv.map (·.1)).Nodup)(k:α) :
  ∃r,Instr.findNow d (kf k) (ents kf kv).toList 0=some r/\r.map (·.2)=kv.lookup k:=by
 rcases MapKept.findNow_spec (hk.key k) (ents kf kv).toList 0 (fun x y=>by obtain⟨i,p,_,rfl⟩:=b1v y;exact hk.key _) with⟨h1,h2⟩|⟨j,e,h1,h2,h3⟩
 ·refine⟨_,h1,?_⟩
  rw[a6b]
  ·rfl
  intro p z e
  obtain⟨i,w⟩:=List.getElem?_of_mem z
  exact h2 _ (b7c (kf:=kf) w) (congrArg kf e)
 ·refine⟨_,h1,?_⟩
  obtain⟨i,p,z,rfl⟩:=b1v (List.mem_of_getElem? h2)
  have:p.1=k:=hk.inj _ _ h3
  subst this
  rw[b1w hd (List.mem_of_getElem? z)]
  rfl
theorem a5m[BEq α][LawfulBEq α]{kf:α->Value}{kv:List (α×Value)}(ht:P.underlying T=some (.map K E))(hK:P.underlying K=some d)(hk:KeyK d kf)(hm:w.heap[B]?=some (a0f kf kv))(hd:(kv.map (·.1)).Nodup){z:Value}(hz:(zeroValue E).run P w=.ok z w)(k:α)(ok:Bool) :
  (Instr.lookup T (.map (some B)) (kf k) ok).run P w=.ok (if ok then .tuple #[(kv.lookup k).getD z,.bool (kv.lookup k).isSome] else (kv.lookup k).getD z) w:=by
 obtain⟨r,y,u⟩:=c0w hk kv hd k
 have x:∀b,(Instr.checkKey b 10000 K (kf k)).run P w=.ok () w:=fun b=>MapKept.run_checkKey hK (hk.key k) b 9999
 unfold a0f at hm
 rw[<- u]
 cases r with
 | none=>simp[Instr.lookup,run_underlying ht,MapKept.run_getObj_map hm,x,MapKept.run_findKey hK y,Result.andThen,hz]
 | some q =>
  obtain⟨j,v⟩:=q
  simp[Instr.lookup,run_underlying ht,MapKept.run_getObj_map hm,x,MapKept.run_findKey hK y,Result.andThen]
theorem a9p[BEq α][LawfulBEq α]{kf:α->Value}{kv:List (α×Value)}(ht:P.underlying T=some (.map K E))(hK:P.underlying K=some d)(hk:KeyK d kf)(hm:w.heap[B]?=some (a0f kf kv))(hd:(kv.map (·.1)).Nodup)(k:α)(hn:kv.lookup k=none)(v:Value) :
  (Instr.mapUpdate T (.map (some B)) (kf k) v).run P w=.ok () { w with heap:=w.heap.setIfInBounds B (a0f kf (kv++[(k,v)])) }:=by
 obtain⟨r,y,z⟩:=c0w hk kv hd k
 have x:(Instr.checkKey false 10000 K (kf k)).run P w=.ok () w:=MapKept.run_checkKey hK (hk.key k) false 9999
 rw[hn]at z
 cases r with
 | some q=>simp at z
 | none =>
  unfold a0f at hm⊢
  rw[<- c0v]
  simp[Instr.mapUpdate,run_underlying ht,MapKept.run_getObj_map hm,x,MapKept.run_findKey hK y,Result.andThen,MapKept.run_setObj_map _ hm]
theorem a1j:KeyK .string (fun s:List UInt8=>Value.string ⟨s.toArray⟩):=⟨fun a b h=>by simpa using h,fun a=>by simp[MapKept.IsKey]⟩
theorem d0l:KeyK (.int .i64) (fun n:Int=>vi n):=⟨fun a b h=>by simpa using h,fun a=>by simp[MapKept.IsKey]⟩
end Go.Proofs.YtomniogfpfbolaaGreatDoor
