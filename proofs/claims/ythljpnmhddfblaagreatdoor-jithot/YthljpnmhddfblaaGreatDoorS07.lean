/- Values as the keys of a map: what a count of them says. -/
import Derived.Maps.OwnIn
import Derived.WideKeyEntry
import Derived.DeepKeys4
import Derived.Test.YthljpnmhddfblaaGreatDoorS01
namespace Go.Proofs.YthljpnmhddfblaaGreatDoor
open Go.RowKit Go Go.Shelf
set_option maxRecDepth 100000
set_option maxHeartbeats 8000000
set_option linter.all false
open Go.WideMaps (KeyLaw)
open Go.WideElems (Fit findIdx_born findIdx_arr modify_last set_self)
open Go.ChangeMaps (setBlock modify_eq_set)
theorem laidOut:laidOutB Tryz.prog=true:=by kernel_rfl
def kl (x:Vl):Lit:=.string (keyBytes [.int .i64 x.k,.int .i64 x.n,.string x.s.data.toList])
theorem cells26:Tryz.prog.cellsOf 25=3:=by kernel_rfl
theorem cells3:Tryz.prog.cellsOf 3=1:=by kernel_rfl
theorem cells2:Tryz.prog.cellsOf 2=1:=by kernel_rfl
theorem cells9:Tryz.prog.cellsOf 9=1:=by kernel_rfl
theorem many:∃m,Tryz.prog.types.size=m+1:=⟨265,by kernel_rfl⟩
theorem keyLits(x:Vl):Tryz.prog.keyLits (Tryz.prog.types.size+1) 25 x.v.cells.toList=some [.int .i64 x.k,.int .i64 x.n,.string x.s.data.toList]:=by
 obtain⟨m,hm⟩:=many
 rw[hm]
 have u:=Tryz.underlying25
 have u2:=Tryz.underlying2
 have u3:=Tryz.underlying3
 have u9:=Tryz.underlying9
 simp[Program.keyLits,u,u2,u3,u9,cells26,cells2,cells3,cells9,Value.cells,x.wk,x.wn,x.ws]
theorem pair_ne{α:Type}{r:α->α->Prop}{l:List α}(h:l.Pairwise r){i j:Nat}{a b:α}(ha:l[i]?=some a)(hb:l[j]?=some b)(hij:i<j):r a b:=by
 obtain⟨hi,rfl⟩:=List.getElem?_eq_some_iff.1 ha
 obtain⟨hj,rfl⟩:=List.getElem?_eq_some_iff.1 hb
 exact List.pairwise_iff_getElem.1 h i j hi hj hij
section
variable {H:Type} {P:Program} {w:World} {t k e:TypeId} {R:Value->Option (DataW H×List MemPlace)} {b:Nat} {es:Array MapEntry} {clock:Nat}
theorem entry_all(K:KeyLaw P k)(ht:P.underlying t=some (.map k e)){z:Value}(hz:∀u:World,(zeroValue e).run P u=.ok z u)(hb:w.heap[b]?=some (.map es clock))(F:Fit P k R es clock)
  {key:Value} {kl:Lit} (hkey:keyOf P k key=some kl) :
  ∃(v:Value) (st:Nat) (es1:Array MapEntry) (clock1:Nat),(Instr.mapEntry t (.map (some b)) key).run P w=.ok (.tuple #[v,goInt st]) (setBlock w b (.map es1 clock1)) /\
   (Instr.lookup t (.map (some b)) key false).run P w=.ok v w /\
   (Instr.lookup t (.map (some b)) key false).run P (setBlock w b (.map es1 clock1))=.ok v (setBlock w b (.map es1 clock1)) /\
   ∀(val:Value),∃es' clock',(Instr.entryStore t (.map (some b)) (goInt st) val).run P (setBlock w b (.map es1 clock1))=.ok () (setBlock (setBlock w b (.map es1 clock1)) b (.map es' clock')) /\
    (Instr.mapUpdate t (.map (some b)) key val).run P w=.ok () (setBlock w b (.map es' clock')):=by
 obtain⟨s1,s2,_⟩:=F.stamped
 have hb1:∀es1 clock1,(setBlock w b (.map es1 clock1)).heap[b]?=some (.map es1 clock1):=fun _ _=>ChangeMaps.heap_setBlock_same hb _
 rcases K.find w hkey es.toList F.keys with⟨h1,h2⟩|⟨j,e0,h1,h2,h3⟩
 ·refine⟨z,clock,es.push ⟨key,z,clock⟩,clock+1,?_,?_,?_,fun val=>⟨es.push ⟨key,val,clock⟩,clock+1,?_,?_⟩⟩
  ·simp[Instr.mapEntry,run_underlying ht,MapKept.run_getObj_map hb,K.check w false hkey,h1,hz,MapKept.run_setObj_map _ hb,Result.andThen,setBlock]
  ·simp[Instr.lookup,run_underlying ht,MapKept.run_getObj_map hb,K.check w _ hkey,h1,hz,Result.andThen]
  ·have hw2:=hb1 (es.push ⟨key,z,clock⟩) (clock+1)
   rcases K.find (setBlock w b (.map (es.push ⟨key,z,clock⟩) (clock+1))) hkey (es.push ⟨key,z,clock⟩).toList (by
    intro x hx
    rcases(by simpa using hx:x∈es\/x=⟨key,z,clock⟩)with hx|rfl
    ·exact F.keys x (by simpa using hx)
    ·exact⟨_,hkey⟩) with⟨_,g2⟩|⟨i,e1,g1,g2,g3⟩
   ·exact absurd rfl (g2 ⟨key,z,clock⟩ (by simp))
   ·have hv:e1.val=z:=by
     have:=List.mem_of_getElem? g2
     rcases(by simpa using this:e1∈es\/e1=⟨key,z,clock⟩)with hx|rfl
     ·exact absurd g3 (h2 e1 (by simpa using hx))
     ·rfl
    simp only[Array.toList_push]at g1
    simp[Instr.lookup,run_underlying ht,MapKept.run_getObj_map hw2,K.check _ _ hkey,g1,hv,Result.andThen]
  ·have hw2:=hb1 (es.push ⟨key,z,clock⟩) (clock+1)
   have hidx:(es.push ⟨key,z,clock⟩).findIdx? (fun e=>((e.born:Nat):Int) == ((clock:Nat):Int))=some es.size:=by
    rw[findIdx_arr]
    have:=findIdx_born (l:=(es.push ⟨key,z,clock⟩).toList) (j:=es.size) (e0:=⟨key,z,clock⟩) (by
     simp only[Array.toList_push,List.map_append,List.map_cons,List.map_nil]
     refine List.nodup_append.2 ⟨s2,by simp,fun a ha c hc e1=>?_⟩
     simp only[List.mem_singleton]at hc
     obtain⟨x,hx,rfl⟩:=List.mem_map.1 ha
     have:=s1 x hx
     omega) (by simp)
    exact this
   have hmod:(es.push ⟨key,z,clock⟩).modify es.size (fun e=>{ e with val:=val })=es.push ⟨key,val,clock⟩:=by
    apply Array.ext'
    rw[Array.toList_modify,Array.toList_push,Array.toList_push,<- Array.length_toList,modify_last]
   generalize setBlock w b _=w2 at hw2⊢
   simp[Instr.entryStore,MapKept.run_getObj_map hw2,asInt,asIntOf,goInt,hidx,hmod,MapKept.run_setObj_map _ hw2,Result.andThen,setBlock]
  ·simp[Instr.mapUpdate,run_underlying ht,MapKept.run_getObj_map hb,K.check w false hkey,h1,MapKept.run_setObj_map _ hb,Result.andThen,setBlock]
 ·have hj:es[j]?=some e0:=by simpa using h2
  have hsame:es.modify j (fun e=>{ e with key:=key })=es:=by
   apply Array.ext'
   rw[Array.toList_modify,modify_eq_set _ _ _ _ h2]
   have:({ e0 with key:=key } : MapEntry)=e0:=by rw[<- h3]
   rw[this]
   exact set_self _ _ _ h2
  have hw2:=hb1 es clock
  refine⟨e0.val,e0.born,es,clock,?_,?_,?_,fun val=>⟨es.modify j (fun e'=>{ e' with key:=key,val:=val }),clock,?_,?_⟩⟩
  ·simp[Instr.mapEntry,run_underlying ht,MapKept.run_getObj_map hb,K.check w false hkey,h1,hj,h3,K.stays w hkey,hsame,MapKept.run_setObj_map _ hb,Result.andThen,setBlock]
  ·simp[Instr.lookup,run_underlying ht,MapKept.run_getObj_map hb,K.check w _ hkey,h1,Result.andThen]
  ·rcases K.find (setBlock w b (.map es clock)) hkey es.toList F.keys with⟨_,g2⟩|⟨i,e1,g1,g2,g3⟩
   ·exact absurd h3 (g2 e0 (List.mem_of_getElem? h2))
   ·have hv:e1.val=e0.val:=by
     have hn:es.toList.Pairwise (fun x y=>x.key≠y.key):=((MapKept.stamped_iff es clock).1 F.stamped).2.2
     have:i=j:=by
      rcases Nat.lt_trichotomy i j with h|h|h
      ·exact absurd (g3.trans h3.symm) (pair_ne hn g2 h2 h)
      ·exact h
      ·exact absurd (h3.trans g3.symm) (pair_ne hn h2 g2 h)
     subst this
     rw[g2]at h2
     cases h2
     rfl
    simp[Instr.lookup,run_underlying ht,MapKept.run_getObj_map hw2,K.check _ _ hkey,g1,hv,Result.andThen]
  ·have hidx:es.findIdx? (fun e=>((e.born:Nat):Int) == ((e0.born:Nat):Int))=some j:=by
    rw[findIdx_arr]
    exact findIdx_born s2 h2
   have hmod:es.modify j (fun e=>{ e with val:=val })=es.modify j (fun e'=>{ e' with key:=key,val:=val }):=by
    apply Array.ext'
    rw[Array.toList_modify,Array.toList_modify,modify_eq_set _ _ _ _ h2,modify_eq_set _ _ _ _ h2,<- h3]
   generalize setBlock w b _=w2 at hw2⊢
   simp[Instr.entryStore,MapKept.run_getObj_map hw2,asInt,asIntOf,goInt,hidx,hmod,MapKept.run_setObj_map _ hw2,Result.andThen,setBlock]
  ·simp[Instr.mapUpdate,run_underlying ht,MapKept.run_getObj_map hb,K.check w false hkey,h1,hj,h3,K.stays w hkey,MapKept.run_setObj_map _ hb,Result.andThen,setBlock]
end
theorem setBlock_twice(w:World)(b:Nat)(o o':Obj):setBlock (setBlock w b o) b o'=setBlock w b o':=by
 simp[setBlock]
/-! What the count says. -/
section
attribute [local go_sem] Oper.semAt_some
theorem kept_of_below{m Bt:Nat}{W W':World}(h:Below W.heap.size W W')(hm:m<=W.heap.size)(hB:Bt<W.heap.size):Kept m Bt W W':=⟨h.mono hm,h.block Bt hB⟩
theorem keepsFrom_of_below{B:Nat}{W W':World}(h:Below W.heap.size W W'):KeepsFrom B W W':=⟨h.size,fun k _ _ hk _=>(h.block k (Array.getElem?_eq_some_iff.1 hk).1).trans hk⟩
end
end Go.Proofs.YthljpnmhddfblaaGreatDoor
