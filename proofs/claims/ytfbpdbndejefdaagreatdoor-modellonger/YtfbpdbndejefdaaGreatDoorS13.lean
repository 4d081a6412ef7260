/- Values as the keys of a map: what a count of them says. -/
import Derived.Maps.OwnIn
import Derived.WideKeyEntry
import Derived.DeepKeys4
import Derived.Test.YtfbpdbndejefdaaGreatDoorS07
namespace Go.Proofs.YtfbpdbndejefdaaGreatDoor.V
open Go.RowKit Go Go.Shelf
set_option maxRecDepth 100000
set_option maxHeartbeats 8000000
set_option linter.all false
open Go.WideMaps (KeyLaw)
open Go.WideElems (Fit findIdx_born findIdx_arr modify_last set_self)
open Go.ChangeMaps (setBlock modify_eq_set)
variable {i:Nat} {W W':World}
theorem d0x:laidOutB Tryz.prog=true:=by kernel_rfl
theorem d9d:52<Tryz.prog.types.size:=of_decide_eq_true (by kernel_rfl)
theorem law:KeyLaw Tryz.prog 52:=deep_law_laid d0x (m:=3) (by omega) d9d (by kernel_rfl) (by kernel_rfl)
theorem d0y:Maps.Keyed Tryz.prog 52:=Maps.Keyed.of_law law
def kl (x:Vl):Lit:=.string (keyBytes [.int .i64 x.k,.int .i64 x.n,.string x.s.data.toList])
theorem keyT:Tryz.prog.keyType 52=true:=by kernel_rfl
theorem c1e:Tryz.prog.cellsOf 52=3:=by kernel_rfl
theorem d5k:Tryz.prog.cellsOf 3=1:=by kernel_rfl
theorem d5l:Tryz.prog.cellsOf 2=1:=by kernel_rfl
theorem d5m:Tryz.prog.cellsOf 9=1:=by kernel_rfl
theorem many:∃m,Tryz.prog.types.size=m+1:=⟨269,by kernel_rfl⟩
theorem keyLits(x:Vl):Tryz.prog.keyLits (Tryz.prog.types.size+1) 52 x.v.cells.toList=some [.int .i64 x.k,.int .i64 x.n,.string x.s.data.toList]:=by
 obtain⟨m,p⟩:=many
 rw[p]
 have u:=Tryz.underlying52
 have q:=Tryz.underlying2
 have y:=Tryz.underlying3
 have z:=Tryz.underlying9
 simp[Program.keyLits,u,q,y,z,c1e,d5l,d5k,d5m,Value.cells,x.wk,x.wn,x.ws]
theorem a8b(x:Vl):keyOf Tryz.prog 52 x.v=some (kl x):=by
 have u:=Tryz.underlying52
 have hf:x.v.formed Tryz.prog 52=true:=by
  simp[Value.formed,u,c1e]
 simp only[keyOf,u,keyT,hf,keyLits]
 rfl
theorem snoc_ind{α:Type}{p:List α->Prop}(nil:p [])(snoc:∀z x,p z->p (z++[x])):∀z,p z:=by
 intro z
 rw[<- List.reverse_reverse z]
 induction z.reverse with
 | nil=>exact nil
 | cons x z ih=>rw[List.reverse_cons];exact snoc _ _ ih
theorem c9i{x y:Vl}(h:kl x=kl y):x=y:=by
 have:=law.inj (a8b x) (h▸a8b y)
 simp only[Vl.v,Value.agg.injEq,Array.mk.injEq,List.cons.injEq,Value.int.injEq,Value.string.injEq,true_and,and_true]at this
 exact Vl.ext' this.1 this.2.1 (by rw[this.2.2])
theorem d0z(x:Vl):WideAt.IsKeyLit (kl x):=trivial
theorem c1f{α:Type}{r:α->α->Prop}{l:List α}(h:l.Pairwise r){j:Nat}{a b:α}(ha:l[i]?=some a)(hb:l[j]?=some b)(hij:i<j):r a b:=by
 obtain⟨y,rfl⟩:=List.getElem?_eq_some_iff.1 ha
 obtain⟨z,rfl⟩:=List.getElem?_eq_some_iff.1 hb
 exact List.pairwise_iff_getElem.1 h i j y z hij
section
variable {H:Type} {P:Program} {w:World} {t k e:TypeId} {R:Value->Option (DataW H×List MemPlace)} {b:Nat} {es:Array MapEntry} {clock:Nat}
theorem c1g(K:KeyLaw P k)(ht:P.underlying t=some (.map k e)){z:Value}(hz:∀u:World,(zeroValue e).run P u=.ok z u)(hb:w.heap[b]?=some (.map es clock))(F:Fit P k R es clock){key:Value}{kl:Lit}(hkey:keyOf P k key=some kl) :
  ∃(v:Value) (st:Nat) (p:Array MapEntry) (s:Nat),(Instr.mapEntry t (.map (some b)) key).run P w=.ok (.tuple #[v,goInt st]) (setBlock w b (.map p s)) /\
   (Instr.lookup t (.map (some b)) key false).run P w=.ok v w /\
   (Instr.lookup t (.map (some b)) key false).run P (setBlock w b (.map p s))=.ok v (setBlock w b (.map p s)) /\
   ∀(val:Value),∃z9 o,(Instr.entryStore t (.map (some b)) (goInt st) val).run P (setBlock w b (.map p s))=.ok () (setBlock (setBlock w b (.map p s)) b (.map z9 o)) /\
    (Instr.mapUpdate t (.map (some b)) key val).run P w=.ok () (setBlock w b (.map z9 o)):=by
 obtain⟨s1,s2,_⟩:=F.stamped
 have d:∀p s,(setBlock w b (.map p s)).heap[b]?=some (.map p s):=fun _ _=>ChangeMaps.heap_setBlock_same hb _
 rcases K.find w hkey es.toList F.keys with⟨h1,h2⟩|⟨j,e0,h1,h2,h3⟩
 ·refine⟨z,clock,es.push ⟨key,z,clock⟩,clock+1,?_,?_,?_,fun val=>⟨es.push ⟨key,val,clock⟩,clock+1,?_,?_⟩⟩
  ·simp[Instr.mapEntry,run_underlying ht,MapKept.run_getObj_map hb,K.check w false hkey,h1,hz,MapKept.run_setObj_map _ hb,Result.andThen,setBlock]
  ·simp[Instr.lookup,run_underlying ht,MapKept.run_getObj_map hb,K.check w _ hkey,h1,hz,Result.andThen]
  ·have q:=d (es.push ⟨key,z,clock⟩) (clock+1)
   rcases K.find (setBlock w b (.map (es.push ⟨key,z,clock⟩) (clock+1))) hkey (es.push ⟨key,z,clock⟩).toList (by
    intro x g
    rcases(by simpa using g:x∈es\/x=⟨key,z,clock⟩)with g|rfl
    ·exact F.keys x (by simpa using g)
    ·exact⟨_,hkey⟩) with⟨_,g2⟩|⟨i,e1,g1,g2,g3⟩
   ·exact absurd rfl (g2 ⟨key,z,clock⟩ (by simp))
   ·have hv:e1.val=z:=by
     have:=List.mem_of_getElem? g2
     rcases(by simpa using this:e1∈es\/e1=⟨key,z,clock⟩)with g|rfl
     ·exact absurd g3 (h2 e1 (by simpa using g))
     ·rfl
    simp only[Array.toList_push]at g1
    simp[Instr.lookup,run_underlying ht,MapKept.run_getObj_map q,K.check _ _ hkey,g1,hv,Result.andThen]
  ·have q:=d (es.push ⟨key,z,clock⟩) (clock+1)
   have m:(es.push ⟨key,z,clock⟩).findIdx? (fun e=>((e.born:Nat):Int) == ((clock:Nat):Int))=some es.size:=by
    rw[findIdx_arr]
    have:=findIdx_born (l:=(es.push ⟨key,z,clock⟩).toList) (j:=es.size) (e0:=⟨key,z,clock⟩) (by
     simp only[Array.toList_push,List.map_append,List.map_cons,List.map_nil]
     refine List.nodup_append.2 ⟨s2,by simp,fun a ha c hc e1=>?_⟩
     simp only[List.mem_singleton]at hc
     obtain⟨x,g,rfl⟩:=List.mem_map.1 ha
     have:=s1 x g
     omega) (by simp)
    exact this
   have n:(es.push ⟨key,z,clock⟩).modify es.size (fun e=>{ e with val:=val })=es.push ⟨key,val,clock⟩:=by
    apply Array.ext'
    rw[Array.toList_modify,Array.toList_push,Array.toList_push,<- Array.length_toList,modify_last]
   generalize setBlock w b _=w2 at q⊢
   simp[Instr.entryStore,MapKept.run_getObj_map q,asInt,asIntOf,goInt,m,n,MapKept.run_setObj_map _ q,Result.andThen,setBlock]
  ·simp[Instr.mapUpdate,run_underlying ht,MapKept.run_getObj_map hb,K.check w false hkey,h1,MapKept.run_setObj_map _ hb,Result.andThen,setBlock]
 ·have hj:es[j]?=some e0:=by simpa using h2
  have f:es.modify j (fun e=>{ e with key:=key })=es:=by
   apply Array.ext'
   rw[Array.toList_modify,modify_eq_set _ _ _ _ h2]
   have:({ e0 with key:=key } : MapEntry)=e0:=by rw[<- h3]
   rw[this]
   exact set_self _ _ _ h2
  have q:=d es clock
  refine⟨e0.val,e0.born,es,clock,?_,?_,?_,fun val=>⟨es.modify j (fun e'=>{ e' with key:=key,val:=val }),clock,?_,?_⟩⟩
  ·simp[Instr.mapEntry,run_underlying ht,MapKept.run_getObj_map hb,K.check w false hkey,h1,hj,h3,K.stays w hkey,f,MapKept.run_setObj_map _ hb,Result.andThen,setBlock]
  ·simp[Instr.lookup,run_underlying ht,MapKept.run_getObj_map hb,K.check w _ hkey,h1,Result.andThen]
  ·rcases K.find (setBlock w b (.map es clock)) hkey es.toList F.keys with⟨_,g2⟩|⟨i,e1,g1,g2,g3⟩
   ·exact absurd h3 (g2 e0 (List.mem_of_getElem? h2))
   ·have hv:e1.val=e0.val:=by
     have hn:es.toList.Pairwise (fun x y=>x.key≠y.key):=((MapKept.stamped_iff es clock).1 F.stamped).2.2
     have:i=j:=by
      rcases Nat.lt_trichotomy i j with h|h|h
      ·exact absurd (g3.trans h3.symm) (c1f hn g2 h2 h)
      ·exact h
      ·exact absurd (h3.trans g3.symm) (c1f hn h2 g2 h)
     subst this
     rw[g2]at h2
     cases h2
     rfl
    simp[Instr.lookup,run_underlying ht,MapKept.run_getObj_map q,K.check _ _ hkey,g1,hv,Result.andThen]
  ·have m:es.findIdx? (fun e=>((e.born:Nat):Int) == ((e0.born:Nat):Int))=some j:=by
    rw[findIdx_arr]
    exact findIdx_born s2 h2
   have n:es.modify j (fun e=>{ e with val:=val })=es.modify j (fun e'=>{ e' with key:=key,val:=val }):=by
    apply Array.ext'
    rw[Array.toList_modify,Array.toList_modify,modify_eq_set _ _ _ _ h2,modify_eq_set _ _ _ _ h2,<- h3]
   generalize setBlock w b _=w2 at q⊢
   simp[Instr.entryStore,MapKept.run_getObj_map q,asInt,asIntOf,goInt,m,n,MapKept.run_setObj_map _ q,Result.andThen,setBlock]
  ·simp[Instr.mapUpdate,run_underlying ht,MapKept.run_getObj_map hb,K.check w false hkey,h1,hj,h3,K.stays w hkey,MapKept.run_setObj_map _ hb,Result.andThen,setBlock]
end
theorem b0s(w:World)(b:Nat)(o o':Obj):setBlock (setBlock w b o) b o'=setBlock w b o':=by
 simp[setBlock]
theorem b8r{w:World}{b n:Nat}{D:DataW Unit}(h:w.ownsMap Tryz.prog 52 (plainElem Tryz.prog 3) b n D)(hn:n<maxLen)(x:Vl) :
  ∃(c:Int) (st:Nat) (w1 w2:World),(Instr.lookup 205 (.map (some b)) x.v false).run Tryz.prog w=.ok (.int .i64 c) w /\
   (Instr.mapEntry 205 (.map (some b)) x.v).run Tryz.prog w=.ok (.tuple #[.int .i64 c,.int .i64 st]) w1 /\
   (Instr.lookup 205 (.map (some b)) x.v false).run Tryz.prog w1=.ok (.int .i64 c) w1 /\
   (Instr.entryStore 205 (.map (some b)) (.int .i64 st) (.int .i64 (wrap64 (c+1)))).run Tryz.prog w1=.ok () w2 /\
   D.atKey (kl x) (.lit (.int .i64 0))=.lit (.int .i64 c)/\w2.ownsMap Tryz.prog 52 (plainElem Tryz.prog 3) b (n+1) (D.put (kl x) (.lit (.int .i64 (wrap64 (c+1)))))/\w.grownBy w2 (some b) /\
   (∀i,i≠b->w1.heap[i]?=w.heap[i]?):=by
 obtain⟨c,f,j,_⟩:=h.lookup_int d0y Tryz.underlying205 Tryz.underlying3 (Tryz.zeroValue3 _) (a8b x)
 obtain⟨w2,a,ho,hg⟩:=h.update d0y Tryz.underlying205 hn (a8b x) (plainElem_int Tryz.underlying3 (wrap64_wf (c+1)))
 obtain⟨es,clock,d,F,_,_⟩:=h
 obtain⟨v,st,z9,s,he,y,o,p⟩:=c1g law Tryz.underlying205 (fun u=>Tryz.zeroValue3 u) d F (a8b x)
 obtain⟨z8,q,g,z⟩:=p (.int .i64 (wrap64 (c+1)))
 rw[f]at y
 simp only[Result.ok.injEq,and_true]at y
 subst y
 rw[a]at z
 simp only[Result.ok.injEq,true_and]at z
 rw[b0s,<- z]at g
 exact⟨c,st,_,w2,f,he,o,g,j,ho,hg,fun i hi=>ChangeMaps.heap_setBlock_other d _ hi⟩
/-! What the count says. -/
def num:DataW Unit->Int
 | .lit (.int _ c)=>c
 | _=>0
def bump (D:DataW Unit) (x:Vl):DataW Unit:=D.put (kl x) (.lit (.int .i64 (wrap64 (num (D.atKey (kl x) (.lit (.int .i64 0)))+1))))
def a4a (xs:List Vl):DataW Unit:=xs.foldl bump (.map [])
theorem a3t(xs:List Vl)(x:Vl):a4a (xs++[x])=bump (a4a xs) x:=by simp[a4a]
theorem a5t(xs:List Vl):Maps.Tidy (a4a xs):=by
 induction xs using snoc_ind with
 | nil=>exact Maps.tidy_empty
 | snoc xs x ih=>rw[a3t];exact ih.put (d0z x) _
theorem b3l(xs:List Vl)(y:Vl):Maps.has (a4a xs) (kl y)=true↔y∈xs:=by
 induction xs using snoc_ind with
 | nil=>simp[a4a,Maps.has]
 | snoc xs x ih =>
  rw[a3t,bump]
  by_cases h:y=x
  ·subst h
   simp[Maps.has_put_same (a5t xs).isMap (d0z y)]
  ·rw[Maps.has_put_other (fun e=>h (c9i e)),ih]
   simp[h]
theorem c5u(xs:List Vl)(hl:xs.length<=1000)(y:Vl):∃c:Int,(a4a xs).atKey (kl y) (.lit (.int .i64 0))=.lit (.int .i64 c)/\0<=c/\c<=xs.length/\(0<c↔y∈xs):=by
 induction xs using snoc_ind with
 | nil=>exact⟨0,by simp[a4a,DataW.atKey],by omega,by simp,by simp⟩
 | snoc xs x ih =>
  simp at hl
  obtain⟨c,h1,h2,h3,h4⟩:=ih (by omega)
  rw[a3t,bump]
  by_cases h:y=x
  ·subst h
   have z:wrap64 (c+1)=c+1:=by unfold wrap64;omega
   refine⟨c+1,by rw[Maps.atKey_put_same (a5t xs).isMap (d0z y),h1,num,z],by omega,by simp;omega,by simp;omega⟩
  ·refine⟨c,by rw[Maps.atKey_put_other (fun e=>h (c9i e))];exact h1,h2,by simp;omega,by simp[h4,h]⟩
theorem b1x(xs:List Vl):Maps.size (a4a xs)<=xs.length:=by
 induction xs using snoc_ind with
 | nil=>simp[a4a,Maps.size]
 | snoc xs x ih =>
  rw[a3t,bump,Maps.size_put (a5t xs)]
  split <;> simp <;> omega
theorem b8s(xs:List Vl):Maps.size (a4a xs)=xs.length↔xs.Nodup:=by
 induction xs using snoc_ind with
 | nil=>simp[a4a,Maps.size]
 | snoc xs x ih =>
  have s:=b1x xs
  rw[a3t,bump,Maps.size_put (a5t xs)]
  split
  ·rename_i h
   have y:=(b3l xs x).1 h
   constructor
   ·intro z;simp at z;omega
   ·intro z
    have:=(List.nodup_append.1 z).2.2 x y x (by simp)
    exact absurd rfl this
  ·rename_i h
   have y:¬x∈xs:=fun u=>h ((b3l xs x).2 u)
   rw[List.length_append,List.length_singleton,Nat.add_right_cancel_iff,ih]
   constructor
   ·intro z
    exact List.nodup_append.2 ⟨z,by simp,fun a q c v e=>by simp at v;subst v;subst e;exact y q⟩
   ·intro z;exact(List.nodup_append.1 z).1
section
attribute [local go_sem] Oper.semAt_some
theorem a3d.own{β:Type}(b o:Nat)(x:Vl):Own (fun(_:β) W=>a3d W b o x):=fun _ _ _ _ z y hr=>⟨cell_kept z.k y hr,cell_kept z.n y hr,cell_kept z.s y hr⟩
theorem b3m(c:Int)(w:World):(Instr.makeMap 205 (some (vi c))).run Tryz.prog w=.ok (.map (some w.heap.size)) (w.alloc (.map #[] 0)):=by
 have u:=Tryz.underlying205
 simp[Instr.makeMap,run_underlying u,asInt,asIntOf,Result.andThen]
theorem kept_of_below{m Bt:Nat}(h:Bw W W')(hm:m<=W.heap.size)(hB:Bt<W.heap.size):Kept m Bt W W':=⟨h.mono hm,h.block Bt hB⟩
theorem keepsFrom_of_below{B:Nat}(h:Bw W W'):KeepsFrom B W W':=⟨h.size,fun k _ _ hk _=>(h.block k (Array.getElem?_eq_some_iff.1 hk).1).trans hk⟩
theorem a2a{b:Nat}{v:Value}(o:Obj)(h:W.cell? (Ad b i)=some v):(W.alloc o).cell? (Ad b i)=some v:=(World.cell?_alloc_past _ _ _ (World.block_lt_of_cell? _ _ h)).trans h
theorem a4n(W:World)(x:Vl):a3d (W.alloc (.cells #[vi x.k,vi x.n,.string x.s] 52)) W.heap.size 0 x:=by
 refine⟨?_,?_,?_⟩ <;> (rw[World.cell?_alloc_at _ _ _ _ rfl];rfl)
abbrev a0g (zs:List (Vl×Vl)):List Vl:=zs.map Prod.fst
abbrev a1d (zs:List (Vl×Vl)):List Vl:=zs.map Prod.snd
theorem c1h(n:Nat)(h1:1<=n)(ks vs:Value)(zs:List (Vl×Vl))(hlen:zs.length<=100)(w:World)(hT:Tab w.heap.size w ks vs (a0g zs) (a1d zs)) :
  CallsIn Fence.wide n Tryz.prog 135 #[.agg #[ks,vs]] w fun e W'=>e=.returned (.map (some (w.heap.size+1))) /\
   W'.ownsMap Tryz.prog 52 (plainElem Tryz.prog 3) (w.heap.size+1) zs.length (a4a (a0g zs))/\Below w.heap.size w W':=by
 have z4:=b3m
 obtain⟨a,c1,z8,_,_⟩:=hT.keys
 simp only[List.length_map]at z8
 subst z8
 refine callsIn_of_wp_marks Tryz.func135 rfl trivial ?_ rfl
 simp only[Tryz.ntmps135,List.size_toArray,List.length_cons,List.length_nil,Nat.reduceAdd,Nat.reduceSub,Array.replicate_succ,Array.replicate_zero,List.push_toArray,List.append_toArray,List.nil_append,List.cons_append]
 gi_wp2_with (refine⟨trivial,?_⟩;gi_at_call 106;refine(a7f _ _ _ _).mono ?_;rintro e w' ⟨rfl,rfl⟩)
 have z9:=World.ownsMap_made (w.alloc (.cells #[.slice a zs.length c1,vs] 143)) Tryz.prog 52 (plainElem (H:=Unit) Tryz.prog 3)
 obtain⟨W0,u⟩:∃W0,(((w.alloc (.cells #[.slice a zs.length c1,vs] 143)).alloc (.map #[] 0)).alloc (.cells #[.map (some (w.heap.size+1))] 205)).alloc (.cells #[.slice a zs.length c1,vs] 143)=W0:=⟨_,rfl⟩
 have z5:W0.heap.size=w.heap.size+4:=by rw[<- u];simp
 have bS:Boxed W0 (w.heap.size+1+1) 205 (.map (some (w.heap.size+1))):=by
  have:=(Boxed.new ((w.alloc (.cells #[.slice a zs.length c1,vs] 143)).alloc (.map #[] 0)) 205 (.map (some (w.heap.size+1)))).alloc (.cells #[.slice a zs.length c1,vs] 143)
  simp only[World.size_alloc]at this
  rw[<- u];exact this
 have z7:W0.heap[w.heap.size+1+1+1]?=some (.cells #[.slice a zs.length c1,vs] 143):=by
  have:=World.alloc_heap_new (((w.alloc (.cells #[.slice a zs.length c1,vs] 143)).alloc (.map #[] 0)).alloc (.cells #[.map (some (w.heap.size+1))] 205)) (.cells #[.slice a zs.length c1,vs] 143)
  simp only[World.size_alloc]at this
  rw[<- u];exact this
 have i:Below w.heap.size w W0:=by rw[<- u];exact((((Below.refl _ w).alloc (Nat.le_refl _) _).alloc (by simp) _).alloc (by simp;omega) _).alloc (by simp;omega) _
 have d:W0.ownsMap Tryz.prog 52 (plainElem (H:=Unit) Tryz.prog 3) (w.heap.size+1) 0 (.map []):=by
  have:=(z9.alloc (.cells #[.map (some (w.heap.size+1))] 205)).alloc (.cells #[.slice a zs.length c1,vs] 143)
  simp only[World.size_alloc]at this
  rw[<- u];exact this
 rw[u]
 clear z9 u
 refine wpIn_rangeFunc_ownH rfl h1 (gf:=136) (lb:=#[.pointer (some ⟨w.heap.size+1+1+1,0,none⟩)]) rfl trivial (enters_of Tryz.func136 (by kernel_rfl) rfl)
  (a3y (n-1) (w.heap.size+1+1+1) w.heap.size _ _ zs hlen W0 (by omega) (by omega) z7 (hT.below i)) (fun h k=>h.trans k) (Kept.putObj (by omega) (by omega)) (Below.refl _ _) (fun _=>rfl)
  (fun(pre:List (Vl×Vl)) W=>(W0.heap.size<=W.heap.size/\W.cell? ⟨w.heap.size+1+1,0,none⟩=some (.map (some (w.heap.size+1)))/\W.ownsMap Tryz.prog 52 (plainElem (H:=Unit) Tryz.prog 3) (w.heap.size+1) pre.length (a4a (a0g pre)))/\Below w.heap.size w W)
  (fun _ _ _=>False)
  (OwnFrom.and (fun s A B row m hg hr=>⟨Nat.le_trans m.1 hg.size,cell_kept m.2.1 hg (fun r e=>(hr r e).2),m.2.2.kept hg (fun e=>by have:=(hr _ e.symm).1;omega)⟩) (ownFrom_below (Nat.le_refl _) (by omega)))
  (fun _ _ _ _ _ m _ _=>m)
  ⟨⟨Nat.le_refl _,bS.cell,d⟩,i⟩
  (fun x a' W=>∃g,w.heap.size+1+1+1<g/\a3d W g 0 x.1/\a'={ tmps:=#[.agg #[.slice a zs.length c1,vs],.pointer (some ⟨w.heap.size,0,none⟩),.map none,.pointer (some ⟨w.heap.size+1+1,0,none⟩),.pointer (some ⟨g,0,none⟩),.pointer (some ⟨w.heap.size,0,none⟩),.slice a zs.length c1,.int .i64 zs.length,.map (some (w.heap.size+1)),.agg #[.slice a zs.length c1,vs],.func (.func 136) #[] #[.pointer (some ⟨w.heap.size+1+1+1,0,none⟩)],x.1.v,x.2.v,undef,undef,undef,undef,undef,undef,undef],defers:=[] })
  (fun x a'=>fun _ A B row m hg hr=>by obtain⟨g,h1,h2,h3⟩:=m;exact⟨g,h1,(a3d.own (β:=Unit) g 0 x.1) () A B row h2 hg (fun r e=>(hr r e).2),h3⟩)
  ?assign ?body ?done ?stop
 case assign =>
  rintro l pre x W K ⟨⟨hz,hc,y⟩,hB⟩ hK
  gi_wp2
  have p:Below W.heap.size W (W.alloc (.cells #[.int .i64 x.1.k,.int .i64 x.1.n,.string x.1.s] 52)):=(Below.refl _ _).alloc (Nat.le_refl _) _
  exact hK _ _ (keepsFrom_of_below p) (kept_of_below p (by omega) (by omega)) ⟨⟨by have:=p.size;omega,a2a _ hc,y.alloc _⟩,hB.trans (p.mono (by omega))⟩ ⟨W.heap.size,by omega,a4n W x.1,rfl⟩
 case body =>
  rintro l pre x a' W hl ⟨r,hr⟩ ⟨⟨hz,hc,y⟩,hB⟩ ⟨g,z2,⟨t0,t1,t2⟩,rfl⟩ z3
  obtain⟨c,st,w1,w2,q1,q2,q3,q4,z6,q,z,f⟩:=b8r y.drew (by unfold maxLen;omega) x.1
  rw[show wrap64 (c+1)=IntKind.i64.wrap (c+1) from(IntWalk.i64_left _).symm]at q4
  gi_wp2
  obtain⟨K0,o⟩:∃K0:Act->World->Prop,K0=(fun(_:Act) w'=>w'=w2):=⟨_,rfl⟩
  refine wpIn_mono (Q:=Exit.then K0 (fun _ _ _=>False)) ?_ ?_
  ·clear y q z f z6 hB z3 hz hr hl hT z4 z7 i d z5 bS
   replace o:Hid _:=o
   gi_region
   all_goals (rw[o.out];exact rfl)
  ·intro e a' w' hQ
   rw[o]at hQ
   obtain⟨rfl,rfl⟩:=a6m hQ
   obtain⟨es,ck,hh,_⟩:=y
   refine⟨((KeepsOthers.drew W).from _).trans (KeepsFrom.of_grownBy z (fun j e=>by cases e;omega)),⟨((Below.refl w.heap.size W).drew).grown z (by show _<=W.heap.size;omega) (fun k e=>by cases e;omega),z.block _ (by show _<W.heap.size;omega) (fun e=>by injection e with e;omega)⟩,⟨Nat.le_trans hz z.size,cell_kept (W:=W.drew) hc z (fun r e=>by cases e;exact⟨_,hh,rfl⟩),?_⟩,(hB.drew).grown z (by show _<=W.heap.size;omega) (fun k e=>by cases e;omega)⟩
   rw[a0g,List.map_append,List.length_append,List.map_singleton,a3t,bump,z6]
   exact q
 case done =>
  rintro D ys W hD rfl ⟨⟨hz,hc,y⟩,hB⟩ hK
  gi_wp2
  refine⟨by simp,.inl ⟨_,_,rfl,run_takeDeferred hK,?_⟩⟩
  exact⟨_,results_tmp rfl _ _ _,rfl,y.kept (grownBy_putObj' _ D _) (fun e=>by cases e;omega),hB.trans (belowK_b (w:=w) (Nat.le_refl _) W D _ _ (by omega) hK rfl rfl)⟩
 case stop =>
  rintro D c pre W _ _ h _
  exact h.elim
end
end Go.Proofs.YtfbpdbndejefdaaGreatDoor.V
