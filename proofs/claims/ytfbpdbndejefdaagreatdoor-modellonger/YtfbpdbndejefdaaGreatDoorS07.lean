/- Tables in memory: the values, the rows of values, the pairs. -/
import Derived.Test.YtfbpdbndejefdaaGreatDoorS01
import Derived.RangeFuncNested
import Derived.RangeFuncBound
import Derived.Shelf.RegionOpen
import Derived.WalkKit
import Derived.OwnWalkIn
import Derived.LoopNIn
import Derived.LoopIn
namespace Go.Proofs.YtfbpdbndejefdaaGreatDoor.V
open Go.RowKit Go.Shelf Go
set_option maxRecDepth 100000
set_option maxHeartbeats 8000000
set_option linter.all false
variable {n₀ m Bt k:Nat} {A B w:World}
section
attribute [local go_sem] Oper.semAt_some
structure Vl where
 k:Int
 n:Int
 s:ByteArray
 wk:(Lit.int .i64 k).wf=true
 wn:(Lit.int .i64 n).wf=true
 ws:s.size<=maxLen
abbrev Vl.v (x:Vl):Value:=.agg #[vi x.k,vi x.n,.string x.s]
theorem Vl.ext'{x y:Vl}(hk:x.k=y.k)(hn:x.n=y.n)(hs:x.s.toList=y.s.toList):x=y:=by
 obtain⟨k,n,s,_,_,_⟩:=x
 obtain⟨u,v,z,_,_,_⟩:=y
 simp only at hk hn hs
 subst hk hn
 have:s=z:=WideShapes.bytes_inj (by rwa [ByteArray.toList_eq,ByteArray.toList_eq]at hs)
 subst this
 rfl
structure a3d (W:World) (b o:Nat) (x:Vl):Prop where
 k:W.cell? (Ad b o)=some (vi x.k)
 n:W.cell? (Ad b (o+1))=some (vi x.n)
 s:W.cell? (Ad b (o+2))=some (.string x.s)
theorem a3d.below(h:Below n₀ A B){b o:Nat}{x:Vl}(hb:b<n₀)(t:a3d A b o x):a3d B b o x :=
 ⟨(h.cell (p:=(Ad b o)) hb).trans t.k,(h.cell (p:=(Ad b (o+1))) hb).trans t.n,(h.cell (p:=(Ad b (o+2))) hb).trans t.s⟩
def Row (n₀:Nat) (W:World) (sv:Value) (xs:List Vl):Prop :=
 ∃(a:Option Addr) (cap:Nat),sv=.slice a xs.length cap/\xs.length<=maxLen /\
  (xs≠[]->∃b off,a=some (Ad b off)/\b<n₀/\∀j x,xs[j]?=some x->a3d W b (off+j*3) x)
theorem Row.below(h:Below n₀ A B){sv:Value}{xs:List Vl}(r:Row n₀ A sv xs):Row n₀ B sv xs:=by
 obtain⟨a,cap,e,s,u⟩:=r
 refine⟨a,cap,e,s,fun y=>?_⟩
 obtain⟨b,z,o,v,p⟩:=u y
 exact⟨b,z,o,v,fun j x q=>(p j x q).below h v⟩
def Kept (m Bt:Nat) (W W':World):Prop:=Below m W W'/\W'.heap[Bt]?=W.heap[Bt]?
theorem Kept.refl(m Bt:Nat)(W:World):Kept m Bt W W:=⟨Below.refl _ _,rfl⟩
theorem Kept.trans{C:World}(h:Kept m Bt A B)(k:Kept m Bt B C):Kept m Bt A C:=⟨h.1.trans k.1,k.2.trans h.2⟩
theorem Kept.putObj(hn:m<=w.heap.size)(hB:Bt<w.heap.size)(W:World)(l:Nat)(o o':Obj)(hl:w.heap.size<=l)(h:W.heap[l]?=some o)(h1:o.isCells=false)(h2:o.isWalk=false):Kept m Bt W (W.putObj l o') :=
 ⟨belowK_b hn W l o o' hl h h1 h2,World.putObj_heap_other (by omega)⟩
theorem two_ways{e:Ending}{A B:Prop}(h:(e=.returned (.bool true)/\A)\/(e=.returned (.bool false)/\B)):∃z:Bool,e=.returned (.bool z)/\((z=true/\A)\/(z=false/\B)):=by
 rcases h with⟨rfl,h⟩|⟨rfl,h⟩
 ·exact⟨true,rfl,.inl ⟨rfl,h⟩⟩
 ·exact⟨false,rfl,.inr ⟨rfl,h⟩⟩
theorem a6m{K:Act->World->Prop}{e:Exit}{a:Act}(h:Exit.then K (fun _ _ _=>False) e a w):e=.normal/\K a w:=by
 cases e <;> first|exact⟨rfl,h⟩|exact(h:False).elim
theorem take_snoc{α:Type}{zs:List α}{x:α}(h:zs[k]?=some x):zs.take (k+1)=zs.take k++[x]:=by
 rw[List.take_add_one,h];rfl
theorem prefix_snoc{α:Type}{zs:List α}{x:α}(h:zs[k]?=some x):zs.take k++[x] <+: zs:=by
 rw[<- take_snoc h];exact List.take_prefix _ _
theorem c0m(n:Nat)(l Bt m b off c1 b' off' c2:Nat)(zs:List (Vl×Vl))(hlen:zs.length<=100)(hb:b<m)(hb':b'<m)(hm:m<=Bt)(J Jx:List (Vl×Vl)->World->Prop)(hY:∀pre x W,J pre W->pre.length<zs.length->YieldAt Fence.wide (n-1) Tryz.prog l #[x.1.v,x.2.v] W fun e W' =>
   (e=.returned (.bool true)/\J (pre++[x]) W'/\Kept m Bt W W')\/(e=.returned (.bool false)/\Jx (pre++[x]) W')) (W:World) (hJ:AbidesFrom W.heap.size J) (hbt:W.heap[Bt]?=some (.cells #[.slice (some ⟨b,off,none⟩) zs.length c1,.slice (some ⟨b',off',none⟩) zs.length c2] 143)) (hc:∀j x,zs[j]?=some x->a3d W b (off+j*3) x.1) (hc':∀j x,zs[j]?=some x->a3d W b' (off'+j*3) x.2) (h0:J [] W) :
  CallsIn Fence.wide n Tryz.prog 136 #[.func (.yield l) #[] #[],.pointer (some ⟨Bt,0,none⟩)] W fun e W'=>(∃v,e=.returned v) /\
   ((∃ys,ys=zs/\J ys W')\/(∃pre,pre <+: zs/\Jx pre W')):=by
 have hk0:W.cell? ⟨Bt,0,none⟩=some (.slice (some ⟨b,off,none⟩) zs.length c1):=by simp[World.cell?,hbt]
 refine callsIn_of_wp Tryz.func136 rfl trivial ?_ rfl
 simp only[Tryz.ntmps136,List.size_toArray,List.length_cons,List.length_nil,Nat.reduceAdd,Nat.reduceSub,Array.replicate_succ,Array.replicate_zero,List.push_toArray,List.append_toArray,List.nil_append,List.cons_append]
 gi_wp2
 gi_loopw [8] (fun i wr=>∃k:Nat,k<=zs.length/\i=.int .i64 k/\J (zs.take k) wr/\Kept m Bt W wr/\W.heap.size<=wr.heap.size)
  (fun i _=>zs.length-(intOf i).toNat)
 case atStart=>exact⟨0,Nat.zero_le _,rfl,h0,Kept.refl _ _ _,Nat.le_refl _⟩
 case round =>
  obtain⟨k,hk,rfl,hJs,hnx,hsz⟩:=hrel
  by_cases hlt:k<zs.length
  ·obtain⟨x,hx⟩:∃x,zs[k]?=some x:=⟨zs[k],by simp[hlt]⟩
   obtain⟨a0,a1,a2⟩:=(hc k x hx).below hnx.1 hb
   obtain⟨d0,d1,d2⟩:=(hc' k x hx).below hnx.1 hb'
   have hq0:wr.cell? ⟨Bt,0,none⟩=some (.slice (some ⟨b,off,none⟩) zs.length c1):=by simp[World.cell?,hnx.2,hbt]
   have hq1:wr.cell? ⟨Bt,1,none⟩=some (.slice (some ⟨b',off',none⟩) zs.length c2):=by simp[World.cell?,hnx.2,hbt]
   gi_wp2
   have hBl:Bt<wr.heap.size:=by
    have h1:=hnx.2.trans hbt
    exact(Array.getElem?_eq_some_iff.1 h1).1
   obtain⟨w1,hw1⟩:∃w1,wr.alloc (.cells #[.int .i64 x.1.k,.int .i64 x.1.n,.string x.1.s] 52)=w1:=⟨_,rfl⟩
   have e0:w1.cell? ⟨wr.heap.size,0,none⟩=some (.int .i64 x.1.k):=by rw[<- hw1,World.cell?_alloc_at _ _ _ _ rfl];rfl
   have e1:w1.cell? ⟨wr.heap.size,1,none⟩=some (.int .i64 x.1.n):=by rw[<- hw1,World.cell?_alloc_at _ _ _ _ rfl];rfl
   have e2:w1.cell? ⟨wr.heap.size,2,none⟩=some (.string x.1.s):=by rw[<- hw1,World.cell?_alloc_at _ _ _ _ rfl];rfl
   have hB1:Below wr.heap.size wr w1:=by rw[<- hw1];exact(Below.refl _ _).alloc (Nat.le_refl _) _
   have hbl:b'<wr.heap.size:=World.block_lt_of_cell? _ _ d0
   replace d0:=(hB1.cell (p:=⟨b',off'+k*3,none⟩) hbl).trans d0
   replace d1:=(hB1.cell (p:=⟨b',off'+k*3+1,none⟩) hbl).trans d1
   replace d2:=(hB1.cell (p:=⟨b',off'+k*3+2,none⟩) hbl).trans d2
   replace hq1:=(hB1.cell (p:=⟨Bt,1,none⟩) hBl).trans hq1
   have hJ1:J (zs.take k) w1.drew:=hJ _ wr _ none hJs (by rw[<- hw1];exact⟨rfl,rfl,rfl,by simp,fun i hi _=>Below.heap_alloc _ _ _ hi⟩) (fun r e=>by cases e)
   have hK1:Kept m Bt W w1.drew:=hnx.trans ⟨(hB1.mono (by omega)).drew,by rw[<- hw1];exact Below.heap_alloc _ _ _ hBl⟩
   have hsz1:W.heap.size<=w1.drew.heap.size:=by have:=hB1.size;simp;omega
   obtain⟨fn,tmps,assign,body,hy,hR⟩:=hY _ x w1.drew hJ1 (by simp;omega)
   rw[hw1]
   clear hw1 a0 a1 a2 hq0
   have hkl:k<zs.length:=hlt
   obtain⟨K0,hK0⟩:∃K0:Act->World->Prop,K0=(fun a' w'=>∃bb:Bool,a'={ tmps:=#[.func (.yield l) #[] #[],.pointer (some ⟨Bt,0,none⟩),undef,.int .i64 k,.pointer (some ⟨wr.heap.size,0,none⟩),.pointer (some ⟨Bt,0,none⟩),.slice (some ⟨b,off,none⟩) zs.length c1,.int .i64 zs.length,.int .i64 k,.bool true,.int .i64 k,.pointer (some ⟨b,off+k*3,none⟩),x.1.v,.func (.yield l) #[] #[],x.1.v,.pointer (some ⟨Bt,1,none⟩),.slice (some ⟨b',off',none⟩) zs.length c2,.int .i64 k,.pointer (some ⟨b',off'+k*3,none⟩),x.2.v,.bool bb,.bool (!bb),u22],defers:=[] }/\((bb=true/\J (zs.take k++[x]) w'/\Kept m Bt w1.drew w')\/(bb=false/\Jx (zs.take k++[x]) w'))):=⟨_,rfl⟩
   refine wpIn_mono (Q:=Exit.then K0 (fun _ _ _=>False)) ?_ ?_
   ·clear hY hJ hbt hc hc' h0 hk0 hJs hnx hJ1 hK1 hsz1 hsz hx hB1 hm hb hb' hBl hbl
    rename_i q1 q2 k1 g1 k2 g2
    clear g1 g2 k1 k2 q2 q1
    replace hK0:Hid _:=hK0
    gi_region_with (refine⟨fun h=>by simp[Fence.wide]at h,?_⟩;refine hR.mono ?_;intro e W3 hW3;obtain⟨bb,rfl,hbb⟩:=two_ways hW3;clear hW3)
    all_goals (rw[hK0.out];exact⟨_,rfl,hbb⟩)
   ·intro e a' w' hQ
    rw[hK0]at hQ
    obtain⟨rfl,bb,rfl,hbb⟩:=a6m hQ
    clear hQ hK0 K0
    clear hy hR e0 e1 e2 d0 d1 d2 hq1
    rcases hbb with⟨rfl,hJ3,hk3⟩|⟨rfl,hJx3⟩
    ·gi_wp2
     go_roundw
     case rel=>exact⟨k+1,by omega,by simp,by rw[take_snoc hx];exact hJ3,hK1.trans hk3,Nat.le_trans hsz1 hk3.1.size⟩
     case measure=>simp[intOf];omega
    ·gi_wp2
     refine bodyPost_ret (results_none rfl _ _ _) rfl ?_
     exact⟨⟨_,rfl⟩,.inr ⟨_,prefix_snoc hx,hJx3⟩⟩
  ·obtain rfl:k=zs.length:=by omega
   gi_wp2
   go_end0
   exact⟨⟨_,rfl⟩,.inl ⟨_,by simp,hJs⟩⟩
theorem b1p(n:Nat)(l Bt:Nat)(a:Option Addr)(c1:Nat)(vs:Value)(J:List (Vl×Vl)->World->Prop)(W:World)(hbt:W.heap[Bt]?=some (.cells #[.slice a 0 c1,vs] 143))(h0:J [] W) :
  CallsIn Fence.wide n Tryz.prog 136 #[.func (.yield l) #[] #[],Po Bt 0] W fun e W'=>(∃v,e=.returned v)/\J [] W':=by
 have hk0:W.cell? (Ad Bt 0)=some (.slice a 0 c1):=by simp[World.cell?,hbt]
 refine callsIn_of_wp Tryz.func136 rfl trivial ?_ rfl
 simp only[Tryz.ntmps136,List.size_toArray,List.length_cons,List.length_nil,Nat.reduceAdd,Nat.reduceSub,Array.replicate_succ,Array.replicate_zero,List.push_toArray,List.append_toArray,List.nil_append,List.cons_append]
 gi_wp2
 gi_loopw [8] (fun i wr=>i=vi 0/\J [] wr) (fun _ _=>0)
 case atStart=>exact⟨rfl,h0⟩
 case round =>
  obtain⟨rfl,hJs⟩:=hrel
  gi_wp2
  go_end0
  exact⟨⟨_,rfl⟩,hJs⟩
structure Tab (m:Nat) (W:World) (ks vs:Value) (xs ys:List Vl):Prop where
 keys:Row m W ks xs
 vals:Row m W vs ys
theorem Tab.below(h:Below n₀ A B){ks vs:Value}{xs ys:List Vl}(t:Tab n₀ A ks vs xs ys):Tab n₀ B ks vs xs ys:=⟨t.keys.below h,t.vals.below h⟩
theorem a3y(n:Nat)(Bt m:Nat)(ks vs:Value)(zs:List (Vl×Vl))(hlen:zs.length<=100)(w:World)(hB:Bt<w.heap.size)(hm:m<=Bt)(hbt:w.heap[Bt]?=some (.cells #[ks,vs] 143))(hT:Tab m w ks vs (zs.map (·.1)) (zs.map (·.2))) :
  SeqStopsK Fence.wide n Tryz.prog 136 #[Po Bt 0] (fun x:Vl×Vl=>#[x.1.v,x.2.v]) (Kept m Bt) (fun h=>h=zs) (fun pre=>pre <+: zs) zs.length w:=fun l J Jx W i hJ _ hY h0=>by
 have z:W.heap[Bt]?=some (.cells #[ks,vs] 143):=(i.block Bt hB).trans hbt
 have o:=hT.below (i.mono (by omega))
 obtain⟨⟨a,c1,rfl,_,f⟩,⟨a',c2,rfl,_,g⟩⟩:=o
 by_cases hz:zs=[]
 ·subst hz
  exact(b1p n l Bt a c1 _ J W z h0).mono fun e W' ⟨d,u⟩=>⟨d,.inl ⟨_,rfl,u⟩⟩
 ·obtain⟨b,s,rfl,hb,hc⟩:=f (by simpa using hz)
  obtain⟨b',y,rfl,p,q⟩:=g (by simpa using hz)
  simp only[List.length_map]at z
  exact c0m n l Bt m b s c1 b' y c2 zs hlen hb p hm J Jx hY W hJ z (fun j x u=>hc j x.1 (by simp[u])) (fun j x u=>q j x.2 (by simp[u])) h0
theorem a7f(n:Nat)(ks vs:Value)(w:World) :
  CallsIn Fence.wide n Tryz.prog 106 #[.agg #[ks,vs]] w fun e z=>e=.returned (.func (.func 136) #[] #[Po w.heap.size 0])/\z=w.alloc (.cells #[ks,vs] 143):=by
 refine callsIn_of_wp Tryz.func106 rfl trivial ?_ rfl
 simp only[Tryz.ntmps106,List.size_toArray,List.length_cons,List.length_nil,Nat.reduceAdd,Nat.reduceSub,Array.replicate_succ,Array.replicate_zero,List.push_toArray,List.append_toArray,List.nil_append,List.cons_append]
 gi_wp2
 go_ret
 exact⟨rfl,rfl⟩
end
end Go.Proofs.YtfbpdbndejefdaaGreatDoor.V
