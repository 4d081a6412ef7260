/- stands; the small things of a table. -/
import Derived.Test.YtfbpdbndejefdaaGreatDoorS13
import Derived.Test.YtfbpdbndejefdaaGreatDoorS09
namespace Go.Proofs.YtfbpdbndejefdaaGreatDoor.V
open Go.RowKit Go.Shelf Go
set_option maxRecDepth 100000
set_option maxHeartbeats 8000000
set_option linter.all false
variable {m b i m' B C:Nat} {W:World} {sv:Value} {β:Type} {o:Obj} {c tm:Array Value} {t:TypeId} {z:Nat×Nat} {p:Bool}
def stB (x:Vl):Bool:=x.k != 0&&mayB x.k x.n x.s
theorem b9m(x:Vl)(w:World)(h:(x.k != 0)=false):Cl 134 #[x.v] w fun e z=>e=.returned (.bool false)/\Bw w z:=by
 go_enter Tryz.func134,Tryz.ntmps134
 go_wp2
 go_ret
 exact⟨rfl,(Below.refl _ _).alloc (Nat.le_refl _) _⟩
theorem b5p(x:Vl)(w:World)(h:(x.k != 0)=true):Cl 134 #[x.v] w fun e y=>e=.returned (.bool (mayB x.k x.n x.s))/\Bw w y:=by
 go_enter Tryz.func134,Tryz.ntmps134
 go_wp2_with (go_at_call 35;refine(a4h _ _ _ _).mono ?_;rintro e w1 ⟨rfl,z⟩)
 go_ret
 exact⟨rfl,ext_trans ((Below.refl _ _).alloc (Nat.le_refl _) _) z⟩
theorem b1j(x:Vl)(w:World):Cl 134 #[x.v] w fun e z=>e=.returned (.bool (stB x))/\Bw w z:=by
 unfold stB
 cases h:(x.k != 0)
 ·exact b9m x w h
 ·exact b5p x w h
theorem b2f{x:Vl}(h:stB x=true)(w:World):Cl 134 #[x.v] w fun e z=>e=.returned (.bool true)/\Bw w z:=h▸b1j x w
theorem b7b{x:Vl}(h:stB x=false)(w:World):Cl 134 #[x.v] w fun e z=>e=.returned (.bool false)/\Bw w z:=h▸b1j x w
section
variable [DecidableEq Vl]
def mayT (xs ys:List Vl):Bool:=decide (xs.length=ys.length)&&decide (xs.length<=100)&&(xs.all stB&&ys.all stB)&&decide xs.Nodup
theorem Row.slice{xs:List Vl}(h:Row m W sv xs):∃a c,sv=.slice a xs.length c:=let ⟨a,c,e,_⟩:=h;⟨a,c,e⟩
theorem c6r(ks vs:Value)(xs ys:List Vl)(w:World)(hT:Tab w.heap.size w ks vs xs ys)(h:(xs.length == ys.length)=false) :
  Cl 105 #[.agg #[ks,vs]] w fun e z=>e=.returned (.bool false)/\Bw w z:=by
 obtain⟨a,c1,rfl⟩:=hT.keys.slice
 obtain⟨u,c2,rfl⟩:=hT.vals.slice
 have y:((xs.length:Int) != (ys.length:Int))=true:=by simp at h⊢;omega
 clear hT h
 go_enter Tryz.func105,Tryz.ntmps105
 go_wp2
 exact bodyPost_ret (v:=.bool false) (by simp[results,Tryz.results105,go_sem]) rfl ⟨rfl,((Below.refl _ _).alloc (Nat.le_refl _) _).alloc (by simp) _⟩
theorem c2t(ks vs:Value)(xs ys:List Vl)(w:World)(hT:Tab w.heap.size w ks vs xs ys)(h:xs.length=ys.length)(hl:100<xs.length) :
  Cl 105 #[.agg #[ks,vs]] w fun e z=>e=.returned (.bool false)/\Bw w z:=by
 obtain⟨a,c1,rfl⟩:=hT.keys.slice
 obtain⟨u,c2,rfl⟩:=hT.vals.slice
 have y:((xs.length:Int) != (ys.length:Int))=false:=by simp;omega
 have h2:(100:Int)<(xs.length:Int):=by omega
 clear hT hl
 go_enter Tryz.func105,Tryz.ntmps105
 go_wp2
 exact bodyPost_ret (v:=.bool false) (by simp[results,Tryz.results105,go_sem]) rfl ⟨rfl,((Below.refl _ _).alloc (Nat.le_refl _) _).alloc (by simp) _⟩
end
section
variable [DecidableEq Vl]
attribute [local go_sem] Oper.semAt_some
def stP (p:Vl×Vl):Bool:=stB p.1&&stB p.2
theorem a3d.alloc{x:Vl}(o:Obj)(h:a3d W b i x):a3d (W.alloc o) b i x:=⟨a2a _ h.k,a2a _ h.n,a2a _ h.s⟩
theorem a3d.lt{x:Vl}(h:a3d W b i x):b<W.heap.size:=World.block_lt_of_cell? _ _ h.k
theorem Row.mono{xs:List Vl}(r:Row m W sv xs)(h:m<=m'):Row m' W sv xs:=by
 obtain⟨a,cap,e,u,v⟩:=r
 refine⟨a,cap,e,u,fun y=>?_⟩
 obtain⟨b,z,q,p,s⟩:=v y
 exact⟨b,z,q,by omega,s⟩
theorem Tab.mono{ks vs:Value}{xs ys:List Vl}(t:Tab m W ks vs xs ys)(h:m<=m'):Tab m' W ks vs xs ys:=⟨t.keys.mono h,t.vals.mono h⟩
theorem block_ownFrom{B':Nat}(o:Obj)(h:B<B'):OwnFrom B' (fun(_:β) W=>W.heap[B]?=some o):=fun _ _ _ _ z y hr =>
 (y.block B (Array.getElem?_eq_some_iff.1 z).1 (fun e=>by have:=(hr _ e.symm).1;omega)).trans z
theorem size_ownFrom{k:Nat} : OwnFrom B (fun(_:β) W=>k<=W.heap.size):=fun _ _ _ _ z y _=>Nat.le_trans z y.size
theorem block_alloc(o':Obj)(h:W.heap[B]?=some o):(W.alloc o').heap[B]?=some o:=(Below.heap_alloc _ _ _ (Array.getElem?_eq_some_iff.1 h).1).trans h
theorem block_below{W':World}(hb:Bw W W')(h:W.heap[B]?=some o):W'.heap[B]?=some o:=(hb.block B (Array.getElem?_eq_some_iff.1 h).1).trans h
theorem c2u(n:Nat)(h3:3<=n)(ks vs:Value)(zs:List (Vl×Vl))(hlen:zs.length<=100)(w:World)(hT:Tab w.heap.size w ks vs (a0g zs) (a1d zs)) :
  CallsIn Fence.wide n Tryz.prog 105 #[.agg #[ks,vs]] w fun e w'=>e=.returned (.bool (zs.all stP&&decide (a0g zs).Nodup))/\Below w.heap.size w w':=by
 have h1:1<=n:=by omega
 have h2:1<=n-1:=by omega
 have x7:1<=n-1-1:=by omega
 obtain⟨a,c1,y7⟩:=hT.keys.slice
 obtain⟨j,c2,z1⟩:=hT.vals.slice
 simp only[a0g,a1d,List.length_map]at y7 z1
 subst y7 z1
 have g1:((zs.length:Int) != (zs.length:Int))=false:=by simp
 have g2:¬(100:Int)<(zs.length:Int):=by omega
 refine callsIn_of_wp_marks Tryz.func105 rfl trivial ?_ rfl
 simp only[Tryz.ntmps105,List.size_toArray,List.length_cons,List.length_nil,Nat.reduceAdd,Nat.reduceSub,Array.replicate_succ,Array.replicate_zero,List.push_toArray,List.append_toArray,List.nil_append,List.cons_append]
 gi_wp2_with (refine⟨trivial,?_⟩;gi_at_call 106;refine(a7f _ _ _ _).mono ?_;rintro e w' ⟨rfl,rfl⟩)
 obtain⟨W0,m⟩:=exq (((w.alloc (.cells #[.slice a zs.length c1,.slice j zs.length c2] 143)).alloc (.cells #[.bool false] 4)).alloc (.cells #[.slice a zs.length c1,.slice j zs.length c2] 143))
 have x8:W0.heap.size=w.heap.size+3:=by rw[<- m];simp
 have b0:W0.heap[w.heap.size]?=some (.cells #[.slice a zs.length c1,.slice j zs.length c2] 143):=by rw[<- m];exact block_alloc _ (block_alloc _ (World.alloc_heap_new w _))
 have b1:W0.heap[w.heap.size+1]?=some (.cells #[.bool false] 4):=by
  have:=block_alloc (.cells #[.slice a zs.length c1,.slice j zs.length c2] 143) (World.alloc_heap_new (w.alloc (.cells #[.slice a zs.length c1,.slice j zs.length c2] 143)) (.cells #[.bool false] 4))
  simp only[World.size_alloc]at this
  rw[<- m];exact this
 have z5:W0.heap[w.heap.size+1+1]?=some (.cells #[.slice a zs.length c1,.slice j zs.length c2] 143):=by
  have:=World.alloc_heap_new ((w.alloc (.cells #[.slice a zs.length c1,.slice j zs.length c2] 143)).alloc (.cells #[.bool false] 4)) (.cells #[.slice a zs.length c1,.slice j zs.length c2] 143)
  simp only[World.size_alloc]at this
  rw[<- m];exact this
 have z8:Below w.heap.size w W0:=by rw[<- m];exact(((Below.refl _ w).alloc (Nat.le_refl _) _).alloc (by simp) _).alloc (by simp;omega) _
 rw[m]
 clear m
 refine wpIn_rangeFunc_ownH rfl h1 (gf:=136) (lb:=#[.pointer (some ⟨w.heap.size+1+1,0,none⟩)]) rfl trivial (enters_of Tryz.func136 (by kernel_rfl) rfl)
  (a3y (n-1) (w.heap.size+1+1) w.heap.size _ _ zs hlen W0 (by omega) (by omega) z5 (hT.below z8)) (fun h k=>h.trans k) (Kept.putObj (by omega) (by omega)) (Below.refl _ _) (fun _=>rfl)
  (fun(pre:List (Vl×Vl)) W=>((∀p∈pre,stP p=true)/\W0.heap.size<=W.heap.size/\W.heap[w.heap.size]?=some (.cells #[.slice a zs.length c1,.slice j zs.length c2] 143)/\W.heap[w.heap.size+1]?=some (.cells #[.bool false] 4))/\Below w.heap.size w W)
  (fun c (pre:List (Vl×Vl)) W=>(c=.ret/\(∃p∈pre,stP p=false)/\W.heap[w.heap.size+1]?=some (.cells #[.bool false] 4))/\Below w.heap.size w W)
  (OwnFrom.and (OwnFrom.and (ownFrom_pure _ _) (OwnFrom.and size_ownFrom (OwnFrom.and (block_ownFrom _ (by omega)) (block_ownFrom _ (by omega))))) (ownFrom_below (Nat.le_refl _) (by omega)))
  (fun c=>OwnFrom.and (OwnFrom.and (ownFrom_pure _ _) (OwnFrom.and (ownFrom_pure _ _) (block_ownFrom _ (by omega)))) (ownFrom_below (Nat.le_refl _) (by omega)))
  ⟨⟨by simp,Nat.le_refl _,b0,b1⟩,z8⟩
  (fun x q W=>∃Bx By,w.heap.size+1+1<Bx/\a3d W Bx 0 x.1/\a3d W By 0 x.2/\q={ tmps:=#[.agg #[.slice a zs.length c1,.slice j zs.length c2],.pointer (some ⟨w.heap.size,0,none⟩),.pointer (some ⟨w.heap.size+1,0,none⟩),.pointer (some ⟨Bx,0,none⟩),.pointer (some ⟨By,0,none⟩),.pointer (some ⟨w.heap.size,0,none⟩),.slice a zs.length c1,.int .i64 zs.length,.pointer (some ⟨w.heap.size,1,none⟩),.slice j zs.length c2,.int .i64 zs.length,.bool false,.bool false,.pointer (some ⟨w.heap.size,0,none⟩),.slice a zs.length c1,.int .i64 zs.length,.bool false,.bool false,.agg #[.slice a zs.length c1,.slice j zs.length c2],.func (.func 136) #[] #[.pointer (some ⟨w.heap.size+1+1,0,none⟩)],x.1.v,x.2.v,undef,undef,undef,undef,undef,undef,undef,undef,undef,undef,undef,undef,undef,undef,undef],defers:=[] })
  (fun x q=>fun _ A B row hs hg hr=>by obtain⟨Bx,By,h1,h2,h3,h4⟩:=hs;exact⟨Bx,By,h1,(a3d.own (β:=Unit) Bx 0 x.1) () A B row h2 hg (fun r e=>(hr r e).2),(a3d.own (β:=Unit) By 0 x.2) () A B row h3 hg (fun r e=>(hr r e).2),h4⟩)
  ?assign ?body ?done ?stop
 case assign =>
  rintro l pre x W K ⟨⟨hp,hz,k0,k1⟩,hB⟩ hK
  gi_wp2
  have i:Below W.heap.size W ((W.alloc (.cells #[.int .i64 x.1.k,.int .i64 x.1.n,.string x.1.s] 52)).alloc (.cells #[.int .i64 x.2.k,.int .i64 x.2.n,.string x.2.s] 52)):=((Below.refl _ _).alloc (Nat.le_refl _) _).alloc (by simp) _
  exact hK _ _ (keepsFrom_of_below i) (kept_of_below i (by omega) (by omega)) ⟨⟨hp,by have:=i.size;omega,block_below i k0,block_below i k1⟩,hB.trans (i.mono (by omega))⟩ ⟨W.heap.size,W.heap.size+1,by omega,(a4n W x.1).alloc _,by have:=a4n (W.alloc (.cells #[.int .i64 x.1.k,.int .i64 x.1.n,.string x.1.s] 52)) x.2;simpa using this,rfl⟩
 case body =>
  rintro l pre x q W hl ⟨r,hr⟩ ⟨⟨hp,hz,k0,k1⟩,hB⟩ ⟨Bx,By,x5,⟨t0,t1,t2⟩,t',rfl⟩ x6
  clear hr hT z5 z8 b0 b1 g1 g2
  rename_i Kd ad
  clear ad Kd
  cases h1':stB x.1
  ·have e1:stP x=false:=by simp[stP,h1']
   have hC:=b7b h1'
   clear h1'
   gi_wp2_with (refine⟨trivial,?_⟩;gi_at_call 134;refine(CallsIn.inRound l (callsIn_wide.2 (hC _))).mono ?_;rintro e w1 ⟨rfl,z⟩;have o:=block_below z k1;have x9:=Boxed.cell o;have y1:=Boxed.frozen o)
   refine⟨trivial,?_⟩
   gi_wp2
   exact⟨(keepsFrom_of_below z).trans ((KeepsOthers.setCell _ _ _).from _),⟨rfl,⟨x,by simp,e1⟩,Boxed.set _ o⟩,(hB.trans (z.mono (by omega))).setCell (p:=⟨w.heap.size+1,0,none⟩) (by simp) _⟩
  ·cases h2':stB x.2
   ·have e1:stP x=false:=by simp[stP,h2']
    have hC:=b2f h1'
    have z3:=b7b h2'
    clear h1' h2'
    gi_wp2_with (refine⟨trivial,?_⟩;gi_at_call 134;refine(CallsIn.inRound l (callsIn_wide.2 (hC _))).mono ?_;rintro e w1 ⟨rfl,z⟩;refine Hid.out ?_)
    have o:=block_below z k1
    obtain⟨s0,s1,s2⟩:=t'.below z t'.lt
    have z2:=Nat.le_trans hz z.size
    refine Lib.hid ?_
    gi_wp2_with (refine⟨trivial,?_⟩;gi_at_call 134;refine(CallsIn.inRound l (callsIn_wide.2 (z3 _))).mono ?_;rintro e w2 ⟨rfl,z9⟩;have z7:=block_below z9 o;have x3:=Boxed.cell z7;have x4:=Boxed.frozen z7)
    have y:=ext_trans z z9
    exact⟨(keepsFrom_of_below y).trans ((KeepsOthers.setCell _ _ _).from _),⟨rfl,⟨x,by simp,e1⟩,Boxed.set _ z7⟩,(hB.trans (y.mono (by omega))).setCell (p:=⟨w.heap.size+1,0,none⟩) (by simp) _⟩
   ·have e1:stP x=true:=by simp[stP,h1',h2']
    have hC:=b2f h1'
    have z3:=b2f h2'
    clear h1' h2'
    gi_wp2_with (refine⟨trivial,?_⟩;gi_at_call 134;refine(CallsIn.inRound l (callsIn_wide.2 (hC _))).mono ?_;rintro e w1 ⟨rfl,z⟩;refine Hid.out ?_)
    have o:=block_below z k1
    obtain⟨s0,s1,s2⟩:=t'.below z t'.lt
    have z2:=Nat.le_trans hz z.size
    refine Lib.hid ?_
    gi_wp2_with (refine⟨trivial,?_⟩;gi_at_call 134;refine(CallsIn.inRound l (callsIn_wide.2 (z3 _))).mono ?_;rintro e w2 ⟨rfl,z9⟩)
    have y:=ext_trans z z9
    exact⟨keepsFrom_of_below y,kept_of_below y (by omega) (by omega),⟨fun p hm=>(List.mem_append.1 hm).elim (hp p) (fun e=>by simp at e;subst e;exact e1),Nat.le_trans hz y.size,block_below y k0,block_below y k1⟩,hB.trans (y.mono (by omega))⟩
 case done =>
  rintro D u W hD rfl ⟨⟨hp,hz,k0,k1⟩,hB⟩ hK
  have y6:u.all stP=true:=by simpa using hp
  have f:w.heap.size<W.heap.size:=by omega
  have y2:Tab W.heap.size W.drew (.slice a u.length c1) (.slice j u.length c2) (a0g u) (a1d u):=(hT.below hB.drew).mono (Nat.le_of_lt f)
  have y5:W.cell? ⟨w.heap.size,0,none⟩=some (.slice a u.length c1):=by simp[World.cell?,k0]
  have z2:W.cell? ⟨w.heap.size,1,none⟩=some (.slice j u.length c2):=by simp[World.cell?,k0]
  have hC:=c1h (n-1) h2 _ _ u hlen W.drew y2
  clear hp b0 b1 z5 z8 hT
  gi_wp2
  obtain⟨K0,d⟩:∃K0:Act->World->Prop,K0=(fun q w'=>∃w1,w1.ownsMap Tryz.prog 52 (plainElem (H:=Unit) Tryz.prog 3) (W.heap.size+1) u.length (a4a (a0g u))/\Below W.heap.size W.drew w1/\w'=w1.setCell ⟨w.heap.size+1,0,none⟩ (.bool (((Maps.size (a4a (a0g u)):Nat):Int) == ((u.length:Nat):Int)))/\q.defers=[{ target:=Target.collected D,args:=#[] }]/\q.tmps[2]?.getD undef=.pointer (some ⟨w.heap.size+1,0,none⟩)):=⟨_,rfl⟩
  refine wpIn_mono (Q:=Exit.then K0 (fun _ _ _=>False)) ?_ ?_
  ·replace d:Hid _:=d
   rename_i Kd ad
   clear ad
   gi_region_with (refine⟨trivial,?_⟩;refine hC.mono ?_;rintro e w1 ⟨rfl,g,z⟩;have hl:(Builtin.len_ #[205] 3 #[.map (some (W.heap.size+1))]).run Tryz.prog w1=.ok (.int .i64 (Maps.size (a4a (a0g u)))) w1:=g.len Tryz.underlying205 3;have y0:=(z.cell (p:=⟨w.heap.size,0,none⟩) f).trans y5;have o:=block_below (W:=W.drew) z k1;have x9:=Boxed.cell o;have y1:=Boxed.frozen o)
   all_goals (rw[d.out];exact⟨w1,g,z,rfl,rfl,rfl⟩)
  ·intro e q w' hQ
   rw[d]at hQ
   obtain⟨rfl,w1,g,z,rfl,y9,z0⟩:=a6m hQ
   obtain⟨tm,df⟩:=q
   simp only at y9 z0
   subst y9
   clear hQ d K0
   have o:=block_below (W:=W.drew) z k1
   gi_wp2
   have z4:(w1.setCell ⟨w.heap.size+1,0,none⟩ (.bool (((Maps.size (a4a (a0g u)):Nat):Int) == ((u.length:Nat):Int)))).heap[D]?=some (.deferred (some [])):=(KeepsOthers.setCell w1 _ _).same D _ (block_below (W:=W.drew) z hK) rfl
   refine⟨by simp,.inl ⟨_,_,rfl,run_takeDeferred z4,?_⟩⟩
   have z6:=cell_kept (Boxed.cell (Boxed.set (.bool (((Maps.size (a4a (a0g u)):Nat):Int) == ((u.length:Nat):Int))) o)) (grownBy_putObj' _ D (.deferred none)) (fun r e=>by cases e;exact⟨_,z4,rfl⟩)
   refine⟨.bool (((Maps.size (a4a (a0g u)):Nat):Int) == ((u.length:Nat):Int)),?_,ret_bool ?_,((hB.trans ((Below.refl w.heap.size W).drew.trans (z.mono (Nat.le_of_lt f)))).setCell (p:=⟨w.heap.size+1,0,none⟩) (by simp) _).trans (belowK_b (w:=w) (Nat.le_refl _) _ D _ _ (by omega) z4 rfl rfl)⟩
   ·simp[results,Tryz.results105,go_sem,z0,z6]
   ·rw[y6,Bool.true_and]
    have:=b8s (a0g u)
    rw[a0g,List.length_map]at this
    by_cases hn:(a0g u).Nodup
    ·rw[decide_eq_true hn,this.2 hn];simp
    ·rw[decide_eq_false hn]
     have:¬Maps.size (a4a (a0g u))=u.length:=fun e=>hn (this.1 e)
     simp;omega
 case stop =>
  rintro D c pre W hD y8 ⟨⟨rfl,y3,k1⟩,hB⟩ hK
  gi_wp2
  refine⟨by simp,.inl ⟨_,_,rfl,run_takeDeferred hK,?_⟩⟩
  have z6:=cell_kept (Boxed.cell k1) (grownBy_putObj' _ D (.deferred none)) (fun r e=>by cases e;exact⟨_,hK,rfl⟩)
  have y4:(zs.all stP&&decide (a0g zs).Nodup)=false:=by
   obtain⟨p,hp,hf⟩:=y3
   have:zs.all stP=false:=List.all_eq_false.2 ⟨p,y8.subset hp,by simp[hf]⟩
   rw[this];rfl
  refine⟨.bool false,?_,by rw[y4],hB.trans (belowK_b (w:=w) (Nat.le_refl _) W D _ _ (by omega) hK rfl rfl)⟩
  simp[results,Tryz.results105,go_sem,z6]
theorem a2m{xs ys:List Vl}(h:xs.length=ys.length):a0g (xs.zip ys)=xs:=List.map_fst_zip (by omega)
theorem a3j{xs ys:List Vl}(h:xs.length=ys.length):a1d (xs.zip ys)=ys:=List.map_snd_zip (by omega)
theorem d2d{xs ys:List Vl}(h:xs.length=ys.length):(xs.zip ys).all stP=(xs.all stB&&ys.all stB):=by
 induction xs generalizing ys with
 | nil=>cases ys with
  | nil=>rfl
  | cons y ys=>simp at h
 | cons x xs ih=>cases ys with
  | nil=>simp at h
  | cons y ys =>
   simp only[List.length_cons,Nat.add_right_cancel_iff]at h
   simp only[List.zip_cons_cons,List.all_cons,ih h,stP]
   cases stB x <;> cases stB y <;> simp
theorem b7c(ks vs:Value)(xs ys:List Vl)(w:World)(hT:Tab w.heap.size w ks vs xs ys) :
  Cl 105 #[.agg #[ks,vs]] w fun e z=>e=.returned (.bool (mayT xs ys))/\Bw w z:=by
 unfold mayT
 by_cases h:xs.length=ys.length
 ·by_cases hl:xs.length<=100
  ·have:=c2u 3 (by omega) ks vs (xs.zip ys) (by rw[List.length_zip];omega) w (by rw[a2m h,a3j h];exact hT)
   rw[d2d h,a2m h]at this
   simpa[h,h▸hl]using callsIn_wide.1 this
  ·have:=c2t ks vs xs ys w hT h (by omega)
   simpa[h,h▸hl]using this
 ·have:=c6r ks vs xs ys w hT (by simpa using h)
  simpa[h]using this
end
section
variable [DecidableEq Vl]
def nilV:Vl:=⟨0,0,⟨#[]⟩,by decide,by decide,by decide⟩
abbrev bx (x:Vl):Obj:=.cells #[vi x.k,vi x.n,.string x.s] 52
theorem set_block(v:Value)(h:W.heap[B]?=some (.cells c t z)):(W.setCell (Ad B i) v).heap[B]?=some (.cells (c.setIfInBounds i v) t z):=by
 obtain⟨y,hk⟩:=Array.getElem?_eq_some_iff.1 h
 show(W.heap.modify B _)[B]?=_
 rw[Array.getElem?_eq_getElem (by rw[Array.size_modify];exact y),Array.getElem_modify_self,hk]
 rfl
theorem cell_block{v:Value}(h:W.heap[B]?=some (.cells c t z))(hv:c[i]?=some v):W.cell? (Ad B i)=some v:=by
 simp[World.cell?,h,hv]
theorem frozen_block(h:W.heap[B]?=some (.cells c t)):W.frozen? (Ad B i)=false:=by
 simp[World.frozen?,h]
structure In3 (W:World) (B:Nat) (x:Vl):Prop where
 c0:W.cell? (Ad B 0)=some (vi x.k)
 c1:W.cell? (Ad B 1)=some (vi x.n)
 c2:W.cell? (Ad B 2)=some (.string x.s)
 f0:W.frozen? (Ad B 0)=false
 f1:W.frozen? (Ad B 1)=false
 f2:W.frozen? (Ad B 2)=false
theorem in3{x:Vl}(h:W.heap[B]?=some (bx x)):In3 W B x:=⟨cell_block h rfl,cell_block h rfl,cell_block h rfl,frozen_block h,frozen_block h,frozen_block h⟩
abbrev put3 (W:World) (B:Nat) (x:Vl):World:=((W.setCell (Ad B 0) (vi x.k)).setCell (Ad B 1) (vi x.n)).setCell (Ad B 2) (.string x.s)
theorem put3_same{x:Vl}(y:Vl)(h:W.heap[B]?=some (bx x)):(put3 W B y).heap[B]?=some (bx y):=set_block _ (set_block _ (set_block _ h))
theorem a0l(W:World)(y:Vl)(h:C≠B):(put3 W B y).heap[C]?=W.heap[C]?:=by
 unfold put3
 rw[Below.heap_setCell _ (Ad B 2) _ C h,Below.heap_setCell _ (Ad B 1) _ C h,Below.heap_setCell _ (Ad B 0) _ C h]
theorem a3v(W:World)(B:Nat)(y:Vl):KeepsOthers W (put3 W B y):=((KeepsOthers.setCell _ _ _).trans (KeepsOthers.setCell _ _ _)).trans (KeepsOthers.setCell _ _ _)
theorem put3_below{w:World}(y:Vl)(h:Below m w W)(hB:m<=B):Below m w (put3 W B y):=((h.setCell (p:=(Ad B 0)) hB _).setCell (p:=(Ad B 1)) hB _).setCell (p:=(Ad B 2)) hB _
theorem set1_other(W:World)(v:Value)(h:C≠B):(W.setCell (Ad B i) v).heap[C]?=W.heap[C]?:=Below.heap_setCell _ (Ad B i) _ C h
theorem block_put{D:Nat}{o':Obj}(h:W.heap[B]?=some o)(hne:B≠D):(W.putObj D o').heap[B]?=some o:=(World.putObj_heap_other hne).trans h
def look (zs:List (Vl×Vl)) (k:Vl):Vl:=((zs.find? (fun p=>decide (p.1=k))).map (·.2)).getD nilV
def getT (xs ys:List Vl) (k:Vl):Vl:=if mayT xs ys=true then look (xs.zip ys) k else nilV
theorem look_none{z:List (Vl×Vl)}{k:Vl}(h:∀p∈z,p.1≠k):look z k=nilV:=by
 unfold look
 rw[List.find?_eq_none.2 (fun p hp=>by simpa using h p hp)]
 rfl
theorem d2e{zs z:List (Vl×Vl)}{k y:Vl}(h:z++[(k,y)] <+: zs)(hi:∀p∈z,p.1≠k):look zs k=y:=by
 obtain⟨r,rfl⟩:=h
 unfold look
 rw[List.find?_append,List.find?_append,List.find?_eq_none.2 (fun p hp=>by simpa using hi p hp)]
 simp
end
section
variable [DecidableEq Vl]
attribute [local go_sem] Oper.semAt_some
theorem a8p{xs ys:List Vl}(h:mayT xs ys=true)(ks vs:Value)(w:World)(hT:Tab w.heap.size w ks vs xs ys) :
  Cl 105 #[.agg #[ks,vs]] w fun e z=>e=.returned (.bool true)/\Bw w z:=h▸b7c ks vs xs ys w hT
theorem b7d{xs ys:List Vl}(h:mayT xs ys=false)(ks vs:Value)(w:World)(hT:Tab w.heap.size w ks vs xs ys) :
  Cl 105 #[.agg #[ks,vs]] w fun e z=>e=.returned (.bool false)/\Bw w z:=h▸b7c ks vs xs ys w hT
theorem a4y{xs ys:List Vl}(h:mayT xs ys=true):xs.length=ys.length/\xs.length<=100:=by
 unfold mayT at h
 simp only[Bool.and_eq_true,decide_eq_true_eq]at h
 exact⟨h.1.1.1,h.1.1.2⟩
theorem res7{x:Vl}(h:tm[4]?.getD undef=Po B 0)(hx:W.heap[B]?=some (bx x)):(results Tryz.f77 tm).run Tryz.prog W=.ok x.v W:=by
 obtain⟨c0,c1,c2,_,_,_⟩:=in3 hx
 simp[results,Tryz.results77,go_sem,h,c0,c1,c2]
theorem d6k(ks vs:Value)(xs ys:List Vl)(k:Vl)(w:World)(hT:Tab w.heap.size w ks vs xs ys)(h:mayT xs ys=false) :
  Cl 77 #[.agg #[ks,vs],k.v] w fun e n=>e=.returned nilV.v/\Bw w n:=by
 obtain⟨a,c1,rfl⟩:=hT.keys.slice
 obtain⟨q,c2,rfl⟩:=hT.vals.slice
 have z:Bw w (((w.alloc (.cells #[.slice a xs.length c1,.slice q ys.length c2] 143)).alloc (bx k)).alloc (bx nilV)):=(((Below.refl _ w).alloc (Nat.le_refl _) _).alloc (by simp) _).alloc (by simp;omega) _
 have o:=b7d h (.slice a xs.length c1) (.slice q ys.length c2) _ ((hT.below z).mono z.size)
 clear hT h
 obtain⟨W1,u⟩:=exq ((((w.alloc (.cells #[.slice a xs.length c1,.slice q ys.length c2] 143)).alloc (bx k)).alloc (bx nilV)))
 have p:W1.heap[w.heap.size+1+1]?=some (bx nilV):=by
  have:=World.alloc_heap_new ((w.alloc (.cells #[.slice a xs.length c1,.slice q ys.length c2] 143)).alloc (bx k)) (bx nilV)
  simp only[World.size_alloc]at this
  rw[<- u];exact this
 go_enter Tryz.func77,Tryz.ntmps77
 go_wp2_with (go_at_call 105;refine o.mono ?_;rintro e w1 ⟨rfl,y⟩;refine Hid.out ?_)
 rw[u]at z y
 have s:=block_below y p
 obtain⟨c0,j,m,f0,f1,f2⟩:=in3 s
 clear o u
 refine Lib.hid ?_
 go_wp2
 exact bodyPost_ret (v:=nilV.v) (res7 rfl (put3_same nilV s)) rfl ⟨rfl,put3_below nilV (z.trans (y.mono z.size)) (by omega)⟩
theorem d2f(n:Nat)(h3:3<=n)(ks vs:Value)(zs:List (Vl×Vl))(hlen:zs.length<=100)(k:Vl)(w:World)(hT:Tab w.heap.size w ks vs (a0g zs) (a1d zs))(h:mayT (a0g zs) (a1d zs)=true) :
  CallsIn Fence.wide n Tryz.prog 77 #[.agg #[ks,vs],k.v] w fun e w'=>e=.returned (look zs k).v/\Bw w w':=by
 have h1:1<=n:=by omega
 have y5:1<=n-1:=by omega
 have y6:1<=n-1-1:=by omega
 obtain⟨a,c1,z3⟩:=hT.keys.slice
 obtain⟨i,c2,z7⟩:=hT.vals.slice
 simp only[a0g,a1d,List.length_map]at z3 z7
 subst z3 z7
 have u:Bw w (((w.alloc (.cells #[.slice a zs.length c1,.slice i zs.length c2] 143)).alloc (bx k)).alloc (bx nilV)):=(((Below.refl _ w).alloc (Nat.le_refl _) _).alloc (by simp) _).alloc (by simp;omega) _
 have hC:=a8p h (.slice a zs.length c1) (.slice i zs.length c2) _ ((hT.below u).mono u.size)
 clear h
 obtain⟨W1,m⟩:=exq ((((w.alloc (.cells #[.slice a zs.length c1,.slice i zs.length c2] 143)).alloc (bx k)).alloc (bx nilV)))
 have z5:W1.heap[w.heap.size+1+1]?=some (bx nilV):=by
  have:=World.alloc_heap_new ((w.alloc (.cells #[.slice a zs.length c1,.slice i zs.length c2] 143)).alloc (bx k)) (bx nilV)
  simp only[World.size_alloc]at this
  rw[<- m];exact this
 have z2:W1.heap[w.heap.size+1]?=some (bx k):=by
  have:=block_alloc (bx nilV) (World.alloc_heap_new (w.alloc (.cells #[.slice a zs.length c1,.slice i zs.length c2] 143)) (bx k))
  simp only[World.size_alloc]at this
  rw[<- m];exact this
 have z6:W1.heap[w.heap.size]?=some (.cells #[.slice a zs.length c1,.slice i zs.length c2] 143):=by rw[<- m];exact block_alloc _ (block_alloc _ (World.alloc_heap_new w _))
 have y8:W1.heap.size=w.heap.size+3:=by rw[<- m];simp
 refine callsIn_of_wp_marks Tryz.func77 rfl trivial ?_ rfl
 simp only[Tryz.ntmps77,List.size_toArray,List.length_cons,List.length_nil,Nat.reduceAdd,Nat.reduceSub,Array.replicate_succ,Array.replicate_zero,List.push_toArray,List.append_toArray,List.nil_append,List.cons_append]
 gi_wp2_with (refine⟨trivial,?_⟩;gi_at_call 105;refine(callsIn_wide.2 hC).mono ?_;rintro e w1 ⟨rfl,z⟩;refine Hid.out ?_)
 rw[m]at u z
 have g:=block_below z z5
 have f:=block_below z z2
 have z8:=block_below z z6
 have x0:Ce w1 w.heap.size 0 (.slice a zs.length c1):=cell_block z8 rfl
 have x1:Ce w1 w.heap.size 1 (.slice i zs.length c2):=cell_block z8 rfl
 clear hC m z5 z2 z6
 refine Lib.hid ?_
 gi_wp2_with (refine⟨trivial,?_⟩;gi_at_call 106;refine(a7f _ _ _ _).mono ?_;rintro e w' ⟨rfl,rfl⟩)
 have d:Bw w (w1.alloc (.cells #[.slice a zs.length c1,.slice i zs.length c2] 143)):=(u.trans (z.mono u.size)).alloc (by have:=u.size;have:=z.size;omega) _
 have y9:w.heap.size+3<=w1.heap.size:=by have:=z.size;omega
 obtain⟨W0,j⟩:=exq (w1.alloc (.cells #[.slice a zs.length c1,.slice i zs.length c2] 143))
 have y7:W0.heap.size=w1.heap.size+1:=by rw[<- j];simp
 have z1:W0.heap[w1.heap.size]?=some (.cells #[.slice a zs.length c1,.slice i zs.length c2] 143):=by rw[<- j];exact World.alloc_heap_new _ _
 replace g:W0.heap[w.heap.size+1+1]?=some (bx nilV):=by rw[<- j];exact block_alloc _ g
 replace f:W0.heap[w.heap.size+1]?=some (bx k):=by rw[<- j];exact block_alloc _ f
 rw[j]at d⊢
 clear j x0 x1 z8
 refine wpIn_rangeFunc_ownH rfl h1 (gf:=136) (lb:=#[Po w1.heap.size 0]) rfl trivial (enters_of Tryz.func136 (by kernel_rfl) rfl)
  (a3y (n-1) w1.heap.size w.heap.size _ _ zs hlen W0 (by omega) (by omega) z1 (hT.below d)) (fun h k=>h.trans k) (Kept.putObj (by omega) (by omega)) (Below.refl _ _) (fun _=>rfl)
  (fun(pre:List (Vl×Vl)) W=>((∀p∈pre,p.1≠k)/\W0.heap.size<=W.heap.size/\W.heap[w.heap.size+1]?=some (bx k)/\W.heap[w.heap.size+1+1]?=some (bx nilV))/\Bw w W)
  (fun c (pre:List (Vl×Vl)) W=>(c=.ret/\(∃y,(∃z9,pre=z9++[(k,y)]/\∀p∈z9,p.1≠k)/\W.heap[w.heap.size+1+1]?=some (bx y)))/\Bw w W)
  (OwnFrom.and (OwnFrom.and (ownFrom_pure _ _) (OwnFrom.and size_ownFrom (OwnFrom.and (block_ownFrom _ (by omega)) (block_ownFrom _ (by omega))))) (ownFrom_below (Nat.le_refl _) (by omega)))
  (fun c=>OwnFrom.and (fun s A B row hs hg hr=>by obtain⟨e1,y,e2,e3⟩:=hs;exact⟨e1,y,e2,(block_ownFrom (β:=Unit) _ (by omega)) () A B row e3 hg hr⟩) (ownFrom_below (Nat.le_refl _) (by omega)))
  ⟨⟨by simp,Nat.le_refl _,f,g⟩,d⟩
  (fun x q W=>∃Bx By,w1.heap.size<Bx/\a3d W Bx 0 x.1/\a3d W By 0 x.2/\q={ tmps:=#[.agg #[.slice a zs.length c1,.slice i zs.length c2],k.v,Po w.heap.size 0,Po (w.heap.size+1) 0,Po (w.heap.size+1+1) 0,Po Bx 0,Po By 0,.agg #[.slice a zs.length c1,.slice i zs.length c2],.bool true,.bool false,undef,.agg #[.slice a zs.length c1,.slice i zs.length c2],.func (.func 136) #[] #[Po w1.heap.size 0],x.1.v,x.2.v,undef,undef,undef,undef,undef],defers:=[] })
  (fun x q=>fun _ A B row hs hg hr=>by obtain⟨Bx,By,h1,h2,h3,h4⟩:=hs;exact⟨Bx,By,h1,(a3d.own (β:=Unit) Bx 0 x.1) () A B row h2 hg (fun r e=>(hr r e).2),(a3d.own (β:=Unit) By 0 x.2) () A B row h3 hg (fun r e=>(hr r e).2),h4⟩)
  ?assign ?body ?done ?stop
 case assign =>
  rintro l pre x W K ⟨⟨hp,hz,k0,k1⟩,hB⟩ hK
  gi_wp2
  have o:Bw W ((W.alloc (bx x.1)).alloc (bx x.2)):=((Below.refl _ _).alloc (Nat.le_refl _) _).alloc (by simp) _
  exact hK _ _ (keepsFrom_of_below o) (kept_of_below o (by omega) (by omega)) ⟨⟨hp,Nat.le_trans hz o.size,block_below o k0,block_below o k1⟩,hB.trans (o.mono (by omega))⟩ ⟨W.heap.size,W.heap.size+1,by omega,(a4n W x.1).alloc _,by have:=a4n (W.alloc (bx x.1)) x.2;simpa using this,rfl⟩
 case body =>
  rintro l pre x q W hl ⟨r,hr⟩ ⟨⟨hp,hz,k0,k1⟩,hB⟩ ⟨Bx,By,y3,⟨t0,t1,t2⟩,⟨s0,s1,s2⟩,rfl⟩ y4
  clear hr hT z1 d g f u z
  rename_i Kd ad
  clear ad Kd
  obtain⟨p0,p1,p2,_,_,_⟩:=in3 k0
  obtain⟨r0,r1,r2,f0,f1,f2⟩:=in3 k1
  gi_wp2
  ·rename_i e1 e2 e3
   have e:x.1=k:=Vl.ext' e1 e2 e3
   exact⟨(a3v W _ x.2).from _,⟨rfl,x.2,⟨pre,by rw[<- e],hp⟩,put3_same x.2 k1⟩,put3_below x.2 hB (by omega)⟩
  all_goals
   have e:x.1≠k:=fun e=>by subst e;contradiction
   exact⟨KeepsFrom.refl _ _,Kept.refl _ _ _,⟨fun p hm=>(List.mem_append.1 hm).elim (hp p) (fun e'=>by simp at e';subst e';exact e),hz,k0,k1⟩,hB⟩
 case done =>
  rintro D ys W hD rfl ⟨⟨hp,hz,k0,k1⟩,hB⟩ hK
  obtain⟨r0,r1,r2,f0,f1,f2⟩:=in3 k1
  gi_wp2
  have z0:(put3 W (w.heap.size+1+1) nilV).heap[D]?=some (.deferred (some [])):=(a3v W _ _).same D _ hK rfl
  refine⟨by simp,.inl ⟨_,_,rfl,run_takeDeferred z0,?_⟩⟩
  exact⟨nilV.v,res7 rfl (block_put (put3_same nilV k1) (by omega)),by rw[look_none hp],(put3_below nilV hB (by omega)).trans (belowK_b (w:=w) (Nat.le_refl _) _ D _ _ (by omega) z0 rfl rfl)⟩
 case stop =>
  rintro D c pre W hD z4 ⟨⟨rfl,y,⟨z9,rfl,hi⟩,k1⟩,hB⟩ hK
  gi_wp2
  refine⟨by simp,.inl ⟨_,_,rfl,run_takeDeferred hK,?_⟩⟩
  exact⟨y.v,res7 rfl (block_put k1 (by omega)),by rw[d2e z4 hi],hB.trans (belowK_b (w:=w) (Nat.le_refl _) _ D _ _ (by omega) hK rfl rfl)⟩
theorem d2g(ks vs:Value)(xs ys:List Vl)(k:Vl)(w:World)(hT:Tab w.heap.size w ks vs xs ys) :
  Cl 77 #[.agg #[ks,vs],k.v] w fun e y=>e=.returned (getT xs ys k).v/\Bw w y:=by
 unfold getT
 cases h:mayT xs ys
 ·exact d6k ks vs xs ys k w hT h
 ·obtain⟨z,u⟩:=a4y h
  have:=d2f 3 (by omega) ks vs (xs.zip ys) (by rw[List.length_zip];omega) k w (by rw[a2m z,a3j z];exact hT) (by rw[a2m z,a3j z];exact h)
  exact callsIn_wide.1 this
end
section
variable [DecidableEq Vl]
attribute [local go_sem] Oper.semAt_some
def scan (past:Bool) (k:Vl):List Vl->Vl×Int
 | []=>(nilV,if past then 0 else 4)
 | x::r=>if past then (x,0) else scan (decide (x=k)) k r
def a5p (xs ys:List Vl) (k:Vl):Vl×Int:=if mayT xs ys=true/\mayB k.k k.n k.s=true then scan (k.k == 0) k xs else (nilV,2)
theorem res9{x:Vl}{c:Int}(h:tm[4]?.getD undef=Po B 0)(h':tm[5]?.getD undef=Po C 0)(hx:W.heap[B]?=some (bx x))(hc:W.heap[C]?=some (.cells #[vi c] 22)) :
  (results Tryz.f113 tm).run Tryz.prog W=.ok (.tuple #[x.v,vi c]) W:=by
 obtain⟨c0,c1,c2,_,_,_⟩:=in3 hx
 have c3:=Boxed.cell hc
 simp[results,Tryz.results113,go_sem,h,h',c0,c1,c2,c3]
theorem b2g(w:World)(o0:Obj)(k:Vl){W1:World}(hW:(((w.alloc o0).alloc (bx k)).alloc (bx nilV)).alloc (.cells #[vi 0] 22)=W1) :
  W1.heap.size=w.heap.size+4/\Bw w W1/\W1.heap[w.heap.size]?=some o0/\W1.heap[w.heap.size+1]?=some (bx k)/\W1.heap[w.heap.size+1+1]?=some (bx nilV)/\W1.heap[w.heap.size+1+1+1]?=some (.cells #[vi 0] 22):=by
 subst hW
 refine⟨by simp,((((Below.refl _ w).alloc (Nat.le_refl _) _).alloc (by simp) _).alloc (by simp;omega) _).alloc (by simp;omega) _,block_alloc _ (block_alloc _ (block_alloc _ (World.alloc_heap_new w _))),?_,?_,?_⟩
 ·have:=block_alloc (.cells #[vi 0] 22) (block_alloc (bx nilV) (World.alloc_heap_new (w.alloc o0) (bx k)))
  simpa only[World.size_alloc]using this
 ·have:=block_alloc (.cells #[vi 0] 22) (World.alloc_heap_new ((w.alloc o0).alloc (bx k)) (bx nilV))
  simpa only[World.size_alloc]using this
 ·have:=World.alloc_heap_new (((w.alloc o0).alloc (bx k)).alloc (bx nilV)) (.cells #[vi 0] 22)
  simpa only[World.size_alloc]using this
theorem c6s(ks vs:Value)(xs ys:List Vl)(k:Vl)(w:World)(hT:Tab w.heap.size w ks vs xs ys)(h:mayT xs ys=false) :
  Cl 113 #[.agg #[ks,vs],k.v] w fun e i=>e=.returned (.tuple #[nilV.v,vi 2])/\Bw w i:=by
 obtain⟨a,c1,rfl⟩:=hT.keys.slice
 obtain⟨j,c2,rfl⟩:=hT.vals.slice
 obtain⟨W1,u⟩:=exq (((((w.alloc (.cells #[.slice a xs.length c1,.slice j ys.length c2] 143)).alloc (bx k)).alloc (bx nilV)).alloc (.cells #[vi 0] 22)))
 obtain⟨f,y,g,d,o,n⟩:=b2g w _ k u
 have m:=b7d h (.slice a xs.length c1) (.slice j ys.length c2) _ ((hT.below y).mono y.size)
 rw[<- u]at m
 clear hT h
 go_enter Tryz.func113,Tryz.ntmps113
 go_wp2_with (go_at_call 105;refine m.mono ?_;rintro e w1 ⟨rfl,z⟩;refine Hid.out ?_)
 rw[u]at z
 have q:=block_below z o
 have s:=block_below z n
 obtain⟨c0,z8,z9,f0,f1,f2⟩:=in3 q
 have z0:=Boxed.cell s
 have z1:=Boxed.frozen s
 clear m u
 refine Lib.hid ?_
 go_wp2
 refine bodyPost_ret (v:=.tuple #[nilV.v,vi 2]) (res9 rfl rfl ((set1_other _ _ (by omega)).trans (put3_same nilV q)) (set_block _ ((a0l _ nilV (by omega)).trans s))) rfl ⟨rfl,?_⟩
 exact(put3_below nilV (y.trans (z.mono y.size)) (by omega)).setCell (p:=(Ad (w.heap.size+1+1+1) 0)) (by simp;omega) _
theorem c6t(ks vs:Value)(xs ys:List Vl)(k:Vl)(w:World)(hT:Tab w.heap.size w ks vs xs ys)(h:mayT xs ys=true)(h':mayB k.k k.n k.s=false) :
  Cl 113 #[.agg #[ks,vs],k.v] w fun e w'=>e=.returned (.tuple #[nilV.v,vi 2])/\Bw w w':=by
 obtain⟨a,c1,rfl⟩:=hT.keys.slice
 obtain⟨a',c2,rfl⟩:=hT.vals.slice
 obtain⟨W1,q⟩:=exq (((((w.alloc (.cells #[.slice a xs.length c1,.slice a' ys.length c2] 143)).alloc (bx k)).alloc (bx nilV)).alloc (.cells #[vi 0] 22)))
 obtain⟨z7,y,z8,f,g,z9⟩:=b2g w _ k q
 have hC:=a8p h (.slice a xs.length c1) (.slice a' ys.length c2) _ ((hT.below y).mono y.size)
 rw[<- q]at hC
 clear hT h
 have hM:=fun u=>c0p k.k k.n k.s u h'
 clear h'
 go_enter Tryz.func113,Tryz.ntmps113
 go_wp2_with (go_at_call 105;refine hC.mono ?_;rintro e w1 ⟨rfl,z⟩;refine Hid.out ?_)
 rw[q]at z
 have i:=block_below z g
 have d:=block_below z z9
 obtain⟨q0,q1,q2,_,_,_⟩:=in3 (block_below z f)
 clear hC q
 refine Lib.hid ?_
 go_wp2_with (go_at_call 35;refine(hM _).mono ?_;rintro e w2 ⟨rfl,m⟩;refine Hid.out ?_)
 have j:=block_below m i
 have o:=block_below m d
 obtain⟨c0,z5,z6,f0,f1,f2⟩:=in3 j
 have z0:=Boxed.cell o
 have z1:=Boxed.frozen o
 refine Lib.hid ?_
 go_wp2
 refine bodyPost_ret (v:=.tuple #[nilV.v,vi 2]) (res9 rfl rfl ((set1_other _ _ (by omega)).trans (put3_same nilV j)) (set_block _ ((a0l _ nilV (by omega)).trans o))) rfl ⟨rfl,?_⟩
 exact(put3_below nilV (y.trans ((ext_trans z m).mono y.size)) (by omega)).setCell (p:=(Ad (w.heap.size+1+1+1) 0)) (by simp;omega) _
theorem c2v{k:Vl}{pre:List Vl}(h:∀r,scan p k (pre++r)=scan false k r)(x:Vl):∀r,scan p k ((pre++[x])++r)=scan (decide (x=k)) k r:=fun r=>by
 rw[List.append_assoc,h];rfl
theorem c6u{k:Vl}{pre:List Vl}(h:∀r,scan p k (pre++r)=scan true k r)(x:Vl):∀r,scan p k ((pre++[x])++r)=(x,0):=fun r=>by
 rw[List.append_assoc,h];rfl
theorem c6v(n:Nat)(h3:3<=n)(ks vs:Value)(zs:List (Vl×Vl))(hlen:zs.length<=100)(k:Vl)(w:World)(hT:Tab w.heap.size w ks vs (a0g zs) (a1d zs))(h:mayT (a0g zs) (a1d zs)=true)(h':mayB k.k k.n k.s=true) :
  CallsIn Fence.wide n Tryz.prog 113 #[.agg #[ks,vs],k.v] w fun e w'=>e=.returned (.tuple #[(scan (k.k == 0) k (a0g zs)).1.v,vi (scan (k.k == 0) k (a0g zs)).2])/\Bw w w':=by
 have h1:1<=n:=by omega
 have y1:1<=n-1:=by omega
 have y2:1<=n-1-1:=by omega
 obtain⟨a,c1,y8⟩:=hT.keys.slice
 obtain⟨a',c2,z3⟩:=hT.vals.slice
 simp only[a0g,a1d,List.length_map]at y8 z3
 subst y8 z3
 obtain⟨W1,z6⟩:=exq (((((w.alloc (.cells #[.slice a zs.length c1,.slice a' zs.length c2] 143)).alloc (bx k)).alloc (bx nilV)).alloc (.cells #[vi 0] 22)))
 obtain⟨y4,z8,d,o,j,i⟩:=b2g w _ k z6
 have hC:=a8p h (.slice a zs.length c1) (.slice a' zs.length c2) _ ((hT.below z8).mono z8.size)
 rw[<- z6]at hC
 have hM:=fun u=>a1r k.k k.n k.s u h'
 obtain⟨p0,y6⟩:=exq ((k.k == 0))
 rw[y6]
 clear h h'
 refine callsIn_of_wp_marks Tryz.func113 rfl trivial ?_ rfl
 simp only[Tryz.ntmps113,List.size_toArray,List.length_cons,List.length_nil,Nat.reduceAdd,Nat.reduceSub,Array.replicate_succ,Array.replicate_zero,List.push_toArray,List.append_toArray,List.nil_append,List.cons_append]
 gi_wp2_with (refine⟨trivial,?_⟩;gi_at_call 105;refine(callsIn_wide.2 hC).mono ?_;rintro e w1 ⟨rfl,g⟩;refine Hid.out ?_)
 rw[z6]at g
 replace j:=block_below g j
 replace i:=block_below g i
 replace o:=block_below g o
 replace d:=block_below g d
 obtain⟨q0,q1,q2,_,_,_⟩:=in3 o
 clear hC z6
 refine Lib.hid ?_
 gi_wp2_with (refine⟨trivial,?_⟩;gi_at_call 35;refine(callsIn_wide.2 (hM _)).mono ?_;rintro e w2 ⟨rfl,z⟩;refine Hid.out ?_)
 replace j:=block_below z j
 replace i:=block_below z i
 replace o:=block_below z o
 replace d:=block_below z d
 have x0:Ce w2 w.heap.size 0 (.slice a zs.length c1):=cell_block d rfl
 have x1:Ce w2 w.heap.size 1 (.slice a' zs.length c2):=cell_block d rfl
 have z5:=z8.trans ((ext_trans g z).mono z8.size)
 have y5:w.heap.size+4<=w2.heap.size:=by have:=g.size;have:=z.size;omega
 clear q0 q1 q2 g z hM
 replace x0:=a2a (.cells #[.bool p0] 4) x0
 replace x1:=a2a (.cells #[.bool p0] 4) x1
 obtain⟨q0,q1,q2,_,_,_⟩:=in3 o
 refine Lib.hid ?_
 gi_wp2_with (refine⟨trivial,?_⟩;gi_at_call 106;refine(a7f _ _ _ _).mono ?_;rintro e w' ⟨rfl,rfl⟩)
 obtain⟨W0,m⟩:=exq ((w2.alloc (.cells #[.bool p0] 4)).alloc (.cells #[.slice a zs.length c1,.slice a' zs.length c2] 143))
 have y3:W0.heap.size=w2.heap.size+2:=by rw[<- m];simp
 have z:Bw w W0:=by rw[<- m];exact(z5.alloc (by omega) _).alloc (by simp;omega) _
 have y7:W0.heap[w2.heap.size+1]?=some (.cells #[.slice a zs.length c1,.slice a' zs.length c2] 143):=by
  have:=World.alloc_heap_new (w2.alloc (.cells #[.bool p0] 4)) (.cells #[.slice a zs.length c1,.slice a' zs.length c2] 143)
  simp only[World.size_alloc]at this
  rw[<- m];exact this
 have y9:W0.heap[w2.heap.size]?=some (.cells #[.bool p0] 4):=by rw[<- m];exact block_alloc _ (World.alloc_heap_new _ _)
 replace j:W0.heap[w.heap.size+1+1]?=some (bx nilV):=by rw[<- m];exact block_alloc _ (block_alloc _ j)
 replace o:W0.heap[w.heap.size+1]?=some (bx k):=by rw[<- m];exact block_alloc _ (block_alloc _ o)
 replace i:W0.heap[w.heap.size+1+1+1]?=some (.cells #[vi 0] 22):=by rw[<- m];exact block_alloc _ (block_alloc _ i)
 rw[m]
 clear m x0 x1 d q0 q1 q2
 refine wpIn_rangeFunc_ownH rfl h1 (gf:=136) (lb:=#[Po (w2.heap.size+1) 0]) rfl trivial (enters_of Tryz.func136 (by kernel_rfl) rfl)
  (a3y (n-1) (w2.heap.size+1) w.heap.size _ _ zs hlen W0 (by omega) (by omega) y7 (hT.below z)) (fun h k=>h.trans k) (Kept.putObj (by omega) (by omega)) (Below.refl _ _) (fun _=>rfl)
  (fun(pre:List (Vl×Vl)) W=>((∃pb,(∀r,scan p0 k (a0g pre++r)=scan pb k r)/\W.heap[w2.heap.size]?=some (.cells #[.bool pb] 4))/\W0.heap.size<=W.heap.size/\W.heap[w.heap.size+1]?=some (bx k)/\W.heap[w.heap.size+1+1]?=some (bx nilV)/\W.heap[w.heap.size+1+1+1]?=some (.cells #[vi 0] 22))/\Bw w W)
  (fun c (pre:List (Vl×Vl)) W=>(c=.ret/\(∃y,(∀r,scan p0 k (a0g pre++r)=(y,0))/\W.heap[w.heap.size+1+1]?=some (bx y))/\W.heap[w.heap.size+1+1+1]?=some (.cells #[vi 0] 22))/\Bw w W)
  (OwnFrom.and (OwnFrom.and (fun s A B row hs hg hr=>by obtain⟨pb,e2,e3⟩:=hs;exact⟨pb,e2,(block_ownFrom (β:=Unit) _ (by omega)) () A B row e3 hg hr⟩) (OwnFrom.and size_ownFrom (OwnFrom.and (block_ownFrom _ (by omega)) (OwnFrom.and (block_ownFrom _ (by omega)) (block_ownFrom _ (by omega)))))) (ownFrom_below (Nat.le_refl _) (by omega)))
  (fun c=>OwnFrom.and (OwnFrom.and (ownFrom_pure _ _) (OwnFrom.and (fun s A B row hs hg hr=>by obtain⟨y,e2,e3⟩:=hs;exact⟨y,e2,(block_ownFrom (β:=Unit) _ (by omega)) () A B row e3 hg hr⟩) (block_ownFrom _ (by omega)))) (ownFrom_below (Nat.le_refl _) (by omega)))
  ⟨⟨⟨p0,fun _=>rfl,y9⟩,Nat.le_refl _,o,j,i⟩,z⟩
  (fun x q W=>∃Bx,w2.heap.size+1<Bx/\a3d W Bx 0 x.1/\q={ tmps:=#[.agg #[.slice a zs.length c1,.slice a' zs.length c2],k.v,Po w.heap.size 0,Po (w.heap.size+1) 0,Po (w.heap.size+1+1) 0,Po (w.heap.size+1+1+1) 0,Po w2.heap.size 0,Po Bx 0,.agg #[.slice a zs.length c1,.slice a' zs.length c2],.bool true,.bool false,.bool false,k.v,.bool true,.bool false,.bool false,undef,Po (w.heap.size+1) 0,vi k.k,.bool p0,.agg #[.slice a zs.length c1,.slice a' zs.length c2],.func (.func 136) #[] #[Po (w2.heap.size+1) 0],x.1.v,x.2.v,undef,undef,undef,undef,undef,undef,undef,undef,undef],defers:=[] })
  (fun x q=>fun _ A B row hs hg hr=>by obtain⟨Bx,h1,h2,h4⟩:=hs;exact⟨Bx,h1,(a3d.own (β:=Unit) Bx 0 x.1) () A B row h2 hg (fun r e=>(hr r e).2),h4⟩)
  ?assign ?body ?done ?stop
 case assign =>
  rintro l pre x W K ⟨⟨⟨pb,hp,kb⟩,hz,k0,k1,k2⟩,hB⟩ hK
  gi_wp2
  have f:Bw W (W.alloc (bx x.1)):=(Below.refl _ _).alloc (Nat.le_refl _) _
  exact hK _ _ (keepsFrom_of_below f) (kept_of_below f (by omega) (by omega)) ⟨⟨⟨pb,hp,block_below f kb⟩,Nat.le_trans hz f.size,block_below f k0,block_below f k1,block_below f k2⟩,hB.trans (f.mono (by omega))⟩ ⟨W.heap.size,by omega,a4n W x.1,rfl⟩
 case body =>
  rintro l pre x q W hl ⟨r,hr⟩ ⟨⟨⟨pb,hp,kb⟩,hz,k0,k1,k2⟩,hB⟩ ⟨Bx,x9,⟨t0,t1,t2⟩,rfl⟩ y0
  clear hr hT y7 z j o z8 z5 y9 i
  rename_i Kd ad
  clear ad Kd
  obtain⟨u0,u1,u2,_,_,_⟩:=in3 k0
  have v0:=Boxed.cell kb
  have v1:=Boxed.frozen kb
  have ek:a0g (pre++[x])=a0g pre++[x.1]:=by simp[a0g]
  cases pb
  ·replace hp:Hid _:=hp
   gi_wp2
   ·rename_i e1 e2 e3
    have e:decide (x.1=k)=true:=decide_eq_true (Vl.ext' e1 e2 e3)
    have z4:=hB.setCell (p:=(Ad w2.heap.size 0)) (by show w.heap.size<=w2.heap.size;omega) (.bool true)
    exact⟨(KeepsOthers.setCell _ _ _).from _,⟨(Below.refl _ _).setCell (p:=(Ad w2.heap.size 0)) (by show w.heap.size<=w2.heap.size;omega) _,set1_other _ _ (by omega)⟩,⟨⟨true,by rw[ek,<- e];exact c2v hp.out x.1,Boxed.set _ kb⟩,Nat.le_trans hz (KeepsOthers.setCell W (Ad w2.heap.size 0) (.bool true)).size,(set1_other _ _ (by omega)).trans k0,(set1_other _ _ (by omega)).trans k1,(set1_other _ _ (by omega)).trans k2⟩,z4⟩
   all_goals
    have e:decide (x.1=k)=false:=decide_eq_false (fun e=>by subst e;contradiction)
    have z4:=hB.setCell (p:=(Ad w2.heap.size 0)) (by show w.heap.size<=w2.heap.size;omega) (.bool false)
    exact⟨(KeepsOthers.setCell _ _ _).from _,⟨(Below.refl _ _).setCell (p:=(Ad w2.heap.size 0)) (by show w.heap.size<=w2.heap.size;omega) _,set1_other _ _ (by omega)⟩,⟨⟨false,by rw[ek,<- e];exact c2v hp.out x.1,Boxed.set _ kb⟩,Nat.le_trans hz (KeepsOthers.setCell W (Ad w2.heap.size 0) (.bool false)).size,(set1_other _ _ (by omega)).trans k0,(set1_other _ _ (by omega)).trans k1,(set1_other _ _ (by omega)).trans k2⟩,z4⟩
  ·replace hp:Hid _:=hp
   obtain⟨r0,r1,r2,f0,f1,f2⟩:=in3 k1
   have z0:=Boxed.cell k2
   have z1:=Boxed.frozen k2
   gi_wp2
   exact⟨((a3v W _ x.1).trans (KeepsOthers.setCell _ _ _)).from _,⟨rfl,⟨x.1,by rw[ek];exact c6u hp.out x.1,(set1_other _ _ (by omega)).trans (put3_same x.1 k1)⟩,set_block _ ((a0l _ x.1 (by omega)).trans k2)⟩,(put3_below x.1 hB (by omega)).setCell (p:=(Ad (w.heap.size+1+1+1) 0)) (by simp;omega) _⟩
 case done =>
  rintro D ys W hD rfl ⟨⟨⟨pb,hp,kb⟩,hz,k0,k1,k2⟩,hB⟩ hK
  obtain⟨r0,r1,r2,f0,f1,f2⟩:=in3 k1
  have z0:=Boxed.cell k2
  have z1:=Boxed.frozen k2
  have v0:=Boxed.cell kb
  have v1:=Boxed.frozen kb
  have z9:=hp []
  rw[List.append_nil]at z9
  replace z9:Hid _:=z9
  clear hp
  cases pb
  ·gi_wp2
   have z7:((put3 W (w.heap.size+1+1) nilV).setCell (Ad (w.heap.size+1+1+1) 0) (vi 4)).heap[D]?=some (.deferred (some [])):=((a3v W _ _).trans (KeepsOthers.setCell _ _ _)).same D _ hK rfl
   refine⟨by simp,.inl ⟨_,_,rfl,run_takeDeferred z7,?_⟩⟩
   refine⟨.tuple #[nilV.v,vi 4],res9 rfl rfl (block_put ((set1_other _ _ (by omega)).trans (put3_same nilV k1)) (by omega)) (block_put (set_block _ ((a0l _ nilV (by omega)).trans k2)) (by omega)),by rw[z9.out];rfl,?_⟩
   exact((put3_below nilV hB (by omega)).setCell (p:=(Ad (w.heap.size+1+1+1) 0)) (by simp;omega) _).trans (belowK_b (w:=w) (Nat.le_refl _) _ D _ _ (by omega) z7 rfl rfl)
  ·gi_wp2
   have z7:((put3 W (w.heap.size+1+1) nilV).setCell (Ad (w.heap.size+1+1+1) 0) (vi 0)).heap[D]?=some (.deferred (some [])):=((a3v W _ _).trans (KeepsOthers.setCell _ _ _)).same D _ hK rfl
   refine⟨by simp,.inl ⟨_,_,rfl,run_takeDeferred z7,?_⟩⟩
   refine⟨.tuple #[nilV.v,vi 0],res9 rfl rfl (block_put ((set1_other _ _ (by omega)).trans (put3_same nilV k1)) (by omega)) (block_put (set_block _ ((a0l _ nilV (by omega)).trans k2)) (by omega)),by rw[z9.out];rfl,?_⟩
   exact((put3_below nilV hB (by omega)).setCell (p:=(Ad (w.heap.size+1+1+1) 0)) (by simp;omega) _).trans (belowK_b (w:=w) (Nat.le_refl _) _ D _ _ (by omega) z7 rfl rfl)
 case stop =>
  rintro D c pre W hD z2 ⟨⟨rfl,⟨y,hy,k1⟩,k2⟩,hB⟩ hK
  gi_wp2
  refine⟨by simp,.inl ⟨_,_,rfl,run_takeDeferred hK,?_⟩⟩
  refine⟨.tuple #[y.v,vi 0],res9 rfl rfl (block_put k1 (by omega)) (block_put k2 (by omega)),?_,hB.trans (belowK_b (w:=w) (Nat.le_refl _) _ D _ _ (by omega) hK rfl rfl)⟩
  obtain⟨r,rfl⟩:=z2
  rw[a0g,List.map_append,hy]
theorem c6w(ks vs:Value)(xs ys:List Vl)(k:Vl)(w:World)(hT:Tab w.heap.size w ks vs xs ys) :
  Cl 113 #[.agg #[ks,vs],k.v] w fun e y=>e=.returned (.tuple #[(a5p xs ys k).1.v,vi (a5p xs ys k).2])/\Bw w y:=by
 unfold a5p
 cases h:mayT xs ys
 ·exact c6s ks vs xs ys k w hT h
 ·cases h':mayB k.k k.n k.s
  ·exact c6t ks vs xs ys k w hT h h'
  ·obtain⟨z,u⟩:=a4y h
   have:=c6v 3 (by omega) ks vs (xs.zip ys) (by rw[List.length_zip];omega) k w (by rw[a2m z,a3j z];exact hT) (by rw[a2m z,a3j z];exact h) h'
   rw[a2m z]at this
   exact callsIn_wide.1 this
end
section
variable [DecidableEq Vl]
def numV (i:Nat):Vl:=if h:i<=1000 then ⟨2,i,E0,by decide,WalkArith.wf_i64 (by omega),by decide⟩ else nilV
theorem d2h(h:i<=1000):(numV i).v=val 2 i E0:=by simp[numV,h]
theorem c6x{j:Nat}(hi:i<=1000)(hj:j<=1000)(h:numV i=numV j):i=j:=by
 have:(numV i).n=(numV j).n:=by rw[h]
 simp[numV,hi,hj]at this
 omega
theorem length_le{l m:List Vl}(hn:l.Nodup)(h:∀x∈l,x∈m):l.length<=m.length:=by
 induction l generalizing m with
 | nil=>simp
 | cons a l ih =>
  obtain⟨h1,h2⟩:=List.nodup_cons.1 hn
  have y:=h a (by simp)
  have:=ih (m:=m.erase a) h2 (fun x z=>(List.mem_erase_of_ne (fun e=>h1 (by rw[<- e];exact z))).2 (h x (by simp[z])))
  rw[List.length_erase_of_mem y]at this
  have:=List.length_pos_of_mem y
  simp;omega
def d2i (xs:List Vl) (n:Nat):Prop:=(∀j,j<n->numV (j+1)∈xs)/\¬numV (n+1)∈xs
theorem c9s{xs:List Vl}{n:Nat}(hx:xs.length<=100)(h:∀j,j<n->numV (j+1)∈xs):n<=xs.length:=by
 have key:∀k,k<=n->k<=101->k<=xs.length:=fun k hk u=>by
  have:=length_le (l:=(List.range k).map (fun j=>numV (j+1))) (m:=xs) (by
   rw[List.nodup_iff_pairwise_ne,List.pairwise_map]
   refine List.Pairwise.imp_of_mem ?_ List.nodup_range
   intro i j s y z e
   simp at s y
   exact z (by have:=c6x (by omega) (by omega) e;omega)) (by
   intro x v
   obtain⟨j,y,rfl⟩:=List.mem_map.1 v
   exact h j (by simp at y;omega))
  simpa using this
 by_cases hn:n<=101
 ·exact key n (Nat.le_refl _) hn
 ·have:=key 101 (by omega) (Nat.le_refl _);omega
theorem a8h(n:Int)(w:World):Cl 72 #[vi n] w fun e z=>e=.returned (val 2 n E0)/\z=w.alloc (box 2 n E0):=by
 go_enter Tryz.func72,Tryz.ntmps72
 go_wp2
 exact bodyPost_ret (v:=val 2 n E0) (by simp[results,Tryz.results72,go_sem]) rfl ⟨rfl,rfl⟩
theorem d6l(ks vs:Value)(xs ys:List Vl)(w:World)(hT:Tab w.heap.size w ks vs xs ys)(h:mayT xs ys=false) :
  Cl 112 #[.agg #[ks,vs]] w fun e u=>e=.returned (vi 0)/\Bw w u:=by
 obtain⟨a,c1,rfl⟩:=hT.keys.slice
 obtain⟨v,c2,rfl⟩:=hT.vals.slice
 have z:Bw w (w.alloc (.cells #[.slice a xs.length c1,.slice v ys.length c2] 143)):=(Below.refl _ w).alloc (Nat.le_refl _) _
 have s:=b7d h (.slice a xs.length c1) (.slice v ys.length c2) _ ((hT.below z).mono z.size)
 clear hT h
 go_enter Tryz.func112,Tryz.ntmps112
 go_wp2_with (go_at_call 105;refine s.mono ?_;rintro e w1 ⟨rfl,y⟩)
 go_ret
 exact⟨rfl,z.trans (y.mono z.size)⟩
theorem d2j(ks vs:Value)(zs:List (Vl×Vl))(hlen:zs.length<=100)(w:World)(hT:Tab w.heap.size w ks vs (a0g zs) (a1d zs))(h:mayT (a0g zs) (a1d zs)=true) :
  Cl 112 #[.agg #[ks,vs]] w fun e w'=>(∃m:Nat,d2i (a0g zs) m/\e=.returned (vi m))/\Bw w w':=by
 obtain⟨a,c1,hks⟩:=hT.keys.slice
 obtain⟨a',c2,hvs⟩:=hT.vals.slice
 simp only[a0g,a1d,List.length_map]at hks hvs
 subst hks hvs
 have hb0:Bw w (w.alloc (.cells #[.slice a zs.length c1,.slice a' zs.length c2] 143)):=(Below.refl _ w).alloc (Nat.le_refl _) _
 have hC:=a8p h (.slice a zs.length c1) (.slice a' zs.length c2) _ ((hT.below hb0).mono hb0.size)
 have ht0:=World.alloc_heap_new w (.cells #[.slice a zs.length c1,.slice a' zs.length c2] 143)
 clear h
 go_enter Tryz.func112,Tryz.ntmps112
 go_wp2_with (go_at_call 105;refine hC.mono ?_;rintro e w1 ⟨rfl,hb1⟩;refine Hid.out ?_)
 have hb01:=hb0.trans (hb1.mono hb0.size)
 have hC2:=callsIn_wide.1 (c1h 3 (by omega) (.slice a zs.length c1) (.slice a' zs.length c2) zs hlen w1 ((hT.below hb01).mono hb01.size))
 have ht1:=block_below hb1 ht0
 have x0:Ce w1 w.heap.size 0 (.slice a zs.length c1):=cell_block ht1 rfl
 have x1:Ce w1 w.heap.size 1 (.slice a' zs.length c2):=cell_block ht1 rfl
 clear hC hb1 hb0 ht0 ht1 hT
 refine Lib.hid ?_
 go_wp2_with (go_at_call 135;refine hC2.mono ?_;rintro e w2 ⟨rfl,hown,hb2⟩;refine Hid.out ?_)
 have hb02:=hb01.trans (hb2.mono hb01.size)
 clear hC2 x0 x1 hb01 hb2
 refine Lib.hid ?_
 go_wp2
 go_loopw [3] (fun i wr=>∃m:Nat,i=vi m/\(∀j,j<m->numV (j+1)∈a0g zs)/\wr.ownsMap Tryz.prog 52 (plainElem (H:=Unit) Tryz.prog 3) (w1.heap.size+1) zs.length (a4a (a0g zs))/\Bw w wr) (fun i _=>101-(intOf i).toNat)
 case atStart=>exact⟨0,rfl,fun j hj=>by omega,hown,hb02⟩
 case round =>
  obtain⟨m,rfl,hj,ho,hb⟩:=hrel
  have hm:=c9s (by simpa using hlen) hj
  simp only[a0g,List.length_map]at hm
  obtain⟨c,hat,hc0,hc1,hc2⟩:=c5u (a0g zs) (by simp;omega) (numV (m+1))
  obtain⟨c',hl,hat',_⟩:=(ho.alloc (box 2 (m+1) E0)).lookup_int d0y Tryz.underlying205 Tryz.underlying3 (Tryz.zeroValue3 _) (a8b (numV (m+1)))
  rw[hat]at hat'
  cases hat'
  rw[d2h (by omega)]at hl
  push_cast at hl
  clear hown hb02 hat
  by_cases hpos:0<c
  ·have hq:Hid (numV (m+1)∈a0g zs):=hc2.1 hpos
   replace hj:Hid _:=hj
   clear hc2
   go_wp2_with (go_at_call 72;refine(a8h _ _).mono ?_;rintro e w3 ⟨rfl,rfl⟩)
   refine⟨⟨m+1,by simp,fun j hlt=>?_,ho.alloc _,hb.alloc hb.size _⟩,by simp[intOf];omega⟩
   rcases Nat.lt_or_ge j m with h|h
   ·exact hj.out j h
   ·obtain rfl:j=m:=by omega
    exact hq.out
  ·have hq:Hid (¬numV (m+1)∈a0g zs):=fun hm=>hpos (hc2.2 hm)
   replace hj:Hid _:=hj
   clear hc2
   go_wp2_with (go_at_call 72;refine(a8h _ _).mono ?_;rintro e w3 ⟨rfl,rfl⟩)
   go_ret
   exact⟨⟨m,⟨hj.out,hq.out⟩,rfl⟩,hb.alloc hb.size _⟩
def LenT (xs ys:List Vl) (m:Nat):Prop:=if mayT xs ys=true then d2i xs m else m=0
theorem d2k(ks vs:Value)(xs ys:List Vl)(w:World)(hT:Tab w.heap.size w ks vs xs ys) :
  Cl 112 #[.agg #[ks,vs]] w fun e y=>(∃m:Nat,LenT xs ys m/\e=.returned (vi m))/\Bw w y:=by
 unfold LenT
 cases h:mayT xs ys
 ·exact(d6l ks vs xs ys w hT h).mono fun e y ⟨v,u⟩=>⟨⟨0,by simp,v⟩,u⟩
 ·obtain⟨z,q⟩:=a4y h
  have:=d2j ks vs (xs.zip ys) (by rw[List.length_zip];omega) w (by rw[a2m z,a3j z];exact hT) (by rw[a2m z,a3j z];exact h)
  rw[a2m z]at this
  exact this.mono fun e y ⟨⟨m,s,v⟩,u⟩=>⟨⟨m,by simpa using s,v⟩,u⟩
end
end Go.Proofs.YtfbpdbndejefdaaGreatDoor.V
