/- The program's reader: an expression that is one token: texts, words. -/
import Derived.Test.YtfbpdbndejefdaaGreatDoorS26
namespace Go.Proofs.YtfbpdbndejefdaaGreatDoor
open Go.RowKit Go
set_option maxRecDepth 100000
set_option maxHeartbeats 8000000
set_option linter.all false
theorem c7t(B:Nat)(ts:List Tok)(i:Nat)(k:Int)(t:List UInt8)(a:Int)(w:World)(hC:Ctx w B ts i)(hV:tokH ts i=tokv k ⟨t.toArray⟩ a)(hk2:¬k=2)(hk3:¬k=3)(hi:i<ts.length)(q:Int)(hq:(a0n.lookup (wd ts i)).getD (ik 0)=ik q)(hok:(a0n.lookup (wd ts i)).isSome=true):Cl 178 #[Po B 0] w (LU w B ts (nd q []) true (i+1)):=by
 have z3:=hC.R.lt
 have x9:=hC.R.short
 have z6:Bw w (w.alloc zbx):=ext_alloc (Below.refl _ _) _
 have d:=a3k B ts i _ (hC.R.below z6)
 rw[hV]at d
 have f:=fun u (hb:Bw w u)=>a4c B ts i u (hC.R.below hb)
 have hL:=fun m u h=>a5y (u:=u) (m:=m) (kv:=a0n) (by decide) h (wd ts i)
 rw[hq,hok]at hL
 obtain⟨s,hs⟩:∃s,wd ts i=s:=⟨_,rfl⟩
 rw[hs]at hL f
 have z0:=a0a w zbx
 clear hV hs hq hok
 go_enter Tryz.func178,Tryz.ntmps178
 go_wp2_with (go_at_call 126;refine d.mono ?_;rintro e w1 ⟨rfl,g⟩)
 have y:Bw w (w1.alloc (tbx k ⟨t.toArray⟩ a)):=ext_alloc (ext_trans z6 g) _
 obtain⟨m1,m2,m3,m4,m5,b,cap,h1,_,hW,_⟩:=(hC.R.below y).box
 obtain⟨c0,c1,c2,c3,c4,c5,c6,f6⟩:=rdC h1
 have q0:LkM m5 (a0e sk a0n) (w1.alloc (tbx k ⟨t.toArray⟩ a)):=hW.h5
 obtain⟨t0,t1⟩:=b5g (a0a w1 (tbx k ⟨t.toArray⟩ a))
 have z1:=block_alloc (tbx k ⟨t.toArray⟩ a) (block_below g z0)
 obtain⟨t4,n⟩:∃t4,w1.heap.size=t4:=⟨_,rfl⟩
 obtain⟨W1,p⟩:∃W1,w1.alloc (tbx k ⟨t.toArray⟩ a)=W1:=⟨_,rfl⟩
 rw[p]at y c4 q0 t0 t1 z1
 dsimp only[tbx]at p
 rw[n]at t0 t1
 rw[p,n]
 have z4:=hL m5
 clear hW h1 c0 c1 c2 c3 c5 c6 f6 p n g d z0 hL
 go_region_with ((go_at_call 128;refine(f _ (y.drew)).mono ?_;rintro e w2 ⟨rfl,v⟩;have q3:=LkM.below (LkM.drew _ q0) v;have c4:=a2e (W:=W1.drew) v c4))
 all_goals
  have z7:=a2e (W:=W1.drew) v t0
  have z8:=a2e (W:=W1.drew) v t1
  have z2:=block_below (W:=W1.drew) v z1
  have z:=ext_trans (y.drew) v
  have y7:=fun o=>a2e (ext_alloc (Below.refl _ w2) o) z7
  have y8:=fun o=>a2e (ext_alloc (Below.refl _ w2) o) z8
  clear q0 q3 c4 z4 f t0 t1 z1
  have y0:=block_lt z2
  have y1:=z.size
  have z5:=hC.R.below z
  obtain⟨y2,y3,y4,y5,y6,bb,y9,z9,_⟩:=z5.box
  have a6:=fun o=>(rdC (block_alloc o z9)).c6
  have x6:=fun o=>(rdC (block_alloc o z9)).f6
  obtain⟨d0,d1,d2,d3,e0,e1,e2,e3⟩:=in4a z2
  have n1:¬B=w2.heap.size:=by omega
  have n2:¬w2.heap.size=B:=by omega
  have n3:¬w.heap.size=w2.heap.size:=by omega
  have n4:¬w2.heap.size=w.heap.size:=by omega
  have n5:¬B=w.heap.size:=by omega
  have n6:¬w.heap.size=B:=by omega
  clear z9 z7 z8
  go_wp2
  refine bodyPost_ret (b7k rfl rfl (a0f _ _ _ _ ((set1_other _ _ (by omega)).trans (block_alloc _ z2)))) rfl ?_
  exact⟨rfl,((hC.R.below (ext_alloc z _)).go (j:=i+1) hi).put4 _ _ _ _ _ z3,a1j ((a0b.of_below (S:=fun k=>k=B) (ext_alloc z _)).set B 6 _ (fun _=>rfl)) _ _ _ _ _ (Nat.le_refl _)⟩
end Go.Proofs.YtfbpdbndejefdaaGreatDoor
