import Derived.Test.YtomniogfpfbolaaGreatDoorS31
namespace Go.Proofs.YtomniogfpfbolaaGreatDoor
open Go.RowKit Go
set_option maxRecDepth 100000
set_option maxHeartbeats 8000000
set_option linter.all false
theorem c8p(B:Nat)(ts:List Tok)(i:Nat)(t:List UInt8)(a:Int)(w:World)(hC:Ctx w B ts i)(hV:tokH ts i=tokv 3 ⟨t.toArray⟩ a)(hi:i<ts.length)(q:Int)(ok:Bool)(hq:(a0s.lookup (wd ts i)).getD (ik 0)=ik q)(hok:(a0s.lookup (wd ts i)).isSome=ok):Cl 195 #[Po B 0] w (LU w B ts ⟨14,t,0,[]⟩ true (i+1)):=by
 have z6:=hC.R.lt
 have y2:=hC.R.short
 have z9:Bw w (w.alloc zbx):=q1z bz0 _
 have l:=a3z B ts i _ (hC.R.below z9)
 rw[hV]at l
 have n:=fun u (hb:Bw w u)=>a4w B ts i u (hC.R.below hb)
 have hL:=fun m u h=>a6x (u:=u) (m:=m) (kv:=a0s) (by decide) h (wd ts i)
 rw[hq,hok]at hL
 obtain⟨s,hs⟩:=exq (wd ts i)
 rw[hs]at hL n
 have z0:=a0a w zbx
 clear hV hs hq hok
 go_enter Tryz.func195,Tryz.ntmps195
 go_wp2_with (go_at_call 141;refine l.mono ?_;rintro e w1 ⟨rfl,p⟩)
 have y:Bw w (w1.alloc (tbx 3 ⟨t.toArray⟩ a)):=q1z (q3z z9 p) _
 obtain⟨m1,m2,m3,m4,m5,b,cap,h1,_,hW,_⟩:=(hC.R.below y).box
 obtain⟨c0,c1,c2,c3,c4,c5,c6,f6⟩:=rdC h1
 have q0:LkM m5 (a0f sk a0s) (w1.alloc (tbx 3 ⟨t.toArray⟩ a)):=hW.h5
 obtain⟨t0,t1⟩:=a6f (a0a w1 (tbx 3 ⟨t.toArray⟩ a))
 have z1:=q4z (tbx 3 ⟨t.toArray⟩ a) (q0z p z0)
 obtain⟨t4,r⟩:=exq (w1.heap.size)
 obtain⟨W1,v⟩:=exq (w1.alloc (tbx 3 ⟨t.toArray⟩ a))
 rw[v]at y c4 q0 t0 t1 z1
 dsimp only[tbx]at v
 rw[r]at t0 t1
 rw[v,r]
 have z7:=hL m5
 clear hW h1 c0 c1 c2 c3 c5 c6 f6 v r p l z0 hL
 go_region_with ((go_at_call 143;refine(n _ (y.drew)).mono ?_;rintro e f ⟨rfl,x⟩;have q3:=LkM.below (LkM.drew _ q0) x;have c4:=cellB (W:=W1.drew) x c4))
 all_goals
  have c:=cellB (W:=W1.drew) x t0
  have d:=cellB (W:=W1.drew) x t1
  have z2:=q0z (W:=W1.drew) x z1
  have z:=q3z (y.drew) x
  have z3:=fun o=>cellB (q1z (Below.refl _ f) o) c
  have z4:=fun o=>cellB (q1z (Below.refl _ f) o) d
  clear q0 q3 c4 z7 n t0 t1 z1
  have y3:=q5z z2
  have y4:=z.size
  have z8:=hC.R.below z
  obtain⟨y5,y6,y7,y8,y9,bb,z5,g,_⟩:=z8.box
  have a6:=fun o=>(rdC (q4z o g)).c6
  have x6:=fun o=>(rdC (q4z o g)).f6
  obtain⟨d0,d1,d2,d3,e0,e1,e2,e3⟩:=in4a z2
  have n1:¬B=f.heap.size:=by omega
  have n2:¬f.heap.size=B:=by omega
  have n3:¬w.heap.size=f.heap.size:=by omega
  have n4:¬f.heap.size=w.heap.size:=by omega
  have n5:¬B=w.heap.size:=by omega
  have n6:¬w.heap.size=B:=by omega
  clear g c d
  go_wp2
  refine bodyPost_ret (b7z rfl rfl (a0c _ _ _ _ ((q8z _ _ (by omega)).trans (q4z _ z2)))) rfl ?_
  exact⟨rfl,((hC.R.below (q1z z _)).go (j:=i+1) hi).put4 _ _ _ _ _ z6,a1f ((a0b.of_below (S:=fun k=>k=B) (q1z z _)).set B 6 _ (fun _=>rfl)) _ _ _ _ _ (Nat.le_refl _)⟩
theorem c8q(B:Nat)(ts:List Tok)(i:Nat)(k:Int)(t:List UInt8)(a:Int)(w:World)(hC:Ctx w B ts i)(hV:tokH ts i=tokv k ⟨t.toArray⟩ a)(hk2:¬k=2)(hk3:¬k=3)(hi:i<ts.length)(q:Int)(hq:(a0s.lookup (wd ts i)).getD (ik 0)=ik q)(hok:(a0s.lookup (wd ts i)).isSome=true):Cl 195 #[Po B 0] w (LU w B ts (nd q []) true (i+1)):=by
 have z6:=hC.R.lt
 have y2:=hC.R.short
 have z9:Bw w (w.alloc zbx):=q1z bz0 _
 have l:=a3z B ts i _ (hC.R.below z9)
 rw[hV]at l
 have n:=fun u (hb:Bw w u)=>a4w B ts i u (hC.R.below hb)
 have hL:=fun m u h=>a6x (u:=u) (m:=m) (kv:=a0s) (by decide) h (wd ts i)
 rw[hq,hok]at hL
 obtain⟨s,hs⟩:=exq (wd ts i)
 rw[hs]at hL n
 have z0:=a0a w zbx
 clear hV hs hq hok
 go_enter Tryz.func195,Tryz.ntmps195
 go_wp2_with (go_at_call 141;refine l.mono ?_;rintro e w1 ⟨rfl,p⟩)
 have y:Bw w (w1.alloc (tbx k ⟨t.toArray⟩ a)):=q1z (q3z z9 p) _
 obtain⟨m1,m2,m3,m4,m5,b,cap,h1,_,hW,_⟩:=(hC.R.below y).box
 obtain⟨c0,c1,c2,c3,c4,c5,c6,f6⟩:=rdC h1
 have q0:LkM m5 (a0f sk a0s) (w1.alloc (tbx k ⟨t.toArray⟩ a)):=hW.h5
 obtain⟨t0,t1⟩:=a6f (a0a w1 (tbx k ⟨t.toArray⟩ a))
 have z1:=q4z (tbx k ⟨t.toArray⟩ a) (q0z p z0)
 obtain⟨t4,r⟩:=exq (w1.heap.size)
 obtain⟨W1,v⟩:=exq (w1.alloc (tbx k ⟨t.toArray⟩ a))
 rw[v]at y c4 q0 t0 t1 z1
 dsimp only[tbx]at v
 rw[r]at t0 t1
 rw[v,r]
 have z7:=hL m5
 clear hW h1 c0 c1 c2 c3 c5 c6 f6 v r p l z0 hL
 go_region_with ((go_at_call 143;refine(n _ (y.drew)).mono ?_;rintro e f ⟨rfl,x⟩;have q3:=LkM.below (LkM.drew _ q0) x;have c4:=cellB (W:=W1.drew) x c4))
 all_goals
  have c:=cellB (W:=W1.drew) x t0
  have d:=cellB (W:=W1.drew) x t1
  have z2:=q0z (W:=W1.drew) x z1
  have z:=q3z (y.drew) x
  have z3:=fun o=>cellB (q1z (Below.refl _ f) o) c
  have z4:=fun o=>cellB (q1z (Below.refl _ f) o) d
  clear q0 q3 c4 z7 n t0 t1 z1
  have y3:=q5z z2
  have y4:=z.size
  have z8:=hC.R.below z
  obtain⟨y5,y6,y7,y8,y9,bb,z5,g,_⟩:=z8.box
  have a6:=fun o=>(rdC (q4z o g)).c6
  have x6:=fun o=>(rdC (q4z o g)).f6
  obtain⟨d0,d1,d2,d3,e0,e1,e2,e3⟩:=in4a z2
  have n1:¬B=f.heap.size:=by omega
  have n2:¬f.heap.size=B:=by omega
  have n3:¬w.heap.size=f.heap.size:=by omega
  have n4:¬f.heap.size=w.heap.size:=by omega
  have n5:¬B=w.heap.size:=by omega
  have n6:¬w.heap.size=B:=by omega
  clear g c d
  go_wp2
  refine bodyPost_ret (b7z rfl rfl (a0c _ _ _ _ ((q8z _ _ (by omega)).trans (q4z _ z2)))) rfl ?_
  exact⟨rfl,((hC.R.below (q1z z _)).go (j:=i+1) hi).put4 _ _ _ _ _ z6,a1f ((a0b.of_below (S:=fun k=>k=B) (q1z z _)).set B 6 _ (fun _=>rfl)) _ _ _ _ _ (Nat.le_refl _)⟩
theorem b8h(B:Nat)(ts:List Tok)(i:Nat)(k:Int)(t:List UInt8)(a:Int)(w:World)(hC:Ctx w B ts i)(hV:tokH ts i=tokv k ⟨t.toArray⟩ a)(hk2:¬k=2)(hk3:¬k=3)(q:Int)(hq:(a0s.lookup (wd ts i)).getD (ik 0)=ik q)(hok:(a0s.lookup (wd ts i)).isSome=false):Cl 195 #[Po B 0] w (LU w B ts (nd q []) false i):=by
 have z6:=hC.R.lt
 have y2:=hC.R.short
 have z9:Bw w (w.alloc zbx):=q1z bz0 _
 have l:=a3z B ts i _ (hC.R.below z9)
 rw[hV]at l
 have n:=fun u (hb:Bw w u)=>a4w B ts i u (hC.R.below hb)
 have hL:=fun m u h=>a6x (u:=u) (m:=m) (kv:=a0s) (by decide) h (wd ts i)
 rw[hq,hok]at hL
 obtain⟨s,hs⟩:=exq (wd ts i)
 rw[hs]at hL n
 have z0:=a0a w zbx
 clear hV hs hq hok
 go_enter Tryz.func195,Tryz.ntmps195
 go_wp2_with (go_at_call 141;refine l.mono ?_;rintro e w1 ⟨rfl,p⟩)
 have y:Bw w (w1.alloc (tbx k ⟨t.toArray⟩ a)):=q1z (q3z z9 p) _
 obtain⟨m1,m2,m3,m4,m5,b,cap,h1,_,hW,_⟩:=(hC.R.below y).box
 obtain⟨c0,c1,c2,c3,c4,c5,c6,f6⟩:=rdC h1
 have q0:LkM m5 (a0f sk a0s) (w1.alloc (tbx k ⟨t.toArray⟩ a)):=hW.h5
 obtain⟨t0,t1⟩:=a6f (a0a w1 (tbx k ⟨t.toArray⟩ a))
 have z1:=q4z (tbx k ⟨t.toArray⟩ a) (q0z p z0)
 obtain⟨t4,r⟩:=exq (w1.heap.size)
 obtain⟨W1,v⟩:=exq (w1.alloc (tbx k ⟨t.toArray⟩ a))
 rw[v]at y c4 q0 t0 t1 z1
 dsimp only[tbx]at v
 rw[r]at t0 t1
 rw[v,r]
 have z7:=hL m5
 clear hW h1 c0 c1 c2 c3 c5 c6 f6 v r p l z0 hL
 go_region_with ((go_at_call 143;refine(n _ (y.drew)).mono ?_;rintro e f ⟨rfl,x⟩;have q3:=LkM.below (LkM.drew _ q0) x;have c4:=cellB (W:=W1.drew) x c4))
 all_goals
  have c:=cellB (W:=W1.drew) x t0
  have d:=cellB (W:=W1.drew) x t1
  have z2:=q0z (W:=W1.drew) x z1
  have z:=q3z (y.drew) x
  have z3:=fun o=>cellB (q1z (Below.refl _ f) o) c
  have z4:=fun o=>cellB (q1z (Below.refl _ f) o) d
  clear q0 q3 c4 z7 n t0 t1 z1
  have y3:=q5z z2
  have y4:=z.size
  have z8:=hC.R.below z
  obtain⟨y5,y6,y7,y8,y9,bb,z5,g,_⟩:=z8.box
  have a6:=fun o=>(rdC (q4z o g)).c6
  have x6:=fun o=>(rdC (q4z o g)).f6
  obtain⟨d0,d1,d2,d3,e0,e1,e2,e3⟩:=in4 z2
  clear a6 x6
  have n1:¬B=f.heap.size:=by omega
  have n2:¬f.heap.size=B:=by omega
  have n3:¬w.heap.size=f.heap.size:=by omega
  have n4:¬f.heap.size=w.heap.size:=by omega
  have n5:¬B=w.heap.size:=by omega
  have n6:¬w.heap.size=B:=by omega
  clear g c d
  go_wp2
  refine bodyPost_ret (b7z rfl rfl (q4z _ (a0c _ _ _ _ z2))) rfl ?_
  exact⟨rfl,((hC.R.below z).put4 _ _ _ _ _ z6).below (q1z bz0 _),(a1f (a0b.of_below (S:=fun k=>k=B) z) _ _ _ _ _ (Nat.le_refl _)).trans (a0b.of_below (q1z bz0 _))⟩
end Go.Proofs.YtomniogfpfbolaaGreatDoor
