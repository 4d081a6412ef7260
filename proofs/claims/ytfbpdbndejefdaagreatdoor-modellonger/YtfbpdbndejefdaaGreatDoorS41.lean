/- The program's checker: what is thrown is caught; a program is gone over. -/
import Derived.Test.YtfbpdbndejefdaaGreatDoorS29
import Derived.Test.YtfbpdbndejefdaaGreatDoorS39
namespace Go.Proofs.YtfbpdbndejefdaaGreatDoor
open Go.RowKit Go
set_option maxRecDepth 100000
set_option maxHeartbeats 8000000
set_option linter.all false
variable {W:World} {b:Option Addr} {sl:List Int} {lo:Nat}
theorem b6e(p:Addr)(w:World) :
  CallsD Tryz.prog 29 #[.pointer (some p)] .returning w fun e u z=>e=.returned (.tuple #[])/\u=.returning/\z=w:=by
 refine callsD_of_wpS Tryz.func29 rfl fun s cs y=>?_
 apply wpS_seq
 apply wpS_region
 simp[wpOpsS,go_sem,recoverD,y,Tryz.ntmps29,Exit.thenS]
 refine wpS_of_wp ?_
 refine a5h (R:=fun v z=>v.defers=[]/\z=w) (fun Q q=>?_) ?_
 ·clear y
  have hf:#[Value.pointer (some p)]++(Array.replicate 10 undef).setIfInBounds 3 Value.nilIface=#[.pointer (some p),undef,undef,undef,.nilIface,undef,undef,undef,undef,undef,undef]:=by kernel_rfl
  rw[hf]
  clear hf
  go_wp2
 ·rintro v z ⟨h1,rfl⟩
  cases s
  simp_all [bodyPostS,results,Tryz.results29]
theorem c0b(b:Nat)(cd a:Int)(A0 A1:Value)(older:List PanicEntry)(w:World)(hc:w.heap[b]?=some (.cells #[A0,A1] 27)) :
  CallsD Tryz.prog 29 #[.pointer (some ⟨b,0,none⟩)] (.panicking ({ v:=.iface 27 (.agg #[.int .i64 cd,.int .i64 a]),recovered:=false } :: older)) w fun e q z=>e=.returned (.tuple #[])/\q=.panicking ({ v:=.iface 27 (.agg #[.int .i64 cd,.int .i64 a]),recovered:=true } :: older)/\z=((w.setCell ⟨b,0,none⟩ (.int .i64 cd)).setCell ⟨b,1,none⟩ (.int .i64 a)).alloc (.cells #[.int .i64 cd,.int .i64 a] 27):=by
 have n:=block_lt hc
 have c0:=cell_block (i:=0) hc rfl
 have c1:=cell_block (i:=1) hc rfl
 have f0:=frozen_block (i:=0) hc
 have f1:=frozen_block (i:=1) hc
 have n1:¬b=w.heap.size:=by omega
 have o:∀u:World,(Instr.typeAssert (.iface 27 (.agg #[.int .i64 cd,.int .i64 a])) 20 27 true).run Tryz.prog u=.ok (.tuple #[.agg #[.int .i64 cd,.int .i64 a],.bool true]) u:=fun _=>by kernel_rfl
 have n2:¬w.heap.size=b:=by omega
 refine callsD_of_wpS Tryz.func29 rfl fun p cs y=>?_
 apply wpS_seq
 apply wpS_region
 simp[wpOpsS,go_sem,recoverD,y,Tryz.ntmps29,Exit.thenS]
 refine wpS_of_wp ?_
 refine a5h (R:=fun s z=>s.defers=[]/\z=((w.setCell ⟨b,0,none⟩ (.int .i64 cd)).setCell ⟨b,1,none⟩ (.int .i64 a)).alloc (.cells #[.int .i64 cd,.int .i64 a] 27)) (fun Q m=>?_) ?_
 ·clear y
  have hf:#[Value.pointer (some ⟨b,0,none⟩)]++(Array.replicate 10 undef).setIfInBounds 3 (Value.iface 27 (.agg #[.int .i64 cd,.int .i64 a]))=#[.pointer (some ⟨b,0,none⟩),undef,undef,undef,.iface 27 (.agg #[.int .i64 cd,.int .i64 a]),undef,undef,undef,undef,undef,undef]:=by kernel_rfl
  rw[hf]
  clear hf hc
  go_wp2
 ·rintro s z ⟨h1,rfl⟩
  cases p
  simp_all [bodyPostS,results,Tryz.results29]
theorem d7w{tm:Array Value}{C:Nat}{v x y:Value}(h:tm[2]?.getD undef=v)(h':tm[3]?.getD undef=.pointer (some ⟨C,0,none⟩))(hy:W.heap[C]?=some (.cells #[x,y] 27)):(results Tryz.f16 tm).run Tryz.prog W=.ok (.tuple #[v,.agg #[x,y]]) W:=by
 have u:W.cell? ⟨C,0,none⟩=some x:=cell_block hy rfl
 have z:W.cell? ⟨C,1,none⟩=some y:=cell_block hy rfl
 subst h
 simp[results,Tryz.results16,go_sem,h',u,z]
def SlAt (lo:Nat) (W:World) (b:Option Addr) (sl:List Int):Prop:=sl=[]\/∃g,b=some ⟨g,0,none⟩/\lo<=g/\g<W.heap.size/\∀(j:Nat) (x:Int),sl[j]?=some x->W.cell? ⟨g,j,none⟩=some (.int .i64 x)
theorem SlAt.of{base:Nat}{c:Nat}(h:W.ownsRow base 3 1 (.slice b sl.length c) sl.length (sl.map iv)):SlAt base W b sl:=by
 rcases h.2 with⟨e,h0⟩|⟨g,cap,v,e,z,s,q,_,_,ht⟩
 ·exact .inl (List.length_eq_zero_iff.1 h0)
 ·cases e
  refine .inr ⟨g,rfl,z,block_lt s,fun j x u=>?_⟩
  have p:=(List.getElem?_eq_some_iff.1 u).1
  have hv:(sl.map iv)[j]?=some (iv x):=by rw[List.getElem?_map,u];rfl
  rw[<- ht,List.getElem?_take_of_lt (by omega)]at hv
  have y:v[j]?=some (iv x):=by simpa using hv
  simp[World.cell?,s,y]
theorem SlAt.mono{lo':Nat}(h:SlAt lo W b sl)(hl:lo'<=lo):SlAt lo' W b sl:=by
 rcases h with h|⟨g,e,h1,z,y⟩
 ·exact .inl h
 ·exact .inr ⟨g,e,by omega,z,y⟩
theorem SlAt.keep{S:Nat->Prop}{W':World}(h:SlAt lo W b sl)(hk:a0b S W W')(hs:∀g,lo<=g->g<W.heap.size->¬S g):SlAt lo W' b sl:=by
 rcases h with h|⟨g,e,h1,z,v⟩
 ·exact .inl h
 ·exact .inr ⟨g,e,h1,Nat.lt_of_lt_of_le z hk.size,fun j x y=>hk.cell (v j x y) (hs g h1 z)⟩
def GQ (w:World) (R:Except (Int×Nat) (List Int)) (e:Ending) (w':World):Prop :=
 Below w.heap.size w w'/\match R with
 | .error (cd,a)=>e=.returned (.tuple #[.slice none 0 0,.agg #[.int .i64 cd,.int .i64 (a:Nat)]])
 | .ok sl=>∃b c,e=.returned (.tuple #[.slice b sl.length c,.agg #[.int .i64 0,.int .i64 0]])/\SlAt w.heap.size w' b sl/\sl.length<=c
theorem b1m(u:Nd)(hu:isN u)(hk:u.k=1)(hM:manyN u<=600)(b:Option Addr)(cap:Nat)(w:World)(hN:NdV (low w) w u (ndv u b cap)) :
  Calls Tryz.prog 16 #[ndv u b cap] w (GQ w (a7k u)):=by
 have hmf:∀(fn:Fn) (o cap:Array Value) (w:World),(Instr.makeFunc fn o cap).run Tryz.prog w=.ok (.func fn o cap) w:=fun _ _ _ _=>rfl
 have z0:=a3i u
 have y9:=a2k u.kids
 have p:=ext_alloc (ext_alloc (Below.refl w.heap.size w) (nbx u b cap)) (.cells #[.int .i64 0,.int .i64 0] 27)
 obtain⟨U,hU⟩:∃U,(w.alloc (nbx u b cap)).alloc (.cells #[.int .i64 0,.int .i64 0] 27)=U:=⟨_,rfl⟩
 have g0:U.heap[w.heap.size]?=some (nbx u b cap):=by rw[<- hU];exact block_alloc _ (a0a _ _)
 have g1:U.heap[w.heap.size+1]?=some (.cells #[.int .i64 0,.int .i64 0] 27):=by
  have:=a0a (w.alloc (nbx u b cap)) (.cells #[.int .i64 0,.int .i64 0] 27)
  rw[World.size_alloc]at this
  rw[<- hU];exact this
 rw[hU]at p
 have z8:w.heap.size<=U.heap.size:=p.size
 have z9:NdV (low U) U u (ndv u b cap):=(hN.below p).weak (fun q hq _=>Nat.lt_of_lt_of_le hq z8)
 have m:=new_any u b cap U z9 (by omega)
 obtain⟨k0,t0,n0,ks⟩:=u
 replace hU:(w.alloc (.cells #[.int .i64 k0,sk t0,.int .i64 n0,.slice b ks.length cap] 43)).alloc (.cells #[.int .i64 0,.int .i64 0] 27)=U:=hU
 obtain⟨c0,c1,c2,c3,_,_,_,_⟩:=in4 g0
 simp only at c0 c1 c2 c3
 have z6:=KA.of z9
 obtain⟨R,hR⟩:∃R,a7k ⟨k0,t0,n0,ks⟩=R:=⟨_,rfl⟩
 have z:=fun B v O W (h:Ck U B ⟨k0,t0,n0,ks⟩ b cap v O [] [] 0 W)=>c7g ⟨k0,t0,n0,ks⟩ hu hk U B b cap v O W h z6 (by omega)
 rw[hR]at z⊢
 clear hN z9 z6 hR hu
 cases R with
 | error x =>
  obtain⟨cd,a⟩:=x
  have y:∀B v O W,Ck U B ⟨k0,t0,n0,ks⟩ b cap v O [] [] 0 W->Calls Tryz.prog 31 #[.pointer (some ⟨B,0,none⟩)] W fun e W'=>e=.panicked (pan (flt cd a))/\Below U.heap.size U W':=fun B v O W h=>(z B v O W h).mono fun e W' hq=>by
   rcases hq with⟨z1,a',j,n,e3⟩|⟨_,j,_⟩
   ·cases j
    exact⟨n,e3⟩
   ·cases j
  replace y:Hid _:=y
  clear z
  go_enter_defers Tryz.func16,Tryz.ntmps16
  go_wp2_with (go_at_call 30;refine m.mono ?_;rintro e w1 ⟨B,rfl,v,O,hC⟩;refine Hid.out ?_)
  have i:=y.out B v O w1 hC
  refine Lib.hid ?_
  go_wp2_with (go_at_call 31;refine i.mono ?_;rintro e w2 ⟨rfl,s⟩)
  have g2:=block_below s g1
  refine leaves_cons (f:=29) (args:=#[.pointer (some ⟨w.heap.size+1,0,none⟩)]) (by simp) (by simp[go_sem]) ?_
  refine(c0b _ _ _ _ _ _ _ g2).mono ?_
  rintro e u' z4 ⟨rfl,rfl,rfl⟩
  have xb:=ext_alloc (Below.refl _ (pu2 w2 (w.heap.size+1) (.int .i64 cd) (.int .i64 (a:Nat)))) (.cells #[.int .i64 cd,.int .i64 (a:Nat)] 27)
  have x2:=block_below xb (a1p (.int .i64 cd) (.int .i64 (a:Nat)) g2)
  refine⟨_,d7w rfl rfl x2,?_,rfl⟩
  have hk:a0b (fun q=>q=w.heap.size+1) U (pu2 w2 (w.heap.size+1) (.int .i64 cd) (.int .i64 (a:Nat))):=(a0b.of_below s).trans (a1g _ _ _ _)
  exact(((a0b.of_below (S:=no) p).then hk (fun q hq e=>by omega)).trans (a0b.of_below xb)).below (Nat.le_refl _) (fun _ _=>id)
 | ok sl' =>
  have y:∀B v O W,Ck U B ⟨k0,t0,n0,ks⟩ b cap v O [] [] 0 W->Calls Tryz.prog 31 #[.pointer (some ⟨B,0,none⟩)] W fun e W'=>e=.returned (.tuple #[])/\∃O',Ck U B ⟨k0,t0,n0,ks⟩ b cap v O' sl' [] 0 W':=fun B v O W h=>(z B v O W h).mono fun e W' hq=>by
   rcases hq with⟨z1,a',j,n,e3⟩|⟨s2,j,n,O',e3,_⟩
   ·cases j
   ·cases j
    exact⟨n,O',e3⟩
  replace y:Hid _:=y
  clear z
  go_enter_defers Tryz.func16,Tryz.ntmps16
  go_wp2_with (go_at_call 30;refine m.mono ?_;rintro e w1 ⟨B,rfl,v,O,hC⟩;refine Hid.out ?_)
  have i:=y.out B v O w1 hC
  refine Lib.hid ?_
  go_wp2_with (go_at_call 31;refine i.mono ?_;rintro e w2 ⟨rfl,O',z3⟩;obtain⟨⟨sb,sc,bb,bc,ms,h1,h2,_⟩,y7,y8,_,_,s⟩:=z3;have g2:=block_below s g1;have c5:w2.cell? ⟨B,5,none⟩=some (.slice sb sl'.length sc):=cell_block h1 rfl;have d0:w2.cell? ⟨w.heap.size+1,0,none⟩=some (.int .i64 0):=cell_block g2 rfl;have d1:w2.cell? ⟨w.heap.size+1,1,none⟩=some (.int .i64 0):=cell_block g2 rfl;have e0:w2.frozen? ⟨w.heap.size+1,0,none⟩=false:=frozen_block g2;have j:w2.frozen? ⟨w.heap.size+1,1,none⟩=false:=frozen_block g2)
  have x2:=a1p (.int .i64 0) (.int .i64 0) g2
  refine leaves_cons (f:=29) (args:=#[.pointer (some ⟨w.heap.size+1,0,none⟩)]) (by simp) (by simp[go_sem]) ?_
  refine(b6e _ _).mono ?_
  rintro e u' z4 ⟨rfl,rfl,rfl⟩
  refine⟨_,d7w rfl rfl x2,?_,sb,sc,rfl,?_,?_⟩
  ·have hk:a0b (fun q=>q=w.heap.size+1) U (pu2 w2 (w.heap.size+1) (.int .i64 0) (.int .i64 0)):=(a0b.of_below s).trans (a1g _ _ _ _)
   exact((a0b.of_below (S:=no) p).then hk (fun q hq e=>by omega)).below (Nat.le_refl _) (fun _ _=>id)
  ·refine SlAt.mono (SlAt.of (base:=U.heap.size) (c:=sc) (a1z h2 (fun q e _=>?_))) z8
   have d:U.heap.size<=q:=by
    rcases h2.2 with⟨n,_⟩|⟨g,z5,z2,n,d,hg,_⟩
    ·rw[n]at e;simp[Value.ownBlock]at e
    ·rw[n]at e
     simp[Value.ownBlock]at e
     omega
   have:=block_lt g1
   exact a1a _ _ (by omega)
  ·rcases h2.2 with⟨n,h0⟩|⟨g,z5,z2,n,_,_,z7,_⟩
   ·rw[h0];exact Nat.zero_le _
   ·cases n;exact z7
end Go.Proofs.YtfbpdbndejefdaaGreatDoor
