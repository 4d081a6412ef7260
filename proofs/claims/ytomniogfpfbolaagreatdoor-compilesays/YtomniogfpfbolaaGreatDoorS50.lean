import Derived.Test.YtomniogfpfbolaaGreatDoorS39
import Derived.Test.YtomniogfpfbolaaGreatDoorS47
namespace Go.Proofs.YtomniogfpfbolaaGreatDoor
open Go.RowKit Go
set_option maxRecDepth 100000
set_option maxHeartbeats 8000000
set_option linter.all false
variable {tm:Array Value} {W:World} {C lo:Nat} {v x y c a d:Value} {b:Option Addr} {sl:List Int}
theorem b6y(p:Addr)(w:World) :
  CallsD Tryz.prog 56 #[.pointer (some p)] .returning w fun e v z=>e=.returned (.tuple #[])/\v=.returning/\z=w:=by
 refine callsD_of_wpS Tryz.func56 rfl fun u cs y=>?_
 apply wpS_seq
 apply wpS_region
 simp[wpOpsS,go_sem,recoverD,y,Tryz.ntmps56,Exit.thenS]
 refine wpS_of_wp ?_
 refine b4a (R:=fun x z=>x.defers=[]/\z=w) (fun Q t=>?_) ?_
 ·clear y
  have hf:#[Value.pointer (some p)]++(Array.replicate 10 undef).setIfInBounds 3 Value.nilIface=#[.pointer (some p),undef,undef,undef,.nilIface,undef,undef,undef,undef,undef,undef]:=by kernel_rfl
  rw[hf]
  clear hf
  go_wp2
 ·rintro x z ⟨h1,rfl⟩
  cases u
  simp_all [bodyPostS,results,Tryz.results56]
theorem c0m(b:Nat)(cd a:Int)(A0 A1:Value)(older:List PanicEntry)(w:World)(hc:w.heap[b]?=some (.cells #[A0,A1] 27)) :
  CallsD Tryz.prog 56 #[Po b 0] (.panicking ({ v:=.iface 27 (.agg #[vi cd,vi a]),recovered:=false } :: older)) w fun e t z=>e=.returned (.tuple #[])/\t=.panicking ({ v:=.iface 27 (.agg #[vi cd,vi a]),recovered:=true } :: older)/\z=((w.setCell (Ad b 0) (vi cd)).setCell (Ad b 1) (vi a)).alloc (.cells #[vi cd,vi a] 27):=by
 have o:=q5z hc
 have c0:=q2z (i:=0) hc rfl
 have c1:=q2z (i:=1) hc rfl
 have f0:=q6z (i:=0) hc
 have f1:=q6z (i:=1) hc
 have p:¬b=w.heap.size:=by omega
 have r:∀u:World,(Instr.typeAssert (.iface 27 (.agg #[vi cd,vi a])) 20 27 true).run Tryz.prog u=.ok (.tuple #[.agg #[vi cd,vi a],.bool true]) u:=fun _=>by kernel_rfl
 have q:¬w.heap.size=b:=by omega
 refine callsD_of_wpS Tryz.func56 rfl fun s cs y=>?_
 apply wpS_seq
 apply wpS_region
 simp[wpOpsS,go_sem,recoverD,y,Tryz.ntmps56,Exit.thenS]
 refine wpS_of_wp ?_
 refine b4a (R:=fun x z=>x.defers=[]/\z=((w.setCell (Ad b 0) (vi cd)).setCell (Ad b 1) (vi a)).alloc (.cells #[vi cd,vi a] 27)) (fun Q n=>?_) ?_
 ·clear y
  have hf:#[Value.pointer (some (Ad b 0))]++(Array.replicate 10 undef).setIfInBounds 3 (Value.iface 27 (.agg #[vi cd,vi a]))=#[Po b 0,undef,undef,undef,.iface 27 (.agg #[vi cd,vi a]),undef,undef,undef,undef,undef,undef]:=by kernel_rfl
  rw[hf]
  clear hf hc
  go_wp2
 ·rintro x z ⟨h1,rfl⟩
  cases s
  simp_all [bodyPostS,results,Tryz.results56]
theorem d7c(h:tm[2]?.getD undef=v)(h':tm[3]?.getD undef=Po C 0)(hy:W.heap[C]?=some (.cells #[x,y] 27)):(results Tryz.f37 tm).run Tryz.prog W=.ok (.tuple #[v,.agg #[x,y]]) W:=by
 have w:W.cell? (Ad C 0)=some x:=q2z hy rfl
 have z:W.cell? (Ad C 1)=some y:=q2z hy rfl
 subst h
 simp[results,Tryz.results37,go_sem,h',w,z]
def SlAt (lo:Nat) (W:World) (b:Option Addr) (sl:List Int):Prop:=sl=[]\/∃g,b=some (Ad g 0)/\lo<=g/\g<W.heap.size/\∀(j:Nat) (x:Int),sl[j]?=some x->W.cell? (Ad g j)=some (vi x)
theorem SlAt.of{base:Nat}{c:Nat}(h:W.ownsRow base 3 1 (.slice b sl.length c) sl.length (sl.map iv)):SlAt base W b sl:=by
 rcases h.2 with⟨e,q⟩|⟨g,cap,w,e,z,t,s,_,_,r⟩
 ·exact .inl (List.length_eq_zero_iff.1 q)
 ·cases e
  refine .inr ⟨g,rfl,z,q5z t,fun j x v=>?_⟩
  have p:=(List.getElem?_eq_some_iff.1 v).1
  have u:(sl.map iv)[j]?=some (iv x):=by rw[List.getElem?_map,v];rfl
  rw[<- r,List.getElem?_take_of_lt (by omega)]at u
  have y:w[j]?=some (iv x):=by simpa using u
  simp[World.cell?,t,y]
theorem SlAt.mono{lo':Nat}(h:SlAt lo W b sl)(hl:lo'<=lo):SlAt lo' W b sl:=by
 rcases h with h|⟨g,e,h1,z,y⟩
 ·exact .inl h
 ·exact .inr ⟨g,e,by omega,z,y⟩
theorem SlAt.keep{S:Nat->Prop}{W':World}(h:SlAt lo W b sl)(hk:a0b S W W')(hs:∀g,lo<=g->g<W.heap.size->¬S g):SlAt lo W' b sl:=by
 rcases h with h|⟨g,e,h1,z,w⟩
 ·exact .inl h
 ·exact .inr ⟨g,e,h1,Nat.lt_of_lt_of_le z hk.size,fun j x y=>hk.cell (w j x y) (hs g h1 z)⟩
def GQ (w:World) (R:Except (Int×Nat) (List Int)) (e:Ending) (w':World):Prop :=
 Bw w w'/\match R with
 | .error (cd,a)=>e=.returned (.tuple #[.slice none 0 0,.agg #[vi cd,vi (a:Nat)]])
 | .ok sl=>∃b c,e=.returned (.tuple #[.slice b sl.length c,.agg #[vi 0,vi 0]])/\SlAt w.heap.size w' b sl/\sl.length<=c
theorem b1p(u:Nd)(hu:isN u)(hk:u.k=1)(hM:manyN u<=600)(b:Option Addr)(cap:Nat)(w:World)(hN:NdV (low w) w u (ndv u b cap)) :
  Cl 37 #[ndv u b cap] w (GQ w (a5y u)):=by
 have hmf:∀(fn:Fn) (r cap:Array Value) (w:World),(Instr.makeFunc fn r cap).run Tryz.prog w=.ok (.func fn r cap) w:=fun _ _ _ _=>rfl
 have y8:=a2n u
 have y7:=a1g u.kids
 have s:=q1z (q1z (Below.refl w.heap.size w) (nbx u b cap)) (.cells #[vi 0,vi 0] 27)
 obtain⟨U,hU⟩:=exq ((w.alloc (nbx u b cap)).alloc (.cells #[vi 0,vi 0] 27))
 have g0:U.heap[w.heap.size]?=some (nbx u b cap):=by rw[<- hU];exact q4z _ (a0a _ _)
 have g1:U.heap[w.heap.size+1]?=some (.cells #[vi 0,vi 0] 27):=by
  have:=a0a (w.alloc (nbx u b cap)) (.cells #[vi 0,vi 0] 27)
  rw[World.size_alloc]at this
  rw[<- hU];exact this
 rw[hU]at s
 have z6:w.heap.size<=U.heap.size:=s.size
 have z7:NdV (low U) U u (ndv u b cap):=(hN.below s).weak (fun q hq _=>Nat.lt_of_lt_of_le hq z6)
 have n:=d3b u b cap U z7 (by omega)
 obtain⟨k0,i,d,ks⟩:=u
 replace hU:(w.alloc (.cells #[vi k0,sk i,vi d,.slice b ks.length cap] 34)).alloc (.cells #[vi 0,vi 0] 27)=U:=hU
 obtain⟨c0,c1,c2,c3,_,_,_,_⟩:=in4 g0
 simp only at c0 c1 c2 c3
 have z4:=KA.of z7
 obtain⟨R,hR⟩:=exq (a5y ⟨k0,i,d,ks⟩)
 have z:=fun B v O W (h:Ck U B ⟨k0,i,d,ks⟩ b cap v O [] [] 0 W)=>c8l ⟨k0,i,d,ks⟩ hu hk U B b cap v O W h z4 (by omega)
 rw[hR]at z⊢
 clear hN z7 z4 hR hu
 cases R with
 | error x =>
  obtain⟨cd,a⟩:=x
  have y:∀B v O W,Ck U B ⟨k0,i,d,ks⟩ b cap v O [] [] 0 W->Cl 58 #[Po B 0] W fun e W'=>e=.panicked (pan (flt cd a))/\Bw U W':=fun B v O W h=>(z B v O W h).mono fun e W' hq=>by
   rcases hq with⟨y9,a',l,p,e3⟩|⟨_,l,_⟩
   ·cases l
    exact⟨p,e3⟩
   ·cases l
  replace y:Hid _:=y
  clear z
  go_enter_defers Tryz.func37,Tryz.ntmps37
  go_wp2_with (go_at_call 57;refine n.mono ?_;rintro e w1 ⟨B,rfl,v,O,hC⟩;refine Hid.out ?_)
  have z9:=y.out B v O w1 hC
  refine Lib.hid ?_
  go_wp2_with (go_at_call 58;refine z9.mono ?_;rintro e o ⟨rfl,t⟩)
  have g2:=q0z t g1
  refine leaves_cons (f:=56) (args:=#[Po (w.heap.size+1) 0]) (by simp) (by simp[go_sem]) ?_
  refine(c0m _ _ _ _ _ _ _ g2).mono ?_
  rintro e u' z2 ⟨rfl,rfl,rfl⟩
  have xb:=q1z (Below.refl _ (pu2 o (w.heap.size+1) (vi cd) (vi (a:Nat)))) (.cells #[vi cd,vi (a:Nat)] 27)
  have x2:=q0z xb (a2q (vi cd) (vi (a:Nat)) g2)
  refine⟨_,d7c rfl rfl x2,?_,rfl⟩
  have hk:a0b (fun q=>q=w.heap.size+1) U (pu2 o (w.heap.size+1) (vi cd) (vi (a:Nat))):=(a0b.of_below t).trans (a1w _ _ _ _)
  exact(((a0b.of_below (S:=no) s).then hk (fun q hq e=>by omega)).trans (a0b.of_below xb)).below (Nat.le_refl _) (fun _ _=>id)
 | ok sl' =>
  have y:∀B v O W,Ck U B ⟨k0,i,d,ks⟩ b cap v O [] [] 0 W->Cl 58 #[Po B 0] W fun e W'=>e=.returned (.tuple #[])/\∃O',Ck U B ⟨k0,i,d,ks⟩ b cap v O' sl' [] 0 W':=fun B v O W h=>(z B v O W h).mono fun e W' hq=>by
   rcases hq with⟨y9,a',l,p,e3⟩|⟨s2,l,p,O',e3,_⟩
   ·cases l
   ·cases l
    exact⟨p,O',e3⟩
  replace y:Hid _:=y
  clear z
  go_enter_defers Tryz.func37,Tryz.ntmps37
  go_wp2_with (go_at_call 57;refine n.mono ?_;rintro e w1 ⟨B,rfl,v,O,hC⟩;refine Hid.out ?_)
  have z9:=y.out B v O w1 hC
  refine Lib.hid ?_
  go_wp2_with (go_at_call 58;refine z9.mono ?_;rintro e o ⟨rfl,O',z1⟩;obtain⟨⟨sb,sc,bb,bc,ms,h1,h2,_⟩,y5,y6,_,_,t⟩:=z1;have g2:=q0z t g1;have c5:o.cell? (Ad B 5)=some (.slice sb sl'.length sc):=q2z h1 rfl;have d0:o.cell? (Ad (w.heap.size+1) 0)=some (vi 0):=q2z g2 rfl;have d1:o.cell? (Ad (w.heap.size+1) 1)=some (vi 0):=q2z g2 rfl;have e0:o.frozen? (Ad (w.heap.size+1) 0)=false:=q6z g2;have l:o.frozen? (Ad (w.heap.size+1) 1)=false:=q6z g2)
  have x2:=a2q (vi 0) (vi 0) g2
  refine leaves_cons (f:=56) (args:=#[Po (w.heap.size+1) 0]) (by simp) (by simp[go_sem]) ?_
  refine(b6y _ _).mono ?_
  rintro e u' z2 ⟨rfl,rfl,rfl⟩
  refine⟨_,d7c rfl rfl x2,?_,sb,sc,rfl,?_,?_⟩
  ·have hk:a0b (fun q=>q=w.heap.size+1) U (pu2 o (w.heap.size+1) (vi 0) (vi 0)):=(a0b.of_below t).trans (a1w _ _ _ _)
   exact((a0b.of_below (S:=no) s).then hk (fun q hq e=>by omega)).below (Nat.le_refl _) (fun _ _=>id)
  ·refine SlAt.mono (SlAt.of (base:=U.heap.size) (c:=sc) (a1c h2 (fun q e _=>?_))) z6
   have z8:U.heap.size<=q:=by
    rcases h2.2 with⟨p,_⟩|⟨g,z3,z0,p,z8,hg,_⟩
    ·rw[p]at e;simp[Value.ownBlock]at e
    ·rw[p]at e
     simp[Value.ownBlock]at e
     omega
   have:=q5z g1
   exact a1p _ _ (by omega)
  ·rcases h2.2 with⟨p,h0⟩|⟨g,z3,z0,p,_,_,z5,_⟩
   ·rw[h0];exact Nat.zero_le _
   ·cases p;exact z5
def KOut (w:World) (R:(Int×Nat)⊕(Nd×List Int)) (e:Ending) (w':World):Prop :=
 (match R with
 | .inl (c,a)=>e=.returned (.tuple #[zagg,.slice none 0 0,.agg #[vi c,vi (a:Nat)]])
 | .inr (n,sl)=>∃b cap sb sc,e=.returned (.tuple #[ndv n b cap,.slice sb sl.length sc,.agg #[vi 0,vi 0]])/\NdV (fun g=>w.heap.size<=g) w' n (ndv n b cap)/\SlAt w.heap.size w' sb sl/\sl.length<=sc)/\Bw w w'
theorem d3t{B:Nat}{b:Value}(h:tm[2]?.getD undef=Po B 0)(hv:tm[3]?.getD undef=v)(h':tm[4]?.getD undef=Po C 0)(hx:W.heap[B]?=some (.cells #[a,b,c,d] 34))(hy:W.heap[C]?=some (.cells #[x,y] 27)):(results Tryz.f16 tm).run Tryz.prog W=.ok (.tuple #[.agg #[a,b,c,d],v,.agg #[x,y]]) W:=by
 obtain⟨c0,c1,c2,c3,_,_,_,_⟩:=in4 hx
 have w:Ce W C 0 x:=q2z hy rfl
 have z:Ce W C 1 y:=q2z hy rfl
 subst hv
 simp[results,Tryz.results16,go_sem,h,h',c0,c1,c2,c3,w,z]
theorem d3u{V:World}{T:Nat}{b:Value}(gA:V.heap[T]?=some (.cells #[a,b,c,d] 34))(gB:V.heap[T+1]?=some (.cells #[x,y] 27))(a' b' c' d' x' y':Value) :
  (pu2 (put4 V T a' b' c' d') (T+1) x' y').heap[T]?=some (.cells #[a',b',c',d'] 34)/\(pu2 (put4 V T a' b' c' d') (T+1) x' y').heap[T+1]?=some (.cells #[x',y'] 27)/\a0b (fun q=>q=T\/q=T+1) V (pu2 (put4 V T a' b' c' d') (T+1) x' y') :=
 ⟨(a1p _ _ (by omega)).trans (a0c _ _ _ _ gA),a2q _ _ ((a2e _ _ _ _ (by omega)).trans gB),((a1o _ _ _ _ _ _).mono (fun q _ e=>.inl e)).then (a1w _ _ _ _) (fun q _ e=>.inr e)⟩
theorem b2w(s:ByteArray)(w:World)(hE:ErrV w)(hsp:a5b w)(c:Int)(a:Nat)(hR:a1q s.data.toList=.inl (c,a)):Cl 16 #[.string s] w (KOut w (.inl (c,a))):=by
 have i:=parse_code hR
 have x:Bw w ((w.alloc zbx).alloc (.cells #[vi 0,vi 0] 27)):=q1z (q1z bz0 _) _
 obtain⟨U,p⟩:=exq ((w.alloc zbx).alloc (.cells #[vi 0,vi 0] 27))
 have g0:U.heap[w.heap.size]?=some zbx:=by rw[<- p];exact q4z _ (a0a _ _)
 have g1:U.heap[w.heap.size+1]?=some (.cells #[vi 0,vi 0] 27):=by
  have:=a0a (w.alloc zbx) (.cells #[vi 0,vi 0] 27)
  rw[World.size_alloc]at this
  rw[<- p];exact this
 rw[p]at x
 have l:=b0q s U (hE.on x) (hsp.below x)
 rw[hR]at l
 have d:(c == 0)=false:=by simpa using i
 have z8:(c != 0)=true:=by simpa using i
 replace p:(w.alloc (.cells #[vi 0,.string ⟨#[]⟩,vi 0,.slice none 0 0] 34)).alloc (.cells #[vi 0,vi 0] 27)=U:=p
 clear hR i
 go_enter Tryz.func16,Tryz.ntmps16
 go_wp2_with (go_at_call 36;refine l.mono ?_;rintro e w1 ⟨rfl,y⟩;refine Hid.out ?_)
 have z:Bw w1 ((w1.alloc zbx).alloc (.cells #[vi c,vi (a:Nat)] 27)):=q1z (q1z bz0 _) _
 have b:((w1.alloc zbx).alloc (.cells #[vi c,vi (a:Nat)] 27)).heap[w1.heap.size+1]?=some (.cells #[vi c,vi (a:Nat)] 27):=by
  have:=a0a (w1.alloc zbx) (.cells #[vi c,vi (a:Nat)] 27)
  rw[World.size_alloc]at this
  exact this
 have z9:w.heap.size+1<w1.heap.size:=by have:=q5z g1;have:=y.size;omega
 refine Lib.hid ?_
 go_wp2
 obtain⟨V,r⟩:=exq ((w1.alloc zbx).alloc (.cells #[vi c,vi (a:Nat)] 27))
 rw[r]at z b
 replace r:(w1.alloc (.cells #[vi 0,.string ⟨#[]⟩,vi 0,.slice none 0 0] 34)).alloc (.cells #[vi c,vi (a:Nat)] 27)=V:=r
 rw[r]
 clear r
 have n:=q0z z (q0z y g0)
 have o:=q0z z (q0z y g1)
 obtain⟨x0,x1,x2,x3,p0,p1,p2,p3⟩:=in4 n
 obtain⟨y0,y1,q0,q1⟩:=in2 o
 obtain⟨z0,z1,_,_⟩:=in2 b
 have v:=q3z (q3z x y) z
 clear l y g0 g1 z x
 replace v:Hid _:=v
 replace n:Hid _:=n
 replace o:Hid _:=o
 have n1:¬w1.heap.size+1=w.heap.size:=by omega
 have n2:¬w1.heap.size+1=w.heap.size+1:=by omega
 go_region_with (fail)
 all_goals
  go_wp2
  obtain⟨r1,g,f⟩:=d3u n.out o.out (vi 0) (.string ⟨#[]⟩) (vi 0) (.slice none 0 0) (vi c) (vi (a:Nat))
  obtain⟨X,h⟩:=exq ((((((V.setCell (Ad w.heap.size 0) (vi 0)).setCell (Ad w.heap.size 1) (.string ⟨#[]⟩)).setCell (Ad w.heap.size 2) (vi 0)).setCell (Ad w.heap.size 3) (.slice none 0 0)).setCell (Ad (w.heap.size+1) 0) (vi c)).setCell (Ad (w.heap.size+1) 1) (vi (a:Nat)))
  have t:pu2 (put4 V w.heap.size (vi 0) (.string ⟨#[]⟩) (vi 0) (.slice none 0 0)) (w.heap.size+1) (vi c) (vi (a:Nat))=X:=h
  rw[t]at r1 g f
  have u:=((a0b.of_below (S:=no) v.out).then f (fun q hq e=>by omega)).below (Nat.le_refl _) (fun _ _=>id)
  rw[h]
  clear h t
  exact bodyPost_ret (d3t (W:=X.drew) rfl rfl rfl r1 g) rfl ⟨rfl,u.drew⟩
theorem b6z(s:ByteArray)(w:World)(hE:ErrV w)(hsp:a5b w)(n:Nd)(c:Int)(a:Nat)(hR:a1q s.data.toList=.inr n)(hRU:a5y n=.error (c,a)):Cl 16 #[.string s] w (KOut w (.inl (c,a))):=by
 have hc:=b3t hRU
 have y5:(c == 0)=false:=by simpa using hc
 have y4:(c != 0)=true:=by simpa using hc
 obtain⟨z9,z8,y8⟩:=a5u hR
 have y:Bw w ((w.alloc zbx).alloc (.cells #[vi 0,vi 0] 27)):=q1z (q1z bz0 _) _
 obtain⟨U,hU⟩:=exq ((w.alloc zbx).alloc (.cells #[vi 0,vi 0] 27))
 have g0:U.heap[w.heap.size]?=some zbx:=by rw[<- hU];exact q4z _ (a0a _ _)
 have g1:U.heap[w.heap.size+1]?=some (.cells #[vi 0,vi 0] 27):=by
  have:=a0a (w.alloc zbx) (.cells #[vi 0,vi 0] 27)
  rw[World.size_alloc]at this
  rw[<- hU];exact this
 rw[hU]at y
 have hp:=b0q s U (hE.on y) (hsp.below y)
 rw[hR]at hp
 have y3:w.heap.size<=U.heap.size:=y.size
 replace hU:(w.alloc (.cells #[vi 0,.string ⟨#[]⟩,vi 0,.slice none 0 0] 34)).alloc (.cells #[vi 0,vi 0] 27)=U:=hU
 clear hR
 go_enter Tryz.func16,Tryz.ntmps16
 go_wp2_with (go_at_call 36;refine hp.mono ?_;rintro e w1 ⟨⟨y6,b,cap,rfl,hN⟩,v⟩;refine Hid.out ?_)
 have z:Bw w1 ((w1.alloc (nbx n b cap)).alloc (.cells #[vi 0,vi 0] 27)):=q1z (q1z bz0 _) _
 have gD:((w1.alloc (nbx n b cap)).alloc (.cells #[vi 0,vi 0] 27)).heap[w1.heap.size]?=some (nbx n b cap):=q4z _ (a0a _ _)
 have gC:((w1.alloc (nbx n b cap)).alloc (.cells #[vi 0,vi 0] 27)).heap[w1.heap.size+1]?=some (.cells #[vi 0,vi 0] 27):=by
  have:=a0a (w1.alloc (nbx n b cap)) (.cells #[vi 0,vi 0] 27)
  rw[World.size_alloc]at this
  exact this
 have y9:w.heap.size+1<w1.heap.size:=by have:=q5z g1;have:=v.size;omega
 obtain⟨k0,t0,n0,ks⟩:=n
 simp only at z8
 subst z8
 refine Lib.hid ?_
 go_wp2_with (go_at_call 37;refine Hid.out ?_)
 obtain⟨V,hV⟩:=exq ((w1.alloc (nbx ⟨1,t0,n0,ks⟩ b cap)).alloc (.cells #[vi 0,vi 0] 27))
 rw[hV]at z gC gD
 replace hV:(w1.alloc (.cells #[vi 1,sk t0,vi n0,.slice b ks.length cap] 34)).alloc (.cells #[vi 0,vi 0] 27)=V:=hV
 rw[hV]
 clear hV
 have y2:w.heap.size+1<U.heap.size:=q5z g1
 have i:=(hN.weak (fun g hg r=>(⟨hg,r⟩:U.heap.size<=g/\g<w1.heap.size))).below z
 have y7:w1.heap.size+1<V.heap.size:=q5z gC
 have o:=b1p ⟨1,t0,n0,ks⟩ z9 rfl y8 b cap V (i.weak (fun q _ r=>r))
 rw[hRU]at o
 have gA:=q0z z (q0z v g0)
 have gB:=q0z z (q0z v g1)
 have z6:=q3z (q3z y v) z
 clear hp v g0 g1 z y z9 hN
 obtain⟨Q,hQ⟩:=exq (w1.heap.size)
 rw[hQ]at gC gD y9 i y7
 rw[hQ]
 clear hQ
 refine Lib.hid ?_
 go_wp2_with (go_at_call 37;refine o.mono ?_;rintro e d ⟨x,rfl⟩;have f:=q0z x gC;obtain⟨y0,y1,q0,q1⟩:=in2 f)
 have z2:=q0z x gA
 have z3:=q0z x gB
 have h:=a2q (vi c) (vi (a:Nat)) f
 have t:=(a1p (W:=d) (B:=Q+1) (C:=w.heap.size) (vi c) (vi (a:Nat)) (by omega)).trans z2
 have u:=(a1p (W:=d) (B:=Q+1) (C:=w.heap.size+1) (vi c) (vi (a:Nat)) (by omega)).trans z3
 have p:=a1w d (Q+1) (vi c) (vi (a:Nat))
 obtain⟨Y,hY⟩:=exq ((d.setCell (Ad (Q+1) 0) (vi c)).setCell (Ad (Q+1) 1) (vi (a:Nat)))
 have z5:pu2 d (Q+1) (vi c) (vi (a:Nat))=Y:=hY
 rw[z5]at h t u p
 rw[hY]
 have l:Bw w Y:=((a0b.of_below (S:=no) (q3z z6 x)).then p (fun q hq e=>by omega)).below (Nat.le_refl _) (fun _ _=>id)
 clear hY z5 p f z2 z3 gA gB gC gD y0 y1 q0 q1 o x z6 i
 obtain⟨x0,x1,x2,x3,p0,p1,p2,p3⟩:=in4 t
 obtain⟨y0,y1,q0,q1⟩:=in2 u
 obtain⟨z0,z1,_,_⟩:=in2 h
 replace l:Hid _:=l
 replace t:Hid _:=t
 replace u:Hid _:=u
 clear h
 have n1:¬Q+1=w.heap.size:=by omega
 have n2:¬Q=w.heap.size:=by omega
 go_region_with (fail)
 all_goals
  go_wp2
  obtain⟨r1,r2,hk⟩:=d3u t.out u.out (vi 0) (.string ⟨#[]⟩) (vi 0) (.slice none 0 0) (vi c) (vi (a:Nat))
  obtain⟨X,hX⟩:=exq ((((((Y.setCell (Ad w.heap.size 0) (vi 0)).setCell (Ad w.heap.size 1) (.string ⟨#[]⟩)).setCell (Ad w.heap.size 2) (vi 0)).setCell (Ad w.heap.size 3) (.slice none 0 0)).setCell (Ad (w.heap.size+1) 0) (vi c)).setCell (Ad (w.heap.size+1) 1) (vi (a:Nat)))
  have z4:pu2 (put4 Y w.heap.size (vi 0) (.string ⟨#[]⟩) (vi 0) (.slice none 0 0)) (w.heap.size+1) (vi c) (vi (a:Nat))=X:=hX
  rw[z4]at r1 r2 hk
  have z7:=((a0b.of_below (S:=no) l.out).then hk (fun q hq e=>by omega)).below (Nat.le_refl _) (fun _ _=>id)
  rw[hX]
  clear hX z4
  exact bodyPost_ret (d3t (W:=X.drew) rfl rfl rfl r1 r2) rfl ⟨rfl,z7.drew⟩
theorem c0n(s:ByteArray)(w:World)(hE:ErrV w)(hsp:a5b w)(n:Nd)(sl:List Int)(hR:a1q s.data.toList=.inr n)(hRU:a5y n=.ok sl):Cl 16 #[.string s] w (KOut w (.inr (n,sl))):=by
 obtain⟨z4,z9,y7⟩:=a5u hR
 have u:Bw w ((w.alloc zbx).alloc (.cells #[vi 0,vi 0] 27)):=q1z (q1z bz0 _) _
 obtain⟨U,hU⟩:=exq ((w.alloc zbx).alloc (.cells #[vi 0,vi 0] 27))
 have g0:U.heap[w.heap.size]?=some zbx:=by rw[<- hU];exact q4z _ (a0a _ _)
 have g1:U.heap[w.heap.size+1]?=some (.cells #[vi 0,vi 0] 27):=by
  have:=a0a (w.alloc zbx) (.cells #[vi 0,vi 0] 27)
  rw[World.size_alloc]at this
  rw[<- hU];exact this
 rw[hU]at u
 have hp:=b0q s U (hE.on u) (hsp.below u)
 rw[hR]at hp
 have x6:w.heap.size<=U.heap.size:=u.size
 replace hU:(w.alloc (.cells #[vi 0,.string ⟨#[]⟩,vi 0,.slice none 0 0] 34)).alloc (.cells #[vi 0,vi 0] 27)=U:=hU
 clear hR
 go_enter Tryz.func16,Tryz.ntmps16
 go_wp2_with (go_at_call 36;refine hp.mono ?_;rintro e w1 ⟨⟨x9,b,cap,rfl,hN⟩,r⟩;refine Hid.out ?_)
 have y:Bw w1 ((w1.alloc (nbx n b cap)).alloc (.cells #[vi 0,vi 0] 27)):=q1z (q1z bz0 _) _
 have gD:((w1.alloc (nbx n b cap)).alloc (.cells #[vi 0,vi 0] 27)).heap[w1.heap.size]?=some (nbx n b cap):=q4z _ (a0a _ _)
 have gC:((w1.alloc (nbx n b cap)).alloc (.cells #[vi 0,vi 0] 27)).heap[w1.heap.size+1]?=some (.cells #[vi 0,vi 0] 27):=by
  have:=a0a (w1.alloc (nbx n b cap)) (.cells #[vi 0,vi 0] 27)
  rw[World.size_alloc]at this
  exact this
 have z0:w.heap.size+1<w1.heap.size:=by have:=q5z g1;have:=r.size;omega
 obtain⟨k0,p,o,ks⟩:=n
 simp only at z9
 subst z9
 refine Lib.hid ?_
 go_wp2_with (go_at_call 37;refine Hid.out ?_)
 obtain⟨V,hV⟩:=exq ((w1.alloc (nbx ⟨1,p,o,ks⟩ b cap)).alloc (.cells #[vi 0,vi 0] 27))
 rw[hV]at y gC gD
 replace hV:(w1.alloc (.cells #[vi 1,sk p,vi o,.slice b ks.length cap] 34)).alloc (.cells #[vi 0,vi 0] 27)=V:=hV
 rw[hV]
 clear hV
 have x5:w.heap.size+1<U.heap.size:=q5z g1
 have h:=(hN.weak (fun g hg l=>(⟨hg,l⟩:U.heap.size<=g/\g<w1.heap.size))).below y
 have y5:w1.heap.size+1<V.heap.size:=q5z gC
 have z8:=b1p ⟨1,p,o,ks⟩ z4 rfl y7 b cap V (h.weak (fun q _ l=>l))
 rw[hRU]at z8
 have gA:=q0z y (q0z r g0)
 have gB:=q0z y (q0z r g1)
 have z7:=q3z (q3z u r) y
 clear hp r g0 g1 y u z4 hN
 obtain⟨Q,hQ⟩:=exq (w1.heap.size)
 rw[hQ]at gC gD z0 h y5
 rw[hQ]
 clear hQ
 refine Lib.hid ?_
 go_wp2_with (go_at_call 37;refine z8.mono ?_;rintro e c ⟨z,sb,sc,rfl,a,y8⟩;have z5:=q0z z gC;have z1:=q0z z gD;have d:=q0z z gA;have f:=q0z z gB;refine Hid.out ?_)
 have z9:¬Q+1=w.heap.size:=by omega
 have x7:¬Q=w.heap.size:=by omega
 have x8:¬Q=w.heap.size+1:=by omega
 have z6:=h.below z
 have t:=q3z z7 z
 have y9:w.heap.size<=V.heap.size:=z7.size
 obtain⟨y0,y1,q0,q1⟩:=in2 z5
 obtain⟨v0,v1,q2,q3⟩:=in2 f
 obtain⟨x0,x1,x2,x3,p0,p1,p2,p3⟩:=in4 d
 obtain⟨d0,d1,d2,d3,_,_,_,_⟩:=in4 z1
 simp only at d0 d1 d2 d3
 replace d:Hid _:=d
 replace f:Hid _:=f
 replace t:Hid _:=t
 replace z6:Hid _:=z6
 replace a:Hid _:=a
 have l:=q5z z5
 clear z5 z1 gA gB gC gD z8 z z7 h
 refine Lib.hid ?_
 go_wp2
 have y2:=(a1p (W:=c) (B:=Q+1) (C:=w.heap.size) (vi 0) (vi 0) (by omega)).trans d.out
 have y3:=(a1p (W:=c) (B:=Q+1) (C:=w.heap.size+1) (vi 0) (vi 0) (by omega)).trans f.out
 have y6:=a1w c (Q+1) (vi 0) (vi 0)
 obtain⟨r1,r2,hk⟩:=d3u y2 y3 (vi 1) (sk p) (vi o) (.slice b ks.length cap) (vi 0) (vi 0)
 have i:a0b (fun q=>q=Q+1\/q=w.heap.size\/q=w.heap.size+1) c (pu2 (put4 (pu2 c (Q+1) (vi 0) (vi 0)) w.heap.size (vi 1) (sk p) (vi o) (.slice b ks.length cap)) (w.heap.size+1) (vi 0) (vi 0)):=(y6.mono (fun q _ e=>.inl e)).then hk (fun q _ e=>.inr e)
 obtain⟨X,hX⟩:=exq ((((((((c.setCell (Ad (Q+1) 0) (vi 0)).setCell (Ad (Q+1) 1) (vi 0)).setCell (Ad w.heap.size 0) (vi 1)).setCell (Ad w.heap.size 1) (sk p)).setCell (Ad w.heap.size 2) (vi o)).setCell (Ad w.heap.size 3) (.slice b ks.length cap)).setCell (Ad (w.heap.size+1) 0) (vi 0)).setCell (Ad (w.heap.size+1) 1) (vi 0))
 have z2:pu2 (put4 (pu2 c (Q+1) (vi 0) (vi 0)) w.heap.size (vi 1) (sk p) (vi o) (.slice b ks.length cap)) (w.heap.size+1) (vi 0) (vi 0)=X:=hX
 rw[z2]at r1 r2 i
 have z3:=((a0b.of_below (S:=no) t.out).then i (fun q hq e=>by omega)).below (Nat.le_refl _) (fun _ _=>id)
 have y4:=NdV.keep (S:=fun g=>U.heap.size<=g/\g<Q) (x:=⟨1,p,o,ks⟩) (v:=ndv ⟨1,p,o,ks⟩ b cap) z6.out i (fun g hg hl e=>by omega)
 rw[hX]
 clear hX z2
 refine bodyPost_ret (d3t (W:=X) rfl rfl rfl r1 r2) rfl ⟨⟨b,cap,sb,sc,rfl,y4.weak (fun q hq _=>by omega),?_⟩,z3⟩
 exact⟨(SlAt.keep (lo:=V.heap.size) (b:=sb) (sl:=sl) a.out i (fun g h1 h2 e=>by omega)).mono y9,y8⟩
theorem b0r(s:ByteArray)(w:World)(hE:ErrV w)(hsp:a5b w):Cl 16 #[.string s] w (KOut w (a4r (a1q s.data.toList))):=by
 cases hR:a1q s.data.toList with
 | inl x=>obtain⟨c,a⟩:=x;exact b2w s w hE hsp c a hR
 | inr n =>
  cases hU:a5y n with
  | error e =>
   obtain⟨c,a⟩:=e
   have:=b6z s w hE hsp n c a hR hU
   unfold a4r
   simp only[hU]
   exact this
  | ok sl =>
   have:=c0n s w hE hsp n sl hR hU
   unfold a4r
   simp only[hU]
   exact this
end Go.Proofs.YtomniogfpfbolaaGreatDoor
