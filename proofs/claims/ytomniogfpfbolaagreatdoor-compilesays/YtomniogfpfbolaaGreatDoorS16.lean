import Derived.Test.YtomniogfpfbolaaGreatDoorS11
import Derived.Test.YtomniogfpfbolaaGreatDoorS12
import Derived.Test.YtomniogfpfbolaaGreatDoorS07
import Derived.Shelf.RegionOpen
import Derived.Deep.RegionHeld3
namespace Go.Proofs.YtomniogfpfbolaaGreatDoor
open Go.RowKit Go
set_option maxRecDepth 100000
set_option maxHeartbeats 8000000
set_option linter.all false
variable {ts:List Tok} {i lim m1 m2 m3 m4 m5 B m:Nat} {x:Tok} {W':World} {b:Option Addr} {k a:Int} {t:ByteArray}
abbrev pt (x:Tok):PT:=(x.k,x.t)
def rest (ts:List Tok) (i:Nat):List PT:=(ts.drop i).map pt
theorem a3v(h:ts.length<=i):rest ts i=[]:=by unfold rest;rw[List.drop_eq_nil_of_le h];rfl
theorem a6e(h:ts[i]?=some x):rest ts i=pt x::rest ts (i+1):=by
 obtain⟨z,rfl⟩:=List.getElem?_eq_some_iff.1 h
 unfold rest
 rw[List.drop_eq_getElem_cons z]
 rfl
theorem a6s(ts:List Tok)(i:Nat):(rest ts i).length=ts.length-i:=by unfold rest;simp
abbrev trio (x:Tok):List Value:=[vi x.k,.string ⟨x.t.toArray⟩,vi (x.a:Nat)]
def a5q (W:World) (b:Option Addr) (ts:List Tok) (lim:Nat):Prop:=ts=[]\/∃g,b=some (Ad g 0)/\g<lim/\g<W.heap.size/\∀j x,ts[j]?=some x->∀i u,(trio x)[i]?=some u->W.cell? (Ad g (j*3+i))=some u
theorem a5q.keep{W:World}{S:Nat->Prop}(h:a5q W b ts lim)(hk:a0b S W W')(hs:∀g,g<lim->¬S g):a5q W' b ts lim:=by
 rcases h with h|⟨g,e,h1,h2,h3⟩
 ·exact .inl h
 ·exact .inr ⟨g,e,h1,Nat.lt_of_lt_of_le h2 hk.size,fun j x z i u y=>hk.cell (h3 j x z i u y) (hs g h1)⟩
abbrev sk (s:List UInt8):Value:=.string ⟨s.toArray⟩
abbrev ik (n:Int):Value:=vi n
def a0z:List (List UInt8×Value):=a0j.map fun s=>(s,.agg #[])
def a0d:List (List UInt8×Value):=opsL.map fun p=>(p.1,.agg #[vi p.2.1,vi ((p.2.2+1:Nat):Int)])
def a1n:List (List UInt8×Value):=[(S.mi,ik 24),(W.not_,ik 23),(S.hs,ik 25)]
def a0s:List (List UInt8×Value):=[(W.nil_,ik 15),(W.true_,ik 16),(W.false_,ik 17)]
def c2f (kv:List (Int×Value)):Prop:=(kv.map (·.1)).Nodup/\∀o,kv.lookup o=(opOf o).map fun p=>.agg #[.string ⟨p.1.toArray⟩,vi ((p.2+1:Nat):Int)]
structure Wd (W:World) (lim m1 m2 m3 m4 m5:Nat):Prop where
 l1:m1<lim
 l2:m2<lim
 l3:m3<lim
 l4:m4<lim
 l5:m5<lim
 h1:W.heap[m1]?=some (a0f sk a0z)
 h2:W.heap[m2]?=some (a0f sk a0d)
 h3:∃kv,c2f kv/\W.heap[m3]?=some (a0f ik kv)
 h4:W.heap[m4]?=some (a0f sk a1n)
 h5:W.heap[m5]?=some (a0f sk a0s)
theorem Wd.keep{W:World}{S:Nat->Prop}(h:Wd W lim m1 m2 m3 m4 m5)(hk:a0b S W W')(hs:∀g,g<lim->¬S g):Wd W' lim m1 m2 m3 m4 m5:=by
 have go:∀{m o},m<lim->W.heap[m]?=some o->W'.heap[m]?=some o:=fun x y=>(hk.block _ (q5z y) (hs _ x)).trans y
 obtain⟨kv,z,h3⟩:=h.h3
 exact⟨h.l1,h.l2,h.l3,h.l4,h.l5,go h.l1 h.h1,go h.l2 h.h2,⟨kv,z,go h.l3 h3⟩,go h.l4 h.h4,go h.l5 h.h5⟩
abbrev rbx (m1 m2 m3 m4 m5:Nat) (b:Option Addr) (n cap:Nat) (i:Int):Obj:=.cells #[.map (some m1),.map (some m2),.map (some m3),.map (some m4),.map (some m5),.slice b n cap,vi i] 133
structure Rd (W:World) (B:Nat) (ts:List Tok) (i:Nat):Prop where
 box:∃m1 m2 m3 m4 m5 b cap,W.heap[B]?=some (rbx m1 m2 m3 m4 m5 b ts.length cap (i:Nat))/\a5q W b ts B/\Wd W B m1 m2 m3 m4 m5/\ts.length<=cap
 le:i<=ts.length
 short:ts.length<=4000
theorem Rd.keep{W:World}{S:Nat->Prop}(h:Rd W B ts i)(hk:a0b S W W')(hs:∀g,g<=B->¬S g):Rd W' B ts i:=by
 obtain⟨m1,w,x,y,z,b,cap,h1,h2,h3,h4⟩:=h.box
 exact⟨⟨m1,w,x,y,z,b,cap,(hk.block _ (q5z h1) (hs _ (Nat.le_refl _))).trans h1,h2.keep hk (fun g v=>hs g (by omega)),h3.keep hk (fun g v=>hs g (by omega)),h4⟩,h.le,h.short⟩
theorem Rd.below{W:World}(h:Rd W B ts i)(hb:Bw W W'):Rd W' B ts i:=h.keep (a0b.of_below (S:=fun _=>False) hb) (fun _ _=>id)
theorem Rd.lt{W:World}(h:Rd W B ts i):B<W.heap.size:=by
 obtain⟨m1,w,x,y,z,b,cap,h1,_⟩:=h.box
 exact q5z h1
theorem Rd.go{W:World}{j:Nat}(h:Rd W B ts i)(hj:j<=ts.length):Rd (W.setCell (Ad B 6) (vi (j:Nat))) B ts j:=by
 obtain⟨m1,v,w,x,y,b,cap,h1,h2,h3,h4⟩:=h.box
 have z:a0b (fun k=>k=B) W (W.setCell (Ad B 6) (vi (j:Nat))):=(a0b.refl _ W).set B 6 _ (fun _=>rfl)
 exact⟨⟨m1,v,w,x,y,b,cap,q7z _ h1,h2.keep z (fun g u e=>by omega),h3.keep z (fun g u e=>by omega),h4⟩,hj,h.short⟩
structure RdC (W:World) (B:Nat) (m1 m2 m3 m4 m5:Nat) (b:Option Addr) (n cap:Nat) (i:Int):Prop where
 c0:W.cell? (Ad B 0)=some (.map (some m1))
 c1:W.cell? (Ad B 1)=some (.map (some m2))
 c2:W.cell? (Ad B 2)=some (.map (some m3))
 c3:W.cell? (Ad B 3)=some (.map (some m4))
 c4:W.cell? (Ad B 4)=some (.map (some m5))
 c5:W.cell? (Ad B 5)=some (.slice b n cap)
 c6:W.cell? (Ad B 6)=some (vi i)
 f6:W.frozen? (Ad B 6)=false
theorem rdC{W:World}{n cap:Nat}{i:Int}(h:W.heap[B]?=some (rbx m1 m2 m3 m4 m5 b n cap i)):RdC W B m1 m2 m3 m4 m5 b n cap i :=
 ⟨q2z h rfl,q2z h rfl,q2z h rfl,q2z h rfl,q2z h rfl,q2z h rfl,q2z h rfl,q6z h⟩
theorem a8n{W:World}{n:Nat}{o:Obj}(h:W.heap[B]?=some o):(W.drewN n).heap[B]?=some o:=h
theorem q9z{n:Nat}{w W:World}(h:Below m w W):Below m w (W.drewN n):=⟨h.os,h.tape,h.output,h.size,h.block⟩
def tokH (ts:List Tok) (i:Nat):Value:=match ts[i]? with
 | some x=>tokv x.k ⟨x.t.toArray⟩ (x.a:Nat)
 | none=>tokv 0 ⟨#[]⟩ 0
theorem c9x{tm:Array Value}{W:World}(h:tm[2]?.getD undef=Po B 0)(hx:W.heap[B]?=some (tbx k t a)):(results Tryz.f141 tm).run Tryz.prog W=.ok (tokv k t a) W:=by
 obtain⟨c0,c1,c2,_,_,_⟩:=in3 hx
 simp[results,Tryz.results141,go_sem,h,c0,c1,c2]
theorem c2g(B:Nat)(ts:List Tok)(w:World)(hR:Rd w B ts ts.length):Cl 141 #[Po B 0] w fun e y=>e=.returned (tokv 0 ⟨#[]⟩ 0)/\Bw w y:=by
 have x:=a0a w a2r
 have z:Bw w (w.alloc a2r):=bz0.alloc (Nat.le_refl _) _
 obtain⟨m1,r,s,t,u,b,cap,h1,_⟩:=hR.box
 have v:=q5z h1
 obtain⟨c0,c1,c2,c3,c4,c5,c6,f6⟩:=rdC h1
 clear h1 hR
 go_enter Tryz.func141,Tryz.ntmps141
 go_wp2
 go_quiet (fail)
 go_wp2
 exact bodyPost_ret (c9x rfl (put3_same 0 _ 0 (a8n x))) rfl ⟨rfl,put3_below _ _ _ (q9z z) (Nat.le_refl _)⟩
theorem b9c(B:Nat)(ts:List Tok)(i:Nat)(x:Tok)(hx:ts[i]?=some x)(w:World)(hR:Rd w B ts i):Cl 141 #[Po B 0] w fun e q=>e=.returned (tokv x.k ⟨x.t.toArray⟩ (x.a:Nat))/\Bw w q:=by
 have l:=a0a w a2r
 have r:Bw w (w.alloc a2r):=bz0.alloc (Nat.le_refl _) _
 obtain⟨m1,m2,m3,m4,m5,b,cap,h1,p,_,y⟩:=hR.box
 have h:=q5z h1
 obtain⟨f,_⟩:=List.getElem?_eq_some_iff.1 hx
 have o:=hR.short
 obtain⟨c0,c1,c2,c3,c4,c5,c6,f6⟩:=rdC h1
 rcases p with rfl|⟨g,rfl,hg,d,z⟩
 ·simp at hx
 have d0:w.cell? (Ad g (i*3))=some (vi x.k):=z i x hx 0 _ rfl
 have d1:=z i x hx 1 _ rfl
 have d2:=z i x hx 2 _ rfl
 have v:¬(i:Int)=(ts.length:Int):=by omega
 have s:(i:Int)<(ts.length:Int):=by omega
 obtain⟨n,hn⟩:=exq (ts.length)
 rw[hn]at c5 v s f o y
 clear h1 hR z hx hn
 have n1:¬B=w.heap.size:=by omega
 have n2:¬g=w.heap.size:=by omega
 have n3:¬w.heap.size=B:=by omega
 have c:¬w.heap.size=g:=by omega
 go_enter Tryz.func141,Tryz.ntmps141
 go_wp2
 go_quiet (fail)
 go_wp2
 go_region_held3 (fun u=>u.cell? (Ad B 5)=some (.slice (some (Ad g 0)) n cap)/\u.cell? (Ad B 6)=some (vi (i:Nat))/\u.cell? (Ad g (i*3))=some (vi x.k)/\u.cell? (Ad g (i*3+1))=some (.string ⟨x.t.toArray⟩)/\u.cell? (Ad g (i*3+2))=some (vi (x.a:Nat))) (go_keep) (fail)
 go_wp2
 exact bodyPost_ret (c9x rfl (put3_same x.k _ _ (a8n l))) rfl ⟨rfl,put3_below _ _ _ (q9z r) (Nat.le_refl _)⟩
theorem a3z(B:Nat)(ts:List Tok)(i:Nat)(w:World)(hR:Rd w B ts i):Cl 141 #[Po B 0] w fun e z=>e=.returned (tokH ts i)/\Bw w z:=by
 have y:=hR.le
 unfold tokH
 cases h:ts[i]? with
 | some x=>exact b9c B ts i x h w hR
 | none =>
  have:i=ts.length:=by
   have:=List.getElem?_eq_none_iff.1 h
   omega
  subst this
  exact c2g B ts w hR
def wd (ts:List Tok) (i:Nat):List UInt8:=match ts[i]? with
 | some x=>if x.k=3 then [] else x.t
 | none=>[]
theorem a6f{W:World}(h:W.heap[B]?=some (tbx k t a)):W.cell? (Ad B 0)=some (vi k)/\W.cell? (Ad B 1)=some (.string t):=⟨q2z h rfl,q2z h rfl⟩
theorem a4w(B:Nat)(ts:List Tok)(i:Nat)(w:World)(hR:Rd w B ts i):Cl 143 #[Po B 0] w fun e v=>e=.returned (sk (wd ts i))/\Bw w v:=by
 have z:=a3z B ts i w hR
 unfold tokH at z
 unfold wd
 cases h:ts[i]? with
 | some x =>
  rw[h]at z
  simp only at z⊢
  clear h hR
  by_cases hk:x.k=3
  ·rw[if_pos hk]
   rw[hk]at z
   go_enter Tryz.func143,Tryz.ntmps143
   go_wp2_with (go_at_call 141;refine z.mono ?_;rintro e w1 ⟨rfl,y⟩)
   go_ret
   exact⟨rfl,q1z y _⟩
  ·rw[if_neg hk]
   go_enter Tryz.func143,Tryz.ntmps143
   go_wp2_with (go_at_call 141;refine z.mono ?_;rintro e w1 ⟨rfl,y⟩)
   go_ret
   exact⟨rfl,q1z y _⟩
 | none =>
  rw[h]at z
  simp only at z⊢
  clear h hR
  go_enter Tryz.func143,Tryz.ntmps143
  go_wp2_with (go_at_call 141;refine z.mono ?_;rintro e w1 ⟨rfl,y⟩)
  go_ret
  exact⟨rfl,q1z y _⟩
def c6u (W:World) (c:Nat) (zs:List ByteArray):Prop:=W.heap[c]?=some (.cells (zs.map Value.string).toArray 9)
theorem c6u.cells{W:World}{c:Nat}{zs:List ByteArray}(h:c6u W c zs):∀j,j<zs.length->W.cell? (Ad c (0+j))=some (.string (zs.getD j ByteArray.empty)):=fun j z=>by
 refine q2z h ?_
 simp[z]
theorem a9e(B:Nat)(ts:List Tok)(i:Nat)(c:Nat)(zs:List ByteArray)(hz:zs.length<=4)(cap:Nat)(w:World)(hR:Rd w B ts i)(hS:c6u w c zs):Cl 129 #[Po B 0,.slice (some (Ad c 0)) zs.length cap] w fun e x=>e=.returned (.bool (Lib.containsS zs ⟨(wd ts i).toArray⟩))/\Bw w x:=by
 have t:=a4w B ts i w hR
 have y:=fun(u:World) (z:Bw w u)=>Tryz.slices_Contains_string c 0 zs.length cap zs ⟨(wd ts i).toArray⟩ u (Nat.le_refl _) (by omega) (c6u.cells (q0z z hS))
 rw[List.take_length]at y
 obtain⟨V,v⟩:=exq (Lib.containsS zs ⟨(wd ts i).toArray⟩)
 rw[v]at y⊢
 go_enter Tryz.func129,Tryz.ntmps129
 go_wp2_with (first|(go_at_call 143;refine t.mono ?_;rintro e w1 ⟨rfl,z⟩)|(go_at_call 142;refine(y _ z).mono ?_;rintro e s ⟨rfl,rfl⟩))
 go_ret
 exact⟨rfl,z⟩
theorem a9y(a:List UInt8)(s:List UInt8):Lib.containsS [⟨a.toArray⟩] ⟨s.toArray⟩=decide (s=a):=by
 have:=Lib.containsS_iff [⟨a.toArray⟩] ⟨s.toArray⟩
 by_cases h:s=a
 ·subst h;simp at this;simp[this]
 ·rw[decide_eq_false h]
  rw[<- Bool.not_eq_true,this]
  simp[h]
theorem c2h(a b:List UInt8)(s:List UInt8):Lib.containsS [⟨a.toArray⟩,⟨b.toArray⟩] ⟨s.toArray⟩=decide (s=a\/s=b):=by
 have:=Lib.containsS_iff [⟨a.toArray⟩,⟨b.toArray⟩] ⟨s.toArray⟩
 by_cases h:s=a\/s=b
 ·rw[decide_eq_true h,this];simpa using h
 ·rw[decide_eq_false h,<- Bool.not_eq_true,this]
  simpa using h
theorem takes_no(B:Nat)(ts:List Tok)(i:Nat)(s:List UInt8)(h:¬wd ts i=s)(w:World)(hR:Rd w B ts i):Cl 130 #[Po B 0,sk s] w fun e x=>e=.returned (.bool false)/\Bw w x:=by
 have z:Bw w (w.alloc (.cells #[sk s] 9)):=bz0.alloc (Nat.le_refl _) _
 have y:=a9e B ts i w.heap.size [⟨s.toArray⟩] (by simp) 1 _ (hR.below z) (a0a w _)
 rw[a9y,decide_eq_false h]at y
 go_enter Tryz.func130,Tryz.ntmps130
 go_wp2_with (go_at_call 129;refine y.mono ?_;rintro e w1 ⟨rfl,v⟩)
 go_ret
 exact⟨rfl,q3z z v⟩
theorem takes_yes(B:Nat)(ts:List Tok)(i:Nat)(s:List UInt8)(h:wd ts i=s)(hi:i<ts.length)(w:World)(hR:Rd w B ts i):Cl 130 #[Po B 0,sk s] w fun e x=>e=.returned (.bool true)/\Rd x B ts (i+1)/\a0b (fun k=>k=B) w x:=by
 have z:Bw w (w.alloc (.cells #[sk s] 9)):=bz0.alloc (Nat.le_refl _) _
 have u:=a9e B ts i w.heap.size [⟨s.toArray⟩] (by simp) 1 _ (hR.below z) (a0a w _)
 rw[a9y,decide_eq_true h]at u
 have o:=hR.short
 go_enter Tryz.func130,Tryz.ntmps130
 go_wp2_with (go_at_call 129;refine u.mono ?_;rintro e w1 ⟨rfl,v⟩;have y:=hR.below (q3z z v);obtain⟨m1,p,q,r,t,b,cap,h1,_⟩:=y.box;obtain⟨c0,c1,c2,c3,c4,c5,c6,f6⟩:=rdC h1)
 go_ret
 exact⟨rfl,y.go (j:=i+1) hi,(a0b.of_below (q3z z v)).set B 6 _ (fun _=>rfl)⟩
def gv (ts:List Tok) (i:Nat):Value:=match ts[i]? with
 | some x=>.iface 123 (.agg #[vi (x.a:Nat)])
 | none=>.iface 125 (.agg #[])
theorem c6v(a b c:Value)(w:World):(Instr.field 85 (.agg #[a,b,c]) 2).run Tryz.prog w=.ok c w:=by
 simp[Instr.field,run_underlying Tryz.underlying85,go_sem,asAgg]
abbrev pan (v:Value):List PanicEntry:=[{ v:=v,recovered:=false }]
theorem a6t(B:Nat)(ts:List Tok)(i:Nat)(w:World)(hR:Rd w B ts i):Cl 140 #[Po B 0] w fun e q=>e=.panicked (pan (gv ts i))/\Bw w q:=by
 have z:=fun u (t:Bw w u)=>a3z B ts i u (hR.below t)
 unfold tokH at z
 unfold gv
 obtain⟨m1,c,d,f,g,b,cap,h1,s,_,r⟩:=hR.box
 obtain⟨c0,c1,c2,c3,c4,c5,c6,f6⟩:=rdC h1
 have hi:=hR.le
 have a:=hR.short
 cases h:ts[i]? with
 | some x =>
  rw[h]at z
  simp only at z⊢
  have y:=(List.getElem?_eq_some_iff.1 h).1
  have v:¬(i:Int)=(ts.length:Int):=by omega
  obtain⟨n,hn⟩:=exq (ts.length)
  rw[hn]at c5 v
  clear h hR h1 s hn
  have hF:=fun l o p u=>c6v l o p u
  go_enter Tryz.func140,Tryz.ntmps140
  go_wp2
  go_quiet (fail)
  go_wp2_with (go_at_call 141;refine(z _ (q9z bz0)).mono ?_;rintro e w1 ⟨rfl,t⟩)
  exact⟨rfl,rfl,q3z (q9z bz0) t⟩
 | none =>
  rw[h]at z
  simp only at z⊢
  have y:i=ts.length:=by
   have:=List.getElem?_eq_none_iff.1 h
   omega
  subst y
  obtain⟨n,hn⟩:=exq (ts.length)
  rw[hn]at c5 c6
  clear h hR h1 s hn
  go_enter Tryz.func140,Tryz.ntmps140
  go_wp2
  go_quiet (fail)
  go_wp2
  exact⟨rfl,rfl,q9z bz0⟩
theorem wants_yes(B:Nat)(ts:List Tok)(i:Nat)(s:List UInt8)(h:wd ts i=s)(hi:i<ts.length)(c cap:Nat)(w:World)(hR:Rd w B ts i)(hS:w.heap[c]?=some (.cells #[sk s] 9)):Cl 127 #[Po B 0,.slice (some (Ad c 0)) 1 cap] w fun e x=>e=.returned (.tuple #[])/\Rd x B ts (i+1)/\a0b (fun k=>k=B) w x:=by
 have v:=takes_yes B ts i s h hi w hR
 have u:Ce w c 0 (sk s):=q2z hS rfl
 clear hS
 go_enter Tryz.func127,Tryz.ntmps127
 go_wp2
 refine wp_loop_rounds 2 ?_
 rw[rounds_succ]
 go_wp2_with (go_at_call 130;refine v.mono ?_;rintro e w1 ⟨rfl,y,z⟩)
 rw[rounds_succ]
 go_wp2
 go_end0
 exact⟨rfl,y,z⟩
theorem wants_no(B:Nat)(ts:List Tok)(i:Nat)(s:List UInt8)(h:¬wd ts i=s)(c cap:Nat)(w:World)(hR:Rd w B ts i)(hS:w.heap[c]?=some (.cells #[sk s] 9)):Cl 127 #[Po B 0,.slice (some (Ad c 0)) 1 cap] w fun e x=>e=.panicked (pan (gv ts i))/\Bw w x:=by
 have v:=takes_no B ts i s h w hR
 have t:=fun u (z:Bw w u)=>a6t B ts i u (hR.below z)
 have q:Ce w c 0 (sk s):=q2z hS rfl
 clear hS
 go_enter Tryz.func127,Tryz.ntmps127
 go_wp2
 refine wp_loop_rounds 2 ?_
 rw[rounds_succ]
 go_wp2_with (first|(go_at_call 130;refine v.mono ?_;rintro e w1 ⟨rfl,z⟩)|(go_at_call 140;refine(t _ z).mono ?_;rintro e r ⟨rfl,y⟩))
 exact⟨rfl,rfl,q3z z y⟩
theorem c6w{W:World}(h:W.heap[m]?=some (a0f sk a0z))(s:List UInt8):(Instr.lookup 126 (.map (some m)) (sk s) true).run Tryz.prog W=.ok (.tuple #[.agg #[],.bool (a0j.contains s)]) W:=by
 have:=a5m (P:=Tryz.prog) (w:=W) (T:=126) (K:=9) (E:=124) (kf:=sk) (kv:=a0z) (B:=m) Tryz.underlying126 Tryz.underlying9 a1j h (by decide) (z:=.agg #[]) (by kernel_rfl) s true
 rw[if_pos rfl]at this
 rw[this]
 have e:∀l:List (List UInt8),((l.map fun s=>(s,Value.agg #[])).lookup s).getD (.agg #[])=.agg #[]/\((l.map fun s=>(s,Value.agg #[])).lookup s).isSome=l.contains s:=fun l=>by
  induction l with
  | nil=>exact⟨rfl,rfl⟩
  | cons a l ih =>
   simp only[List.map_cons,List.lookup_cons,List.contains_cons]
   by_cases hs:s=a
   ·subst hs;simp
   ·have:(s == a)=false:=by simpa using hs
    rw[this];simpa using ih
 rw[a0z,(e a0j).1,(e a0j).2]
theorem cellB{W:World}(hb:Bw W W'){g o:Nat}{v:Value}(h:W.cell? (Ad g o)=some v):W'.cell? (Ad g o)=some v:=(hb.cell (p:=(Ad g o)) (World.block_lt_of_cell? _ _ h)).trans h
def LkR (m:Nat) (u:World):Prop:=u.heap[m]?=some (a0f sk a0z)
theorem LkR.alloc(u:World)(o:Obj)(h:LkR m u):LkR m (u.alloc o):=q4z o h
theorem LkR.drew(u:World)(h:LkR m u):LkR m u.drew:=h
theorem LkR.drewN(u:World)(n:Nat)(h:LkR m u):LkR m (u.drewN n):=h
theorem b5v{u:World}{s:List UInt8}(h:LkR m u):(Instr.lookup 126 (.map (some m)) (sk s) true).run Tryz.prog u=.ok (.tuple #[.agg #[],.bool (a0j.contains s)]) u:=c6w h s
theorem a9z(h:ts[i]?=some x):tokH ts i=tokv x.k ⟨x.t.toArray⟩ (x.a:Nat):=by unfold tokH;rw[h]
theorem b3n(h:ts[i]?=none):tokH ts i=tokv 0 ⟨#[]⟩ 0:=by unfold tokH;rw[h]
theorem c9y(B:Nat)(ts:List Tok)(i:Nat)(k:Int)(t:List UInt8)(a:Int)(hV:tokH ts i=tokv k ⟨t.toArray⟩ a)(h:a0j.contains t=true\/¬k=1)(w:World)(hR:Rd w B ts i):Cl 128 #[Po B 0] w fun e w'=>e=.panicked (pan (gv ts i))/\Bw w w':=by
 have c:=a3z B ts i w hR
 rw[hV]at c
 have hG:=fun u (p:Bw w u)=>a6t B ts i u (hR.below p)
 obtain⟨V,d⟩:=exq (gv ts i)
 rw[d]at hG⊢
 clear hV d
 by_cases hr:a0j.contains t=true
 ·skip
  go_enter Tryz.func128,Tryz.ntmps128
  go_wp2_with (go_at_call 141;refine c.mono ?_;rintro e w1 ⟨rfl,p⟩)
  have v:=(hR.below p).below (q1z bz0 (tbx k ⟨t.toArray⟩ a))
  obtain⟨m1,m2,m3,m4,m5,b,cap,h1,_,f,_⟩:=v.box
  obtain⟨c0,c1,c2,c3,c4,c5,c6,f6⟩:=rdC h1
  obtain⟨l,n⟩:=a6f (a0a w1 (tbx k ⟨t.toArray⟩ a))
  have y:=q1z p (tbx k ⟨t.toArray⟩ a)
  have hL:=fun u h=>b5v (m:=m1) (u:=u) (s:=t) h
  rw[hr]at hL
  have q1:=LkR.alloc (m:=m1)
  have q2:=LkR.drew (m:=m1)
  have q3:=LkR.drewN (m:=m1)
  have q0:LkR m1 (w1.alloc (tbx k ⟨t.toArray⟩ a)):=f.h1
  have q:¬w1.heap.size=(w1.alloc (tbx k ⟨t.toArray⟩ a)).heap.size:=by simp
  have r:¬B=(w1.alloc (tbx k ⟨t.toArray⟩ a)).heap.size:=by have:=p.size;have:=hR.lt;simp;omega
  obtain⟨W1,x⟩:=exq (w1.alloc (tbx k ⟨t.toArray⟩ a))
  simp only[tbx]at x q r q0 l n c0 c1 c2 c3 c4 c5 c6 f6 y v
  rw[x]at q r q0 l n c0 c6 f6 y v⊢
  clear x f h1 c p hR c1 c2 c3 c4 c5
  go_region_held3 (fun u=>u.cell? (Ad B 0)=some (.map (some m1))/\u.cell? (Ad w1.heap.size 1)=some (sk t)/\LkR m1 u) (go_keep) (fail)
  all_goals
   have z:Bw W1 (W1.alloc (Obj.cells #[] 124)).drew:=(q1z bz0 _).drew
   obtain⟨W2,o⟩:=exq ((W1.alloc (Obj.cells #[] 124)).drew)
   rw[o]at z⊢
   have u0:=cellB z l
   have u1:=cellB z n
   clear o l n c0 c6 f6 q0 q1 q2 q3 hL
   refine Lib.hid ?_
   go_wp2_with (go_at_call 140;refine(hG _ (q3z y z)).mono ?_;rintro e w2 ⟨rfl,g⟩)
   exact⟨rfl,rfl,q3z (q3z y z) g⟩
 ·rw[Bool.not_eq_true]at hr
  have hk:¬k=1:=h.resolve_left (by rw[hr];decide)
  go_enter Tryz.func128,Tryz.ntmps128
  go_wp2_with (go_at_call 141;refine c.mono ?_;rintro e w1 ⟨rfl,p⟩)
  have v:=(hR.below p).below (q1z bz0 (tbx k ⟨t.toArray⟩ a))
  obtain⟨m1,m2,m3,m4,m5,b,cap,h1,_,f,_⟩:=v.box
  obtain⟨c0,c1,c2,c3,c4,c5,c6,f6⟩:=rdC h1
  obtain⟨l,n⟩:=a6f (a0a w1 (tbx k ⟨t.toArray⟩ a))
  have y:=q1z p (tbx k ⟨t.toArray⟩ a)
  have hL:=fun u h=>b5v (m:=m1) (u:=u) (s:=t) h
  rw[hr]at hL
  have q1:=LkR.alloc (m:=m1)
  have q2:=LkR.drew (m:=m1)
  have q3:=LkR.drewN (m:=m1)
  have q0:LkR m1 (w1.alloc (tbx k ⟨t.toArray⟩ a)):=f.h1
  have q:¬w1.heap.size=(w1.alloc (tbx k ⟨t.toArray⟩ a)).heap.size:=by simp
  have r:¬B=(w1.alloc (tbx k ⟨t.toArray⟩ a)).heap.size:=by have:=p.size;have:=hR.lt;simp;omega
  obtain⟨W1,x⟩:=exq (w1.alloc (tbx k ⟨t.toArray⟩ a))
  simp only[tbx]at x q r q0 l n c0 c1 c2 c3 c4 c5 c6 f6 y v
  rw[x]at q r q0 l n c0 c6 f6 y v⊢
  clear x f h1 c p hR c1 c2 c3 c4 c5
  go_region_held3 (fun u=>u.cell? (Ad B 0)=some (.map (some m1))/\u.cell? (Ad w1.heap.size 1)=some (sk t)/\LkR m1 u) (go_keep) (fail)
  all_goals
   have z:Bw W1 (W1.alloc (Obj.cells #[] 124)).drew:=(q1z bz0 _).drew
   obtain⟨W2,o⟩:=exq ((W1.alloc (Obj.cells #[] 124)).drew)
   rw[o]at z⊢
   have u0:=cellB z l
   have u1:=cellB z n
   clear o l n c0 c6 f6 q0 q1 q2 q3 hL
   refine Lib.hid ?_
   go_wp2_with (go_at_call 140;refine(hG _ (q3z y z)).mono ?_;rintro e w2 ⟨rfl,g⟩)
   exact⟨rfl,rfl,q3z (q3z y z) g⟩
theorem d1c(B:Nat)(ts:List Tok)(i:Nat)(t:List UInt8)(a:Int)(hV:tokH ts i=tokv 1 ⟨t.toArray⟩ a)(hr:a0j.contains t=false)(hi:i<ts.length)(w:World)(hR:Rd w B ts i):Cl 128 #[Po B 0] w fun e d=>e=.returned (sk t)/\Rd d B ts (i+1)/\a0b (fun k=>k=B) w d:=by
 have f:=a3z B ts i w hR
 rw[hV]at f
 have hs:=hR.short
 have z8:=hR.lt
 clear hV
 have z9:True:=trivial
 ·skip
  go_enter Tryz.func128,Tryz.ntmps128
  go_wp2_with (go_at_call 141;refine f.mono ?_;rintro e w1 ⟨rfl,g⟩)
  have y:=(hR.below g).below (q1z bz0 (tbx 1 ⟨t.toArray⟩ a))
  obtain⟨m1,m2,m3,m4,m5,b,cap,h1,_,c,_⟩:=y.box
  obtain⟨c0,c1,c2,c3,c4,c5,c6,f6⟩:=rdC h1
  obtain⟨l,n⟩:=a6f (a0a w1 (tbx 1 ⟨t.toArray⟩ a))
  have x:=q1z g (tbx 1 ⟨t.toArray⟩ a)
  have hL:=fun u h=>b5v (m:=m1) (u:=u) (s:=t) h
  rw[hr]at hL
  have q1:=LkR.alloc (m:=m1)
  have q2:=LkR.drew (m:=m1)
  have q3:=LkR.drewN (m:=m1)
  have q0:LkR m1 (w1.alloc (tbx 1 ⟨t.toArray⟩ a)):=c.h1
  have q:¬w1.heap.size=(w1.alloc (tbx 1 ⟨t.toArray⟩ a)).heap.size:=by simp
  have r:¬B=(w1.alloc (tbx 1 ⟨t.toArray⟩ a)).heap.size:=by have:=g.size;have:=hR.lt;simp;omega
  obtain⟨W1,v⟩:=exq (w1.alloc (tbx 1 ⟨t.toArray⟩ a))
  simp only[tbx]at v q r q0 l n c0 c1 c2 c3 c4 c5 c6 f6 x y
  rw[v]at q r q0 l n c0 c6 f6 x y⊢
  clear v c h1 f g hR c1 c2 c3 c4 c5
  go_region_held3 (fun u=>u.cell? (Ad B 0)=some (.map (some m1))/\u.cell? (Ad w1.heap.size 1)=some (sk t)/\LkR m1 u) (go_keep) (fail)
  all_goals
   have z:Bw W1 (W1.alloc (Obj.cells #[] 124)).drew:=(q1z bz0 _).drew
   obtain⟨W2,p⟩:=exq ((W1.alloc (Obj.cells #[] 124)).drew)
   rw[p]at z⊢
   have u0:=cellB z l
   have u1:=cellB z n
   clear p l n c0 c6 f6 q0 q1 q2 q3 hL
   have o:=y.below z
   obtain⟨n1,n2,n3,n4,n5,b',cap',h2,_⟩:=o.box
   obtain⟨_,_,_,_,_,_,d6,e6⟩:=rdC h2
   clear h2
   refine Lib.hid ?_
   go_wp2
   go_ret
   exact⟨rfl,o.go (j:=i+1) hi,(a0b.of_below (q3z x z)).set B 6 _ (fun _=>rfl)⟩
end Go.Proofs.YtomniogfpfbolaaGreatDoor
