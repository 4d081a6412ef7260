/- The program's reader in memory; its token, its word. -/
import Derived.Test.YtfbpdbndejefdaaGreatDoorS15
import Derived.Test.YtfbpdbndejefdaaGreatDoorS14
import Derived.Test.YtfbpdbndejefdaaGreatDoorS08
import Derived.Shelf.RegionOpen
import Derived.Deep.RegionHeld3
namespace Go.Proofs.YtfbpdbndejefdaaGreatDoor
open Go.RowKit Go
set_option maxRecDepth 100000
set_option maxHeartbeats 8000000
set_option linter.all false
variable {ts:List Tok} {i lim m1 m2 m3 m4 m5 B n m:Nat} {x:Tok} {W':World} {b:Option Addr} {k a:Int} {t:ByteArray}
abbrev pt (x:Tok):PT:=(x.k,x.t)
def rest (ts:List Tok) (i:Nat):List PT:=(ts.drop i).map pt
theorem a5w(h:ts.length<=i):rest ts i=[]:=by unfold rest;rw[List.drop_eq_nil_of_le h];rfl
theorem a9w(h:ts[i]?=some x):rest ts i=pt x::rest ts (i+1):=by
 obtain⟨z,rfl⟩:=List.getElem?_eq_some_iff.1 h
 unfold rest
 rw[List.drop_eq_getElem_cons z]
 rfl
theorem a8y(ts:List Tok)(i:Nat):(rest ts i).length=ts.length-i:=by unfold rest;simp
abbrev trio (x:Tok):List Value:=[vi x.k,.string ⟨x.t.toArray⟩,vi (x.a:Nat)]
def a6e (W:World) (b:Option Addr) (ts:List Tok) (lim:Nat):Prop:=ts=[]\/∃g,b=some (Ad g 0)/\g<lim/\g<W.heap.size/\∀j x,ts[j]?=some x->∀i u,(trio x)[i]?=some u->W.cell? (Ad g (j*3+i))=some u
theorem a6e.keep{W:World}{S:Nat->Prop}(h:a6e W b ts lim)(hk:a0b S W W')(hs:∀g,g<lim->¬S g):a6e W' b ts lim:=by
 rcases h with h|⟨g,e,h1,h2,h3⟩
 ·exact .inl h
 ·exact .inr ⟨g,e,h1,Nat.lt_of_lt_of_le h2 hk.size,fun j x z i u y=>hk.cell (h3 j x z i u y) (hs g h1)⟩
abbrev sk (s:List UInt8):Value:=.string ⟨s.toArray⟩
abbrev ik (n:Int):Value:=vi n
def a0s:List (List UInt8×Value):=a0u.map fun s=>(s,.agg #[])
def a0c:List (List UInt8×Value):=opsL.map fun p=>(p.1,.agg #[vi p.2.1,vi ((p.2.2+1:Nat):Int)])
def a1i:List (List UInt8×Value):=[(S.mi,ik 24),(W.not_,ik 23),(S.hs,ik 25)]
def a0n:List (List UInt8×Value):=[(W.nil_,ik 15),(W.true_,ik 16),(W.false_,ik 17)]
def c1u (kv:List (Int×Value)):Prop:=(kv.map (·.1)).Nodup/\∀o,kv.lookup o=(opOf o).map fun p=>.agg #[.string ⟨p.1.toArray⟩,vi ((p.2+1:Nat):Int)]
structure Wd (W:World) (lim m1 m2 m3 m4 m5:Nat):Prop where
 l1:m1<lim
 l2:m2<lim
 l3:m3<lim
 l4:m4<lim
 l5:m5<lim
 h1:W.heap[m1]?=some (a0e sk a0s)
 h2:W.heap[m2]?=some (a0e sk a0c)
 h3:∃kv,c1u kv/\W.heap[m3]?=some (a0e ik kv)
 h4:W.heap[m4]?=some (a0e sk a1i)
 h5:W.heap[m5]?=some (a0e sk a0n)
theorem Wd.keep{W:World}{S:Nat->Prop}(h:Wd W lim m1 m2 m3 m4 m5)(hk:a0b S W W')(hs:∀g,g<lim->¬S g):Wd W' lim m1 m2 m3 m4 m5:=by
 have z:∀{m o},m<lim->W.heap[m]?=some o->W'.heap[m]?=some o:=fun u v=>(hk.block _ (block_lt v) (hs _ u)).trans v
 obtain⟨kv,y,h3⟩:=h.h3
 exact⟨h.l1,h.l2,h.l3,h.l4,h.l5,z h.l1 h.h1,z h.l2 h.h2,⟨kv,y,z h.l3 h3⟩,z h.l4 h.h4,z h.l5 h.h5⟩
abbrev rbx (m1 m2 m3 m4 m5:Nat) (b:Option Addr) (n cap:Nat) (i:Int):Obj:=.cells #[.map (some m1),.map (some m2),.map (some m3),.map (some m4),.map (some m5),.slice b n cap,vi i] 106
structure Rd (W:World) (B:Nat) (ts:List Tok) (i:Nat):Prop where
 box:∃m1 m2 m3 m4 m5 b cap,W.heap[B]?=some (rbx m1 m2 m3 m4 m5 b ts.length cap (i:Nat))/\a6e W b ts B/\Wd W B m1 m2 m3 m4 m5/\ts.length<=cap
 le:i<=ts.length
 short:ts.length<=4000
theorem Rd.keep{W:World}{S:Nat->Prop}(h:Rd W B ts i)(hk:a0b S W W')(hs:∀g,g<=B->¬S g):Rd W' B ts i:=by
 obtain⟨s,u,v,y,z,b,cap,h1,h2,h3,h4⟩:=h.box
 exact⟨⟨s,u,v,y,z,b,cap,(hk.block _ (block_lt h1) (hs _ (Nat.le_refl _))).trans h1,h2.keep hk (fun g q=>hs g (by omega)),h3.keep hk (fun g q=>hs g (by omega)),h4⟩,h.le,h.short⟩
theorem Rd.below{W:World}(h:Rd W B ts i)(hb:Bw W W'):Rd W' B ts i:=h.keep (a0b.of_below (S:=fun _=>False) hb) (fun _ _=>id)
theorem Rd.lt{W:World}(h:Rd W B ts i):B<W.heap.size:=by
 obtain⟨s,u,v,y,z,b,cap,h1,_⟩:=h.box
 exact block_lt h1
theorem Rd.go{W:World}{j:Nat}(h:Rd W B ts i)(hj:j<=ts.length):Rd (W.setCell (Ad B 6) (vi (j:Nat))) B ts j:=by
 obtain⟨s,u,v,y,z,b,cap,h1,h2,h3,h4⟩:=h.box
 have hk:a0b (fun k=>k=B) W (W.setCell (Ad B 6) (vi (j:Nat))):=(a0b.refl _ W).set B 6 _ (fun _=>rfl)
 exact⟨⟨s,u,v,y,z,b,cap,set_block _ h1,h2.keep hk (fun g q e=>by omega),h3.keep hk (fun g q e=>by omega),h4⟩,hj,h.short⟩
structure RdC (W:World) (B:Nat) (m1 m2 m3 m4 m5:Nat) (b:Option Addr) (n cap:Nat) (i:Int):Prop where
 c0:W.cell? (Ad B 0)=some (.map (some m1))
 c1:W.cell? (Ad B 1)=some (.map (some m2))
 c2:W.cell? (Ad B 2)=some (.map (some m3))
 c3:W.cell? (Ad B 3)=some (.map (some m4))
 c4:W.cell? (Ad B 4)=some (.map (some m5))
 c5:W.cell? (Ad B 5)=some (.slice b n cap)
 c6:W.cell? (Ad B 6)=some (vi i)
 f6:W.frozen? (Ad B 6)=false
theorem rdC{W:World}{cap:Nat}{i:Int}(h:W.heap[B]?=some (rbx m1 m2 m3 m4 m5 b n cap i)):RdC W B m1 m2 m3 m4 m5 b n cap i :=
 ⟨cell_block h rfl,cell_block h rfl,cell_block h rfl,cell_block h rfl,cell_block h rfl,cell_block h rfl,cell_block h rfl,frozen_block h⟩
theorem a8d{W:World}{o:Obj}(h:W.heap[B]?=some o):(W.drewN n).heap[B]?=some o:=h
theorem a1s{w W:World}(h:Below m w W):Below m w (W.drewN n):=⟨h.os,h.tape,h.output,h.size,h.block⟩
def tokH (ts:List Tok) (i:Nat):Value:=match ts[i]? with
 | some x=>tokv x.k ⟨x.t.toArray⟩ (x.a:Nat)
 | none=>tokv 0 ⟨#[]⟩ 0
theorem c9k{tm:Array Value}{W:World}(h:tm[2]?.getD undef=Po B 0)(hx:W.heap[B]?=some (tbx k t a)):(results Tryz.f126 tm).run Tryz.prog W=.ok (tokv k t a) W:=by
 obtain⟨c0,c1,c2,_,_,_⟩:=in3 hx
 simp[results,Tryz.results126,go_sem,h,c0,c1,c2]
theorem c1v(B:Nat)(ts:List Tok)(w:World)(hR:Rd w B ts ts.length):Cl 126 #[Po B 0] w fun e y=>e=.returned (tokv 0 ⟨#[]⟩ 0)/\Bw w y:=by
 have hr:=a0a w a2t
 have z:Bw w (w.alloc a2t):=(Below.refl _ _).alloc (Nat.le_refl _) _
 obtain⟨o,p,q,s,u,b,cap,h1,_⟩:=hR.box
 have v:=block_lt h1
 obtain⟨c0,c1,c2,c3,c4,c5,c6,f6⟩:=rdC h1
 clear h1 hR
 go_enter Tryz.func126,Tryz.ntmps126
 go_wp2
 go_quiet (fail)
 go_wp2
 exact bodyPost_ret (c9k rfl (put3_same 0 _ 0 (a8d hr))) rfl ⟨rfl,put3_below _ _ _ (a1s z) (Nat.le_refl _)⟩
theorem b9d(B:Nat)(ts:List Tok)(i:Nat)(x:Tok)(hx:ts[i]?=some x)(w:World)(hR:Rd w B ts i):Cl 126 #[Po B 0] w fun e p=>e=.returned (tokv x.k ⟨x.t.toArray⟩ (x.a:Nat))/\Bw w p:=by
 have hr:=a0a w a2t
 have q:Bw w (w.alloc a2t):=(Below.refl _ _).alloc (Nat.le_refl _) _
 obtain⟨m1,m2,m3,m4,m5,b,cap,h1,ht,_,y⟩:=hR.box
 have m:=block_lt h1
 obtain⟨j,_⟩:=List.getElem?_eq_some_iff.1 hx
 have o:=hR.short
 obtain⟨c0,c1,c2,c3,c4,c5,c6,f6⟩:=rdC h1
 rcases ht with rfl|⟨g,rfl,hg,h,z⟩
 ·simp at hx
 have d0:w.cell? (Ad g (i*3))=some (vi x.k):=z i x hx 0 _ rfl
 have d1:=z i x hx 1 _ rfl
 have d2:=z i x hx 2 _ rfl
 have v:¬(i:Int)=(ts.length:Int):=by omega
 have s:(i:Int)<(ts.length:Int):=by omega
 obtain⟨n,hn⟩:∃n,ts.length=n:=⟨_,rfl⟩
 rw[hn]at c5 v s j o y
 clear h1 hR z hx hn
 have n1:¬B=w.heap.size:=by omega
 have n2:¬g=w.heap.size:=by omega
 have d:¬w.heap.size=B:=by omega
 have f:¬w.heap.size=g:=by omega
 go_enter Tryz.func126,Tryz.ntmps126
 go_wp2
 go_quiet (fail)
 go_wp2
 go_region_held3 (fun u=>u.cell? (Ad B 5)=some (.slice (some (Ad g 0)) n cap)/\u.cell? (Ad B 6)=some (vi (i:Nat))/\u.cell? (Ad g (i*3))=some (vi x.k)/\u.cell? (Ad g (i*3+1))=some (.string ⟨x.t.toArray⟩)/\u.cell? (Ad g (i*3+2))=some (vi (x.a:Nat))) (go_keep) (fail)
 go_wp2
 exact bodyPost_ret (c9k rfl (put3_same x.k _ _ (a8d hr))) rfl ⟨rfl,put3_below _ _ _ (a1s q) (Nat.le_refl _)⟩
theorem a3k(B:Nat)(ts:List Tok)(i:Nat)(w:World)(hR:Rd w B ts i):Cl 126 #[Po B 0] w fun e z=>e=.returned (tokH ts i)/\Bw w z:=by
 have y:=hR.le
 unfold tokH
 cases h:ts[i]? with
 | some x=>exact b9d B ts i x h w hR
 | none =>
  have:i=ts.length:=by
   have:=List.getElem?_eq_none_iff.1 h
   omega
  subst this
  exact c1v B ts w hR
def wd (ts:List Tok) (i:Nat):List UInt8:=match ts[i]? with
 | some x=>if x.k=3 then [] else x.t
 | none=>[]
theorem b5g{W:World}(h:W.heap[B]?=some (tbx k t a)):W.cell? (Ad B 0)=some (vi k)/\W.cell? (Ad B 1)=some (.string t):=⟨cell_block h rfl,cell_block h rfl⟩
theorem a4c(B:Nat)(ts:List Tok)(i:Nat)(w:World)(hR:Rd w B ts i):Cl 128 #[Po B 0] w fun e v=>e=.returned (sk (wd ts i))/\Bw w v:=by
 have z:=a3k B ts i w hR
 unfold tokH at z
 unfold wd
 cases h:ts[i]? with
 | some x =>
  rw[h]at z
  simp only at z⊢
  clear h hR
  by_cases hk:x.k=3
  ·rw[if_pos hk]
   rw[hk]at z
   go_enter Tryz.func128,Tryz.ntmps128
   go_wp2_with (go_at_call 126;refine z.mono ?_;rintro e w1 ⟨rfl,y⟩)
   go_ret
   exact⟨rfl,ext_alloc y _⟩
  ·rw[if_neg hk]
   go_enter Tryz.func128,Tryz.ntmps128
   go_wp2_with (go_at_call 126;refine z.mono ?_;rintro e w1 ⟨rfl,y⟩)
   go_ret
   exact⟨rfl,ext_alloc y _⟩
 | none =>
  rw[h]at z
  simp only at z⊢
  clear h hR
  go_enter Tryz.func128,Tryz.ntmps128
  go_wp2_with (go_at_call 126;refine z.mono ?_;rintro e w1 ⟨rfl,y⟩)
  go_ret
  exact⟨rfl,ext_alloc y _⟩
def c6e (W:World) (c:Nat) (zs:List ByteArray):Prop:=W.heap[c]?=some (.cells (zs.map Value.string).toArray 9)
theorem c6e.cells{W:World}{c:Nat}{zs:List ByteArray}(h:c6e W c zs):∀j,j<zs.length->W.cell? (Ad c (0+j))=some (.string (zs.getD j ByteArray.empty)):=fun j z=>by
 refine cell_block h ?_
 simp[z]
theorem a8z(B:Nat)(ts:List Tok)(i:Nat)(c:Nat)(zs:List ByteArray)(hz:zs.length<=4)(cap:Nat)(w:World)(hR:Rd w B ts i)(hS:c6e w c zs):Cl 101 #[Po B 0,.slice (some (Ad c 0)) zs.length cap] w fun e v=>e=.returned (.bool (Lib.containsS zs ⟨(wd ts i).toArray⟩))/\Bw w v:=by
 have q:=a4c B ts i w hR
 have y:=fun(u:World) (z:Bw w u)=>Tryz.slices_Contains_string c 0 zs.length cap zs ⟨(wd ts i).toArray⟩ u (Nat.le_refl _) (by omega) (c6e.cells (block_below z hS))
 rw[List.take_length]at y
 obtain⟨V,s⟩:∃V,Lib.containsS zs ⟨(wd ts i).toArray⟩=V:=⟨_,rfl⟩
 rw[s]at y⊢
 go_enter Tryz.func101,Tryz.ntmps101
 go_wp2_with (first|(go_at_call 128;refine q.mono ?_;rintro e w1 ⟨rfl,z⟩)|(go_at_call 127;refine(y _ z).mono ?_;rintro e w2 ⟨rfl,rfl⟩))
 go_ret
 exact⟨rfl,z⟩
theorem contains1(a:List UInt8)(s:List UInt8):Lib.containsS [⟨a.toArray⟩] ⟨s.toArray⟩=decide (s=a):=by
 have:=Lib.containsS_iff [⟨a.toArray⟩] ⟨s.toArray⟩
 by_cases h:s=a
 ·subst h;simp at this;simp[this]
 ·rw[decide_eq_false h]
  rw[<- Bool.not_eq_true,this]
  simp[h]
theorem contains2(a b:List UInt8)(s:List UInt8):Lib.containsS [⟨a.toArray⟩,⟨b.toArray⟩] ⟨s.toArray⟩=decide (s=a\/s=b):=by
 have:=Lib.containsS_iff [⟨a.toArray⟩,⟨b.toArray⟩] ⟨s.toArray⟩
 by_cases h:s=a\/s=b
 ·rw[decide_eq_true h,this];simpa using h
 ·rw[decide_eq_false h,<- Bool.not_eq_true,this]
  simpa using h
theorem takes_no(B:Nat)(ts:List Tok)(i:Nat)(s:List UInt8)(h:¬wd ts i=s)(w:World)(hR:Rd w B ts i):Cl 102 #[Po B 0,sk s] w fun e v=>e=.returned (.bool false)/\Bw w v:=by
 have z:Bw w (w.alloc (.cells #[sk s] 9)):=(Below.refl _ _).alloc (Nat.le_refl _) _
 have y:=a8z B ts i w.heap.size [⟨s.toArray⟩] (by simp) 1 _ (hR.below z) (a0a w _)
 rw[contains1,decide_eq_false h]at y
 go_enter Tryz.func102,Tryz.ntmps102
 go_wp2_with (go_at_call 101;refine y.mono ?_;rintro e w1 ⟨rfl,u⟩)
 go_ret
 exact⟨rfl,ext_trans z u⟩
theorem takes_yes(B:Nat)(ts:List Tok)(i:Nat)(s:List UInt8)(h:wd ts i=s)(hi:i<ts.length)(w:World)(hR:Rd w B ts i):Cl 102 #[Po B 0,sk s] w fun e v=>e=.returned (.bool true)/\Rd v B ts (i+1)/\a0b (fun k=>k=B) w v:=by
 have z:Bw w (w.alloc (.cells #[sk s] 9)):=(Below.refl _ _).alloc (Nat.le_refl _) _
 have q:=a8z B ts i w.heap.size [⟨s.toArray⟩] (by simp) 1 _ (hR.below z) (a0a w _)
 rw[contains1,decide_eq_true h]at q
 have f:=hR.short
 go_enter Tryz.func102,Tryz.ntmps102
 go_wp2_with (go_at_call 101;refine q.mono ?_;rintro e w1 ⟨rfl,u⟩;have y:=hR.below (ext_trans z u);obtain⟨g,m,n,o,p,b,cap,h1,_⟩:=y.box;obtain⟨c0,c1,c2,c3,c4,c5,c6,f6⟩:=rdC h1)
 go_ret
 exact⟨rfl,y.go (j:=i+1) hi,(a0b.of_below (ext_trans z u)).set B 6 _ (fun _=>rfl)⟩
def gv (ts:List Tok) (i:Nat):Value:=match ts[i]? with
 | some x=>.iface 96 (.agg #[vi (x.a:Nat)])
 | none=>.iface 98 (.agg #[])
theorem c6f(a b c:Value)(w:World):(Instr.field 92 (.agg #[a,b,c]) 2).run Tryz.prog w=.ok c w:=by
 simp[Instr.field,run_underlying Tryz.underlying92,go_sem,asAgg]
abbrev pan (v:Value):List PanicEntry:=[{ v:=v,recovered:=false }]
theorem a5x(B:Nat)(ts:List Tok)(i:Nat)(w:World)(hR:Rd w B ts i):Cl 125 #[Po B 0] w fun e p=>e=.panicked (pan (gv ts i))/\Bw w p:=by
 have z:=fun u (s:Bw w u)=>a3k B ts i u (hR.below s)
 unfold tokH at z
 unfold gv
 obtain⟨d,f,g,j,m,b,cap,h1,ht,_,q⟩:=hR.box
 obtain⟨c0,c1,c2,c3,c4,c5,c6,f6⟩:=rdC h1
 have hi:=hR.le
 have a:=hR.short
 cases h:ts[i]? with
 | some x =>
  rw[h]at z
  simp only at z⊢
  have y:=(List.getElem?_eq_some_iff.1 h).1
  have v:¬(i:Int)=(ts.length:Int):=by omega
  obtain⟨n,hn⟩:∃n,ts.length=n:=⟨_,rfl⟩
  rw[hn]at c5 v
  clear h hR h1 ht hn
  have hF:=fun v1 v2 o u=>c6f v1 v2 o u
  go_enter Tryz.func125,Tryz.ntmps125
  go_wp2
  go_quiet (fail)
  go_wp2_with (go_at_call 126;refine(z _ (a1s (Below.refl _ _))).mono ?_;rintro e w1 ⟨rfl,s⟩)
  exact⟨rfl,rfl,ext_trans (a1s (Below.refl _ _)) s⟩
 | none =>
  rw[h]at z
  simp only at z⊢
  have y:i=ts.length:=by
   have:=List.getElem?_eq_none_iff.1 h
   omega
  subst y
  obtain⟨n,hn⟩:∃n,ts.length=n:=⟨_,rfl⟩
  rw[hn]at c5 c6
  clear h hR h1 ht hn
  go_enter Tryz.func125,Tryz.ntmps125
  go_wp2
  go_quiet (fail)
  go_wp2
  exact⟨rfl,rfl,a1s (Below.refl _ _)⟩
theorem wants_yes(B:Nat)(ts:List Tok)(i:Nat)(s:List UInt8)(h:wd ts i=s)(hi:i<ts.length)(c cap:Nat)(w:World)(hR:Rd w B ts i)(hS:w.heap[c]?=some (.cells #[sk s] 9)):Cl 99 #[Po B 0,.slice (some (Ad c 0)) 1 cap] w fun e v=>e=.returned (.tuple #[])/\Rd v B ts (i+1)/\a0b (fun k=>k=B) w v:=by
 have u:=takes_yes B ts i s h hi w hR
 have q:Ce w c 0 (sk s):=cell_block hS rfl
 clear hS
 go_enter Tryz.func99,Tryz.ntmps99
 go_wp2
 refine wp_loop_rounds 2 ?_
 rw[rounds_succ]
 go_wp2_with (go_at_call 102;refine u.mono ?_;rintro e w1 ⟨rfl,y,z⟩)
 rw[rounds_succ]
 go_wp2
 go_end0
 exact⟨rfl,y,z⟩
theorem wants_no(B:Nat)(ts:List Tok)(i:Nat)(s:List UInt8)(h:¬wd ts i=s)(c cap:Nat)(w:World)(hR:Rd w B ts i)(hS:w.heap[c]?=some (.cells #[sk s] 9)):Cl 99 #[Po B 0,.slice (some (Ad c 0)) 1 cap] w fun e v=>e=.panicked (pan (gv ts i))/\Bw w v:=by
 have q:=takes_no B ts i s h w hR
 have p:=fun u (z:Bw w u)=>a5x B ts i u (hR.below z)
 have o:Ce w c 0 (sk s):=cell_block hS rfl
 clear hS
 go_enter Tryz.func99,Tryz.ntmps99
 go_wp2
 refine wp_loop_rounds 2 ?_
 rw[rounds_succ]
 go_wp2_with (first|(go_at_call 102;refine q.mono ?_;rintro e w1 ⟨rfl,z⟩)|(go_at_call 125;refine(p _ z).mono ?_;rintro e w2 ⟨rfl,y⟩))
 exact⟨rfl,rfl,ext_trans z y⟩
theorem c6g{W:World}(h:W.heap[m]?=some (a0e sk a0s))(s:List UInt8):(Instr.lookup 99 (.map (some m)) (sk s) true).run Tryz.prog W=.ok (.tuple #[.agg #[],.bool (a0u.contains s)]) W:=by
 have:=a4u (P:=Tryz.prog) (w:=W) (T:=99) (K:=9) (E:=97) (kf:=sk) (kv:=a0s) (B:=m) Tryz.underlying99 Tryz.underlying9 a1b h (by decide) (z:=.agg #[]) (by kernel_rfl) s true
 rw[if_pos rfl]at this
 rw[this]
 have e:∀l:List (List UInt8),((l.map fun s=>(s,Value.agg #[])).lookup s).getD (.agg #[])=.agg #[]/\((l.map fun s=>(s,Value.agg #[])).lookup s).isSome=l.contains s:=fun l=>by
  induction l with
  | nil=>exact⟨rfl,rfl⟩
  | cons a l ih =>
   simp only[List.map_cons,List.lookup_cons,List.contains_cons]
   by_cases hs:s=a
   ·subst hs;simp
   ·have:(s == a)=false:=by simpa using hs
    rw[this];simpa using ih
 rw[a0s,(e a0u).1,(e a0u).2]
theorem a2e{W:World}(hb:Bw W W'){g o:Nat}{v:Value}(h:W.cell? (Ad g o)=some v):W'.cell? (Ad g o)=some v:=(hb.cell (p:=(Ad g o)) (World.block_lt_of_cell? _ _ h)).trans h
def LkR (m:Nat) (u:World):Prop:=u.heap[m]?=some (a0e sk a0s)
theorem LkR.alloc(u:World)(o:Obj)(h:LkR m u):LkR m (u.alloc o):=block_alloc o h
theorem LkR.drew(u:World)(h:LkR m u):LkR m u.drew:=h
theorem LkR.drewN(u:World)(n:Nat)(h:LkR m u):LkR m (u.drewN n):=h
theorem b5h{u:World}{s:List UInt8}(h:LkR m u):(Instr.lookup 99 (.map (some m)) (sk s) true).run Tryz.prog u=.ok (.tuple #[.agg #[],.bool (a0u.contains s)]) u:=c6g h s
theorem a9x(h:ts[i]?=some x):tokH ts i=tokv x.k ⟨x.t.toArray⟩ (x.a:Nat):=by unfold tokH;rw[h]
theorem b3p(h:ts[i]?=none):tokH ts i=tokv 0 ⟨#[]⟩ 0:=by unfold tokH;rw[h]
theorem c9l(B:Nat)(ts:List Tok)(i:Nat)(k:Int)(t:List UInt8)(a:Int)(hV:tokH ts i=tokv k ⟨t.toArray⟩ a)(h:a0u.contains t=true\/¬k=1)(w:World)(hR:Rd w B ts i):Cl 100 #[Po B 0] w fun e w'=>e=.panicked (pan (gv ts i))/\Bw w w':=by
 have hT:=a3k B ts i w hR
 rw[hV]at hT
 have hG:=fun u (j:Bw w u)=>a5x B ts i u (hR.below j)
 obtain⟨V,z9⟩:∃V,gv ts i=V:=⟨_,rfl⟩
 rw[z9]at hG⊢
 clear hV z9
 by_cases hr:a0u.contains t=true
 ·skip
  go_enter Tryz.func100,Tryz.ntmps100
  go_wp2_with (go_at_call 126;refine hT.mono ?_;rintro e w1 ⟨rfl,j⟩)
  have p:=(hR.below j).below (ext_alloc (Below.refl _ _) (tbx k ⟨t.toArray⟩ a))
  obtain⟨v,m2,m3,m4,m5,b,cap,h1,_,hW,_⟩:=p.box
  obtain⟨c0,c1,c2,c3,c4,c5,c6,f6⟩:=rdC h1
  obtain⟨t0,t1⟩:=b5g (a0a w1 (tbx k ⟨t.toArray⟩ a))
  have y:=ext_alloc j (tbx k ⟨t.toArray⟩ a)
  have hL:=fun u h=>b5h (m:=v) (u:=u) (s:=t) h
  rw[hr]at hL
  have q1:=LkR.alloc (m:=v)
  have q2:=LkR.drew (m:=v)
  have q3:=LkR.drewN (m:=v)
  have f:LkR v (w1.alloc (tbx k ⟨t.toArray⟩ a)):=hW.h1
  have n:¬w1.heap.size=(w1.alloc (tbx k ⟨t.toArray⟩ a)).heap.size:=by simp
  have o:¬B=(w1.alloc (tbx k ⟨t.toArray⟩ a)).heap.size:=by have:=j.size;have:=hR.lt;simp;omega
  obtain⟨W1,q⟩:∃W1,w1.alloc (tbx k ⟨t.toArray⟩ a)=W1:=⟨_,rfl⟩
  simp only[tbx]at q n o f t0 t1 c0 c1 c2 c3 c4 c5 c6 f6 y p
  rw[q]at n o f t0 t1 c0 c6 f6 y p⊢
  clear q hW h1 hT j hR c1 c2 c3 c4 c5
  go_region_held3 (fun u=>u.cell? (Ad B 0)=some (.map (some v))/\u.cell? (Ad w1.heap.size 1)=some (sk t)/\LkR v u) (go_keep) (fail)
  all_goals
   have z:Bw W1 (W1.alloc (Obj.cells #[] 97)).drew:=(ext_alloc (Below.refl _ _) _).drew
   obtain⟨W2,g⟩:∃W2,(W1.alloc (Obj.cells #[] 97)).drew=W2:=⟨_,rfl⟩
   rw[g]at z⊢
   have u0:=a2e z t0
   have u1:=a2e z t1
   clear g t0 t1 c0 c6 f6 f q1 q2 q3 hL
   refine Lib.hid ?_
   go_wp2_with (go_at_call 125;refine(hG _ (ext_trans y z)).mono ?_;rintro e w2 ⟨rfl,d⟩)
   exact⟨rfl,rfl,ext_trans (ext_trans y z) d⟩
 ·rw[Bool.not_eq_true]at hr
  have hk:¬k=1:=h.resolve_left (by rw[hr];decide)
  go_enter Tryz.func100,Tryz.ntmps100
  go_wp2_with (go_at_call 126;refine hT.mono ?_;rintro e w1 ⟨rfl,j⟩)
  have p:=(hR.below j).below (ext_alloc (Below.refl _ _) (tbx k ⟨t.toArray⟩ a))
  obtain⟨v,m2,m3,m4,m5,b,cap,h1,_,hW,_⟩:=p.box
  obtain⟨c0,c1,c2,c3,c4,c5,c6,f6⟩:=rdC h1
  obtain⟨t0,t1⟩:=b5g (a0a w1 (tbx k ⟨t.toArray⟩ a))
  have y:=ext_alloc j (tbx k ⟨t.toArray⟩ a)
  have hL:=fun u h=>b5h (m:=v) (u:=u) (s:=t) h
  rw[hr]at hL
  have q1:=LkR.alloc (m:=v)
  have q2:=LkR.drew (m:=v)
  have q3:=LkR.drewN (m:=v)
  have f:LkR v (w1.alloc (tbx k ⟨t.toArray⟩ a)):=hW.h1
  have n:¬w1.heap.size=(w1.alloc (tbx k ⟨t.toArray⟩ a)).heap.size:=by simp
  have o:¬B=(w1.alloc (tbx k ⟨t.toArray⟩ a)).heap.size:=by have:=j.size;have:=hR.lt;simp;omega
  obtain⟨W1,q⟩:∃W1,w1.alloc (tbx k ⟨t.toArray⟩ a)=W1:=⟨_,rfl⟩
  simp only[tbx]at q n o f t0 t1 c0 c1 c2 c3 c4 c5 c6 f6 y p
  rw[q]at n o f t0 t1 c0 c6 f6 y p⊢
  clear q hW h1 hT j hR c1 c2 c3 c4 c5
  go_region_held3 (fun u=>u.cell? (Ad B 0)=some (.map (some v))/\u.cell? (Ad w1.heap.size 1)=some (sk t)/\LkR v u) (go_keep) (fail)
  all_goals
   have z:Bw W1 (W1.alloc (Obj.cells #[] 97)).drew:=(ext_alloc (Below.refl _ _) _).drew
   obtain⟨W2,g⟩:∃W2,(W1.alloc (Obj.cells #[] 97)).drew=W2:=⟨_,rfl⟩
   rw[g]at z⊢
   have u0:=a2e z t0
   have u1:=a2e z t1
   clear g t0 t1 c0 c6 f6 f q1 q2 q3 hL
   refine Lib.hid ?_
   go_wp2_with (go_at_call 125;refine(hG _ (ext_trans y z)).mono ?_;rintro e w2 ⟨rfl,d⟩)
   exact⟨rfl,rfl,ext_trans (ext_trans y z) d⟩
theorem d1f(B:Nat)(ts:List Tok)(i:Nat)(t:List UInt8)(a:Int)(hV:tokH ts i=tokv 1 ⟨t.toArray⟩ a)(hr:a0u.contains t=false)(hi:i<ts.length)(w:World)(hR:Rd w B ts i):Cl 100 #[Po B 0] w fun e w'=>e=.returned (sk t)/\Rd w' B ts (i+1)/\a0b (fun k=>k=B) w w':=by
 have hT:=a3k B ts i w hR
 rw[hV]at hT
 have hs:=hR.short
 have z8:=hR.lt
 clear hV
 have z9:True:=trivial
 ·skip
  go_enter Tryz.func100,Tryz.ntmps100
  go_wp2_with (go_at_call 126;refine hT.mono ?_;rintro e w1 ⟨rfl,d⟩)
  have y:=(hR.below d).below (ext_alloc (Below.refl _ _) (tbx 1 ⟨t.toArray⟩ a))
  obtain⟨v,m2,m3,m4,m5,b,cap,h1,_,hW,_⟩:=y.box
  obtain⟨c0,c1,c2,c3,c4,c5,c6,f6⟩:=rdC h1
  obtain⟨t0,t1⟩:=b5g (a0a w1 (tbx 1 ⟨t.toArray⟩ a))
  have q:=ext_alloc d (tbx 1 ⟨t.toArray⟩ a)
  have hL:=fun u h=>b5h (m:=v) (u:=u) (s:=t) h
  rw[hr]at hL
  have q1:=LkR.alloc (m:=v)
  have q2:=LkR.drew (m:=v)
  have q3:=LkR.drewN (m:=v)
  have q0:LkR v (w1.alloc (tbx 1 ⟨t.toArray⟩ a)):=hW.h1
  have n:¬w1.heap.size=(w1.alloc (tbx 1 ⟨t.toArray⟩ a)).heap.size:=by simp
  have o:¬B=(w1.alloc (tbx 1 ⟨t.toArray⟩ a)).heap.size:=by have:=d.size;have:=hR.lt;simp;omega
  obtain⟨W1,p⟩:∃W1,w1.alloc (tbx 1 ⟨t.toArray⟩ a)=W1:=⟨_,rfl⟩
  simp only[tbx]at p n o q0 t0 t1 c0 c1 c2 c3 c4 c5 c6 f6 q y
  rw[p]at n o q0 t0 t1 c0 c6 f6 q y⊢
  clear p hW h1 hT d hR c1 c2 c3 c4 c5
  go_region_held3 (fun u=>u.cell? (Ad B 0)=some (.map (some v))/\u.cell? (Ad w1.heap.size 1)=some (sk t)/\LkR v u) (go_keep) (fail)
  all_goals
   have z:Bw W1 (W1.alloc (Obj.cells #[] 97)).drew:=(ext_alloc (Below.refl _ _) _).drew
   obtain⟨W2,g⟩:∃W2,(W1.alloc (Obj.cells #[] 97)).drew=W2:=⟨_,rfl⟩
   rw[g]at z⊢
   have u0:=a2e z t0
   have u1:=a2e z t1
   clear g t0 t1 c0 c6 f6 q0 q1 q2 q3 hL
   have f:=y.below z
   obtain⟨n1,n2,n3,n4,n5,b',cap',h2,_⟩:=f.box
   obtain⟨_,_,_,_,_,_,d6,e6⟩:=rdC h2
   clear h2
   refine Lib.hid ?_
   go_wp2
   go_ret
   exact⟨rfl,f.go (j:=i+1) hi,(a0b.of_below (ext_trans q z)).set B 6 _ (fun _=>rfl)⟩
end Go.Proofs.YtfbpdbndejefdaaGreatDoor
