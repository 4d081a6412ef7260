import Derived.Test.YtomniogfpfbolaaGreatDoorS18
import Derived.Deep.RegionHeld2
import Derived.Deep.RegionHeld3
namespace Go.Proofs.YtomniogfpfbolaaGreatDoor.V.C
open Go.RowKit Go
set_option maxRecDepth 100000
set_option maxHeartbeats 8000000
set_option linter.all false
variable {q:Q4} {ko kc:Nat}
theorem q9z{m n:Nat}{w W:World}(h:Below m w W):Below m w (W.drewN n):=⟨h.os,h.tape,h.output,h.size,h.block⟩
section
variable {w1:World} {B nf:Nat} {D:Nat->Prop} {m:Ma} {W:World}
theorem b2e(h:Mq w1 B D m W)(hi:Inv nf m)(hu:m.us<250):Cl 26 #[pM B] W (MZ w1 B nf D m W 0 0 fun m' v=>v=vi (m.us:Nat)/\m'={ m with us:=m.us+1,rg:=max m.rg (m.us+1) }):=by
 obtain⟨ca,cc,ia,ic,c⟩:=h.mc
 have c4:=c.us
 have c1:=c.rg
 have f4:=c.fz 4
 have f1:=c.fz 1
 have o:=hi.rg
 have p:IntKind.i64.wrap ((m.us:Int)+1)=(m.us:Int)+1:=by rw[IntKind.wrap_i64];omega
 have y:∀V,Bw W V->MZ w1 B nf D m W 0 0 (fun m' v=>v=vi (m.us:Nat)/\m'={ m with us:=m.us+1,rg:=max m.rg (m.us+1) }) (.returned (vi (m.us:Nat))) ((V.setCell (Ad B 4) (vi ((m.us:Int)+1))).setCell (Ad B 1) (vi (if (m.rg:Int)<(m.us:Int)+1 then (m.us:Int)+1 else (m.rg:Int)))):=fun V u=>by
  obtain⟨q,t⟩:=(h.below u).setUs (m.us+1)
  obtain⟨w,x⟩:=q.setRg (max m.rg (m.us+1))
  have r:((m.us+1:Nat):Int)=(m.us:Int)+1:=by omega
  have s:((max m.rg (m.us+1):Nat):Int)=if (m.rg:Int)<(m.us:Int)+1 then (m.us:Int)+1 else (m.rg:Int):=by split <;> omega
  rw[r]at t w x
  rw[s]at w x
  exact⟨_,_,D,rfl,w,hi.take hu,⟨rfl,Nat.le_max_left _ _,⟨[],by simp,Nat.le_refl _⟩,⟨[],by simp,Nat.le_refl _⟩⟩,((CK.below u).trans t).trans x,rfl,rfl⟩
 replace y:Hid _:=y
 clear c hi h
 go_enter Tryz.func26,Tryz.ntmps26
 go_wp2
 go_region
 go_wp2
 all_goals
  go_ret
  have z:=(y.out _ bz0).drew
  first|rw[if_pos h]at z|rw[if_neg (by omega)]at z
  exact z
theorem d5a:(Tryz.prog.info? 93).map (fun i=>(i.zero,i.size,i.bytes))=some (some (.agg #[vi 0,vi 0,vi 0,vi 0]),4,32):=by kernel_rfl
theorem d5b:(Tryz.prog.info? 75).map (fun i=>(i.zero,i.size,i.bytes))=some (some (.agg #[vi 0,vi 0,.string ⟨#[]⟩]),3,32):=by kernel_rfl
theorem c2q{W:World}{g:Nat}(h:W.heap[g]?=some (.cells (quad q).toArray 93)):∀j u,(quad q)[j]?=some u->W.cell? ((Ad g 0).add j)=some u:=World.news_of_block (cs:=(quad q).toArray) h
theorem a7x(h:Mq w1 B D m W)(hi:Inv nf m)(hl:m.co.length<3000)(q:Q4)(hq:okQ m.rg m.cs.length (m.co.length+1) m.co.length q):Cl 28 #[pM B,vi q.op,vi q.a,vi q.b,vi q.c] W (MZ w1 B nf D m W 1 0 fun m' v=>v=vi (m.co.length:Nat)/\m'={ m with co:=m.co++[q] }):=by
 obtain⟨o,l⟩:∃o,W.alloc (.cells #[vi q.op,vi q.a,vi q.b,vi q.c] 93)=o:=⟨_,rfl⟩
 have g0:o.heap[W.heap.size]?=some (.cells (quad q).toArray 93):=by rw[<- l];exact new1 W _
 have w:Bw W o:=by rw[<- l];exact q1z (Below.refl W.heap.size W) _
 have h0:=h.below w
 obtain⟨ia,ic,d⟩:=h0.cos
 obtain⟨n,hn⟩:∃n,m.co.length=n:=⟨_,rfl⟩
 have f:=d.ld
 have u:=d.own
 have y:=d.rt
 have g:W.cell? (Ad B 3)=some (.slice ia m.co.length ic):=by rw[<- f];exact(w.cell (p:=(Ad B 3)) h.lt).symm
 obtain⟨i0,z3,z7,z8,z9⟩:=info_parts d5a
 have s:=c2q g0
 have i:∀x∈quad q,x.oneCell'=true:=fun x hx=>by simp at hx;rcases hx with rfl|rfl|rfl|rfl <;> rfl
 have z4:w1.heap.size<=o.heap.size:=h0.bl.size
 have z:∀(V:World) (D':Nat->Prop),Mq w1 B D' { m with co:=m.co++[q] } V->CK D o D' V->MZ w1 B nf D m W 1 0 (fun m' v=>v=vi (m.co.length:Nat)/\m'={ m with co:=m.co++[q] }) (.returned (vi (m.co.length:Nat))) V:=fun V D' hm hk =>
  ⟨_,_,D',rfl,hm,hi.order hq,⟨rfl,Nat.le_refl _,⟨[q],rfl,Nat.le_refl _⟩,⟨[],by simp,Nat.le_refl _⟩⟩,(CK.below w).trans hk,rfl,rfl⟩
 rw[hn]at f u y g z hl⊢
 have z5:n+1<=maxLen:=by unfold maxLen;omega
 have z6:(n+1)*32<=140737488355328:=by omega
 have hw:IntKind.i64.wrap ((n:Int)+1-1)=(n:Int):=by rw[IntKind.wrap_i64];omega
 replace y:Hid _:=y
 replace z:Hid _:=z
 clear d h0 h hi hq hn w
 go_enter Tryz.func28,Tryz.ntmps28
 go_wp2_with (at_builtin;refine wpList_append_lies _ (by rfl) _ _ _ (by rfl) w1.heap.size 93 i0 _ 4 32 Tryz.underlying41 z3 z7 z8 z9 rfl (by omega) (.slice ia n ic) n _ (by rfl) u (Ad W.heap.size 0) 1 1 (quad q) (by rfl) (by rfl) s i (by omega) z5 z6 z4 _ rfl ?_;intro g3 e w3 t r z2 z1;obtain⟨cl,fr,D',hM,hK⟩:=y.out w3 q g3 e t r z2)
 go_ret
 exact z.out _ D' hM hK
def LZ (w1:World) (B nf:Nat) (D:Nat->Prop) (m:Ma) (W:World) (i:Nat) (e:Ending) (W':World):Prop :=
 e=.returned (.tuple #[])/\∃x D',Mq w1 B D' { m with co:=m.co.set i x } W'/\Inv nf { m with co:=m.co.set i x }/\CK D W D' W'
theorem c7b(h:Mq w1 B D m W)(hi:Inv nf m){i:Nat}(hq:m.co[i]?=some q)(y:q.op=9\/q.op=8)(hl:m.co.length<=3000):Cl 93 #[pM B,vi (i:Nat)] W (LZ w1 B nf D m W i):=by
 obtain⟨T,ic,c⟩:=h.coAt hq
 have t:i<m.co.length:=(List.getElem?_eq_some_iff.1 hq).1
 have c3:=c.ld
 have c0:=c.op
 have ca:=c.ca
 have cb:=c.cb
 have f1:=c.fz (i*4+1)
 have f2:=c.fz (i*4+2)
 have u:=c.le
 have x:=hi.co i q hq
 obtain⟨n,hn⟩:∃n,m.co.length=n:=⟨_,rfl⟩
 rw[hn]at c3 u t hl
 have p:(i:Int)<(n:Int):=by omega
 have l:(0:Int)<=(i:Int):=by omega
 have r:(n:Int)<=(ic:Int):=by omega
 obtain⟨o,v⟩:∃o,q.op=o:=⟨_,rfl⟩
 rw[v]at c0
 rcases y with y|y
 ·have hd:(o == 9)=true:=by rw[<- v,y];rfl
  have w:∀V,Bw W V->LZ w1 B nf D m W i (.returned (.tuple #[])) (V.setCell (Ad T (i*4+2)) (vi (n:Nat))):=fun V s=>by
   obtain⟨a,b⟩:=c.sb V (n:Nat) s
   refine⟨rfl,_,D,a,hi.change ?_,b⟩
   rcases x with z|z|z|z|z|z|z|z
   ·omega
   ·exact .inr (.inl ⟨z.1,z.2.1,by show(0:Int)<=n;omega,by show(n:Int)<=_;omega,z.2.2.2.2⟩)
   all_goals omega
  replace w:Hid _:=w
  clear c hi h x y v hn hq
  go_enter Tryz.func93,Tryz.ntmps93
  go_wp2
  go_quiet (fail)
  go_wp2
  go_end0
  exact w.out _ (q9z bz0)
 ·have hd:(o == 9)=false:=by rw[<- v,y];rfl
  have w:∀V,Bw W V->LZ w1 B nf D m W i (.returned (.tuple #[])) (V.setCell (Ad T (i*4+1)) (vi (n:Nat))):=fun V s=>by
   obtain⟨a,b⟩:=c.sa V (n:Nat) s
   refine⟨rfl,_,D,a,hi.change ?_,b⟩
   rcases x with z|z|z|z|z|z|z|z
   ·exact .inl ⟨z.1,by show(0:Int)<=n;omega,by show(n:Int)<=_;omega,z.2.2.2⟩
   all_goals omega
  replace w:Hid _:=w
  clear c hi h x y v hn hq
  go_enter Tryz.func93,Tryz.ntmps93
  go_wp2
  go_quiet (fail)
  go_wp2
  go_end0
  exact w.out _ (q9z bz0)
theorem declare_any(h:Mq w1 B D m W)(hi:Inv nf m)(hu:m.us<250)(p:Pt)(b:Option Addr)(cap:Nat)(h0:0<=p.sl)(h1:p.sl<30):Cl 21 #[pM B,ptv p b cap] W (MZ w1 B nf D m W 0 0 fun m' v=>v=vi (m.us:Nat)/\m'.us=m.us+1):=by
 obtain⟨sl,d⟩:∃sl:Nat,p.sl=sl:=⟨p.sl.toNat,by omega⟩
 obtain⟨s,u⟩:∃s,W.alloc (pbx p b cap)=s:=⟨_,rfl⟩
 have g0:s.heap[W.heap.size]?=some (pbx p b cap):=by rw[<- u];exact new1 W _
 have r:Bw W s:=by rw[<- u];exact q1z (Below.refl W.heap.size W) _
 have ht:=b2e (h.below r) hi hu
 rw[show ptv p b cap=.agg #[vi p.k,.string p.t,vi p.n,vi p.sl,.slice b p.kids.length cap] from rfl]
 replace u:W.alloc (.cells #[vi p.k,.string p.t,vi p.n,vi (sl:Nat),.slice b p.kids.length cap] 47)=s:=by rw[<- d];exact u
 replace g0:s.heap[W.heap.size]?=some (.cells #[vi p.k,.string p.t,vi p.n,vi (sl:Nat),.slice b p.kids.length cap] 47):=by rw[<- d];exact g0
 have g:¬D W.heap.size:=h.new (Nat.le_refl _)
 have y:∀(w:World) (D':Nat->Prop) (m':Ma),Mq w1 B D' m' w->Inv nf m'->Ex m m' 0 0->CK D s D' w->m'={ m with us:=m.us+1,rg:=max m.rg (m.us+1) }->∀V,Bw w V->MZ w1 B nf D m W 0 0 (fun m' v=>v=vi (m.us:Nat)/\m'.us=m.us+1) (.returned (vi (m.us:Nat))) (V.setCell (Ad B (5+sl)) (vi (m.us:Nat))):=fun w D' m' o i q l f V hb=>by
  obtain⟨a,b⟩:=(o.below hb).setPl sl (m.us:Nat)
  have hr:rgO m'.rg (m.us:Nat):=by rw[f];exact⟨by omega,.inl (by show(m.us:Int)<(max m.rg (m.us+1):Nat);omega)⟩
  exact⟨_,_,D',rfl,a,i.place hr,⟨q.pa,q.rg,q.co,q.cs⟩,(((CK.below r).trans l).trans (CK.below hb)).trans b,rfl,by rw[f]⟩
 have z:∀(w:World) (D':Nat->Prop) (m':Ma),Mq w1 B D' m' w->Inv nf m'->CK D s D' w->(∃x,w.cell? (Ad B (5+sl))=some (vi x))/\w.frozen? (Ad B (5+sl))=false/\w.cell? (Ad W.heap.size 3)=some (vi (sl:Nat)):=fun w D' m' o i l=>by
  obtain⟨_,_,_,_,c⟩:=o.mc
  have z9:sl<m'.pl.length:=by rw[i.p30];omega
  exact⟨⟨_,c.pl sl _ (List.getElem?_eq_getElem z9)⟩,c.fz _,q2z (l.box g0 g).1 rfl⟩
 have z8:(sl:Int)<30:=by omega
 have z7:(0:Int)<=(sl:Int):=by omega
 rw[d]
 replace y:Hid _:=y
 replace z:Hid _:=z
 clear hi h d h0 h1 r g0 g
 go_enter Tryz.func21,Tryz.ntmps21
 go_wp2_with (go_at_call 26;refine ht.mono ?_;rintro e w ⟨v,m',D',rfl,o,i,q,l,rfl,f⟩;refine Hid.out ?_)
 obtain⟨⟨x,c1⟩,f1,c2⟩:=z.out _ _ _ o i l
 have hf:=y.out _ _ _ o i q l f
 replace hf:Hid _:=hf
 clear y z ht o i q l f u
 refine Lib.hid ?_
 go_wp2
 go_region
 go_wp2
 go_ret
 exact(hf.out _ bz0).drew
theorem b6a{W':World}{D':Nat->Prop}{m':Ma}(hi:Inv nf m)(hM:Mq w1 B D' m' W')(hI:Inv nf m')(hX:Ex m m' ko kc)(hK:CK D W D' W'):(∃x,W'.cell? (Ad B 4)=some (vi x))/\W'.frozen? (Ad B 4)=false/\MZ w1 B nf D m W ko kc (fun m' v=>v=.tuple #[]/\m'.us=m.us) (.returned (.tuple #[])) (W'.setCell (Ad B 4) (vi (m.us:Nat))):=by
 obtain⟨_,_,_,_,c⟩:=hM.mc
 obtain⟨a,b⟩:=hM.setUs m.us
 exact⟨⟨_,c.us⟩,c.fz _,_,_,D',rfl,a,hI.back (Nat.le_trans hi.us hX.rg),⟨hX.pa,hX.rg,hX.co,hX.cs⟩,hK.trans b,rfl,rfl⟩
theorem c2r(fr:Array Value)(h:Mq w1 B D m W)(hi:Inv nf m)(hc:Cl 85 fr W (MZ w1 B nf D m W ko kc fun _ v=>v=.tuple #[])):Cl 24 #[pM B,.func (.func 85) #[] fr] W (MZ w1 B nf D m W ko kc fun m' v=>v=.tuple #[]/\m'.us=m.us):=by
 obtain⟨ca,cc,ia,ic,c⟩:=h.mc
 have c4:=c.us
 clear c h
 go_enter Tryz.func24,Tryz.ntmps24
 go_wp2_with (go_at_call 85;refine hc.mono ?_;rintro e t ⟨v,m',D',rfl,y,u,z,w,rfl⟩;obtain⟨⟨x,s⟩,f4,hf⟩:=b6a hi y u z w)
 go_end0
 exact hf
theorem c2s(fr:Array Value)(h:Mq w1 B D m W)(hi:Inv nf m)(hc:Cl 38 fr W (MZ w1 B nf D m W ko kc fun _ v=>v=.tuple #[])):Cl 24 #[pM B,.func (.func 38) #[] fr] W (MZ w1 B nf D m W ko kc fun m' v=>v=.tuple #[]/\m'.us=m.us):=by
 obtain⟨ca,cc,ia,ic,c⟩:=h.mc
 have c4:=c.us
 clear c h
 go_enter Tryz.func24,Tryz.ntmps24
 go_wp2_with (go_at_call 38;refine hc.mono ?_;rintro e t ⟨v,m',D',rfl,y,u,z,w,rfl⟩;obtain⟨⟨x,s⟩,f4,hf⟩:=b6a hi y u z w)
 go_end0
 exact hf
theorem c2t(fr:Array Value)(h:Mq w1 B D m W)(hi:Inv nf m)(hc:Cl 60 fr W (MZ w1 B nf D m W ko kc fun _ v=>v=.tuple #[])):Cl 24 #[pM B,.func (.func 60) #[] fr] W (MZ w1 B nf D m W ko kc fun m' v=>v=.tuple #[]/\m'.us=m.us):=by
 obtain⟨ca,cc,ia,ic,c⟩:=h.mc
 have c4:=c.us
 clear c h
 go_enter Tryz.func24,Tryz.ntmps24
 go_wp2_with (go_at_call 60;refine hc.mono ?_;rintro e t ⟨v,m',D',rfl,y,u,z,w,rfl⟩;obtain⟨⟨x,s⟩,f4,hf⟩:=b6a hi y u z w)
 go_end0
 exact hf
end
section
variable {w1:World} {B nf:Nat} {D:Nat->Prop} {m:Ma} {W:World}
theorem c2u(a:Option Addr)(n c:Nat)(v:Vl)(W:World)(hn:n<=3000)(hnc:n<=c)(hr:∀j,j<n->∃T off x,a=some (Ad T off)/\T<W.heap.size/\b8o W T (off+j*3) x):Cl 40 #[.slice a n c,v.v] W fun e W'=>∃r:Int,e=.returned (vi r)/\-1<=r/\r<n/\Bw W W':=by
 have hI:=q1z (Below.refl W.heap.size W) (.cells #[vi v.k,vi v.n,.string v.s] 75)
 replace hr:Hid _:=hr
 go_enter Tryz.func40,Tryz.ntmps40
 go_wp2
 go_loopw [8] (fun ix wr=>∃i:Nat,i<=n/\ix=vi (i:Nat)/\Bw W wr/\wr.heap[W.heap.size]?=some (.cells #[vi v.k,vi v.n,.string v.s] 75)) (fun ix _=>n-(intOf ix).toNat)
 case atStart=>exact⟨0,Nat.zero_le _,rfl,hI,new1 _ _⟩
 case round =>
  obtain⟨i,hi,rfl,hbr,hg⟩:=hrel
  have d0:_:=q2z (i:=0) hg rfl
  have d1:_:=q2z (i:=1) hg rfl
  have d2:_:=q2z (i:=2) hg rfl
  have hge:(0:Int)<=(i:Int):=by omega
  clear hI
  by_cases hin:i<n
  ·obtain⟨T,off,x,rfl,hT,h3⟩:=hr.out i hin
   have h3':=h3.below hbr hT
   have c0:=h3'.k
   have c1:=h3'.n
   have c2:=h3'.s
   have hlt':(i:Int)<(n:Int):=by omega
   have hcc:(n:Int)<=(c:Int):=by omega
   clear hr h3 h3'
   have hj:Hid (i+1<=n):=hin
   have hfin:Hid (∃r:Int,Ending.returned (vi (i:Nat))=.returned (vi r)/\-1<=r/\r<n/\Bw W wr):=⟨i,rfl,by omega,by omega,hbr⟩
   clear hin
   by_cases hk:v.k=x.k
   ·by_cases hn2:v.n=x.n
    ·by_cases hs:v.s=x.s
     ·go_wp2
      go_quiet (fail)
      go_wp2
      go_ret
      obtain⟨r,h1,h2,h3,h4⟩:=hfin.out
      exact⟨r,h1,h2,h3,q9z h4⟩
     ·have hs':¬v.s.toList=x.s.toList:=fun h=>hs (WideShapes.bytes_inj (by rwa [ByteArray.toList_eq,ByteArray.toList_eq]at h))
      go_wp2
      go_quiet (fail)
      go_wp2
      go_roundw
      case rel=>exact⟨i+1,hj.out,by go_num,q9z hbr,hg⟩
      case measure =>
       have:=hj.out
       simp[intOf];omega
    ·go_wp2
     go_quiet (fail)
     go_wp2
     go_roundw
     case rel=>exact⟨i+1,hj.out,by go_num,q9z hbr,hg⟩
     case measure =>
      have:=hj.out
      simp[intOf];omega
   ·go_wp2
    go_quiet (fail)
    go_wp2
    go_roundw
    case rel=>exact⟨i+1,hj.out,by go_num,q9z hbr,hg⟩
    case measure =>
     have:=hj.out
     simp[intOf];omega
  ·have hlt':¬(i:Int)<(n:Int):=by omega
   go_wp2
   go_ret
   exact⟨-1,rfl,by omega,by omega,hbr⟩
end
end Go.Proofs.YtomniogfpfbolaaGreatDoor.V.C
