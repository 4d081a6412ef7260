/- A run of the model: operations. -/
import Derived.Test.YtfbpdbndejefdaaGreatDoorS44
namespace Go.Proofs.YtfbpdbndejefdaaGreatDoor.V
open Go.RowKit Go
set_option maxRecDepth 100000
set_option maxHeartbeats 8000000
set_option linter.all false
variable {tm:Array Value} {B:Nat} {x:Vl}
section
variable [DecidableEq Vl]
section
variable {F:Int->Vl->Vl->Vl×Int} {e:En} {D:Nat->Prop} {C:Nat} {l:List Vl} {r:Rn Tb} {W:World}
def cloV (q:Pt) (B:Nat):Value :=
 if q.k=23 then .func (.func 107) #[] #[Po B 0] else if q.k=24 then .func (.func 109) #[] #[Po B 0]
 else if q.n=20\/q.n=21 then .func (.func 110) #[] #[Po (B+1) 0,Po B 0] else .func (.func 111) #[] #[Po B 0,Po (B+1) 0]
theorem a9i(q:Pt)(b:Option Addr)(cap C:Nat)(W:World):Cl 80 #[pC C,ptv q b cap] W fun en W'=>en=.returned (cloV q W.heap.size)/\W'.heap[W.heap.size]?=some (.cells #[pC C] 65)/\W'.heap[W.heap.size+1]?=some (pbx q b cap)/\Bw W W':=by
 obtain⟨w0,y⟩:=exq ((W.alloc (.cells #[pC C] 65)).alloc (.cells #[vi q.k,.string q.t,vi q.n,vi q.sl,.slice b q.kids.length cap] 34))
 have o:Bw W w0:=by rw[<- y];exact ext_alloc (ext_alloc (Below.refl _ _) _) _
 have g1:w0.heap[W.heap.size]?=some (.cells #[pC C] 65):=by rw[<- y];exact block_alloc _ (new1 _ _)
 have g2:w0.heap[W.heap.size+1]?=some (pbx q b cap):=by rw[<- y];exact new2 _ _ _
 obtain⟨c0,_,c2,_,_,_,_,_,_,_⟩:=in5 g2
 show Cl 80 #[pC C,.agg #[vi q.k,.string q.t,vi q.n,vi q.sl,.slice b q.kids.length cap]] W _
 have z:∀v,v=cloV q W.heap.size->(Ending.returned v=.returned (cloV q W.heap.size)/\w0.heap[W.heap.size]?=some (.cells #[pC C] 65)/\w0.heap[W.heap.size+1]?=some (pbx q b cap)/\Bw W w0):=fun v hv=>⟨by rw[hv],g1,g2,o⟩
 replace z:Hid _:=z
 clear o g1 g2
 by_cases h23:q.k=23
 ·have hd:(q.k == 23)=true:=by simpa using h23
  have hv:cloV q W.heap.size=.func (.func 107) #[] #[Po W.heap.size 0]:=by unfold cloV;rw[if_pos h23]
  rw[hv]at z⊢
  clear h23 hv
  go_enter Tryz.func80,Tryz.ntmps80
  go_wp2
  go_ret
  exact z.out _ rfl
 ·have hd:(q.k == 23)=false:=by simpa using h23
  by_cases h24:q.k=24
  ·have p:(q.k == 24)=true:=by simpa using h24
   have hv:cloV q W.heap.size=.func (.func 109) #[] #[Po W.heap.size 0]:=by unfold cloV;rw[if_neg h23,if_pos h24]
   rw[hv]at z⊢
   clear h23 h24 hv
   go_enter Tryz.func80,Tryz.ntmps80
   go_wp2
   go_ret
   exact z.out _ rfl
  ·have p:(q.k == 24)=false:=by simpa using h24
   by_cases h20:q.n=20
   ·have s:(q.n == 20)=true:=by simpa using h20
    have hv:cloV q W.heap.size=.func (.func 110) #[] #[Po (W.heap.size+1) 0,Po W.heap.size 0]:=by unfold cloV;rw[if_neg h23,if_neg h24,if_pos (.inl h20)]
    rw[hv]at z⊢
    clear h23 h24 h20 hv
    go_enter Tryz.func80,Tryz.ntmps80
    go_wp2
    go_ret
    exact z.out _ rfl
   ·have s:(q.n == 20)=false:=by simpa using h20
    by_cases h21:q.n=21
    ·have u:(q.n == 21)=true:=by simpa using h21
     have hv:cloV q W.heap.size=.func (.func 110) #[] #[Po (W.heap.size+1) 0,Po W.heap.size 0]:=by unfold cloV;rw[if_neg h23,if_neg h24,if_pos (.inr h21)]
     rw[hv]at z⊢
     clear h23 h24 h20 h21 hv
     go_enter Tryz.func80,Tryz.ntmps80
     go_wp2
     go_ret
     exact z.out _ rfl
    ·have u:(q.n == 21)=false:=by simpa using h21
     have hv:cloV q W.heap.size=.func (.func 111) #[] #[Po W.heap.size 0,Po (W.heap.size+1) 0]:=by unfold cloV;rw[if_neg h23,if_neg h24,if_neg (fun h=>h.elim h20 h21)]
     rw[hv]at z⊢
     clear h23 h24 h20 h21 hv
     go_enter Tryz.func80,Tryz.ntmps80
     go_wp2
     go_ret
     exact z.out _ rfl
theorem d8c{W:World}(h:tm[3]?.getD undef=Po B 0)(hx:W.heap[B]?=some (bx x)):(results Tryz.f107 tm).run Tryz.prog W=.ok x.v W:=by
 obtain⟨c0,c1,c2,_,_,_⟩:=in3 hx
 simp[results,Tryz.results107,go_sem,h,c0,c1,c2]
theorem d8d{W:World}(h:tm[3]?.getD undef=Po B 0)(hx:W.heap[B]?=some (bx x)):(results Tryz.f109 tm).run Tryz.prog W=.ok x.v W:=by
 obtain⟨c0,c1,c2,_,_,_⟩:=in3 hx
 simp[results,Tryz.results109,go_sem,h,c0,c1,c2]
def OpA (F:Int->Vl->Vl->Vl×Int) (op:Int) (x y:Vl) (W:World) (en:Ending) (W':World):Prop:=(((F op x y).2≠0/\en=.panicked (pan (endV 2 (F op x y).2)))\/((F op x y).2=0/\en=.returned (F op x y).1.v))/\Bw W W'
theorem d8e(hF:OpF F)(x:Vl)(W:World)(Bc:Nat)(hB:W.heap[Bc]?=some (.cells #[pC C] 65))(hC:W.cell? (Ad C 0)=some (pR e))(hp:PTab W):Cl 107 #[x.v,Po Bc 0] W (OpA F 10 x nilV W):=by
 have q:=World.block_lt_of_cell? _ _ hC
 simp only at q
 have g:=block_lt hB
 obtain⟨w0,o⟩:=exq ((W.alloc (.cells #[vi x.k,vi x.n,.string x.s] 52)).alloc (.cells #[vi 0,vi 0,.string ⟨#[]⟩] 52))
 have u:Bw W w0:=by rw[<- o];exact ext_alloc (ext_alloc (Below.refl _ _) _) _
 have g1:w0.heap[W.heap.size+1]?=some (bx nilV):=by rw[<- o];exact new2 _ _ _
 have g2:w0.heap[W.heap.size]?=some (bx x):=by rw[<- o];exact block_alloc _ (new1 _ _)
 have gB:=block_below u hB
 have f:Ce w0 Bc 0 (pC C):=cell_block gB rfl
 obtain⟨a0,a1,a2,_,_,_⟩:=in3 g2
 have z:=fun V (h:Bw w0 V)=>a6t hF 10 x nilV V C (((ext_trans u h).cell (p:=(Ad C 0)) q).trans hC) (hp.on (ext_trans u h))
 replace z:Hid (∀V,Bw w0 V->Cl 108 #[pC C,vi 10,.agg #[vi x.k,vi x.n,.string x.s],.agg #[vi 0,vi 0,.string ⟨#[]⟩]] V (OpA F 10 x nilV V)):=z
 unfold OpA
 obtain⟨R,j⟩:=exq (F 10 x nilV)
 unfold OpA at z
 rw[j]at z⊢
 clear j hB hC hp gB g2
 go_enter Tryz.func107,Tryz.ntmps107
 go_wp2_with (go_at_call 108;refine(z.out _ (Below.refl _ _)).mono ?_;rintro en w1 ⟨(⟨m,rfl⟩|⟨m,rfl⟩),y⟩;(exact⟨rfl,.inl ⟨m,rfl⟩,ext_trans u y⟩);have i:=block_below y g1;obtain⟨c0,c1,c2,f0,f1,f2⟩:=in3 i)
 exact bodyPost_ret (d8c (B:=W.heap.size+1) rfl (put3_same _ i)) rfl ⟨.inr ⟨m,rfl⟩,put3_below _ (ext_trans u y) (by omega)⟩
theorem d8f(hF:OpF F)(x:Vl)(W:World)(Bc:Nat)(hB:W.heap[Bc]?=some (.cells #[pC C] 65))(hC:W.cell? (Ad C 0)=some (pR e))(hp:PTab W):Cl 109 #[x.v,Po Bc 0] W (OpA F 11 x nilV W):=by
 have q:=World.block_lt_of_cell? _ _ hC
 simp only at q
 have g:=block_lt hB
 obtain⟨w0,o⟩:=exq ((W.alloc (.cells #[vi x.k,vi x.n,.string x.s] 52)).alloc (.cells #[vi 0,vi 0,.string ⟨#[]⟩] 52))
 have u:Bw W w0:=by rw[<- o];exact ext_alloc (ext_alloc (Below.refl _ _) _) _
 have g1:w0.heap[W.heap.size+1]?=some (bx nilV):=by rw[<- o];exact new2 _ _ _
 have g2:w0.heap[W.heap.size]?=some (bx x):=by rw[<- o];exact block_alloc _ (new1 _ _)
 have gB:=block_below u hB
 have f:Ce w0 Bc 0 (pC C):=cell_block gB rfl
 obtain⟨a0,a1,a2,_,_,_⟩:=in3 g2
 have z:=fun V (h:Bw w0 V)=>a6t hF 11 x nilV V C (((ext_trans u h).cell (p:=(Ad C 0)) q).trans hC) (hp.on (ext_trans u h))
 replace z:Hid (∀V,Bw w0 V->Cl 108 #[pC C,vi 11,.agg #[vi x.k,vi x.n,.string x.s],.agg #[vi 0,vi 0,.string ⟨#[]⟩]] V (OpA F 11 x nilV V)):=z
 unfold OpA
 obtain⟨R,j⟩:=exq (F 11 x nilV)
 unfold OpA at z
 rw[j]at z⊢
 clear j hB hC hp gB g2
 go_enter Tryz.func109,Tryz.ntmps109
 go_wp2_with (go_at_call 108;refine(z.out _ (Below.refl _ _)).mono ?_;rintro en w1 ⟨(⟨m,rfl⟩|⟨m,rfl⟩),y⟩;(exact⟨rfl,.inl ⟨m,rfl⟩,ext_trans u y⟩);have i:=block_below y g1;obtain⟨c0,c1,c2,f0,f1,f2⟩:=in3 i)
 exact bodyPost_ret (d8d (B:=W.heap.size+1) rfl (put3_same _ i)) rfl ⟨.inr ⟨m,rfl⟩,put3_below _ (ext_trans u y) (by omega)⟩
end
section
variable {e:En}
abbrev b4o:ByteArray:=⟨#[109,97,105,110]⟩
theorem c4r(a c d x:Value)(t:ByteArray)(W:World)(ht:¬t=(⟨#[109,97,105,110]⟩:ByteArray)):Cl 23 #[.agg #[a,.string t,c,d,x]] W fun en W'=>en=.returned (.bool false)/\Bw W W':=by
 have y:=ext_alloc (Below.refl W.heap.size W) (.cells #[a,.string t,c,d,x] 34)
 go_enter Tryz.func23,Tryz.ntmps23
 have z:¬t.toList=[109,97,105,110]:=fun h=>ht (by obtain⟨d⟩:=t;rw[ByteArray.toList_eq]at h;congr 1;exact Array.ext' h)
 go_wp2
 go_ret
 refine⟨?_,y⟩
 simp[z]
theorem c0e(a c d x:Value)(W:World):Cl 23 #[.agg #[a,.string ⟨#[109,97,105,110]⟩,c,d,x]] W fun en W'=>en=.returned (.bool true)/\Bw W W':=by
 have z:=ext_alloc (Below.refl W.heap.size W) (.cells #[a,.string ⟨#[109,97,105,110]⟩,c,d,x] 34)
 go_enter Tryz.func23,Tryz.ntmps23
 go_wp2
 go_ret
 exact⟨rfl,z⟩
theorem c4s(ks:List Pt)(b:Option Addr)(cap j:Nat)(q:Pt)(W:World)(hb:Below e.w1.heap.size e.w1 W)(hk:PK tt e.w1 ks b cap)(hj:ks[j]?=some q)(hq:q.t=b4o)(hlt:∀i y,i<j->ks[i]?=some y->y.t≠b4o):Cl 22 #[.slice b ks.length cap,.func (.func 23) #[] #[]] W fun en W'=>en=.returned (vi (j:Nat))/\Bw W W':=by
 have hks:=hk.1
 have hjl:j<ks.length:=(List.getElem?_eq_some_iff.1 hj).1
 obtain⟨L,hL⟩:=exq (ks.length)
 rw[hL]at hks hjl⊢
 have hLc:(L:Int)<=(cap:Int):=by omega
 have hLm:L<=9223372036854775807:=by unfold maxLen at hks;omega
 have hround:∀i wr,i<=j->Bw W wr->∃(y:Pt) (g off:Nat) (b':Option Addr) (cap':Nat),b=some (Ad g off)/\Ce wr g (off+i*5) (vi y.k)/\Ce wr g (off+i*5+1) (.string y.t)/\Ce wr g (off+i*5+2) (vi y.n)/\Ce wr g (off+i*5+3) (vi y.sl)/\Ce wr g (off+i*5+4) (.slice b' y.kids.length cap')/\((i<j/\¬y.t=(⟨#[109,97,105,110]⟩:ByteArray))\/(i=j/\y.t=⟨#[109,97,105,110]⟩)):=fun i wr hi hbr=>by
  have hil:i<ks.length:=by omega
  obtain⟨y,hy⟩:∃y,ks[i]?=some y:=⟨_,List.getElem?_eq_getElem hil⟩
  obtain⟨g,off,b',cap',rfl,_,hc⟩:=PK.kid hk hy
  obtain⟨_,c0,c1,c2,c3,c4⟩:=hc wr (ext_trans hb hbr)
  refine⟨y,g,off,b',cap',rfl,c0,c1,c2,c3,c4,?_⟩
  by_cases hij:i=j
  ·subst hij
   rw[hj]at hy
   cases hy
   exact .inr ⟨rfl,hq⟩
  ·refine .inl ⟨by omega,?_⟩
   exact hlt i y (by omega) hy
 replace hround:Hid _:=hround
 have hI:=Below.refl W.heap.size W
 clear hk hj hq hlt hL hb
 go_enter Tryz.func22,Tryz.ntmps22
 go_wp2
 go_loopw [8] (fun ix wr=>∃i:Nat,i<=j/\ix=vi (i:Nat)/\Bw W wr) (fun ix _=>L-(intOf ix).toNat)
 case atStart=>exact⟨0,Nat.zero_le _,rfl,hI⟩
 case round =>
  obtain⟨i,hi,rfl,hbr⟩:=hrel
  clear hI
  obtain⟨y,g,off,b',cap',rfl,c0,c1,c2,c3,c4,hy⟩:=hround.out i _ hi hbr
  have hlt':(i:Int)<(L:Int):=by omega
  have hge:(0:Int)<=(i:Int):=by omega
  rcases hy with⟨hij,ht⟩|⟨rfl,ht⟩
  ·have hj1:Hid (i+1<=j/\i<L):=⟨hij,by omega⟩
   clear hround
   go_wp2_with (go_at_call 23;refine(c4r _ _ _ _ _ _ ht).mono ?_;rintro en w2 ⟨rfl,hb2⟩)
   go_roundw
   case rel=>exact⟨i+1,hj1.out.1,by go_num,ext_trans hbr hb2⟩
   case measure =>
    have hj2:=hj1.out
    simp[intOf];omega
  ·rw[ht]at c1
   clear hround
   go_wp2_with (go_at_call 23;refine(c0e _ _ _ _ _).mono ?_;rintro en w2 ⟨rfl,hb2⟩)
   go_ret
   exact⟨rfl,ext_trans hbr hb2⟩
theorem c8i(u:Pt)(b:Option Addr)(cap j:Nat)(q:Pt)(W:World)(hb:Below e.w1.heap.size e.w1 W)(hk:PK tt e.w1 u.kids b cap)(hj:u.kids[j]?=some q)(hq:q.t=b4o)(hlt:∀i y,i<j->u.kids[i]?=some y->y.t≠b4o):Cl 13 #[.agg #[vi u.k,.string u.t,vi u.n,vi u.sl,.slice b u.kids.length cap]] W fun en W'=>en=.returned (vi (j:Nat))/\Bw W W':=by
 have z:=ext_alloc (Below.refl W.heap.size W) (.cells #[vi u.k,.string u.t,vi u.n,vi u.sl,.slice b u.kids.length cap] 34)
 have s:=c4s (e:=e) u.kids b cap j q _ (ext_trans hb z) hk hj hq hlt
 obtain⟨L,p⟩:=exq (u.kids.length)
 rw[p]at s z⊢
 clear p hk hj hq hlt
 go_enter Tryz.func13,Tryz.ntmps13
 go_wp2_with (go_at_call 22;refine s.mono ?_;rintro en w2 ⟨rfl,v⟩)
 go_ret
 exact⟨rfl,ext_trans z v⟩
end
end
end Go.Proofs.YtfbpdbndejefdaaGreatDoor.V
