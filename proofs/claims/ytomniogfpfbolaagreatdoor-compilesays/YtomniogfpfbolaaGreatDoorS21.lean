import Derived.Test.YtomniogfpfbolaaGreatDoorS20
import Derived.Deep.RegionLaw
namespace Go.Proofs.YtomniogfpfbolaaGreatDoor.V.C
open Go.RowKit Go
set_option maxRecDepth 100000
set_option maxHeartbeats 8000000
set_option linter.all false
section
variable {w1:World} {B nf:Nat} {D:Nat->Prop} {m:Ma} {W:World}
theorem c2v{W:World}{g:Nat}{q:Vl}(h:W.heap[g]?=some (.cells (trio q).toArray 75)):∀j u,(trio q)[j]?=some u->W.cell? ((Ad g 0).add j)=some u:=World.news_of_block (cs:=(trio q).toArray) h
theorem b2f{x:Vl} : ∀(l:List Vl) (i:Nat),l[i]?=some x->(flat l)[i*3]?=some (vi x.k)/\(flat l)[i*3+1]?=some (vi x.n)/\(flat l)[i*3+2]?=some (.string x.s)
 | [],i,h=>by simp at h
 | y::l,0,h=>by simp at h;subst h;exact⟨rfl,rfl,rfl⟩
 | y::l,i+1,h=>by
  have:=b2f l i (by simpa using h)
  rw[show flat (y::l)=vi y.k::vi y.n :: .string y.s::flat l from rfl,show(i+1)*3=i*3+1+1+1 by omega]
  exact this
theorem c7c(l:List Vl):(flat l).length=l.length*3:=by
 induction l with
 | nil=>rfl
 | cons x l ih=>rw[show flat (x::l)=vi x.k::vi x.n :: .string x.s::flat l from rfl];simp only[List.length_cons,ih];omega
theorem d5c{base:Nat}{a:Option Addr}{c:Nat}{l:List Vl}(h:W.ownsRow base 75 3 (.slice a l.length c) l.length (flat l)):l.length<=c/\∀j,j<l.length->∃T y x,a=some (Ad T y)/\T<W.heap.size/\b8o W T (y+j*3) x:=by
 rcases h.2 with⟨e,f⟩|⟨g,cap,n,o,e2,t,p,b,d,q⟩
 ·exact⟨by omega,fun j u=>by omega⟩
 ·cases o
  refine⟨p,fun j u=>⟨g,0,l[j],rfl,q5z t,?_⟩⟩
  obtain⟨k1,k2,s⟩:=b2f l j (List.getElem?_eq_getElem u)
  have z:∀i v,(flat l)[i]?=some v->W.cell? (Ad g i)=some v:=fun i v w=>by
   have r:i<l.length*3:=by
    have:=(List.getElem?_eq_some_iff.1 w).1
    rw[c7c]at this
    exact this
   rw[<- q,List.getElem?_take_of_lt r]at w
   exact q2z t (by simpa using w)
  rw[Nat.zero_add]
  exact⟨z _ _ k1,z _ _ k2,z _ _ s⟩
theorem c2w(h:Mq w1 B D m W)(hi:Inv nf m)(v:Vl)(hv:okV nf v)(to:Int)(ht:rgO m.rg to)(hl:m.co.length<3000)(hc:m.cs.length<700):Cl 27 #[pM B,v.v,vi to] W (MZ w1 B nf D m W 1 1 fun m' r=>r=.tuple #[]/\m'.us=m.us):=by
 obtain⟨t,z4⟩:∃t,W.alloc (.cells #[vi v.k,vi v.n,.string v.s] 75)=t:=⟨_,rfl⟩
 have g0:t.heap[W.heap.size]?=some (.cells #[vi v.k,vi v.n,.string v.s] 75):=by rw[<- z4];exact new1 W _
 have z7:Bw W t:=by rw[<- z4];exact q1z (Below.refl W.heap.size W) _
 have h0:=h.below z7
 have x5:¬D W.heap.size:=h.new (Nat.le_refl _)
 obtain⟨ca,cc,hr⟩:=h0.css
 obtain⟨y4,z6⟩:=d5c hr.own
 have y5:=hr.ld
 have d0:=q2z (i:=0) g0 rfl
 have d1:=q2z (i:=1) g0 rfl
 have d2:=q2z (i:=2) g0 rfl
 have z0:∀V,Bw t V->Cl 40 #[.slice ca m.cs.length cc,v.v] V fun e W'=>∃r:Int,e=.returned (vi r)/\-1<=r/\r<m.cs.length/\Bw t W':=fun V q=>by
  refine(c2u ca m.cs.length cc v V (by omega) y4 fun j hj=>?_).mono ?_
  ·obtain⟨T,y1,x,e,hT,h3⟩:=z6 j hj
   exact⟨T,y1,x,e,Nat.lt_of_lt_of_le hT q.size,h3.below q hT⟩
  ·rintro e W' ⟨r,h1,h2,h3,h4⟩
   exact⟨r,h1,h2,h3,q3z q h4⟩
 have hL:∀(V:World) (r:Int),Bw t V->0<=r->r<m.cs.length->Cl 28 #[pM B,vi 2,vi to,vi r,vi 0] V (MZ w1 B nf D m W 1 1 fun m' r=>m'.us=m.us):=fun V r q h1 h2=>by
  have z1:okQ m.rg m.cs.length (m.co.length+1) m.co.length ⟨2,to,r,0⟩:=.inr (.inr (.inr (.inl ⟨rfl,ht,h1,h2,rfl⟩)))
  refine(a7x (h0.below q) hi hl ⟨2,to,r,0⟩ z1).mono ?_
  rintro e W' ⟨v',m',D',rfl,hM,hI,hX,hK,_,hm⟩
  exact⟨_,m',D',rfl,hM,hI,Ex.trans (Ex.refl m) hX (by omega) (by omega),((CK.below z7).trans (CK.below q)).trans hK,by rw[hm]⟩
 have hA:∀(V X:World) (D1:Nat->Prop),Bw t V->Mq w1 B D1 { m with cs:=m.cs++[v] } X->CK D V D1 X->Cl 28 #[pM B,vi 2,vi to,vi (m.cs.length:Nat),vi 0] X (MZ w1 B nf D m W 1 1 fun m' r=>m'.us=m.us):=fun V X D1 q x1 x0=>by
  have z1:okQ m.rg (m.cs++[v]).length (m.co.length+1) m.co.length ⟨2,to,(m.cs.length:Nat),0⟩:=.inr (.inr (.inr (.inl ⟨rfl,ht,by show(0:Int)<=m.cs.length;omega,by show(m.cs.length:Int)<((m.cs++[v]).length:Nat);simp;omega,rfl⟩)))
  refine(a7x x1 (hi.const hv) hl ⟨2,to,(m.cs.length:Nat),0⟩ z1).mono ?_
  rintro e W' ⟨v',m',D',rfl,hM,hI,hX,hK,_,hm⟩
  exact⟨_,m',D',rfl,hM,hI,Ex.trans (b:={ m with cs:=m.cs++[v] }) (k1:=0) (j1:=1) ⟨rfl,Nat.le_refl _,⟨[],by simp,Nat.le_refl _⟩,⟨[v],rfl,by simp⟩⟩ hX (by omega) (by omega),(((CK.below z7).trans (CK.below q)).trans x0).trans hK,by rw[hm]⟩
 have hB:∀V,Bw t V->∃w8 w9,d4u w1 B D m V w8 w9:=fun V q=>(h0.below q).css
 have a:∀V,Bw t V->V.heap[W.heap.size]?=some (.cells #[vi v.k,vi v.n,.string v.s] 75):=fun V q=>q0z q g0
 obtain⟨n,hn⟩:∃n,m.cs.length=n:=⟨_,rfl⟩
 rw[hn]at y5 z0 hL hA hc
 replace hL:Hid _:=hL
 replace hA:Hid _:=hA
 replace hB:Hid _:=hB
 replace a:Hid _:=a
 replace hn:Hid _:=hn
 have x4:w1.heap.size<=t.heap.size:=h0.bl.size
 clear hr z6 h0 z7 h hi ht hv y4 x5 g0
 go_enter Tryz.func27,Tryz.ntmps27
 go_wp2
 go_region_with (go_at_call 40;refine(z0 _ bz0.drew).mono ?_;rintro e y ⟨r,rfl,y8,w,z8⟩)
 all_goals
  obtain⟨c2,k2,w⟩:=hB.out y z8
  have z:=w.ld
  rw[hn.out]at z
  clear w z0 z4 y5 d0 d1 d2
  have gx:=a.out y z8
  have d0:=q2z (i:=0) (v:=vi v.k) gx rfl
  have d1:=q2z (i:=1) (v:=vi v.n) gx rfl
  have d2:=q2z (i:=2) (v:=.string v.s) gx rfl
  by_cases hneg:r<0
  ·have hd:decide (r<0)=true:=decide_eq_true hneg
   have u:Bw t (y.alloc (.cells (trio v).toArray 75)).drew:=(q3z z8 (q1z bz0 _)).drew
   obtain⟨cX,kX,z9⟩:=hB.out _ u
   have gX:(y.alloc (.cells (trio v).toArray 75)).drew.heap[y.heap.size]?=some (.cells (trio v).toArray 75):=new1 y _
   have f:=c2v gX
   have d:=z9.ld
   have g:=z9.own
   have o:=z9.rt
   rw[hn.out]at d g o
   have z2:(Value.slice c2 n k2)=.slice cX n kX:=by
    have x2:Bw y (y.alloc (.cells (trio v).toArray 75)).drew:=(q1z bz0 _).drew
    have:=(x2.cell (p:=(Ad B 2)) (World.block_lt_of_cell? _ _ z)).trans z
    rw[d]at this
    exact(Option.some.inj this).symm
   cases z2
   have y7:=World.block_lt_of_cell? _ _ z
   have w6:=q5z gx
   have y6:w1.heap.size<=(y.alloc (.cells (trio v).toArray 75)).drew.heap.size:=Nat.le_trans x4 u.size
   obtain⟨i0,x3,x8,x9,y0⟩:=info_parts d5b
   have z5:∀x∈trio v,x.oneCell'=true:=fun x hx=>by simp at hx;rcases hx with rfl|rfl|rfl <;> rfl
   have x6:n+1<=maxLen:=by unfold maxLen;omega
   have x7:(n+1)*32<=140737488355328:=by omega
   replace u:Hid _:=u
   replace o:Hid _:=o
   clear z9 y8 w hL hB a gX gx d
   have nB:¬y.heap.size=B:=by simp at y7;omega
   have nW:¬y.heap.size=W.heap.size:=by omega
   go_wp2
   go_region_law ((refine step_append_lies _ (by rfl) _ _ _ (by rfl) w1.heap.size 75 i0 _ 3 32 Tryz.underlying40 x3 x8 x9 y0 rfl (by omega) (.slice c2 n k2) n _ (by rfl) g (Ad y.heap.size 0) 1 1 (trio v) (by rfl) (by rfl) f z5 (by omega) x6 x7 y6 _ rfl ?_;intro g3 y2 w3 l c y3 w7;obtain⟨cl,fr,D',hM,hK⟩:=o.out w3 v g3 y2 l c y3))
   all_goals
    have y9:=hA.out _ _ _ u.out hM hK
    clear hA u hM hK o g l c y3 f z5
    go_wp2_with (go_at_call 28;refine y9.mono ?_;rintro e w4 ⟨v4,m4,D4,rfl,hM,hI,hX,hK,z3⟩)
    go_end0
    exact⟨_,m4,D4,rfl,hM,hI,hX,hK,rfl,z3⟩
  ·have hd:decide (r<0)=false:=decide_eq_false hneg
   have y9:=hL.out y r z8 (by omega) w
   clear hA hB a gx y8 w hneg
   go_wp2_with (go_at_call 28;refine y9.mono ?_;rintro e w3 ⟨v3,m3,D3,rfl,hM,hI,hX,hK,z3⟩)
   go_end0
   exact⟨_,m3,D3,rfl,hM,hI,hX,hK,rfl,z3⟩
end
end Go.Proofs.YtomniogfpfbolaaGreatDoor.V.C
