import Derived.Test.YtomniogfpfbolaaGreatDoorS17
import Derived.Deep.RegionHeld3
namespace Go.Proofs.YtomniogfpfbolaaGreatDoor.V
open Go.RowKit Go
set_option maxRecDepth 100000
set_option maxHeartbeats 8000000
set_option linter.all false
section
variable [DecidableEq Vl]
theorem d2u(x:Vl)(w:World)(h:mayB x.k x.n x.s=true):Cl 34 #[x.v] w fun e z=>e=.returned (.bool true)/\Bw w z:=by
 have hn:-9223372036854775808<=x.n/\x.n<=9223372036854775807:=by have:=x.wn;simpa[Lit.wf,IntKind.min,IntKind.max,IntKind.signed,IntKind.bits]using this
 exact(d4g x.k x.n x.s w hn.1 hn.2 h).mono fun e z ⟨u,y⟩=>⟨u,by rw[y];exact q1z bz0 _⟩
theorem d2v(x:Vl)(w:World)(h:mayB x.k x.n x.s=false):Cl 34 #[x.v] w fun e z=>e=.returned (.bool false)/\Bw w z:=by
 have hn:-9223372036854775808<=x.n/\x.n<=9223372036854775807:=by have:=x.wn;simpa[Lit.wf,IntKind.min,IntKind.max,IntKind.signed,IntKind.bits]using this
 exact(d4h x.k x.n x.s w hn.1 hn.2 h).mono fun e z ⟨u,y⟩=>⟨u,by rw[y];exact q1z bz0 _⟩
theorem d8i(a:Option Addr)(n c:Nat)(main:Int)(f:Fd)(w:World)(h0:(f.p<0)) :
  Cl 15 #[PV a n c main,f.v] w fun e z=>e=.returned (.bool false)/\Bw w z:=by
 go_enter Tryz.func15,Tryz.ntmps15
 go_wp2
 go_ret
 refine⟨rfl,?_⟩
 repeat(first|exact bz0|refine q1z ?_ _)
theorem d8j(a:Option Addr)(n c:Nat)(main:Int)(f:Fd)(w:World)(h0:¬(f.p<0))(h1:(5<f.p)) :
  Cl 15 #[PV a n c main,f.v] w fun e z=>e=.returned (.bool false)/\Bw w z:=by
 go_enter Tryz.func15,Tryz.ntmps15
 go_wp2
 go_ret
 refine⟨rfl,?_⟩
 repeat(first|exact bz0|refine q1z ?_ _)
theorem d8k(a:Option Addr)(n c:Nat)(main:Int)(f:Fd)(w:World)(h0:¬(f.p<0))(h1:¬(5<f.p))(h2:(f.r<1)) :
  Cl 15 #[PV a n c main,f.v] w fun e z=>e=.returned (.bool false)/\Bw w z:=by
 go_enter Tryz.func15,Tryz.ntmps15
 go_wp2
 go_ret
 refine⟨rfl,?_⟩
 repeat(first|exact bz0|refine q1z ?_ _)
theorem d8l(a:Option Addr)(n c:Nat)(main:Int)(f:Fd)(w:World)(h0:¬(f.p<0))(h1:¬(5<f.p))(h2:¬(f.r<1))(h3:(250<f.r)) :
  Cl 15 #[PV a n c main,f.v] w fun e z=>e=.returned (.bool false)/\Bw w z:=by
 go_enter Tryz.func15,Tryz.ntmps15
 go_wp2
 go_ret
 refine⟨rfl,?_⟩
 repeat(first|exact bz0|refine q1z ?_ _)
theorem d8m(a:Option Addr)(n c:Nat)(main:Int)(f:Fd)(w:World)(h0:¬(f.p<0))(h1:¬(5<f.p))(h2:¬(f.r<1))(h3:¬(250<f.r))(h4:(f.r<f.p)) :
  Cl 15 #[PV a n c main,f.v] w fun e z=>e=.returned (.bool false)/\Bw w z:=by
 go_enter Tryz.func15,Tryz.ntmps15
 go_wp2
 go_ret
 refine⟨rfl,?_⟩
 repeat(first|exact bz0|refine q1z ?_ _)
theorem d8n(a:Option Addr)(n c:Nat)(main:Int)(f:Fd)(w:World)(h0:¬(f.p<0))(h1:¬(5<f.p))(h2:¬(f.r<1))(h3:¬(250<f.r))(h4:¬(f.r<f.p))(h5:((700:Int)<(f.cs.length:Int))) :
  Cl 15 #[PV a n c main,f.v] w fun e z=>e=.returned (.bool false)/\Bw w z:=by
 go_enter Tryz.func15,Tryz.ntmps15
 go_wp2
 go_ret
 refine⟨rfl,?_⟩
 repeat(first|exact bz0|refine q1z ?_ _)
theorem d8o(a:Option Addr)(n c:Nat)(main:Int)(f:Fd)(w:World)(h0:¬(f.p<0))(h1:¬(5<f.p))(h2:¬(f.r<1))(h3:¬(250<f.r))(h4:¬(f.r<f.p))(h5:¬((700:Int)<(f.cs.length:Int)))(h6:((f.is.length:Int)<1)) :
  Cl 15 #[PV a n c main,f.v] w fun e z=>e=.returned (.bool false)/\Bw w z:=by
 go_enter Tryz.func15,Tryz.ntmps15
 go_wp2
 go_ret
 refine⟨rfl,?_⟩
 repeat(first|exact bz0|refine q1z ?_ _)
theorem d8p(a:Option Addr)(n c:Nat)(main:Int)(f:Fd)(w:World)(h0:¬(f.p<0))(h1:¬(5<f.p))(h2:¬(f.r<1))(h3:¬(250<f.r))(h4:¬(f.r<f.p))(h5:¬((700:Int)<(f.cs.length:Int)))(h6:¬((f.is.length:Int)<1))(h7:((3000:Int)<(f.is.length:Int))) :
  Cl 15 #[PV a n c main,f.v] w fun e z=>e=.returned (.bool false)/\Bw w z:=by
 go_enter Tryz.func15,Tryz.ntmps15
 go_wp2
 go_ret
 refine⟨rfl,?_⟩
 repeat(first|exact bz0|refine q1z ?_ _)
theorem d2w(a:Option Addr)(n c:Nat)(main:Int)(f:Fd)(w:World)(hF:FdIn w.heap.size w f)(h0:¬(f.p<0))(h1:¬(5<f.p))(h2:¬(f.r<1))(h3:¬(250<f.r))(h4:¬(f.r<f.p))(h5:¬((700:Int)<(f.cs.length:Int)))(h6:¬((f.is.length:Int)<1))(h7:¬((3000:Int)<(f.is.length:Int))) :
  Cl 15 #[PV a n c main,f.v] w fun e w'=>e=.returned (.bool (allB (fun _=>a3y n) f.cs&&b0u f))/\Bw w w':=by
 obtain⟨⟨_,hrowc⟩,⟨_,hrowi⟩⟩:=hF
 have hne:f.is≠[]:=by
  intro e
  rw[e]at h6
  exact h6 (by decide)
 obtain⟨b,off,ha,hbl,hel⟩:=hrowi hne
 have hpos:0<f.is.length:=List.length_pos_iff.2 hne
 have hl1:f.is.length<=3000:=by omega
 have hl2:f.cs.length<=700:=by omega
 have hv:f.v=.agg #[vi f.p,vi f.r,.slice f.ca f.cs.length f.cc,.slice (some (Ad b off)) f.is.length f.ic]:=by rw[<- ha]
 have hf0:((w.alloc (.cells #[.slice a n c,vi main] 24)).alloc (.cells #[vi f.p,vi f.r,.slice f.ca f.cs.length f.cc,.slice (some (Ad b off)) f.is.length f.ic] 43)).heap[w.heap.size+1]?=some (.cells #[vi f.p,vi f.r,.slice f.ca f.cs.length f.cc,.slice (some (Ad b off)) f.is.length f.ic] 43):=by simpa using a9d (w.alloc _) _
 have hp0:((w.alloc (.cells #[.slice a n c,vi main] 24)).alloc (.cells #[vi f.p,vi f.r,.slice f.ca f.cs.length f.cc,.slice (some (Ad b off)) f.is.length f.ic] 43)).heap[w.heap.size]?=some (.cells #[.slice a n c,vi main] 24):=(Below.heap_alloc _ _ _ (by simp)).trans (a9d _ _)
 have hb0:Bw w ((w.alloc (.cells #[.slice a n c,vi main] 24)).alloc (.cells #[vi f.p,vi f.r,.slice f.ca f.cs.length f.cc,.slice (some (Ad b off)) f.is.length f.ic] 43)):=q1z (q1z bz0 _) _
 obtain⟨ans,hans⟩:∃ans,(allB (fun _=>a3y n) f.cs&&b0u f)=ans:=⟨_,rfl⟩
 rw[hans]
 replace hans:Hid _:=hans
 have hC:∀(x:Od) (m:Nat) (W:World),RIn f x m W (a1r f x m):=d4s f
 simp only[RIn,hv]at hC
 replace hC:Hid _:=hC
 rw[hv]
 clear ha hv
 replace hel:Hid _:=hel
 replace hrowc:Hid _:=hrowc
 clear hrowi
 go_enter Tryz.func15,Tryz.ntmps15
 go_wp2
 go_loopw [6] (fun i wr=>∃m:Nat,m<=f.cs.length/\i=vi m/\Hid (a5z (fun _=>a3y n) f.cs m)/\wr.heap[w.heap.size]?=some (.cells #[.slice a n c,vi main] 24)/\wr.heap[w.heap.size+1]?=some (.cells #[vi f.p,vi f.r,.slice f.ca f.cs.length f.cc,.slice (some (Ad b off)) f.is.length f.ic] 43)/\Bw w wr) (fun i _=>f.cs.length-(intOf i).toNat)
 case atStart=>exact⟨0,Nat.zero_le _,rfl,a5z.zero,hp0,hf0,hb0⟩
 case round =>
  clear hf0 hb0 hp0
  obtain⟨m,hm,rfl,hG,hp,hf,hb⟩:=hrel
  have d0:wr.cell? (Ad w.heap.size 0)=some (.slice a n c):=a1e hp rfl
  have c0:wr.cell? (Ad (w.heap.size+1) 0)=some (vi f.p):=a1e hf rfl
  have c1:wr.cell? (Ad (w.heap.size+1) 1)=some (vi f.r):=a1e hf rfl
  have c2:wr.cell? (Ad (w.heap.size+1) 2)=some (.slice f.ca f.cs.length f.cc):=a1e hf rfl
  have c3:wr.cell? (Ad (w.heap.size+1) 3)=some (.slice (some (Ad b off)) f.is.length f.ic):=a1e hf rfl
  have hl0:w.heap.size<wr.heap.size:=(Array.getElem?_eq_some_iff.1 hp).1
  have hl9:w.heap.size+1<wr.heap.size:=(Array.getElem?_eq_some_iff.1 hf).1
  by_cases hlt:m<f.cs.length
  ·obtain⟨x,hx⟩:∃x,f.cs[m]?=some x:=⟨f.cs[m],by simp[hlt]⟩
   obtain⟨b',off',ha',hbl',hel'⟩:=hrowc.out (by intro e;rw[e]at hlt;simp at hlt)
   obtain⟨t0,t1,t2⟩:=(hel' m x hx).below hb hbl'
   rw[ha']at c2
   clear ha'
   have hbad:a3y n x=false->Hid ((allB (fun _=>a3y n) f.cs&&b0u f)=false):=fun h=>by
    rw[a8m (p:=fun _=>a3y n) hx h];exact rfl
   have hnext:a3y n x=true->Hid (a5z (fun _=>a3y n) f.cs (m+1)):=fun h=>a5z.next (p:=fun _=>a3y n) hx h hG.out
   replace hbad:Hid _:=hbad
   replace hnext:Hid _:=hnext
   clear hx hG hel'
   cases e1:mayB x.k x.n x.s
   ·have hM:=fun w=>d2v x w e1
    replace e1:Hid _:=e1
    go_wp2_with (go_at_call 34;refine(hM _).mono ?_;rintro e w3 ⟨rfl,hb3⟩)
    go_ret
    exact⟨by rw[<- hans.out,(hbad.out (by simp[a3y,e1.out])).out];rfl,q3z (q1z hb _) hb3⟩
   ·have hM:=fun w=>d2u x w e1
    replace e1:Hid _:=e1
    go_wp2_with (go_at_call 34;refine(hM _).mono ?_;rintro e w3 ⟨rfl,hb3⟩;have v0:=c9w (i:=0) hb3 rfl;have v1:=c9w (i:=1) hb3 rfl;have p3:=q0z hb3 ((Below.heap_alloc _ _ _ hl0).trans hp);have f3:=q0z hb3 ((Below.heap_alloc _ _ _ hl9).trans hf);have d0':=a1e p3 (i:=0) rfl;refine Hid.out ?_)
    replace hb:=q3z (q1z hb _) hb3
    clear t0 t1 t2 hb3 hM d0 c0 c1 c2 c3
    refine Lib.hid ?_
    cases e4:(x.k == 4)
    ·cases e5:(x.k == 5)
     ·go_wp2
      go_roundw
      case rel=>exact⟨m+1,hlt,by simp,(hnext.out (by simp[a3y,e1.out,e4,e5])),p3,f3,hb⟩
      case measure=>simp[intOf];omega
     ·cases e6:decide ((n:Int)<=x.n)
      ·go_wp2
       go_roundw
       case rel=>exact⟨m+1,hlt,by simp,(hnext.out (by simp[a3y,e1.out,e4,e5,e6])),p3,f3,hb⟩
       case measure=>simp[intOf];omega
      ·go_wp2
       go_ret
       exact⟨by rw[<- hans.out,(hbad.out (by simp[a3y,e1.out,e4,e5,e6])).out];rfl,hb⟩
    ·go_wp2
     go_ret
     exact⟨by rw[<- hans.out,(hbad.out (by simp[a3y,e1.out,e4])).out];rfl,hb⟩
  ·obtain rfl:m=f.cs.length:=by omega
   replace hans:Hid (b0u f=ans):=by
    have:=hans.out
    rw[a5h hG.out]at this
    exact this
   clear hG hrowc
   go_wp2
   clear c2 c3 d0 c0 c1 hl0 hl9
   go_loopw [8] (fun i ws=>∃m:Nat,m<=f.is.length/\i=vi m/\Hid (a5z (fun i x=>a1r f x i) f.is m)/\ws.heap[w.heap.size+1]?=some (.cells #[vi f.p,vi f.r,.slice f.ca f.cs.length f.cc,.slice (some (Ad b off)) f.is.length f.ic] 43)/\Bw w ws) (fun i _=>f.is.length-(intOf i).toNat)
   case atStart=>exact⟨0,Nat.zero_le _,rfl,a5z.zero,hf,hb⟩
   case round =>
    clear hp hf hb
    obtain⟨m,hm,rfl,hG,hf,hb⟩:=hrel
    have c0:wr.cell? (Ad (w.heap.size+1) 0)=some (vi f.p):=a1e hf rfl
    have c1:wr.cell? (Ad (w.heap.size+1) 1)=some (vi f.r):=a1e hf rfl
    have c2:wr.cell? (Ad (w.heap.size+1) 2)=some (.slice f.ca f.cs.length f.cc):=a1e hf rfl
    have c3:wr.cell? (Ad (w.heap.size+1) 3)=some (.slice (some (Ad b off)) f.is.length f.ic):=a1e hf rfl
    by_cases hlt:m<f.is.length
    ·obtain⟨x,hx⟩:∃x,f.is[m]?=some x:=⟨f.is[m],by simp[hlt]⟩
     obtain⟨t0,t1,t2,t3⟩:=(hel.out m x hx).below hb hbl
     have hbad:a1r f x m=false->Hid (b0u f=false):=fun h=>by
      unfold b0u;rw[a8m (p:=fun i x=>a1r f x i) hx h];exact rfl
     have hnext:a1r f x m=true->Hid (a5z (fun i x=>a1r f x i) f.is (m+1)):=fun h=>a5z.next (p:=fun i x=>a1r f x i) hx h hG.out
     replace hbad:Hid _:=hbad
     replace hnext:Hid _:=hnext
     have hI:=hC.out x m
     clear hx hG
     have s0:(m:Int)<(f.is.length:Int):=by omega
     cases e1:a1r f x m
     ·rw[e1]at hI
      replace e1:Hid _:=e1
      go_wp2
      go_region_held3 (fun u=>u.cell? (Ad (w.heap.size+1) 0)=some (vi f.p)/\u.cell? (Ad (w.heap.size+1) 1)=some (vi f.r)/\u.cell? (Ad (w.heap.size+1) 2)=some (.slice f.ca f.cs.length f.cc)/\u.cell? (Ad (w.heap.size+1) 3)=some (.slice (some (Ad b off)) f.is.length f.ic)/\u.cell? (Ad b (off+m*4))=some (vi x.op)/\u.cell? (Ad b (off+m*4+1))=some (vi x.a)/\u.cell? (Ad b (off+m*4+2))=some (vi x.b)/\u.cell? (Ad b (off+m*4+3))=some (vi x.c)) (go_keep) ((go_at_call 35;refine(hI _).mono ?_;rintro e w3 ⟨rfl,hb3⟩;have f3:=q0z hb3 (show wr.drew.heap[w.heap.size+1]?=_ from hf);have b3:=q3z hb.drew hb3;have c0:=a1e f3 (i:=0) rfl;have c1:=a1e f3 (i:=1) rfl;have c2:=a1e f3 (i:=2) rfl;have c3:=a1e f3 (i:=3) rfl;have t0:=cellB hb3 (show wr.drew.cell? _=_ from t0);have t1:=cellB hb3 (show wr.drew.cell? _=_ from t1);have t2:=cellB hb3 (show wr.drew.cell? _=_ from t2);have t3:=cellB hb3 (show wr.drew.cell? _=_ from t3)))
      go_wp2
      go_ret
      exact⟨by rw[<- hans.out,(hbad.out e1.out).out];rfl,b3⟩
     ·rw[e1]at hI
      replace e1:Hid _:=e1
      go_wp2
      go_region_held3 (fun u=>u.cell? (Ad (w.heap.size+1) 0)=some (vi f.p)/\u.cell? (Ad (w.heap.size+1) 1)=some (vi f.r)/\u.cell? (Ad (w.heap.size+1) 2)=some (.slice f.ca f.cs.length f.cc)/\u.cell? (Ad (w.heap.size+1) 3)=some (.slice (some (Ad b off)) f.is.length f.ic)/\u.cell? (Ad b (off+m*4))=some (vi x.op)/\u.cell? (Ad b (off+m*4+1))=some (vi x.a)/\u.cell? (Ad b (off+m*4+2))=some (vi x.b)/\u.cell? (Ad b (off+m*4+3))=some (vi x.c)) (go_keep) ((go_at_call 35;refine(hI _).mono ?_;rintro e w3 ⟨rfl,hb3⟩;have f3:=q0z hb3 (show wr.drew.heap[w.heap.size+1]?=_ from hf);have b3:=q3z hb.drew hb3;have c0:=a1e f3 (i:=0) rfl;have c1:=a1e f3 (i:=1) rfl;have c2:=a1e f3 (i:=2) rfl;have c3:=a1e f3 (i:=3) rfl;have t0:=cellB hb3 (show wr.drew.cell? _=_ from t0);have t1:=cellB hb3 (show wr.drew.cell? _=_ from t1);have t2:=cellB hb3 (show wr.drew.cell? _=_ from t2);have t3:=cellB hb3 (show wr.drew.cell? _=_ from t3)))
      go_wp2
      go_roundw
      case rel=>exact⟨m+1,hlt,by simp,(hnext.out e1.out),f3,b3⟩
      case measure=>simp[intOf];omega
    ·obtain rfl:m=f.is.length:=by omega
     obtain⟨x,hx⟩:∃x,f.is[f.is.length-1]?=some x:=⟨f.is[f.is.length-1],List.getElem?_eq_getElem (by omega)⟩
     obtain⟨t0,t1,t2,t3⟩:=(hel.out _ x hx).below hb hbl
     have he:b0u f=b3m x:=by unfold b0u;rw[a5h hG.out,hx];rfl
     replace he:Hid _:=he
     clear hx hG hel
     have hi:((f.is.length:Int)-1).toNat=f.is.length-1:=by omega
     have hi2:(0:Int)<=(f.is.length:Int)-1:=by omega
     have hi3:(f.is.length:Int)-1<(f.is.length:Int):=by omega
     have hi4:wrap64 ((f.is.length:Int)-1)=(f.is.length:Int)-1:=b3l (by omega) (by omega)
     cases e1:(x.op == 12)
     ·cases e2:(x.op == 8)
      ·cases e3:(x.op == 10)
       ·go_wp2
        go_ret
        exact⟨by rw[<- hans.out,he.out];simp[b3m,e1,e2,e3],hb⟩
       ·go_wp2
        go_ret
        exact⟨by rw[<- hans.out,he.out];simp[b3m,e1,e2,e3],hb⟩
      ·go_wp2
       go_ret
       exact⟨by rw[<- hans.out,he.out];simp[b3m,e1,e2],hb⟩
     ·go_wp2
      go_ret
      exact⟨by rw[<- hans.out,he.out];simp[b3m,e1],hb⟩
theorem d6b(a:Option Addr)(n c:Nat)(main:Int)(f:Fd)(w:World)(hF:FdIn w.heap.size w f) :
  Cl 15 #[PV a n c main,f.v] w fun e z=>e=.returned (.bool (fnB n f))/\Bw w z:=by
 have key:∀b:Bool,fnB n f=b->(Cl 15 #[PV a n c main,f.v] w fun e z=>e=.returned (.bool b)/\Bw w z)->Cl 15 #[PV a n c main,f.v] w fun e z=>e=.returned (.bool (fnB n f))/\Bw w z:=by
  intro b y h;rw[y];exact h
 have hd:a7w f=false->fnB n f=false:=fun h=>by unfold fnB;rw[h];rfl
 by_cases h0:f.p<0
 ·exact key false (hd (by simp[a7w,frB];omega)) (d8i a n c main f w h0)
 by_cases h1:5<f.p
 ·exact key false (hd (by simp[a7w,frB];omega)) (d8j a n c main f w h0 h1)
 by_cases h2:f.r<1
 ·exact key false (hd (by simp[a7w,frB];omega)) (d8k a n c main f w h0 h1 h2)
 by_cases h3:250<f.r
 ·exact key false (hd (by simp[a7w,frB];omega)) (d8l a n c main f w h0 h1 h2 h3)
 by_cases h4:f.r<f.p
 ·exact key false (hd (by simp[a7w,frB];omega)) (d8m a n c main f w h0 h1 h2 h3 h4)
 by_cases h5:(700:Int)<(f.cs.length:Int)
 ·exact key false (hd (by simp[a7w,frB];omega)) (d8n a n c main f w h0 h1 h2 h3 h4 h5)
 by_cases h6:(f.is.length:Int)<1
 ·exact key false (hd (by simp[a7w,frB];omega)) (d8o a n c main f w h0 h1 h2 h3 h4 h5 h6)
 by_cases h7:(3000:Int)<(f.is.length:Int)
 ·exact key false (hd (by simp[a7w,frB];omega)) (d8p a n c main f w h0 h1 h2 h3 h4 h5 h6 h7)
 refine key _ ?_ (d2w a n c main f w hF h0 h1 h2 h3 h4 h5 h6 h7)
 have:a7w f=true:=by simp[a7w,frB];omega
 unfold fnB
 rw[this]
 rfl
theorem rc_0(a:Option Addr)(c:Nat)(fs:List Fd)(main:Int)(w:World)(h:(fs.length:Int)<1) :
  Cl 6 #[PV a fs.length c main] w fun e z=>e=.returned (.bool false)/\Bw w z:=by
 go_enter Tryz.func6,Tryz.ntmps6
 go_wp2
 go_ret
 refine⟨rfl,?_⟩
 repeat(first|exact bz0|refine q1z ?_ _)
theorem d8q(a:Option Addr)(c:Nat)(fs:List Fd)(main:Int)(w:World)(h:¬(fs.length:Int)<1)(h2:(12:Int)<(fs.length:Int)) :
  Cl 6 #[PV a fs.length c main] w fun e z=>e=.returned (.bool false)/\Bw w z:=by
 go_enter Tryz.func6,Tryz.ntmps6
 go_wp2
 go_ret
 refine⟨rfl,?_⟩
 repeat(first|exact bz0|refine q1z ?_ _)
theorem d8r(a:Option Addr)(c:Nat)(fs:List Fd)(main:Int)(w:World)(h:¬(fs.length:Int)<1)(h2:¬(12:Int)<(fs.length:Int))(h3:main<0) :
  Cl 6 #[PV a fs.length c main] w fun e z=>e=.returned (.bool false)/\Bw w z:=by
 go_enter Tryz.func6,Tryz.ntmps6
 go_wp2
 go_ret
 refine⟨rfl,?_⟩
 repeat(first|exact bz0|refine q1z ?_ _)
theorem d8s(a:Option Addr)(c:Nat)(fs:List Fd)(main:Int)(w:World)(h:¬(fs.length:Int)<1)(h2:¬(12:Int)<(fs.length:Int))(h3:¬main<0)(h4:(fs.length:Int)<=main) :
  Cl 6 #[PV a fs.length c main] w fun e z=>e=.returned (.bool false)/\Bw w z:=by
 go_enter Tryz.func6,Tryz.ntmps6
 go_wp2
 go_ret
 refine⟨rfl,?_⟩
 repeat(first|exact bz0|refine q1z ?_ _)
theorem d2x(b off c:Nat)(fs:List Fd)(main:Nat)(f:Fd)(w:World)(h:¬(fs.length:Int)<1)(h2:¬(12:Int)<(fs.length:Int))(hm:main<fs.length)
  (hb:b<w.heap.size) (hc:w.cell? (Ad b (off+main*4))=some (vi f.p)) (hel:∀j f,fs[j]?=some f->FAt w b (off+j*4) f/\FdIn w.heap.size w f) :
  Cl 6 #[PV (some (Ad b off)) fs.length c main] w fun e w'=>e=.returned (.bool ((f.p == 0)&&allB (fun _=>fnB fs.length) fs))/\Bw w w':=by
 have h3:¬(main:Int)<0:=by omega
 have h4:(main:Int)<(fs.length:Int):=by omega
 have hf0:=a9d w (.cells #[.slice (some (Ad b off)) fs.length c,vi main] 24)
 have hb0:Bw w (w.alloc (.cells #[.slice (some (Ad b off)) fs.length c,vi main] 24)):=q1z bz0 _
 obtain⟨ans,hans⟩:∃ans,((f.p == 0)&&allB (fun _=>fnB fs.length) fs)=ans:=⟨_,rfl⟩
 rw[hans]
 replace hans:Hid _:=hans
 replace hel:Hid _:=hel
 have hFn:∀(x:Fd) (W:World),FdIn W.heap.size W x->Cl 15 #[PV (some (Ad b off)) fs.length c main,x.v] W _:=fun x W hx=>d6b _ _ _ _ x W hx
 replace hFn:Hid _:=hFn
 go_enter Tryz.func6,Tryz.ntmps6
 go_wp2
 go_loopw [3] (fun i wr=>∃m:Nat,m<=fs.length/\i=vi m/\Hid (a5z (fun _=>fnB fs.length) fs m)/\wr.heap[w.heap.size]?=some (.cells #[.slice (some (Ad b off)) fs.length c,vi main] 24)/\Bw w wr) (fun i _=>fs.length-(intOf i).toNat)
 case atStart=>exact⟨0,Nat.zero_le _,rfl,a5z.zero,hf0,hb0⟩
 case round =>
  clear hf0 hb0
  obtain⟨m,hm',rfl,hG,hf,hbw⟩:=hrel
  have c0:wr.cell? (Ad w.heap.size 0)=some (.slice (some (Ad b off)) fs.length c):=a1e hf rfl
  have c1:wr.cell? (Ad w.heap.size 1)=some (vi main):=a1e hf rfl
  by_cases hlt:m<fs.length
  ·obtain⟨x,hx⟩:∃x,fs[m]?=some x:=⟨fs[m],by simp[hlt]⟩
   obtain⟨hFA,hFI⟩:=hel.out m x hx
   obtain⟨t0,t1,t2,t3⟩:=hFA.below hbw hb
   have hbad:fnB fs.length x=false->Hid (((f.p == 0)&&allB (fun _=>fnB fs.length) fs)=false):=fun h=>by
    rw[a8m (p:=fun _=>fnB fs.length) hx h,Bool.and_false];exact rfl
   have hnext:fnB fs.length x=true->Hid (a5z (fun _=>fnB fs.length) fs (m+1)):=fun h=>a5z.next hx h hG.out
   replace hbad:Hid _:=hbad
   replace hnext:Hid _:=hnext
   clear hx hG hFA
   have s0:(m:Int)<(fs.length:Int):=by omega
   have hC:=hFn.out x wr.drew (hFI.at hbw.drew)
   clear hFI
   cases e1:fnB fs.length x
   ·rw[e1]at hC
    replace e1:Hid _:=e1
    go_wp2
    go_region_held3 (fun u=>u.cell? (Ad w.heap.size 0)=some (.slice (some (Ad b off)) fs.length c)/\u.cell? (Ad w.heap.size 1)=some (vi main)/\u.cell? (Ad b (off+m*4))=some (vi x.p)/\u.cell? (Ad b (off+m*4+1))=some (vi x.r)/\u.cell? (Ad b (off+m*4+2))=some (.slice x.ca x.cs.length x.cc)/\u.cell? (Ad b (off+m*4+3))=some (.slice x.ia x.is.length x.ic)) (go_keep) ((go_at_call 15;refine hC.mono ?_;rintro e w3 ⟨rfl,hb3⟩;have f3:=q0z hb3 (show wr.drew.heap[w.heap.size]?=_ from hf);have b3:=q3z hbw.drew hb3;have c0:=a1e f3 (i:=0) rfl;have c1:=a1e f3 (i:=1) rfl;have t0:=cellB hb3 (show wr.drew.cell? _=_ from t0);have t1:=cellB hb3 (show wr.drew.cell? _=_ from t1);have t2:=cellB hb3 (show wr.drew.cell? _=_ from t2);have t3:=cellB hb3 (show wr.drew.cell? _=_ from t3)))
    go_wp2
    go_ret
    exact⟨by rw[<- hans.out,(hbad.out e1.out).out];rfl,b3⟩
   ·rw[e1]at hC
    replace e1:Hid _:=e1
    go_wp2
    go_region_held3 (fun u=>u.cell? (Ad w.heap.size 0)=some (.slice (some (Ad b off)) fs.length c)/\u.cell? (Ad w.heap.size 1)=some (vi main)/\u.cell? (Ad b (off+m*4))=some (vi x.p)/\u.cell? (Ad b (off+m*4+1))=some (vi x.r)/\u.cell? (Ad b (off+m*4+2))=some (.slice x.ca x.cs.length x.cc)/\u.cell? (Ad b (off+m*4+3))=some (.slice x.ia x.is.length x.ic)) (go_keep) ((go_at_call 15;refine hC.mono ?_;rintro e w3 ⟨rfl,hb3⟩;have f3:=q0z hb3 (show wr.drew.heap[w.heap.size]?=_ from hf);have b3:=q3z hbw.drew hb3;have c0:=a1e f3 (i:=0) rfl;have c1:=a1e f3 (i:=1) rfl;have t0:=cellB hb3 (show wr.drew.cell? _=_ from t0);have t1:=cellB hb3 (show wr.drew.cell? _=_ from t1);have t2:=cellB hb3 (show wr.drew.cell? _=_ from t2);have t3:=cellB hb3 (show wr.drew.cell? _=_ from t3)))
    go_wp2
    go_roundw
    case rel=>exact⟨m+1,hlt,by simp,(hnext.out e1.out),f3,b3⟩
    case measure=>simp[intOf];omega
  ·obtain rfl:m=fs.length:=by omega
   replace hans:Hid ((f.p == 0)=ans):=by
    have:=hans.out
    rw[a5h (p:=fun _=>fnB fs.length) hG.out,Bool.and_true]at this
    exact this
   have hc':=(hbw.cell (p:=(Ad b (off+main*4))) hb).trans hc
   clear hc hG
   go_wp2
   go_ret
   exact⟨by rw[<- hans.out];rfl,hbw⟩
theorem c4p(a:Option Addr)(c:Nat)(fs:List Fd)(main:Int)(w:World)(hr:RowF w.heap.size w a fs) :
  Cl 6 #[PV a fs.length c main] w fun e z=>e=.returned (.bool (a9x fs main))/\Bw w z:=by
 have key:∀b:Bool,a9x fs main=b->(Cl 6 #[PV a fs.length c main] w fun e z=>e=.returned (.bool b)/\Bw w z)->Cl 6 #[PV a fs.length c main] w fun e z=>e=.returned (.bool (a9x fs main))/\Bw w z:=by
  intro b v h;rw[v];exact h
 by_cases h1:fs.length<1
 ·exact key false (by
            have h:¬1<=fs.length:=by omega
            simp[a9x,h]) (rc_0 a c fs main w (by omega))
 by_cases h2:12<fs.length
 ·exact key false (by
            have h:¬fs.length<=12:=by omega
            simp[a9x,h]) (d8q a c fs main w (by omega) (by omega))
 by_cases h3:main<0
 ·exact key false (by
            have h:belB main fs.length=false:=by simp[belB];omega
            simp[a9x,h]) (d8r a c fs main w (by omega) (by omega) h3)
 by_cases h4:(fs.length:Int)<=main
 ·exact key false (by
            have h:belB main fs.length=false:=by simp[belB];omega
            simp[a9x,h]) (d8s a c fs main w (by omega) (by omega) h3 h4)
 have h5:belB main fs.length=true:=by simp[belB];omega
 obtain⟨n,rfl⟩:∃n:Nat,main=n:=⟨main.toNat,by omega⟩
 have hn:n<fs.length:=by omega
 obtain⟨b,x,rfl,v,y⟩:=hr.2 (by intro e;subst e;simp at hn)
 obtain⟨f,hf⟩:∃f,fs[n]?=some f:=⟨fs[n],by simp[hn]⟩
 have u:b7k fs n=(f.p == 0):=by simp[b7k,hf]
 refine key _ ?_ (d2x b x c fs n f w (by omega) (by omega) hn v (y n f hf).1.p y)
 have s:decide (1<=fs.length)=true:=by simp;omega
 have t:decide (fs.length<=12)=true:=by simp;omega
 unfold a9x
 rw[s,t,h5,u]
 rfl
end
end Go.Proofs.YtomniogfpfbolaaGreatDoor.V
