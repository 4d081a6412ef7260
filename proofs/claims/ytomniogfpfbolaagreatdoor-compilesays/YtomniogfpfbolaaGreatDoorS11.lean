import Derived.Test.YtomniogfpfbolaaGreatDoorS08
import Derived.Test.YtomniogfpfbolaaGreatDoorS02
import Derived.Deep.AppendLies
namespace Go.Proofs.YtomniogfpfbolaaGreatDoor
open Go.RowKit Go
set_option maxRecDepth 100000
set_option maxHeartbeats 8000000
set_option linter.all false
variable {W W' w:World} {B i C m base:Nat} {c tm:Array Value} {t:ByteArray} {z:Nat×Nat} {v:Value} {o:Obj} {k a e:Int} {l r:List UInt8} {xs:List Value}
theorem q7z{t:TypeId}(v:Value)(h:W.heap[B]?=some (.cells c t z)):(W.setCell (Ad B i) v).heap[B]?=some (.cells (c.setIfInBounds i v) t z):=by
 obtain⟨y,x⟩:=Array.getElem?_eq_some_iff.1 h
 show(W.heap.modify B _)[B]?=_
 rw[Array.getElem?_eq_getElem (by rw[Array.size_modify];exact y),Array.getElem_modify_self,x]
 rfl
theorem q2z{t:TypeId}(h:W.heap[B]?=some (.cells c t z))(hv:c[i]?=some v):W.cell? (Ad B i)=some v:=by
 simp[World.cell?,h,hv]
theorem q6z{t:TypeId}(h:W.heap[B]?=some (.cells c t)):W.frozen? (Ad B i)=false:=by
 simp[World.frozen?,h]
theorem q4z(o':Obj)(h:W.heap[B]?=some o):(W.alloc o').heap[B]?=some o:=(Below.heap_alloc _ _ _ (Array.getElem?_eq_some_iff.1 h).1).trans h
theorem q0z(hb:Bw W W')(h:W.heap[B]?=some o):W'.heap[B]?=some o:=(hb.block B (Array.getElem?_eq_some_iff.1 h).1).trans h
theorem q5z(h:W.heap[B]?=some o):B<W.heap.size:=(Array.getElem?_eq_some_iff.1 h).1
theorem q8z(W:World)(v:Value)(h:C≠B):(W.setCell (Ad B i) v).heap[C]?=W.heap[C]?:=Below.heap_setCell _ (Ad B i) _ C h
theorem a0a(w:World)(o:Obj):(w.alloc o).heap[w.heap.size]?=some o:=by
 show(w.heap.push o)[w.heap.size]?=some o
 simp
abbrev tokv (k:Int) (t:ByteArray) (a:Int):Value:=.agg #[vi k,.string t,vi a]
abbrev tbx (k:Int) (t:ByteArray) (a:Int):Obj:=.cells #[vi k,.string t,vi a] 85
abbrev a2r:Obj:=tbx 0 ⟨#[]⟩ 0
structure In3 (W:World) (B:Nat) (k:Int) (t:ByteArray) (a:Int):Prop where
 c0:W.cell? (Ad B 0)=some (vi k)
 c1:W.cell? (Ad B 1)=some (.string t)
 c2:W.cell? (Ad B 2)=some (vi a)
 f0:W.frozen? (Ad B 0)=false
 f1:W.frozen? (Ad B 1)=false
 f2:W.frozen? (Ad B 2)=false
theorem in3(h:W.heap[B]?=some (tbx k t a)):In3 W B k t a:=⟨q2z h rfl,q2z h rfl,q2z h rfl,q6z h,q6z h,q6z h⟩
abbrev put3 (W:World) (B:Nat) (k:Int) (t:ByteArray) (a:Int):World:=((W.setCell (Ad B 0) (vi k)).setCell (Ad B 1) (.string t)).setCell (Ad B 2) (vi a)
theorem put3_same(k':Int)(t':ByteArray)(a':Int)(h:W.heap[B]?=some (tbx k t a)):(put3 W B k' t' a').heap[B]?=some (tbx k' t' a'):=q7z _ (q7z _ (q7z _ h))
theorem put3_below(k:Int)(t:ByteArray)(a:Int)(h:Below m w W)(hB:m<=B):Below m w (put3 W B k t a):=((h.setCell (p:=(Ad B 0)) hB _).setCell (p:=(Ad B 1)) hB _).setCell (p:=(Ad B 2)) hB _
theorem d7k(h:tm[4]?.getD undef=Po B 0)(hx:W.heap[B]?=some (tbx k t a)):(results Tryz.f122 tm).run Tryz.prog W=.ok (tokv k t a) W:=by
 obtain⟨c0,c1,c2,_,_,_⟩:=in3 hx
 simp[results,Tryz.results122,go_sem,h,c0,c1,c2]
theorem a5o(k:Int)(s:ByteArray)(hs:s.size<=4000)(w:World) :
  Cl 122 #[vi k,.string s] w fun e v=>e=.returned (tokv k s 0)/\Bw w v:=by
 have r:=fun u=>Tryz.stringslite_Clone s u (by omega)
 have t:=a0a w a2r
 have y:Bw w (w.alloc a2r):=bz0.alloc (Nat.le_refl _) _
 go_enter Tryz.func122,Tryz.ntmps122
 go_wp2_with (first|(go_at_call 135;go_in)|(go_at_call 152;refine(r _).mono ?_;rintro e w1 ⟨rfl,x⟩;have z:=q0z x t;obtain⟨c0,c1,c2,f0,f1,f2⟩:=in3 z))
 exact bodyPost_ret (d7k rfl (put3_same k s 0 z)) rfl ⟨rfl,put3_below _ _ _ (y.trans (x.mono y.size)) (Nat.le_refl _)⟩
theorem a7q(s:ByteArray)(k:Nat):(s.extract k s.size).data.toList=s.data.toList.drop k:=by
 simp only[ByteArray.data_extract,Array.toList_extract]
 rw[List.extract_eq_take_drop,List.take_of_length_le (by simp)]
theorem a9q(s:ByteArray)(k:Nat):(s.extract 0 k).data.toList=s.data.toList.take k:=by
 simp[ByteArray.data_extract]
theorem a6p(s:ByteArray)(a b:Nat):(s.extract a b).data.toList=(s.data.toList.drop a).take (b-a):=by
 simp[ByteArray.data_extract]
theorem pre1(l:List UInt8)(c:UInt8):Lib.hasPrefix l [c]=decide (l.head?=some c):=by
 cases l with
 | nil=>rfl
 | cons d r =>
  by_cases h:c=d
  ·subst h;simp[Lib.hasPrefix,List.isPrefixOf]
  ·have z:¬d=c:=fun e=>h e.symm
   simp[Lib.hasPrefix,List.isPrefixOf,h,z]
theorem pre2(l:List UInt8)(c d:UInt8):Lib.hasPrefix l [c,d]=decide (l.take 2=[c,d]):=by
 match l with
 | []=>rfl
 | [x]=>simp[Lib.hasPrefix,List.isPrefixOf]
 | x::y::r =>
  by_cases h:c=x
  ·subst h
   by_cases k:d=y
   ·subst k;simp[Lib.hasPrefix,List.isPrefixOf]
   ·have z:¬y=d:=fun e=>k e.symm
    simp[Lib.hasPrefix,List.isPrefixOf,k,z]
  ·have w:¬x=c:=fun e=>h e.symm
   simp[Lib.hasPrefix,List.isPrefixOf,h,w]
theorem b5m(w:World):Cl 99 #[.int .u8 10] w fun e z=>e=.returned (.func (.func 119) #[] #[Po w.heap.size 0])/\z=w.alloc (.cells #[.int .u8 10] 5):=by
 have hmf:=hmf
 go_enter Tryz.func99,Tryz.ntmps99
 go_wp2
 go_ret
 exact⟨rfl,rfl⟩
theorem a8k(v:Value)(w:World)(hv:∃a n c,v=.slice a n c):Cl 102 #[v] w fun e z=>e=.returned (.func (.func 121) #[] #[Po w.heap.size 0])/\z=w.alloc (.cells #[v] 162):=by
 have hmf:=hmf
 obtain⟨a,n,c,rfl⟩:=hv
 go_enter Tryz.func102,Tryz.ntmps102
 go_wp2
 go_ret
 exact⟨rfl,rfl⟩
theorem c1f(l:List UInt8) :
  (Lib.hasPrefix l [32]=true/\gap1 l=1)\/(Lib.hasPrefix l [32]=false/\Lib.hasPrefix l [10]=true/\gap1 l=1) \/
  (Lib.hasPrefix l [32]=false/\Lib.hasPrefix l [10]=false/\Lib.hasPrefix l [45,45]=true/\gap1 l=runN a3r l/\0<gap1 l) \/
  (Lib.hasPrefix l [32]=false/\Lib.hasPrefix l [10]=false/\Lib.hasPrefix l [45,45]=false/\gap1 l=0):=by
 rw[pre1,pre1,pre2]
 match l with
 | []=>simp[gap1]
 | c::r =>
  by_cases h1:c=32
  ·subst h1;simp[gap1]
  by_cases h2:c=10
  ·subst h2;simp[gap1]
  have x:¬c.toNat=32:=fun k=>h1 (UInt8.toNat_inj.1 k)
  have z:¬c.toNat=10:=fun k=>h2 (UInt8.toNat_inj.1 k)
  by_cases h3:(c::r).take 2=[45,45]
  ·have h4:c=45/\r.head?=some 45:=by
    cases r with
    | nil=>simp at h3
    | cons d r=>simpa using h3
   have h5:gap1 (c::r)=runN a3r (c::r):=by
    unfold gap1
    simp only
    rw[if_neg (by omega),if_pos ⟨by rw[h4.1];rfl,h4.2⟩]
   have y:0<runN a3r (c::r):=by simp[runN,a3r,z]
   right;right;left
   exact⟨by simp[h1],by simp[h2],by simp only[h3,decide_true],h5,by rw[h5];exact y⟩
  ·right;right;right
   refine⟨by simp[h1],by simp[h2],by simp only[h3,decide_false],?_⟩
   unfold gap1
   simp only
   rw[if_neg (by omega),if_neg]
   rintro⟨h4,h5⟩
   have:c=45:=UInt8.toNat_inj.1 h4
   cases r with
   | nil=>simp at h5
   | cons d r=>simp at h5;simp[this,h5]at h3
theorem c1g(s:ByteArray)(hs:s.size<=4000)(w:World) :
  Cl 75 #[.string s] w fun e w'=>e=.returned (vi (gapN s.data.toList:Nat))/\Bw w w':=by
 have hmf:=hmf
 have hr:=a0a w (.cells #[.int .u8 10] 5)
 have hb0:Bw w (w.alloc (.cells #[.int .u8 10] 5)):=bz0.alloc (Nat.le_refl _) _
 have hl:s.data.toList.length=s.size:=by simp
 replace hl:Hid _:=hl
 go_enter Tryz.func75,Tryz.ntmps75
 go_wp2_with (go_at_call 99;refine(b5m _).mono ?_;rintro e w' ⟨rfl,rfl⟩)
 go_loopw [4] (fun i wr=>∃k:Nat,k<=s.size/\i=vi k/\Bw w wr/\wr.heap[w.heap.size]?=some (.cells #[.int .u8 10] 5)/\gapN s.data.toList=k+gapN (s.data.toList.drop k)) (fun i _=>s.size-(intOf i).toNat)
 case atStart=>exact⟨0,Nat.zero_le _,rfl,hb0,hr,by simp⟩
 case round =>
  clear hr hb0
  obtain⟨k,hk,rfl,hb,hr,hg⟩:=hrel
  have hz:(s.extract k s.size).size<=4000:=by simp;omega
  have hd:=a7q s k
  have hS:Says wr 119 (Po w.heap.size 0) a3r:=fun x w1 h1=>b2z _ x w1 (q2z (q0z h1 hr) rfl)
  have hR:=d4f (s.extract k s.size) hz _ a3r wr hS
  have hd':=a6p s k s.size
  have h0:=c1f (s.extract k s.size).data.toList
  rw[hd']at h0
  have hq:(s.data.toList.drop k).take (s.size-k)=s.data.toList.drop k:=by rw[<- hd',hd]
  have hle:gap1 (s.data.toList.drop k)<=s.size-k:=by
   have:=a7e (s.data.toList.drop k)
   simp at this
   omega
  rw[hd]at hR
  have hsu:=fun h=>a9o (l:=s.data.toList.drop k) h
  have hze:=fun h=>a9n (l:=s.data.toList.drop k) h
  rw[List.drop_drop]at hsu
  have hg':Hid ((gap1 (s.data.toList.drop k)≠0->gapN s.data.toList=(k+gap1 (s.data.toList.drop k))+gapN (s.data.toList.drop (k+gap1 (s.data.toList.drop k))))/\(gap1 (s.data.toList.drop k)=0->gapN s.data.toList=k)) :=
   ⟨fun h=>by rw[hg,hsu h];omega,fun h=>by rw[hg,hze h];omega⟩
  clear hg hsu hze hd hd' hS
  have hq':Hid _:=hq
  have hle':Hid _:=hle
  clear hq hle
  rcases h0 with⟨e1,e2⟩|⟨e1,e2,e3⟩|⟨e1,e2,e3,e4,e5⟩|⟨e1,e2,e3,e4⟩
  ·rw[hq'.out]at e2
   replace e2:Hid _:=e2
   go_wp2_with (go_at_call 100;refine(Tryz.strings_HasPrefix _ _ _).mono ?_;rintro e w' ⟨rfl,rfl⟩)
   have h1:=e2.out
   have h2:=hle'.out
   have h3:=hg'.out.1 (by omega)
   rw[h1]at h3
   go_roundw
   case rel=>exact⟨k+1,by omega,by go_num,hb,hr,h3⟩
   case measure=>simp[intOf];omega
  ·rw[hq'.out]at e3
   replace e3:Hid _:=e3
   go_wp2_with (go_at_call 100;refine(Tryz.strings_HasPrefix _ _ _).mono ?_;rintro e w' ⟨rfl,rfl⟩)
   have h1:=e3.out
   have h2:=hle'.out
   have h3:=hg'.out.1 (by omega)
   rw[h1]at h3
   go_roundw
   case rel=>exact⟨k+1,by omega,by go_num,hb,hr,h3⟩
   case measure=>simp[intOf];omega
  ·rw[hq'.out]at e4 e5
   have h1:=hle'.out
   have h2:=hg'.out.1 (by omega)
   rw[e4]at h1 h2 e5
   replace h2:Hid _:=h2
   replace hg':Hid _:=hg'
   clear e4
   obtain⟨n,hn⟩:=exq (runN a3r (s.data.toList.drop k))
   rw[hn]at h1 h2 e5 hR
   clear hn
   go_wp2_with (first|(go_at_call 100;refine(Tryz.strings_HasPrefix _ _ _).mono ?_;rintro e w' ⟨rfl,rfl⟩)|(go_at_call 101;refine hR.mono ?_;rintro e w2 ⟨rfl,hb2⟩))
   go_roundw
   case rel=>exact⟨k+n,by omega,by go_num,q3z hb hb2,q0z hb2 hr,h2.out⟩
   case measure=>simp[intOf];omega
  ·rw[hq'.out]at e4
   replace e4:Hid _:=e4
   go_wp2_with (go_at_call 100;refine(Tryz.strings_HasPrefix _ _ _).mono ?_;rintro e w' ⟨rfl,rfl⟩)
   go_ret
   exact⟨a3l (by rw[hg'.out.2 e4.out]),hb⟩
abbrev outV (k:Int) (t:ByteArray) (n:Nat) (e:Int):Value:=.tuple #[tokv k t 0,vi n,vi e]
def outR:TokR->Value
 | .inl e=>outV 0 ⟨#[]⟩ 0 e
 | .inr (k,t,n)=>outV k ⟨t.toArray⟩ n 0
theorem a9r(s:ByteArray):(⟨s.data.toList.toArray⟩:ByteArray)=s:=by
 obtain⟨⟨l⟩⟩:=s
 simp
theorem b3e(l:List UInt8)(c:UInt8):Lib.indexByte l c<0↔l.contains c=false:=by
 induction l with
 | nil=>simp[Lib.indexByte]
 | cons b l ih =>
  have y:=Lib.indexByte_ge l c
  rw[Lib.indexByte,List.contains_cons]
  by_cases h:(b == c)=true
  ·have z:(c == b)=true:=by simp at h⊢;exact h.symm
   simp[h,z]
  ·have z:(c == b)=false:=by simp at h⊢;exact fun e=>h e.symm
   have hf:(b == c)=false:=by simpa using h
   rw[hf,z,Bool.false_or,<- ih]
   simp only[Bool.false_eq_true,if_false]
   by_cases k:Lib.indexByte l c=-1
   ·simp[k]
   ·have:(Lib.indexByte l c == -1)=false:=by simpa using k
    rw[this]
    simp only[Bool.false_eq_true,if_false]
    omega
theorem c6h(l:List UInt8)(c:UInt8):Lib.indexByte l c<=l.length:=by
 induction l with
 | nil=>simp[Lib.indexByte]
 | cons b l ih =>
  rw[Lib.indexByte]
  split
  ·simp;omega
  ·split
   ·simp;omega
   ·simp;omega
theorem c1h{n:Int}(h:tm[2]?.getD undef=Po B 0)(h3:tm[3]?.getD undef=vi n)(h4:tm[4]?.getD undef=vi e)(hx:W.heap[B]?=some (tbx k t a)):(results Tryz.f105 tm).run Tryz.prog W=.ok (.tuple #[tokv k t a,vi n,vi e]) W:=by
 obtain⟨c0,c1,c2,_,_,_⟩:=in3 hx
 simp[results,Tryz.results105,go_sem,h,h3,h4,c0,c1,c2]
theorem b1a(c:UInt8)(r:List UInt8) :
  (Lib.hasPrefix (c::r) [61,61]=true/\a3i (c::r)=2/\(c::r).take 2=[61,61]) \/
  (Lib.hasPrefix (c::r) [61,61]=false/\Lib.hasPrefix (c::r) [60,61]=true/\a3i (c::r)=2/\(c::r).take 2=[60,61]) \/
  (Lib.hasPrefix (c::r) [61,61]=false/\Lib.hasPrefix (c::r) [60,61]=false/\Lib.hasPrefix (c::r) [46,46]=true/\a3i (c::r)=2/\(c::r).take 2=[46,46]) \/
  (Lib.hasPrefix (c::r) [61,61]=false/\Lib.hasPrefix (c::r) [60,61]=false/\Lib.hasPrefix (c::r) [46,46]=false /\
   ((Lib.indexByte a5c c<0/\a3i (c::r)=0)\/(0<=Lib.indexByte a5c c/\a3i (c::r)=1))):=by
 rw[pre2,pre2,pre2]
 by_cases h1:(c::r).take 2=[61,61]
 ·left
  exact⟨decide_eq_true h1,by simp only[a3i,a5x,h1,decide_true,Bool.true_or,if_true],h1⟩
 by_cases h2:(c::r).take 2=[60,61]
 ·right;left
  exact⟨decide_eq_false h1,decide_eq_true h2,by simp only[a3i,a5x,h2,decide_true,Bool.true_or,Bool.or_true,if_true],h2⟩
 by_cases h3:(c::r).take 2=[46,46]
 ·right;right;left
  exact⟨decide_eq_false h1,decide_eq_false h2,decide_eq_true h3,by simp only[a3i,a5x,h3,decide_true,Bool.or_true,if_true],h3⟩
 right;right;right
 refine⟨decide_eq_false h1,decide_eq_false h2,decide_eq_false h3,?_⟩
 have z:a5x (c::r)=false:=by
  unfold a5x
  rw[decide_eq_false h1,decide_eq_false h2,decide_eq_false h3]
  rfl
 have hn:=b3e a5c c
 simp only[a3i,z]
 cases hc:a5c.contains c
 ·left
  exact⟨hn.2 hc,by simp⟩
 ·right
  refine⟨?_,by simp⟩
  by_cases k:Lib.indexByte a5c c<0
  ·rw[hn.1 k]at hc;cases hc
  ·omega
theorem b8s(x:UInt8)(u:World):Cl 124 #[.string ⟨#[40,41,123,125,91,93,44,59,61,60,43,45,42,47,37,35]⟩,.int .u8 (x.toNat:Int)] u fun e z=>e=.returned (vi (Lib.indexByte a5c x))/\z=u:=by
 have h:=Tryz.strings_IndexByte ⟨#[40,41,123,125,91,93,44,59,61,60,43,45,42,47,37,35]⟩ (x.toNat:Int) u
 have e:((x.toNat:Int)).toNat.toUInt8=x:=by
  rw[Int.toNat_natCast];exact UInt8.ofNat_toNat
 rw[e]at h
 exact h
theorem a7r(s:ByteArray)(h:0<s.size):∃c r,s.data.toList=c::r/\s[0]=c/\∀k,s.data.toList.take (k+1)=c::r.take k:=by
 obtain⟨⟨l⟩⟩:=s
 cases l with
 | nil=>simp[ByteArray.size]at h
 | cons c r=>exact⟨c,r,rfl,rfl,fun k=>rfl⟩
def b1x (l:List UInt8):Value:=if a3i l=0 then outV 0 ⟨#[]⟩ 0 2 else outV 4 ⟨(l.take (a3i l)).toArray⟩ (a3i l) 0
theorem a6q{t:List UInt8}{n:Nat}(h:a3i l=n+1)(ht:l.take (n+1)=t):b1x l=outV 4 ⟨t.toArray⟩ (n+1) 0:=by
 unfold b1x
 rw[h,ht]
 rfl
theorem b8t(h:a3i l=0):b1x l=outV 0 ⟨#[]⟩ 0 2:=by
 unfold b1x
 rw[h]
 rfl
abbrev c1i:Value:=.agg #[.string ⟨#[61,61]⟩,.string ⟨#[60,61]⟩,.string ⟨#[46,46]⟩]
theorem idx0(w:World):(Instr.index 168 c1i (vi 0)).run Tryz.prog w=.ok (.string ⟨#[61,61]⟩) w:=by
 simp[Instr.index,run_underlying Tryz.underlying168,asIntOf,go_sem]
theorem idx1(w:World):(Instr.index 168 c1i (vi 1)).run Tryz.prog w=.ok (.string ⟨#[60,61]⟩) w:=by
 simp[Instr.index,run_underlying Tryz.underlying168,asIntOf,go_sem]
theorem idx2(w:World):(Instr.index 168 c1i (vi 2)).run Tryz.prog w=.ok (.string ⟨#[46,46]⟩) w:=by
 simp[Instr.index,run_underlying Tryz.underlying168,asIntOf,go_sem]
theorem c6i(s:ByteArray)(hs:s.size<=4000)(h0:0<s.size)(w:World) :
  Cl 105 #[.string s] w fun e x=>e=.returned (b1x s.data.toList)/\Bw w x:=by
 obtain⟨c,r,a,hc,g⟩:=a7r s h0
 have z6:Hid (s.data.toList.take 1=[c]):=g 0
 clear g
 have hC:=b1a c r
 rw[<- a]at hC
 have z4:Hid _:=a
 clear a
 have i0:=idx0
 have i1:=idx1
 have i2:=idx2
 have hr:=a0a w a2r
 have z9:Bw w (w.alloc a2r):=bz0.alloc (Nat.le_refl _) _
 have v:=q4z (.cells #[.string ⟨#[61,61]⟩,.string ⟨#[60,61]⟩,.string ⟨#[46,46]⟩] 168) hr
 have t:=q1z z9 (.cells #[.string ⟨#[61,61]⟩,.string ⟨#[60,61]⟩,.string ⟨#[46,46]⟩] 168)
 rcases hC with⟨e1,f,h⟩|⟨e1,f,h,q⟩|⟨e1,f,h,q,e5⟩|⟨e1,f,h,q⟩
 ·have n:=fun u=>a5o 4 ⟨#[61,61]⟩ (by decide) u
  have z7:Hid _:=f
  have i:Hid _:=h
  clear f h
  go_enter Tryz.func105,Tryz.ntmps105
  go_wp2
  refine wp_loop_rounds 4 ?_
  rw[rounds_succ]
  go_wp2_with (first|(go_at_call 100;refine(Tryz.strings_HasPrefix _ _ _).mono ?_;rintro e x ⟨rfl,rfl⟩)|(go_at_call 122;refine(n _).mono ?_;rintro e b ⟨rfl,y⟩;have z:=q0z y v;obtain⟨c0,c1,c2,f0,f1,f2⟩:=in3 z))
  refine bodyPost_ret (c1h rfl rfl rfl (put3_same 4 _ 0 z)) rfl ⟨?_,put3_below _ _ _ (q3z t y) (Nat.le_refl _)⟩
  exact congrArg _ (a6q z7.out i.out).symm
 ·have n:=fun u=>a5o 4 ⟨#[60,61]⟩ (by decide) u
  have i:Hid _:=h
  have l:Hid _:=q
  clear h q
  go_enter Tryz.func105,Tryz.ntmps105
  go_wp2
  refine wp_loop_rounds 4 ?_
  rw[rounds_succ]
  go_wp2_with (go_at_call 100;refine(Tryz.strings_HasPrefix _ _ _).mono ?_;rintro e x ⟨rfl,rfl⟩)
  rw[rounds_succ]
  go_wp2_with (first|(go_at_call 100;refine(Tryz.strings_HasPrefix _ _ _).mono ?_;rintro e x ⟨rfl,rfl⟩)|(go_at_call 122;refine(n _).mono ?_;rintro e b ⟨rfl,y⟩;have z:=q0z y v;obtain⟨c0,c1,c2,f0,f1,f2⟩:=in3 z))
  refine bodyPost_ret (c1h rfl rfl rfl (put3_same 4 _ 0 z)) rfl ⟨?_,put3_below _ _ _ (q3z t y) (Nat.le_refl _)⟩
  exact congrArg _ (a6q i.out l.out).symm
 ·have n:=fun u=>a5o 4 ⟨#[46,46]⟩ (by decide) u
  have l:Hid _:=q
  have z8:Hid _:=e5
  clear q e5
  go_enter Tryz.func105,Tryz.ntmps105
  go_wp2
  refine wp_loop_rounds 4 ?_
  rw[rounds_succ]
  go_wp2_with (go_at_call 100;refine(Tryz.strings_HasPrefix _ _ _).mono ?_;rintro e x ⟨rfl,rfl⟩)
  rw[rounds_succ]
  go_wp2_with (go_at_call 100;refine(Tryz.strings_HasPrefix _ _ _).mono ?_;rintro e x ⟨rfl,rfl⟩)
  rw[rounds_succ]
  go_wp2_with (first|(go_at_call 100;refine(Tryz.strings_HasPrefix _ _ _).mono ?_;rintro e x ⟨rfl,rfl⟩)|(go_at_call 122;refine(n _).mono ?_;rintro e b ⟨rfl,y⟩;have z:=q0z y v;obtain⟨c0,c1,c2,f0,f1,f2⟩:=in3 z))
  refine bodyPost_ret (c1h rfl rfl rfl (put3_same 4 _ 0 z)) rfl ⟨?_,put3_below _ _ _ (q3z t y) (Nat.le_refl _)⟩
  exact congrArg _ (a6q l.out z8.out).symm
 ·have d:=fun u=>b8s s[0] u
  rw[hc]at d
  have o:=c6h a5c c
  obtain⟨j,hj⟩:=exq (Lib.indexByte a5c c)
  rw[hj]at d q o
  have z3:j<=16:=o
  clear hj o
  have n:=fun u=>a5o 4 (s.extract 0 1) (by simp;omega) u
  have z5:(s[0].toNat:Int)=(c.toNat:Int):=by rw[hc]
  rcases q with⟨k1,k2⟩|⟨k1,k2⟩
  ·have p:Hid _:=k2
   clear k2
   go_enter Tryz.func105,Tryz.ntmps105
   go_wp2
   refine wp_loop_rounds 4 ?_
   rw[rounds_succ]
   go_wp2_with (go_at_call 100;refine(Tryz.strings_HasPrefix _ _ _).mono ?_;rintro e x ⟨rfl,rfl⟩)
   rw[rounds_succ]
   go_wp2_with (go_at_call 100;refine(Tryz.strings_HasPrefix _ _ _).mono ?_;rintro e x ⟨rfl,rfl⟩)
   rw[rounds_succ]
   go_wp2_with (go_at_call 100;refine(Tryz.strings_HasPrefix _ _ _).mono ?_;rintro e x ⟨rfl,rfl⟩)
   rw[rounds_succ]
   go_wp2_with (go_at_call 124;refine(d _).mono ?_;rintro e x ⟨rfl,rfl⟩)
   exact bodyPost_ret (c1h rfl rfl rfl v) rfl ⟨congrArg _ (b8t p.out).symm,t⟩
  ·have p:Hid _:=k2
   clear k2
   go_enter Tryz.func105,Tryz.ntmps105
   go_wp2
   refine wp_loop_rounds 4 ?_
   rw[rounds_succ]
   go_wp2_with (go_at_call 100;refine(Tryz.strings_HasPrefix _ _ _).mono ?_;rintro e x ⟨rfl,rfl⟩)
   rw[rounds_succ]
   go_wp2_with (go_at_call 100;refine(Tryz.strings_HasPrefix _ _ _).mono ?_;rintro e x ⟨rfl,rfl⟩)
   rw[rounds_succ]
   go_wp2_with (go_at_call 100;refine(Tryz.strings_HasPrefix _ _ _).mono ?_;rintro e x ⟨rfl,rfl⟩)
   rw[rounds_succ]
   go_wp2_with (first|(go_at_call 124;refine(d _).mono ?_;rintro e x ⟨rfl,rfl⟩)|(go_at_call 122;refine(n _).mono ?_;rintro e b ⟨rfl,y⟩;have z:=q0z y v;obtain⟨c0,c1,c2,f0,f1,f2⟩:=in3 z))
   refine bodyPost_ret (c1h rfl rfl rfl (put3_same 4 _ 0 z)) rfl ⟨?_,put3_below _ _ _ (q3z t y) (Nat.le_refl _)⟩
   rw[a6q p.out rfl,<- a9q,a9r]
   rfl
theorem c6j{n:Int}(h:tm[2]?.getD undef=Po B 0)(h3:tm[3]?.getD undef=vi n)(h4:tm[4]?.getD undef=vi e)(hx:W.heap[B]?=some (tbx k t a)):(results Tryz.f104 tm).run Tryz.prog W=.ok (.tuple #[tokv k t a,vi n,vi e]) W:=by
 obtain⟨c0,c1,c2,_,_,_⟩:=in3 hx
 simp[results,Tryz.results104,go_sem,h,h3,h4,c0,c1,c2]
theorem b3f{n:Int}(h:tm[2]?.getD undef=Po B 0)(h3:tm[3]?.getD undef=vi n)(h4:tm[4]?.getD undef=vi e)(hx:W.heap[B]?=some (tbx k t a)):(results Tryz.f103 tm).run Tryz.prog W=.ok (.tuple #[tokv k t a,vi n,vi e]) W:=by
 obtain⟨c0,c1,c2,_,_,_⟩:=in3 hx
 simp[results,Tryz.results103,go_sem,h,h3,h4,c0,c1,c2]
theorem d0p{n:Int}(h:tm[2]?.getD undef=Po B 0)(h3:tm[3]?.getD undef=vi n)(h4:tm[4]?.getD undef=vi e)(hx:W.heap[B]?=some (tbx k t a)):(results Tryz.f76 tm).run Tryz.prog W=.ok (.tuple #[tokv k t a,vi n,vi e]) W:=by
 obtain⟨c0,c1,c2,_,_,_⟩:=in3 hx
 simp[results,Tryz.results76,go_sem,h,h3,h4,c0,c1,c2]
theorem c6k:inSp [(32,33),(35,126)]=txtB:=by
 funext x
 simp only[inSp,txtB,List.any_cons,List.any_nil,Bool.or_false]
 rw[Bool.eq_iff_iff]
 simp
 omega
theorem c6l:inSp [(97,122),(65,90),(48,57),(95,95)]=rowB:=by
 funext x
 simp only[inSp,rowB,letB,digB,List.any_cons,List.any_nil,Bool.or_false]
 rw[Bool.eq_iff_iff]
 simp
 omega
theorem c6m:inSp [(48,57)]=digB:=by
 funext x
 simp only[inSp,digB,List.any_cons,List.any_nil,Bool.or_false]
theorem b5n{c:Nat}{sp:List (Nat×Nat)}(h:b8p c sp w)(hl:sp.length<=4){p:UInt8->Bool}(hp:inSp sp=p):Says w 121 (Po c 0) p:=by
 subst hp
 exact fun x w1 h1=>b5b c sp x w1 (h.below h1 (Nat.le_refl _)) hl
theorem b1y(w:World)(sp:List (Nat×Nat))(cs:Array Value)(n:Nat)(hn:sp.length=n)(hcs:∀i p,sp[i]?=some p->cs[i*2]?=some (.int .u8 (p.1:Nat))/\cs[i*2+1]?=some (.int .u8 (p.2:Nat)))(hW:((w.alloc a2r).alloc (.cells cs 150)).alloc (.cells #[.slice (some (Ad (w.heap.size+1) 0)) n n] 162)=W) :
  W.heap[w.heap.size]?=some a2r/\Bw w W/\b8p (w.heap.size+1+1) sp W:=by
 subst hW
 refine⟨q4z _ (q4z _ (a0a _ _)),q1z (q1z (q1z bz0 _) _) _,w.heap.size+1,?_,fun i p z=>?_⟩
 ·have:=a0a ((w.alloc a2r).alloc (.cells cs 150)) (.cells #[.slice (some (Ad (w.heap.size+1) 0)) n n] 162)
  simp only[World.size_alloc]at this
  rw[hn]
  exact q2z this rfl
 ·have:=q4z (.cells #[.slice (some (Ad (w.heap.size+1) 0)) n n] 162) (a0a (w.alloc a2r) (.cells cs 150))
  simp only[World.size_alloc]at this
  exact⟨q2z this (hcs i p z).1,q2z this (hcs i p z).2⟩
theorem d4j:∀i p,[((32:Nat),(33:Nat)),(35,126)][i]?=some p->(#[.int .u8 32,.int .u8 33,.int .u8 35,.int .u8 126]:Array Value)[i*2]?=some (.int .u8 (p.1:Nat))/\(#[.int .u8 32,.int .u8 33,.int .u8 35,.int .u8 126]:Array Value)[i*2+1]?=some (.int .u8 (p.2:Nat))
 | 0,p,h=>by cases h;exact⟨rfl,rfl⟩
 | 1,p,h=>by cases h;exact⟨rfl,rfl⟩
 | n+2,p,h=>by simp at h
theorem d4k:∀i p,[((48:Nat),(57:Nat))][i]?=some p->(#[.int .u8 48,.int .u8 57]:Array Value)[i*2]?=some (.int .u8 (p.1:Nat))/\(#[.int .u8 48,.int .u8 57]:Array Value)[i*2+1]?=some (.int .u8 (p.2:Nat))
 | 0,p,h=>by cases h;exact⟨rfl,rfl⟩
 | n+1,p,h=>by simp at h
theorem d4l:∀i p,[((97:Nat),(122:Nat)),(65,90),(48,57),(95,95)][i]?=some p->(#[.int .u8 97,.int .u8 122,.int .u8 65,.int .u8 90,.int .u8 48,.int .u8 57,.int .u8 95,.int .u8 95]:Array Value)[i*2]?=some (.int .u8 (p.1:Nat))/\(#[.int .u8 97,.int .u8 122,.int .u8 65,.int .u8 90,.int .u8 48,.int .u8 57,.int .u8 95,.int .u8 95]:Array Value)[i*2+1]?=some (.int .u8 (p.2:Nat))
 | 0,p,h=>by cases h;exact⟨rfl,rfl⟩
 | 1,p,h=>by cases h;exact⟨rfl,rfl⟩
 | 2,p,h=>by cases h;exact⟨rfl,rfl⟩
 | 3,p,h=>by cases h;exact⟨rfl,rfl⟩
 | n+4,p,h=>by simp at h
def a9b (r:List UInt8):Value:=if r[runN txtB r]?=some 34 then (if 300<runN txtB r then outV 0 ⟨#[]⟩ 0 1 else outV 3 ⟨(r.take (runN txtB r)).toArray⟩ (runN txtB r+2) 0) else outV 0 ⟨#[]⟩ 0 2
theorem b8u(h:r[runN txtB r]?≠some 34):a9b r=outV 0 ⟨#[]⟩ 0 2:=by unfold a9b;rw[if_neg h]
theorem b8v(h:r[runN txtB r]?=some 34)(k:300<runN txtB r):a9b r=outV 0 ⟨#[]⟩ 0 1:=by unfold a9b;rw[if_pos h,if_pos k]
theorem c6n(h:r[runN txtB r]?=some 34)(k:¬300<runN txtB r):a9b r=outV 3 ⟨(r.take (runN txtB r)).toArray⟩ (runN txtB r+2) 0:=by unfold a9b;rw[if_pos h,if_neg k]
theorem a7f{R:ByteArray}{n:Nat}(h:n<R.size):R.data.toList[n]?=some R[n]:=by
 rw[List.getElem?_eq_getElem (by simpa using h)];rfl
theorem b8w(s:ByteArray)(hs:s.size<=4000)(h0:0<s.size)(w:World) :
  Cl 104 #[.string s] w fun e w'=>e=.returned (a9b (s.data.toList.drop 1))/\Bw w w':=by
 have z3:(1:Int)<=(s.size:Int):=by omega
 have hW:=fun v u h=>a8k v u h
 rw[<- a7q s 1]
 obtain⟨V,c⟩:=exq (a9b (s.extract 1 s.size).data.toList)
 rw[c]
 replace c:Hid _:=c
 go_enter Tryz.func104,Tryz.ntmps104
 go_wp2_with (first|(go_at_call 102;refine(hW _ _ ⟨_,_,_,rfl⟩).mono ?_;rintro e w' ⟨rfl,rfl⟩)|(go_at_call 101;refine Hid.out ?_))
 have hz:(s.extract 1 s.size).size<=4000:=by simp;omega
 obtain⟨R,hR⟩:=exq (s.extract 1 s.size)
 obtain⟨W,f⟩:=exq (((w.alloc a2r).alloc (.cells #[.int .u8 32,.int .u8 33,.int .u8 35,.int .u8 126] 150)).alloc (.cells #[.slice (some (Ad (w.heap.size+1) 0)) 2 2] 162))
 obtain⟨hr,hb,b⟩:=b1y w [(32,33),(35,126)] _ 2 rfl d4j f
 rw[hR]at hz c⊢
 rw[f]
 have t:=c0y R hz _ txtB W (b5n b (by decide) c6k)
 have z8:=a3s txtB R.data.toList
 have z9:runN txtB R.data.toList<=R.size:=by simpa using z8
 clear f hR hW b z8 z3 h0 hs
 have o:=b8u (r:=R.data.toList)
 have p:=b8v (r:=R.data.toList)
 have x:=c6n (r:=R.data.toList)
 rw[<- a9q]at x
 obtain⟨n,hn⟩:=exq (runN txtB R.data.toList)
 rw[hn]at t z9 o p x
 rw[a9r]at x
 clear hn
 rw[c.out]at o p x
 clear c
 have z:Hid _:=And.intro o (And.intro p x)
 clear o p x
 have hM:=fun u=>a5o 3 (R.extract 0 n) (by simp;omega) u
 refine t.mono ?_
 rintro e w2 ⟨rfl,g⟩
 clear t
 have q:=q0z g hr
 have l:=q3z hb g
 clear hb hr g
 obtain⟨c0,c1,c2,f0,f1,f2⟩:=in3 q
 by_cases he:n=R.size
 ·have hx:((n:Int) == (R.size:Int))=true:=by simp[he]
  have d:Hid (V=outV 0 ⟨#[]⟩ 0 2):=z.out.1 (by rw[List.getElem?_eq_none (by simp;omega)];simp)
  clear he z
  refine Lib.hid ?_
  go_wp2
  exact bodyPost_ret (c6j rfl rfl rfl (put3_same _ _ _ q)) rfl ⟨congrArg _ d.out.symm,put3_below _ _ _ l (Nat.le_refl _)⟩
 ·have z5:n<R.size:=by omega
  have hx:((n:Int) == (R.size:Int))=false:=by simp;omega
  have y:=a7f z5
  by_cases hc:R[n].toNat=34
  ·have i:R[n]=34:=UInt8.toNat_inj.1 hc
   have z6:((R[n].toNat:Int) == 34)=true:=by simp[hc]
   rw[i]at y
   by_cases hn3:300<n
   ·have d:Hid (V=outV 0 ⟨#[]⟩ 0 1):=z.out.2.1 y hn3
    have z4:(300:Int)<(n:Int):=by omega
    clear z y hc i he
    refine Lib.hid ?_
    go_wp2
    exact bodyPost_ret (c6j rfl rfl rfl (put3_same _ _ _ q)) rfl ⟨congrArg _ d.out.symm,put3_below _ _ _ l (Nat.le_refl _)⟩
   ·have d:Hid (V=outV 3 (R.extract 0 n) (n+2) 0):=z.out.2.2 y hn3
    have z4:¬(300:Int)<(n:Int):=by omega
    clear z y hc i he
    refine Lib.hid ?_
    go_wp2_with (go_at_call 122;refine(hM _).mono ?_;rintro e w3 ⟨rfl,z7⟩;have a:=q0z z7 q;obtain⟨c0,c1,c2,f0,f1,f2⟩:=in3 a)
    exact bodyPost_ret (c6j rfl rfl rfl (put3_same _ _ _ a)) rfl ⟨congrArg _ (d.out.trans (by simp)).symm,put3_below _ _ _ (q3z l z7) (Nat.le_refl _)⟩
  ·have z6:((R[n].toNat:Int) == 34)=false:=by simp;omega
   have d:Hid (V=outV 0 ⟨#[]⟩ 0 2):=z.out.1 (by rw[y];intro e;apply hc;injection e with e;rw[e];rfl)
   clear z y hc he
   refine Lib.hid ?_
   go_wp2
   exact bodyPost_ret (c6j rfl rfl rfl (put3_same _ _ _ q)) rfl ⟨congrArg _ d.out.symm,put3_below _ _ _ l (Nat.le_refl _)⟩
def ErrV (w:World):Prop:=∃ev,w.cell? (Ad 3 0)=some ev/\(ev=.nilIface\/∃te pe,ev=.iface te pe)
theorem ErrV.on{w':World}(h:ErrV w)(hb:Bw w w'):ErrV w':=by
 obtain⟨z,h1,h2⟩:=h
 exact⟨z,(hb.cell (p:=(Ad 3 0)) (World.block_lt_of_cell? _ _ h1)).trans h1,h2⟩
def wnV (l:List UInt8):Value :=
 if (l.head?.map digB).getD false=false then (if 16<l.length then outV 0 ⟨#[]⟩ 0 1 else outV 1 ⟨l.toArray⟩ l.length 0)
 else if numE l=0 then outV 2 ⟨l.toArray⟩ l.length 0 else outV 0 ⟨#[]⟩ 0 (numE l)
theorem b5o(p:UInt8->Bool):∀l:List UInt8,l.all p=decide (l.length<=runN p l)
 | []=>by simp[runN]
 | c::r=>by
  have:=a3s p r
  rw[List.all_cons,b5o p r,runN]
  cases p c
  ·simp
  ·simp
theorem b7f(s:ByteArray)(hs:s.size<=4000)(v:Int)(h:Lib.parseIntB 64 s.data.toList=.ok v)(w:World) :
  Cl 123 #[.string s,vi 10,vi 64] w fun e z=>e=.returned (.tuple #[vi v,.nilIface])/\Bw w z:=by
 refine(Tryz.strconv_ParseInt_10_at64_ok s (by omega) v h w).mono ?_
 rintro e z ⟨rfl,y⟩
 refine⟨rfl,?_⟩
 rcases y with rfl|⟨t,rfl⟩
 ·exact bz0
 ·exact Lib.bytesWorld_below _ _ _
theorem b5p(s:ByteArray)(hs:s.size<=4000)(h:Lib.parseIntB 64 s.data.toList=.range)(w:World)(hv:ErrV w) :
  Cl 123 #[.string s,vi 10,vi 64] w fun e z=>∃v N,e=.returned (.tuple #[vi v,.iface 199 (Po N 0)])/\Bw w z:=by
 obtain⟨x,h1,h2⟩:=hv
 refine(Tryz.strconv_ParseInt_10_at64_range s (by omega) h x w h1 h2).mono ?_
 rintro e z ⟨N,rfl,_,_,y⟩
 exact⟨_,N,rfl,y⟩
theorem c6o(c:UInt8)(r:List UInt8) :
  (digB c=false/\16<(c::r).length/\wnV (c::r)=outV 0 ⟨#[]⟩ 0 1) \/
  (digB c=false/\¬16<(c::r).length/\wnV (c::r)=outV 1 ⟨(c::r).toArray⟩ (c::r).length 0) \/
  (digB c=true/\runN digB (c::r)<(c::r).length/\wnV (c::r)=outV 0 ⟨#[]⟩ 0 2) \/
  (digB c=true/\¬runN digB (c::r)<(c::r).length/\c=48/\1<(c::r).length/\wnV (c::r)=outV 0 ⟨#[]⟩ 0 2) \/
  (digB c=true/\¬runN digB (c::r)<(c::r).length/\¬(c=48/\1<(c::r).length)/\Lib.parseIntB 64 (c::r)=.range/\wnV (c::r)=outV 0 ⟨#[]⟩ 0 6) \/
  (digB c=true/\¬runN digB (c::r)<(c::r).length/\¬(c=48/\1<(c::r).length)/\Lib.parseIntB 64 (c::r)=.ok (numV (c::r):Int)/\wnV (c::r)=outV 2 ⟨(c::r).toArray⟩ (c::r).length 0):=by
 have z:=b5o digB (c::r)
 have v:=a3s digB (c::r)
 have u:(((c::r).head?.map digB).getD false)=digB c:=rfl
 unfold wnV
 rw[u]
 cases hc:digB c
 ·by_cases h:16<(c::r).length
  ·left;exact⟨rfl,h,by rw[if_pos rfl,if_pos h]⟩
  ·right;left;exact⟨rfl,h,by rw[if_pos rfl,if_neg h]⟩
 right;right
 by_cases h1:runN digB (c::r)<(c::r).length
 ·left
  have:numE (c::r)=2:=by unfold numE;rw[z,if_pos (by simp only[decide_eq_false_iff_not];omega)]
  exact⟨rfl,h1,by rw[if_neg (by simp),this];rfl⟩
 right
 have x:(c::r).all digB=true:=by rw[z];simp only[decide_eq_true_eq];omega
 by_cases h2:c=48/\1<(c::r).length
 ·left
  have:numE (c::r)=2:=by unfold numE;rw[x,if_neg (by simp),if_pos ⟨h2.2,by rw[h2.1];rfl⟩]
  exact⟨rfl,h1,h2.1,h2.2,by rw[if_neg (by simp),this];rfl⟩
 right
 have w:=a8t (c::r) (by simp) x
 have y:¬(1<(c::r).length/\(c::r).head?=some 48):=fun h=>h2 ⟨by simpa using h.2,h.1⟩
 by_cases h3:9223372036854775807<numV (c::r)
 ·left
  have:numE (c::r)=6:=by unfold numE;rw[x,if_neg (by simp),if_neg y,if_pos h3]
  exact⟨rfl,h1,h2,by rw[w,if_pos h3],by rw[if_neg (by simp),this];rfl⟩
 ·right
  have:numE (c::r)=0:=by unfold numE;rw[x,if_neg (by simp),if_neg y,if_neg h3]
  exact⟨rfl,h1,h2,by rw[w,if_neg h3],by rw[if_neg (by simp),this];rfl⟩
theorem d4m(s:ByteArray)(hs:s.size<=4000)(h0:0<s.size)(w:World)(hE:ErrV w) :
  Cl 103 #[.string s] w fun e w'=>e=.returned (wnV s.data.toList)/\Bw w w':=by
 have y8:(0:Int)<(s.size:Int):=by omega
 have hW:=fun v u h=>a8k v u h
 obtain⟨V,hV⟩:=exq (wnV s.data.toList)
 rw[hV]
 replace hV:Hid _:=hV
 replace hE:Hid _:=hE
 go_enter Tryz.func103,Tryz.ntmps103
 go_wp2_with (first|(go_at_call 102;refine(hW _ _ ⟨_,_,_,rfl⟩).mono ?_;rintro e w' ⟨rfl,rfl⟩)|(go_at_call 121;refine Hid.out ?_))
 obtain⟨W,z3⟩:=exq (((w.alloc a2r).alloc (.cells #[.int .u8 48,.int .u8 57] 150)).alloc (.cells #[.slice (some (Ad (w.heap.size+1) 0)) 1 1] 162))
 obtain⟨hr,hb,z2⟩:=b1y w [(48,57)] _ 1 rfl d4k z3
 rw[z3]
 have a:=b5n z2 (by decide) c6m
 have z4:=a s[0] W bz0
 obtain⟨c,r,hl,hc,_⟩:=a7r s h0
 have hC:=c6o c r
 rw[<- hl,hV.out]at hC
 have z5:s.data.toList.length=s.size:=by simp
 have z1:=a9r s
 rw[z5,z1]at hC
 have y9:=fun u=>a5o 1 s hs u
 have z0:=fun u=>a5o 2 s hs u
 clear z3 hW z2 hV z5 z1 hl
 rw[<- hc]at hC
 clear hc
 refine z4.mono ?_
 rintro e w2 ⟨rfl,z7⟩
 clear z4
 have o:=q0z z7 hr
 have l:=q3z hb z7
 have b:=a.on z7
 have i:ErrV w2:=ErrV.on (ErrV.on hE.out hb) z7
 clear hb hr z7 hE a
 obtain⟨c0,c1,c2,f0,f1,f2⟩:=in3 o
 have x:=c0y s hs _ digB w2 b
 clear b
 rcases hC with⟨d,f,q⟩|⟨d,f,q⟩|⟨d,f,q⟩|⟨d,f,q,e4,g⟩|⟨d,f,q,e4,g⟩|⟨d,f,q,e4,g⟩
 ·have z6:(16:Int)<(s.size:Int):=by omega
  replace q:Hid _:=q
  rw[d]
  refine Lib.hid ?_
  go_wp2
  exact bodyPost_ret (b3f rfl rfl rfl (put3_same _ _ _ o)) rfl ⟨congrArg _ q.out.symm,put3_below _ _ _ l (Nat.le_refl _)⟩
 ·have z6:¬(16:Int)<(s.size:Int):=by omega
  replace q:Hid _:=q
  rw[d]
  refine Lib.hid ?_
  go_wp2_with (go_at_call 122;refine(y9 _).mono ?_;rintro e w3 ⟨rfl,z⟩;have y:=q0z z o;obtain⟨c0,c1,c2,f0,f1,f2⟩:=in3 y)
  exact bodyPost_ret (b3f rfl rfl rfl (put3_same _ _ _ y)) rfl ⟨congrArg _ q.out.symm,put3_below _ _ _ (q3z l z) (Nat.le_refl _)⟩
 ·obtain⟨n,hn⟩:=exq (runN digB s.data.toList)
  rw[hn]at f x
  have z6:(n:Int)<(s.size:Int):=by omega
  clear hn f
  replace q:Hid _:=q
  rw[d]
  refine Lib.hid ?_
  go_wp2_with (go_at_call 101;refine x.mono ?_;rintro e w3 ⟨rfl,z⟩;have y:=q0z z o;obtain⟨c0,c1,c2,f0,f1,f2⟩:=in3 y)
  exact bodyPost_ret (b3f rfl rfl rfl (put3_same _ _ _ y)) rfl ⟨congrArg _ q.out.symm,put3_below _ _ _ (q3z l z) (Nat.le_refl _)⟩
 ·obtain⟨n,hn⟩:=exq (runN digB s.data.toList)
  rw[hn]at f x
  have z6:¬(n:Int)<(s.size:Int):=by omega
  have y6:((s[0].toNat:Int) == 48)=true:=by rw[q];rfl
  have y7:(1:Int)<(s.size:Int):=by omega
  clear hn f q e4
  replace g:Hid _:=g
  rw[d]
  refine Lib.hid ?_
  go_wp2_with (go_at_call 101;refine x.mono ?_;rintro e w3 ⟨rfl,z⟩;have y:=q0z z o;obtain⟨c0,c1,c2,f0,f1,f2⟩:=in3 y)
  exact bodyPost_ret (b3f rfl rfl rfl (put3_same _ _ _ y)) rfl ⟨congrArg _ g.out.symm,put3_below _ _ _ (q3z l z) (Nat.le_refl _)⟩
 ·obtain⟨n,hn⟩:=exq (runN digB s.data.toList)
  rw[hn]at f x
  have z6:¬(n:Int)<(s.size:Int):=by omega
  clear hn f
  replace g:Hid _:=g
  replace i:Hid _:=i
  have hP:=fun u hu=>b5p s hs e4 u hu
  clear e4
  by_cases k:s[0]=48
  ·have k1:((s[0].toNat:Int) == 48)=true:=by rw[k];rfl
   have k2:¬(1:Int)<(s.size:Int):=fun h=>q ⟨k,by omega⟩
   clear k q
   rw[d]
   refine Lib.hid ?_
   go_wp2_with (first|(go_at_call 101;refine x.mono ?_;rintro e w3 ⟨rfl,z⟩;have y:=q0z z o)|(go_at_call 123;refine(hP _ (ErrV.on i.out z)).mono ?_;rintro e w4 ⟨v4,N4,rfl,t⟩;have p:=q0z t y;obtain⟨c0,c1,c2,f0,f1,f2⟩:=in3 p))
   exact bodyPost_ret (b3f rfl rfl rfl (put3_same _ _ _ p)) rfl ⟨congrArg _ g.out.symm,put3_below _ _ _ (q3z (q3z l z) t) (Nat.le_refl _)⟩
  ·have k1:((s[0].toNat:Int) == 48)=false:=by
    have:s[0].toNat≠48:=fun e=>k (UInt8.toNat_inj.1 e)
    simp;omega
   clear k q
   rw[d]
   refine Lib.hid ?_
   go_wp2_with (first|(go_at_call 101;refine x.mono ?_;rintro e w3 ⟨rfl,z⟩;have y:=q0z z o)|(go_at_call 123;refine(hP _ (ErrV.on i.out z)).mono ?_;rintro e w4 ⟨v4,N4,rfl,t⟩;have p:=q0z t y;obtain⟨c0,c1,c2,f0,f1,f2⟩:=in3 p))
   exact bodyPost_ret (b3f rfl rfl rfl (put3_same _ _ _ p)) rfl ⟨congrArg _ g.out.symm,put3_below _ _ _ (q3z (q3z l z) t) (Nat.le_refl _)⟩
 ·obtain⟨n,hn⟩:=exq (runN digB s.data.toList)
  rw[hn]at f x
  have z6:¬(n:Int)<(s.size:Int):=by omega
  clear hn f
  replace g:Hid _:=g
  replace i:Hid _:=i
  have hP:=fun u=>b7f s hs _ e4 u
  clear e4
  by_cases k:s[0]=48
  ·have k1:((s[0].toNat:Int) == 48)=true:=by rw[k];rfl
   have k2:¬(1:Int)<(s.size:Int):=fun h=>q ⟨k,by omega⟩
   clear k q
   rw[d]
   refine Lib.hid ?_
   go_wp2_with (first|(go_at_call 101;refine x.mono ?_;rintro e w3 ⟨rfl,z⟩;have y:=q0z z o)|(go_at_call 123;refine(hP _).mono ?_;rintro e w4 ⟨rfl,t⟩;have p:=q0z t y)|(go_at_call 122;refine(z0 _).mono ?_;rintro e w5 ⟨rfl,z8⟩;have z9:=q0z z8 p;obtain⟨c0,c1,c2,f0,f1,f2⟩:=in3 z9))
   exact bodyPost_ret (b3f rfl rfl rfl (put3_same _ _ _ z9)) rfl ⟨congrArg _ g.out.symm,put3_below _ _ _ (q3z (q3z (q3z l z) t) z8) (Nat.le_refl _)⟩
  ·have k1:((s[0].toNat:Int) == 48)=false:=by
    have:s[0].toNat≠48:=fun e=>k (UInt8.toNat_inj.1 e)
    simp;omega
   clear k q
   rw[d]
   refine Lib.hid ?_
   go_wp2_with (first|(go_at_call 101;refine x.mono ?_;rintro e w3 ⟨rfl,z⟩;have y:=q0z z o)|(go_at_call 123;refine(hP _).mono ?_;rintro e w4 ⟨rfl,t⟩;have p:=q0z t y)|(go_at_call 122;refine(z0 _).mono ?_;rintro e w5 ⟨rfl,z8⟩;have z9:=q0z z8 p;obtain⟨c0,c1,c2,f0,f1,f2⟩:=in3 z9))
   exact bodyPost_ret (b3f rfl rfl rfl (put3_same _ _ _ z9)) rfl ⟨congrArg _ g.out.symm,put3_below _ _ _ (q3z (q3z (q3z l z) t) z8) (Nat.le_refl _)⟩
theorem d0q(l:List UInt8):∃k t n e,wnV l=outV k t n e:=by
 unfold wnV
 split
 ·split <;> exact⟨_,_,_,_,rfl⟩
 ·split <;> exact⟨_,_,_,_,rfl⟩
theorem c1j(l:List UInt8):∃k t n e,a9b l=outV k t n e:=by
 unfold a9b
 split
 ·split <;> exact⟨_,_,_,_,rfl⟩
 ·exact⟨_,_,_,_,rfl⟩
theorem c1k(l:List UInt8):∃k t n e,b1x l=outV k t n e:=by
 unfold b1x
 split <;> exact⟨_,_,_,_,rfl⟩
theorem b5q{c:UInt8}(h:letB c=true):digB c=false:=by
 simp[letB]at h
 simp[digB]
 omega
theorem c1l(c:UInt8)(r:List UInt8)(h:0<runN rowB (c::r)):outR (tokR (c::r))=wnV ((c::r).take (runN rowB (c::r))):=by
 have x:=a3s rowB (c::r)
 obtain⟨n,hn⟩:∃n,runN rowB (c::r)=n+1:=⟨runN rowB (c::r)-1,by omega⟩
 have y:rowB c=true:=by
  cases h':rowB c
  ·simp[runN,h']at h
  ·rfl
 have w:(((c::r).take (n+1)).head?.map digB).getD false=digB c:=by simp
 have z:((c::r).take (n+1)).length=n+1:=by rw[List.length_take];omega
 unfold tokR wnV
 simp only
 rw[hn,w,z]
 by_cases hl:letB c=true
 ·rw[if_pos hl,b5q hl,if_pos rfl]
  split <;> rfl
 ·have hd:digB c=true:=by
   simp only[rowB,Bool.or_eq_true]at y
   exact y.resolve_left hl
  rw[if_neg hl,if_pos hd,hd,if_neg (show ¬(true=false) by decide)]
  split <;> rfl
theorem b3g(c:UInt8)(r:List UInt8)(h:¬0<runN rowB (c::r)):letB c=false/\digB c=false:=by
 have z:rowB c=false:=by
  cases h':rowB c
  ·rfl
  ·simp[runN,h']at h
 simpa[rowB]using z
theorem b8x(c:UInt8)(r:List UInt8)(h:¬0<runN rowB (c::r))(hc:c.toNat=34):outR (tokR (c::r))=a9b ((c::r).drop 1):=by
 obtain⟨h1,h2⟩:=b3g c r h
 unfold tokR a9b
 simp only
 rw[if_neg (by simp[h1]),if_neg (by simp[h2]),if_pos hc]
 simp only[List.drop_succ_cons,List.drop_zero]
 split
 ·split <;> rfl
 ·rfl
theorem b8y(c:UInt8)(r:List UInt8)(h:¬0<runN rowB (c::r))(hc:¬c.toNat=34):outR (tokR (c::r))=b1x (c::r):=by
 obtain⟨h1,h2⟩:=b3g c r h
 unfold tokR b1x
 simp only
 rw[if_neg (by simp[h1]),if_neg (by simp[h2]),if_neg hc]
 split <;> rfl
theorem c1m(s:ByteArray)(hs:s.size<=4000)(h0:0<s.size)(w:World)(hE:ErrV w) :
  Cl 76 #[.string s] w fun e w'=>e=.returned (outR (tokR s.data.toList))/\Bw w w':=by
 have z6:(0:Int)<(s.size:Int):=by omega
 have hW:=fun v u h=>a8k v u h
 obtain⟨V,hV⟩:=exq (outR (tokR s.data.toList))
 rw[hV]
 replace hV:Hid _:=hV
 replace hE:Hid _:=hE
 go_enter Tryz.func76,Tryz.ntmps76
 go_wp2_with (first|(go_at_call 102;refine(hW _ _ ⟨_,_,_,rfl⟩).mono ?_;rintro e w' ⟨rfl,rfl⟩)|(go_at_call 101;refine Hid.out ?_))
 obtain⟨W,f⟩:=exq (((w.alloc a2r).alloc (.cells #[.int .u8 97,.int .u8 122,.int .u8 65,.int .u8 90,.int .u8 48,.int .u8 57,.int .u8 95,.int .u8 95] 150)).alloc (.cells #[.slice (some (Ad (w.heap.size+1) 0)) 4 4] 162))
 obtain⟨hr,hb,a⟩:=b1y w [(97,122),(65,90),(48,57),(95,95)] _ 4 rfl d4l f
 rw[f]
 have t:=c0y s hs _ rowB W (b5n a (by decide) c6l)
 have z8:=a3s rowB s.data.toList
 have z9:runN rowB s.data.toList<=s.size:=by simpa using z8
 obtain⟨c,r,hl,o,_⟩:=a7r s h0
 have q1:=c1l c r
 have b:=b8x c r
 have d:=b8y c r
 rw[<- hl,hV.out]at q1 b d
 rw[<- o]at b d
 rw[<- a9q]at q1
 obtain⟨n,hn⟩:=exq (runN rowB s.data.toList)
 rw[hn]at t z9 q1 b d
 clear f hW a z8 hV hl o hn
 have hq:Hid _:=And.intro q1 (And.intro b d)
 clear q1 b d
 refine t.mono ?_
 rintro e w2 ⟨rfl,q⟩
 clear t
 have i:=q0z q hr
 have g:=q3z hb q
 have p:ErrV w2:=ErrV.on (ErrV.on hE.out hb) q
 clear hb hr q hE
 by_cases hn0:0<n
 ·have y:=hq.out.1 hn0
  have hx:(0:Int)<(n:Int):=by omega
  have l:=d4m (s.extract 0 n) (by simp;omega) (by simp;omega) w2 p
  obtain⟨k1,t1,n1,e1,hf⟩:=d0q (s.extract 0 n).data.toList
  rw[hf]at l y
  clear hf hq p
  subst y
  refine Lib.hid ?_
  go_wp2_with (go_at_call 103;refine l.mono ?_;rintro e w3 ⟨rfl,x⟩;have z:=q0z x i;obtain⟨c0,c1,c2,f0,f1,f2⟩:=in3 z)
  exact bodyPost_ret (d0p rfl rfl rfl (put3_same _ _ _ z)) rfl ⟨rfl,put3_below _ _ _ (q3z g x) (Nat.le_refl _)⟩
 ·have hx:¬(0:Int)<(n:Int):=by omega
  by_cases o:s[0].toNat=34
  ·have z7:((s[0].toNat:Int) == 34)=true:=by simp[o]
   have y:=hq.out.2.1 hn0 o
   have l:=b8w s hs h0 w2
   obtain⟨k1,t1,n1,e1,hf⟩:=c1j (s.data.toList.drop 1)
   rw[hf]at l y
   clear hf hq p o hn0
   subst y
   refine Lib.hid ?_
   go_wp2_with (go_at_call 104;refine l.mono ?_;rintro e w3 ⟨rfl,x⟩;have z:=q0z x i;obtain⟨c0,c1,c2,f0,f1,f2⟩:=in3 z)
   exact bodyPost_ret (d0p rfl rfl rfl (put3_same _ _ _ z)) rfl ⟨rfl,put3_below _ _ _ (q3z g x) (Nat.le_refl _)⟩
  ·have z7:((s[0].toNat:Int) == 34)=false:=by simp;omega
   have y:=hq.out.2.2 hn0 o
   have l:=c6i s hs h0 w2
   obtain⟨k1,t1,n1,e1,hf⟩:=c1k s.data.toList
   rw[hf]at l y
   clear hf hq p o hn0
   subst y
   refine Lib.hid ?_
   go_wp2_with (go_at_call 105;refine l.mono ?_;rintro e w3 ⟨rfl,x⟩;have z:=q0z x i;obtain⟨c0,c1,c2,f0,f1,f2⟩:=in3 z)
   exact bodyPost_ret (d0p rfl rfl rfl (put3_same _ _ _ z)) rfl ⟨rfl,put3_below _ _ _ (q3z g x) (Nat.le_refl _)⟩
theorem c9s:(Tryz.prog.info? 85).map (fun i=>(i.zero,i.size,i.bytes))=some (some (.agg #[vi 0,.string ⟨#[]⟩,vi 0]),3,32):=by kernel_rfl
def Tok.b (x:Tok):ByteArray:=⟨x.t.toArray⟩
abbrev a9s (x:Tok):List Value:=[vi x.k,.string x.b,vi (x.a:Nat)]
def a6y (xs:List Tok):List Value:=xs.flatMap a9s
theorem b8z(xs:List Tok)(x:Tok):a6y (xs++[x])=a6y xs++a9s x:=by simp[a6y]
theorem c1n{xs:List Tok}{j:Nat}{x:Tok}(h:xs[j]?=some x)(i:Nat)(hi:i<3):(a6y xs)[j*3+i]?=(a9s x)[i]?:=by
 induction xs generalizing j with
 | nil=>simp at h
 | cons y xs ih =>
  cases j with
  | zero =>
   simp at h
   subst h
   simp only[a6y,List.flatMap_cons]
   rw[List.getElem?_append_left (by simp;omega)]
   congr 1
   omega
  | succ j =>
   simp at h
   have:=ih h
   simp only[a6y,List.flatMap_cons]at this⊢
   rw[List.getElem?_append_right (by simp;omega),<- this]
   congr 1
   simp
   omega
theorem c1o{n:Nat}(h:W.ownsRow base 85 3 v n xs){b:Nat}(hb:v.ownBlock=some b):base<=b/\b<W.heap.size:=by
 rcases h.2 with⟨rfl,_⟩|⟨g,cap,x,rfl,z,y,_⟩
 ·simp[Value.ownBlock]at hb
 ·obtain rfl:g=b:=by simpa[Value.ownBlock]using hb
  exact⟨z,(Array.getElem?_eq_some_iff.1 y).1⟩
theorem b7g{n:Nat}(h:W.ownsRow base 85 3 v n xs)(hw:∀b,v.ownBlock=some b->W'.heap[b]?=W.heap[b]?):W'.ownsRow base 85 3 v n xs:=by
 refine⟨h.1,?_⟩
 rcases h.2 with u|⟨g,cap,y,rfl,z,w,x⟩
 ·exact .inl u
 ·exact .inr ⟨g,cap,y,rfl,z,(hw g rfl).trans w,x⟩
theorem c1p{n:Nat}(h:W.ownsRow base 85 3 v n xs)(hb:Bw W W'):W'.ownsRow base 85 3 v n xs :=
 b7g h fun b e=>hb.block b (c1o h e).2
abbrev d0r:Obj:=.cells #[vi 0,vi 0] 27
structure SI (w:World) (v:Value) (ts:List Tok) (W:World):Prop where
 own:W.ownsRow (w.heap.size+1) 85 3 v ts.length (a6y ts)
 r:W.heap[w.heap.size]?=some d0r
 bl:Bw w W
theorem SI.on{ts:List Tok}(h:SI w v ts W)(hb:Bw W W'):SI w v ts W' :=
 ⟨c1p h.own hb,q0z hb h.r,q3z h.bl hb⟩
theorem SI.step{ts:List Tok}{x:Tok}{w3:World}{g cap:Nat}(h:SI w v ts W)(hown:w3.ownsRow (w.heap.size+1) 85 3 (.slice (some (Ad g 0)) (ts.length+1) cap) (ts.length+1) (a6y ts++a9s x))(hg:W.grownBy w3 v.ownBlock) :
  SI w (.slice (some (Ad g 0)) (ts.length+1) cap) (ts++[x]) w3:=by
 have y:=q5z h.r
 have z:∀C,C<w.heap.size+1->w3.heap[C]?=W.heap[C]?:=fun C u=>hg.block C (by omega) (fun e=>by have:=(c1o h.own e.symm).1;omega)
 refine⟨?_,(z _ (by omega)).trans h.r,h.bl.trans ⟨hg.os,hg.tape,hg.output,hg.size,fun C u=>z C (by omega)⟩⟩
 rw[b8z,List.length_append]
 exact hown
theorem c6p{x:Tok}(h:W.heap[B]?=some (tbx x.k x.b (x.a:Nat))):∀j u,(a9s x)[j]?=some u->W.cell? ((Ad B 0).add j)=some u:=World.news_of_block (cs:=#[vi x.k,.string x.b,vi (x.a:Nat)]) h
def a7s:a1k->List Tok
 | .inl _=>[]
 | .inr l=>l
def d4n:a1k->Int
 | .inl (e,_)=>e
 | .inr _=>0
def placeOf:a1k->Nat
 | .inl (_,a)=>a
 | .inr _=>0
structure Out (w:World) (R:a1k) (e:Ending) (w':World):Prop where
 out:∃b n d,e=.returned (.tuple #[.slice b n d,.agg #[vi (d4n R),vi (placeOf R:Nat)]])/\w'.ownsRow (w.heap.size+1) 85 3 (.slice b n d) (a7s R).length (a6y (a7s R))
 bl:Bw w w'
def a2s (l:List UInt8):a1k:=if 4000<l.length then .bad 1 0 else a3j 0 l
theorem a5g{p q p' q':Value}(h:W.heap[B]?=some (.cells #[p,q] 27)):((W.setCell (Ad B 0) p').setCell (Ad B 1) q').heap[B]?=some (.cells #[p',q'] 27):=q7z _ (q7z _ h)
theorem b9a(W:World)(p q:Value)(h:C≠B):((W.setCell (Ad B 0) p).setCell (Ad B 1) q).heap[C]?=W.heap[C]?:=(q8z _ _ h).trans (q8z _ _ h)
theorem a4j(p q:Value)(h:Below m w W)(hB:m<=B):Below m w ((W.setCell (Ad B 0) p).setCell (Ad B 1) q):=(h.setCell (p:=(Ad B 0)) hB _).setCell (p:=(Ad B 1)) hB _
theorem SI.out{b:Option Addr}{n d:Nat}{ts:List Tok}(h:SI w (.slice b n d) ts W)(p q:Value) :
  ((W.setCell (Ad w.heap.size 0) p).setCell (Ad w.heap.size 1) q).ownsRow (w.heap.size+1) 85 3 (.slice b n d) ts.length (a6y ts) :=
 b7g h.own fun c e=>b9a _ _ _ (by have:=(c1o h.own e).1;omega)
theorem d0s{c:Int}(h:tm[3]?.getD undef=Po B 0)(h2:tm[2]?.getD undef=v)(hx:W.heap[B]?=some (.cells #[vi c,vi a] 27)):(results Tryz.f53 tm).run Tryz.prog W=.ok (.tuple #[v,.agg #[vi c,vi a]]) W:=by
 have c0:Ce W B 0 (vi c):=q2z hx rfl
 have c1:Ce W B 1 (vi a):=q2z hx rfl
 simp[results,Tryz.results53,go_sem,h,h2,c0,c1]
structure In2 (W:World) (B:Nat) (c a:Value):Prop where
 c0:W.cell? (Ad B 0)=some c
 c1:W.cell? (Ad B 1)=some a
 f0:W.frozen? (Ad B 0)=false
 f1:W.frozen? (Ad B 1)=false
theorem in2{c a:Value}(h:W.heap[B]?=some (.cells #[c,a] 27)):In2 W B c a:=⟨q2z h rfl,q2z h rfl,q6z h,q6z h⟩
theorem b3h(h:tokR l=.bad e):(e == 0)=false/\-1<e/\e<9:=by
 cases l with
 | nil=>simp[tokR]at h;subst h;decide
 | cons c r =>
  unfold tokR at h
  simp only at h
  split at h
  ·split at h <;> cases h
   decide
  split at h
  ·split at h <;> cases h
   rename_i hz
   refine⟨by simpa using hz,?_⟩
   unfold numE
   split
   ·decide
   ·split
    ·decide
    ·split <;> decide
  split at h
  ·split at h
   ·split at h <;> cases h
    decide
   ·cases h;decide
  split at h <;> cases h
  decide
theorem c6q(s:ByteArray)(hs:4000<s.size)(w:World):Cl 53 #[.string s] w (Out w (.bad 1 0)):=by
 have z:(4000:Int)<(s.size:Int):=by omega
 go_enter Tryz.func53,Tryz.ntmps53
 go_wp2
 exact bodyPost_ret (d0s rfl rfl (a0a _ _)) rfl ⟨⟨none,0,0,rfl,World.ownsRow_nil _ _ _ _⟩,q1z bz0 _⟩
theorem d0t(s:ByteArray)(hs:s.size<=4000)(w:World)(hE:ErrV w):Cl 53 #[.string s] w (Out w (a3j 0 s.data.toList)):=by
 obtain⟨i0,hi0,hz0,hz1,hz2⟩:=info_parts c9s
 have hs':¬(4000:Int)<(s.size:Int):=by omega
 obtain⟨R,hR⟩:=exq (a3j 0 s.data.toList)
 rw[hR]
 have hlen:s.data.toList.length=s.size:=by simp
 have hS0:SI w (.slice none 0 0) [] (w.alloc d0r):=⟨World.ownsRow_nil _ _ _ _,a0a _ _,q1z bz0 _⟩
 have hg0:=b4z s.data.toList.length s.data.toList (Nat.le_refl _)
 have hg1:=a8i s.data.toList.length s.data.toList 0 (Nat.le_refl _)
 rw[hlen]at hg0
 rw[hR]at hg1
 replace hg0:Hid _:=hg0
 replace hg1:Hid _:=hg1
 replace hlen:Hid _:=hlen
 replace hE:Hid _:=hE
 have hG:=fun u=>c1g s hs u
 go_enter Tryz.func53,Tryz.ntmps53
 go_wp2_with (go_at_call 75;refine(hG _).mono ?_;rintro e w1 ⟨rfl,hb1⟩;refine Hid.out ?_)
 replace hS0:=hS0.on hb1
 clear hb1 hG
 refine Lib.hid ?_
 go_wp2_with fail
 go_loopw [4,5] (fun v i wr=>∃(k:Nat) (b:Option Addr) (n d:Nat) (ts:List Tok),k<=s.size/\i=vi k/\v=.slice b n d/\SI w v ts wr/\gap1 (s.data.toList.drop k)=0/\R=a1k.pre ts (a3j k (s.data.toList.drop k))/\ts.length<=k) (fun _ i _=>s.size-(intOf i).toNat)
 case atStart=>exact⟨gapN s.data.toList,none,0,0,[],hg0.out.1,rfl,rfl,hS0,hg0.out.2,by rw[a1k.pre_nil,hg1.out];simp,Nat.zero_le _⟩
 case round =>
  clear hS0 hg0 hg1
  obtain⟨k,b,n,d,ts,hk,rfl,rfl,hS,hgap,hRk,htl⟩:=hrel
  obtain⟨c0,c1,f0,f1⟩:=in2 hS.r
  by_cases hlt:k<s.size
  ·have hne:s.data.toList.drop k≠[]:=by
    intro e
    have:=congrArg List.length e
    simp at this
    omega
   have hC:=c1m (s.extract k s.size) (by simp;omega) (by simp;omega) wr (ErrV.on hE.out hS.bl)
   rw[a7q]at hC
   have hk':(k:Int)<(s.size:Int):=by omega
   cases ht:tokR (s.data.toList.drop k)using TokR.byCases with
   | bad e =>
    have hRb:Hid (R=.bad e k):=hRk.trans (by rw[a4n hne hgap ht];rfl)
    obtain⟨hne0,_,_⟩:=b3h ht
    rw[ht]at hC
    unfold outR at hC
    simp only at hC
    clear ht hRk hgap hne htl
    go_wp2_with (go_at_call 76;refine hC.mono ?_;rintro e w2 ⟨rfl,hb2⟩;have hr2:=q0z hb2 hS.r;have hlt2:=q5z hr2;obtain⟨c0,c1,f0,f1⟩:=in2 hr2)
    refine bodyPost_ret (d0s rfl rfl (q4z _ (a5g hr2))) rfl ?_
    rw[hRb.out]
    exact⟨⟨none,0,0,rfl,World.ownsRow_nil _ _ _ _⟩,q1z (a4j _ _ (q3z hS.bl hb2) (Nat.le_refl _)) _⟩
   | tok k1 t1 n1 =>
    have hsz:=a3a ht
    have hl1:(s.data.toList.drop k).length=s.size-k:=by simp
    rw[hl1]at hsz
    have hRt:=a4o hne hgap ht k
    rw[List.drop_drop]at hRt
    rw[hRt,a1k.pre_pre]at hRk
    rw[ht]at hC
    unfold outR at hC
    simp only at hC
    have hn1:ts.length+1<=maxLen:=by unfold maxLen;omega
    have hb1:(ts.length+1)*32<=140737488355328:=by omega
    replace hRk:Hid _:=hRk
    replace hl1:Hid _:=hl1
    clear ht hgap hne hRt
    go_wp2_with (first|(go_at_call 76;refine hC.mono ?_;rintro e w2 ⟨rfl,hb2⟩;have hr2:=q0z hb2 hS.r;obtain⟨c0,c1,f0,f1⟩:=in2 hr2)|(at_builtin;refine Hid.out ?_))
    clear c0 c1 f0 f1 hr2 hC
    obtain⟨y,hy⟩:∃y:Tok,y=⟨k1,t1,k⟩:=⟨_,rfl⟩
    obtain⟨W,hW⟩:=exq ((w2.alloc (tbx k1 ⟨t1.toArray⟩ k)).alloc (tbx k1 ⟨t1.toArray⟩ k))
    have hnew:W.heap[w2.heap.size+1]?=some (tbx y.k y.b (y.a:Nat)):=by
     subst hW hy
     have:=a0a (w2.alloc (tbx k1 ⟨t1.toArray⟩ k)) (tbx k1 ⟨t1.toArray⟩ k)
     simp only[World.size_alloc]at this
     exact this
    have hSW:SI w (.slice b n d) ts W:=by
     subst hW
     exact((hS.on hb2).on (q1z bz0 _)).on (q1z bz0 _)
    have hszW:w.heap.size+1<=W.heap.size:=q5z hSW.r
    rw[hW]
    clear hW hb2 hS
    have hdd:k+n1<=s.size:=by omega
    have hG:=fun u=>c1g (s.extract (k+n1) s.size) (by simp;omega) u
    rw[a7q]at hG
    have hg0:=b4z _ (s.data.toList.drop (k+n1)) (Nat.le_refl _)
    have hg1:=a8i _ (s.data.toList.drop (k+n1)) (k+n1) (Nat.le_refl _)
    rw[List.drop_drop]at hg0 hg1
    rw[hg1,<- hy]at hRk
    have hg2:gapN (s.data.toList.drop (k+n1))<=s.size-(k+n1):=by
     have:=hg0.1
     rw[List.length_drop,hlen.out]at this
     exact this
    obtain⟨g1,hg1e⟩:=exq (gapN (s.data.toList.drop (k+n1)))
    rw[hg1e]at hG hg0 hRk hg2
    have hg3:Hid _:=hg0.2
    clear hg0 hg1 hg1e hy
    refine Lib.hid ?_
    go_wp2_with (first
     | (at_builtin;refine wpList_append_lies _ (by rfl) _ _ _ (by rfl) (w.heap.size+1) 85 i0 _ 3 32 Tryz.underlying77 hi0 hz0 hz1 hz2 rfl (by omega) (.slice b n d) ts.length (a6y ts) (by rfl) hSW.own (Ad (w2.heap.size+1) 0) 1 1 (a9s y) (by rfl) (by rfl) (c6p hnew) (by simp[Value.oneCell']) (by omega) hn1 hb1 hszW _ rfl ?_;intro g cap w5 hown1 hgrow hat1 hlt1;have hS5:=hSW.step hown1 hgrow;clear hown1 hgrow hat1 hlt1)
     | (go_at_call 75;refine(hG _).mono ?_;rintro e w6 ⟨rfl,hb6⟩))
    go_roundw
    case rel=>exact⟨k+n1+g1,_,_,_,ts++[y],by omega,by go_num,rfl,hS5.on hb6,hg3.out,hRk.out,by simp;omega⟩
    case measure=>simp[intOf];omega
  ·have hk':¬(k:Int)<(s.size:Int):=by omega
   have hRe:Hid (R=.toks ts):=hRk.trans (by rw[List.drop_eq_nil_of_le (by rw[hlen.out];omega),a3w];simp[a1k.pre,a1k.toks])
   clear hRk hgap
   go_wp2
   refine bodyPost_ret (d0s rfl rfl (a5g hS.r)) rfl ?_
   rw[hRe.out]
   exact⟨⟨b,n,d,rfl,hS.out _ _⟩,a4j _ _ hS.bl (Nat.le_refl _)⟩
theorem a7t(x:UInt8)(w:World):Cl 68 #[.int .u8 (x.toNat:Int)] w fun e z=>e=.returned (.bool (digB x))/\z=w:=by
 by_cases h1:(48:Int)<=(x.toNat:Int) <;> by_cases h2:(x.toNat:Int)<=57
 all_goals
  go_enter Tryz.func68,Tryz.ntmps68
  go_wp2
  go_ret
  exact⟨ret_bool (by simp[digB];omega),rfl⟩
theorem a8l(x:UInt8)(w:World):Cl 67 #[.int .u8 (x.toNat:Int)] w fun e y=>e=.returned (.bool (letB x))/\y=w:=by
 by_cases h1:x.toNat=95
 ·have z:((x.toNat:Int) == 95)=true:=by simp[h1]
  go_enter Tryz.func67,Tryz.ntmps67
  go_wp2
  go_ret
  exact⟨ret_bool (by simp[letB,h1]),rfl⟩
 have z:((x.toNat:Int) == 95)=false:=by simp;omega
 by_cases h2:(97:Int)<=(x.toNat:Int) <;> by_cases h3:(x.toNat:Int)<=122 <;> by_cases h4:(65:Int)<=(x.toNat:Int) <;> by_cases h5:(x.toNat:Int)<=90
 all_goals first
  | (exfalso;omega)
  | (
    go_enter Tryz.func67,Tryz.ntmps67
    go_wp2
    go_ret
    exact⟨ret_bool (by simp[letB,h1];omega),rfl⟩)
theorem a6r(l:List UInt8)(a n:Nat):(l.drop a)[n]?=l[a+n]?:=by simp
theorem d0u(s:ByteArray)(hs:s.size<=4000)(a:Nat)(ha:a<=s.size)(w:World) :
  Cl 66 #[.string s,vi a] w fun e w'=>e=.returned (vi (runN rowB (s.data.toList.drop a):Nat))/\w'=w:=by
 obtain⟨V,hV⟩:=exq (runN rowB (s.data.toList.drop a))
 rw[hV]
 replace hV:Hid _:=hV
 go_enter Tryz.func66,Tryz.ntmps66
 go_wp2
 go_loop [5] (fun i=>∃k:Nat,a+k<=s.size/\i=vi k/\∀i d,i<k->(s.data.toList.drop a)[i]?=some d->rowB d=true) (fun i=>s.size-(intOf i).toNat)
 case atStart=>exact⟨0,by omega,rfl,fun i d h=>by omega⟩
 case round =>
  obtain⟨k,hk,rfl,hno⟩:=hrel
  by_cases hlt:a+k<s.size
  ·have hc:(s.data.toList.drop a)[k]?=some s[a+k]:=by
    rw[a6r];exact a7f hlt
   have hT:=a6n rowB (s.data.toList.drop a) k s[a+k] hc hno
   rw[hV.out]at hT
   have hL:=a8l s[a+k] w
   have hD:=a7t s[a+k] w
   have hr:rowB s[a+k]=(letB s[a+k]||digB s[a+k]):=rfl
   rw[hr]at hT
   have hlt':(a:Int)+(k:Int)<(s.size:Int):=by omega
   clear hc
   replace hT:Hid _:=hT
   replace hno:Hid _:=hno
   cases h1:letB s[a+k]
   ·cases h2:digB s[a+k]
    ·rw[h1]at hL
     rw[h2]at hD
     have hp:Hid (V=k):=hT.out.2 (by rw[h1,h2];rfl)
     clear hT h1 h2
     go_wp2_with (first|(go_at_call 67;refine hL.mono ?_;rintro e w' ⟨rfl,rfl⟩)|(go_at_call 68;refine hD.mono ?_;rintro e w' ⟨rfl,rfl⟩))
     go_ret
     exact⟨a3l (by rw[hp.out]),rfl⟩
    ·rw[h1]at hL
     rw[h2]at hD
     have hp:Hid (∀i d,i<k+1->(s.data.toList.drop a)[i]?=some d->rowB d=true):=hT.out.1 (by rw[h1,h2];rfl)
     clear hT h1 h2
     go_wp2_with (first|(go_at_call 67;refine hL.mono ?_;rintro e w' ⟨rfl,rfl⟩)|(go_at_call 68;refine hD.mono ?_;rintro e w' ⟨rfl,rfl⟩))
     go_round
     case rel=>exact⟨k+1,by omega,by go_num,hp.out⟩
     case measure=>simp[intOf];omega
   ·rw[h1]at hL
    have hp:Hid (∀i d,i<k+1->(s.data.toList.drop a)[i]?=some d->rowB d=true):=hT.out.1 (by rw[h1];rfl)
    clear hT h1
    go_wp2_with (first|(go_at_call 67;refine hL.mono ?_;rintro e w' ⟨rfl,rfl⟩)|(go_at_call 68;refine hD.mono ?_;rintro e w' ⟨rfl,rfl⟩))
    go_round
    case rel=>exact⟨k+1,by omega,by go_num,hp.out⟩
    case measure=>simp[intOf];omega
  ·have hlt':¬(a:Int)+(k:Int)<(s.size:Int):=by omega
   have hp:Hid (V=k):=by
    show V=k
    rw[<- hV.out]
    exact a5l rowB _ k (by simp;omega) hno (fun c hc=>by rw[a6r,List.getElem?_eq_none (by simp;omega)]at hc;cases hc)
   clear hno
   go_wp2_with fail
   go_ret
   exact⟨a3l (by rw[hp.out]),rfl⟩
theorem c1q:∀x y:List UInt8,(!Op.bytesLess x y && !(x == y))=Op.bytesLess y x
 | [],[]=>by simp[Op.bytesLess]
 | [],_::_=>by simp[Op.bytesLess]
 | _::_,[]=>by simp[Op.bytesLess]
 | a::x,b::y=>by
  have z:=c1q x y
  rw[Op.bytesLess,Op.bytesLess]
  by_cases h:a=b
  ·subst h
   simp only[beq_self_eq_true,Bool.true_and,UInt8.lt_irrefl,decide_false,Bool.false_or,List.cons_beq_cons]
   exact z
  ·have w:¬b=a:=fun e=>h e.symm
   have u:(a == b)=false:=by simpa using h
   have v:(b == a)=false:=by simpa using w
   have hn:a.toNat≠b.toNat:=fun e=>h (UInt8.toNat_inj.1 e)
   simp only[u,v,Bool.false_and,Bool.or_false,List.cons_beq_cons,Bool.not_false,Bool.and_true]
   rw[Bool.eq_iff_iff]
   simp[UInt8.lt_iff_toNat_lt]
   omega
theorem b5r(s:ByteArray)(hs:s.size<=4000)(h0:0<s.size)(w:World) :
  Cl 69 #[.string s] w fun e w'=>e=.returned (vi (numE s.data.toList))/\w'=w:=by
 obtain⟨V,hV⟩:=exq (numE s.data.toList)
 rw[hV]
 replace hV:Hid _:=hV
 go_enter Tryz.func69,Tryz.ntmps69
 go_wp2
 go_loop [3] (fun i=>∃k:Nat,k<=s.size/\i=vi k/\∀i d,i<k->s.data.toList[i]?=some d->digB d=true) (fun i=>s.size-(intOf i).toNat)
 case atStart=>exact⟨0,by omega,rfl,fun i d h=>by omega⟩
 case round =>
  obtain⟨k,hk,rfl,hno⟩:=hrel
  by_cases hlt:k<s.size
  ·have hc:s.data.toList[k]?=some s[k]:=a7f hlt
   have hT:=a6n digB s.data.toList k s[k] hc hno
   have hD:=a7t s[k] w
   have hlt':(k:Int)<(s.size:Int):=by omega
   clear hc
   replace hT:Hid _:=hT
   replace hno:Hid _:=hno
   cases h2:digB s[k]
   ·rw[h2]at hD
    have hp:Hid (V=2):=by
     show V=2
     rw[<- hV.out]
     have:=hT.out.2 h2
     unfold numE
     rw[b5o,if_pos (by simp only[decide_eq_false_iff_not];rw[this];simp;omega)]
    clear hT h2
    go_wp2_with (go_at_call 68;refine hD.mono ?_;rintro e w' ⟨rfl,rfl⟩)
    go_ret
    exact⟨a3l (by rw[hp.out]),rfl⟩
   ·rw[h2]at hD
    have hp:Hid (∀i d,i<k+1->s.data.toList[i]?=some d->digB d=true):=hT.out.1 h2
    clear hT h2
    go_wp2_with (go_at_call 68;refine hD.mono ?_;rintro e w' ⟨rfl,rfl⟩)
    go_round
    case rel=>exact⟨k+1,by omega,by go_num,hp.out⟩
    case measure=>simp[intOf];omega
  ·obtain rfl:k=s.size:=by omega
   have hall:s.data.toList.all digB=true:=by
    rw[List.all_eq_true]
    intro d hd
    obtain⟨i,hi,hd⟩:=List.getElem_of_mem hd
    exact hno i d (by simpa using hi) (by rw[List.getElem?_eq_getElem hi,hd])
   obtain⟨c,r,hl,hc,_⟩:=a7r s h0
   have hlen:s.data.toList.length=s.size:=by simp
   have hhead:s.data.toList.head?=some s[0]:=by rw[hl,hc];rfl
   have hbig:=c0t s.data.toList hall
   rw[hlen,hhead]at hbig
   have hnum:V=if 1<s.size/\s[0]=48 then 2 else if 9223372036854775807<numV s.data.toList then 6 else 0:=by
    rw[<- hV.out]
    unfold numE
    rw[hall,if_neg (by simp),hlen,hhead]
    simp
   clear hno hall hl hc hlen hhead hV
   have hloop:¬(s.size:Int)<(s.size:Int):=by omega
   have h0':(0:Int)<(s.size:Int):=by omega
   by_cases k1:1<s.size
   ·have k1':(1:Int)<(s.size:Int):=by omega
    by_cases k2:s[0]=48
    ·have k2':((s[0].toNat:Int) == 48)=true:=by rw[k2];rfl
     have hp:Hid (V=2):=hnum.trans (if_pos ⟨k1,k2⟩)
     clear hnum hbig k2
     go_wp2
     go_ret
     exact⟨a3l (by rw[hp.out]),rfl⟩
    ·have k2':((s[0].toNat:Int) == 48)=false:=by
      have:s[0].toNat≠48:=fun e=>k2 (UInt8.toNat_inj.1 e)
      simp;omega
     have hb:=hbig (fun h=>k2 (by simpa using h.2))
     rw[if_neg (fun h=>k2 h.2)]at hnum
     clear hbig k2
     by_cases k3:19<s.size
     ·have k3':(19:Int)<(s.size:Int):=by omega
      have hp:Hid (V=6):=hnum.trans (if_pos (hb.2 (.inl k3)))
      clear hnum hb
      go_wp2
      go_ret
      exact⟨a3l (by rw[hp.out]),rfl⟩
     ·have k3':¬(19:Int)<(s.size:Int):=by omega
      by_cases k4:s.size=19
      ·have k4':((s.size:Int) == 19)=true:=by simp[k4]
       have hm:=c1q s.data.toList c0r
       cases hl:Op.bytesLess c0r s.data.toList
       ·have hp:Hid (V=0):=hnum.trans (if_neg (fun h=>by have:=hb.1 h;rw[hl]at this;simp at this;omega))
        rw[hl]at hm
        have hm':(!Op.bytesLess s.toList [57,50,50,51,51,55,50,48,51,54,56,53,52,55,55,53,56,48,55] && !(s.toList == [57,50,50,51,51,55,50,48,51,54,56,53,52,55,55,53,56,48,55]))=false:=by
         rw[ByteArray.toList_eq]
         exact hm
        clear hnum hb hl hm
        go_wp2
        go_ret
        exact⟨a3l (by rw[hp.out]),rfl⟩
       ·have hp:Hid (V=6):=hnum.trans (if_pos (hb.2 (.inr ⟨k4,hl⟩)))
        rw[hl]at hm
        have hm':(!Op.bytesLess s.toList [57,50,50,51,51,55,50,48,51,54,56,53,52,55,55,53,56,48,55] && !(s.toList == [57,50,50,51,51,55,50,48,51,54,56,53,52,55,55,53,56,48,55]))=true:=by
         rw[ByteArray.toList_eq]
         exact hm
        clear hnum hb hl hm
        go_wp2
        go_ret
        exact⟨a3l (by rw[hp.out]),rfl⟩
      ·have k4':((s.size:Int) == 19)=false:=by simp;omega
       have hp:Hid (V=0):=hnum.trans (if_neg (fun h=>by have:=hb.1 h;omega))
       clear hnum hb k4
       go_wp2
       go_ret
       exact⟨a3l (by rw[hp.out]),rfl⟩
   ·have k1':¬(1:Int)<(s.size:Int):=by omega
    have k3':¬(19:Int)<(s.size:Int):=by omega
    have k4':((s.size:Int) == 19)=false:=by simp;omega
    have hb:=hbig (fun h=>k1 h.1)
    rw[if_neg (fun h=>k1 h.1)]at hnum
    have hp:Hid (V=0):=hnum.trans (if_neg (fun h=>by have:=hb.1 h;omega))
    clear hnum hb hbig
    go_wp2
    go_ret
    exact⟨a3l (by rw[hp.out]),rfl⟩
def rqV (r:List UInt8):Value:=if r[runN txtB r]?=some 34 then .tuple #[vi (runN txtB r:Nat),.bool true] else .tuple #[vi 0,.bool false]
theorem b5s(s:ByteArray)(hs:s.size<=4000)(a:Nat)(ha:a<=s.size)(w:World) :
  Cl 70 #[.string s,vi a] w fun e w'=>e=.returned (rqV (s.data.toList.drop a))/\w'=w:=by
 obtain⟨V,hV⟩:=exq (rqV (s.data.toList.drop a))
 rw[hV]
 replace hV:Hid _:=hV
 go_enter Tryz.func70,Tryz.ntmps70
 go_wp2
 go_loop [6] (fun i=>∃k:Nat,a+k<=s.size/\i=vi k/\∀i d,i<k->(s.data.toList.drop a)[i]?=some d->txtB d=true) (fun i=>s.size-(intOf i).toNat)
 case atStart=>exact⟨0,by omega,rfl,fun i d h=>by omega⟩
 case round =>
  obtain⟨k,hk,rfl,hno⟩:=hrel
  by_cases hlt:a+k<s.size
  ·have hc:(s.data.toList.drop a)[k]?=some s[a+k]:=by
    rw[a6r];exact a7f hlt
   have hT:=a6n txtB (s.data.toList.drop a) k s[a+k] hc hno
   have hlt':(a:Int)+(k:Int)<(s.size:Int):=by omega
   replace hT:Hid _:=hT
   replace hno:Hid _:=hno
   replace hc:Hid _:=hc
   by_cases h1:s[a+k].toNat=34
   ·have h1':((s[a+k].toNat:Int) == 34)=true:=by simp[h1]
    have hp:Hid (V=.tuple #[vi (k:Nat),.bool true]):=by
     show V=_
     have e34:s[a+k]=34:=UInt8.toNat_inj.1 h1
     have:=hT.out.2 (by rw[e34];decide)
     rw[<- hV.out,rqV,this,hc.out,e34,if_pos rfl]
    clear hT h1 hc hno
    go_wp2
    go_ret2
    exact⟨congrArg _ hp.out.symm,rfl⟩
   ·have h1':((s[a+k].toNat:Int) == 34)=false:=by simp;omega
    by_cases h2:(s[a+k].toNat:Int)<32\/126<(s[a+k].toNat:Int)
    ·have hp:Hid (V=.tuple #[vi 0,.bool false]):=by
      show V=_
      have:=hT.out.2 (by simp[txtB];omega)
      rw[<- hV.out,rqV,this,hc.out,if_neg (fun e=>h1 (by injection e with e;rw[e];rfl))]
     clear hT h1 hc hno
     rcases h2 with h2|h2
     ·go_wp2
      go_ret2
      exact⟨congrArg _ hp.out.symm,rfl⟩
     ·have h3:¬(s[a+k].toNat:Int)<32:=by omega
      go_wp2
      go_ret2
      exact⟨congrArg _ hp.out.symm,rfl⟩
    ·have h3:¬(s[a+k].toNat:Int)<32:=by omega
     have h4:¬126<(s[a+k].toNat:Int):=by omega
     have hp:Hid (∀i d,i<k+1->(s.data.toList.drop a)[i]?=some d->txtB d=true):=hT.out.1 (by simp[txtB];omega)
     clear hT h1 hc hno h2
     go_wp2
     go_round
     case rel=>exact⟨k+1,by omega,by go_num,hp.out⟩
     case measure=>simp[intOf];omega
  ·have hlt':¬(a:Int)+(k:Int)<(s.size:Int):=by omega
   have hp:Hid (V=.tuple #[vi 0,.bool false]):=by
    show V=_
    have hn:(s.data.toList.drop a)[k]?=none:=by rw[a6r,List.getElem?_eq_none (by simp;omega)]
    have:=a5l txtB (s.data.toList.drop a) k (by simp;omega) hno (fun c hc=>by rw[hn]at hc;cases hc)
    rw[<- hV.out,rqV,this,hn,if_neg (by simp)]
   clear hno
   go_wp2
   go_ret2
   exact⟨congrArg _ hp.out.symm,rfl⟩
def a4f:List (List UInt8):=[[61,61],[60,61],[46,46]]++a5c.map (fun c=>[c])
def a7u (r:List UInt8):List UInt8:=(a4f.find? (fun p=>Lib.hasPrefix r p)).getD []
theorem b7h(c:UInt8)(q:List UInt8):∀L:List UInt8,(L.map (fun x=>[x])).find? (fun p=>Lib.hasPrefix (c::q) p)=if L.contains c then some [c] else none
 | []=>rfl
 | x::L=>by
  rw[List.map_cons,List.find?_cons,b7h c q L,pre1,List.contains_cons]
  by_cases h:c=x
  ·subst h;simp
  ·have y:¬x=c:=fun e=>h e.symm
   have z:(c == x)=false:=by simpa using h
   simp[h,z]
theorem c1r(c:UInt8)(q:List UInt8):a7u (c::q)=(c::q).take (a3i (c::q)):=by
 have v:=b1a c q
 unfold a7u a4f
 rw[List.find?_append,b7h]
 simp only[List.find?_cons,List.find?_nil]
 rcases v with⟨x,y,z⟩|⟨x,y,z,w⟩|⟨x,y,z,w,u⟩|⟨x,y,z,w⟩
 ·rw[x,y,z];rfl
 ·rw[x,y,z,w];rfl
 ·rw[x,y,z,w,u];rfl
 ·rw[x,y,z]
  have hn:=b3e a5c c
  rcases w with⟨k1,k2⟩|⟨k1,k2⟩
  ·rw[k2,hn.1 k1];rfl
  ·rw[k2]
   have:a5c.contains c=true:=by
    cases h:a5c.contains c
    ·have:=hn.2 h;omega
    ·rfl
   rw[this];rfl
def a9t:Array Value:=#[.string ⟨#[61,61]⟩,.string ⟨#[60,61]⟩,.string ⟨#[46,46]⟩,.string ⟨#[40]⟩,.string ⟨#[41]⟩,.string ⟨#[123]⟩,.string ⟨#[125]⟩,.string ⟨#[91]⟩,.string ⟨#[93]⟩,.string ⟨#[44]⟩,.string ⟨#[59]⟩,.string ⟨#[61]⟩,.string ⟨#[60]⟩,.string ⟨#[43]⟩,.string ⟨#[45]⟩,.string ⟨#[42]⟩,.string ⟨#[47]⟩,.string ⟨#[37]⟩,.string ⟨#[35]⟩]
theorem b1z(k:Nat)(p:List UInt8)(h:a4f[k]?=some p):a9t[k]?=some (.string ⟨p.toArray⟩):=by
 have e:a9t=(a4f.map (fun p=>Value.string ⟨p.toArray⟩)).toArray:=rfl
 rw[e]
 simp[h]
theorem b1b(w:World)(n:Nat):(w.drewN n).heap=w.heap:=rfl
theorem a7g(h:Below m w W)(n:Nat):Below m w (W.drewN n):=⟨h.os,h.tape,h.output,h.size,h.block⟩
theorem b1c:a4f.length=19:=rfl
theorem b3i(k:Nat)(p:List UInt8)(h:a4f[k]?=some p):0<p.length/\p.length<=2:=by
 have:∀p∈a4f,0<p.length/\p.length<=2:=by decide
 exact this p (List.mem_of_getElem? h)
theorem c1s(s P:ByteArray)(a:Nat)(hP:0<P.size) :
  Lib.hasPrefix (s.data.toList.drop a) P.data.toList=(decide ((a:Int)+(P.size:Int)<=(s.size:Int))&&((s.extract a (a+P.size)).toList == P.toList)):=by
 have z:P.data.toList.length=P.size:=by simp
 rw[ByteArray.toList_eq,ByteArray.toList_eq,a6p,Nat.add_sub_cancel_left]
 unfold Lib.hasPrefix
 rw[Bool.eq_iff_iff,List.isPrefixOf_iff_prefix]
 simp only[Bool.and_eq_true,decide_eq_true_eq,beq_iff_eq]
 constructor
 ·intro h
  have y:=h.length_le
  rw[z]at y
  simp at y
  refine⟨by omega,?_⟩
  rw[List.prefix_iff_eq_take]at h
  rw[z]at h
  exact h.symm
 ·rintro⟨_,h⟩
  rw[<- h]
  exact List.take_prefix _ _
theorem c6r{k:Nat}{p:List UInt8}(hno:∀j q,j<k->a4f[j]?=some q->Lib.hasPrefix r q=false)(hp:a4f[k]?=some p)(h:Lib.hasPrefix r p=true):a7u r=p:=by
 unfold a7u
 have:a4f.find? (fun p=>Lib.hasPrefix r p)=some p:=by
  rw[List.find?_eq_some_iff_getElem]
  obtain⟨y,z⟩:=List.getElem?_eq_some_iff.1 hp
  exact⟨h,k,y,z,fun j x=>by rw[hno j _ x (List.getElem?_eq_getElem (by omega))];rfl⟩
 rw[this];rfl
theorem c1t(hno:∀j q,j<19->a4f[j]?=some q->Lib.hasPrefix r q=false):a7u r=[]:=by
 unfold a7u
 have:a4f.find? (fun p=>Lib.hasPrefix r p)=none:=by
  rw[List.find?_eq_none]
  intro q hq
  obtain⟨j,y,z⟩:=List.getElem_of_mem hq
  rw[hno j q (by rw[b1c]at y;exact y) (by rw[List.getElem?_eq_getElem y,z])]
  simp
 rw[this];rfl
theorem c1u(s:ByteArray)(hs:s.size<=4000)(a:Nat)(ha:a<s.size)(w:World) :
  Cl 71 #[.string s,vi a] w fun e w'=>e=.returned (.string ⟨(a7u (s.data.toList.drop a)).toArray⟩)/\Bw w w':=by
 obtain⟨V,hV⟩:=exq (a7u (s.data.toList.drop a))
 rw[hV]
 replace hV:Hid _:=hV
 go_enter Tryz.func71,Tryz.ntmps71
 go_wp2
 go_loopw [6] (fun i wr=>∃k:Nat,k<=19/\i=vi k/\Bw w wr/\wr.heap[w.heap.size]?=some (.cells a9t 9)/\∀j q,j<k->a4f[j]?=some q->Lib.hasPrefix (s.data.toList.drop a) q=false) (fun i _=>19-(intOf i).toNat)
 case atStart=>exact⟨0,by omega,rfl,q1z bz0 _,a0a _ _,fun j q h=>by omega⟩
 case round =>
  obtain⟨k,hk,rfl,hb,hr,hno⟩:=hrel
  by_cases hlt:k<19
  ·obtain⟨p,hp⟩:∃p,a4f[k]?=some p:=⟨a4f[k]'(by rw[b1c];exact hlt),List.getElem?_eq_getElem _⟩
   have hcell:=q2z hr (b1z k p hp)
   obtain⟨hp1,hp2⟩:=b3i k p hp
   have hfn:=c6r hno hp
   rw[hV.out]at hfn
   have hno2:Lib.hasPrefix (s.data.toList.drop a) p=false->∀j q,j<k+1->a4f[j]?=some q->Lib.hasPrefix (s.data.toList.drop a) q=false:=fun h j q hj hq=>by
    by_cases e:j=k
    ·subst e;rw[hp]at hq;cases hq;exact h
    ·exact hno j q (by omega) hq
   obtain⟨P,hP⟩:∃P:ByteArray,⟨p.toArray⟩=P:=⟨_,rfl⟩
   have hPl:P.data.toList=p:=by rw[<- hP]
   have hPz:P.size=p.length:=by rw[<- hP];simp[ByteArray.size]
   rw[hP]at hcell
   rw[<- hPl]at hfn hno2
   have hpp:=c1s s P a (by omega)
   rw[hpp]at hfn hno2
   have hP1:0<P.size:=by omega
   have hP2:P.size<=2:=by omega
   clear hp hp1 hp2 hP hPl hPz hpp hno
   have hlt':(k:Int)<19:=by omega
   have hk0:(0:Int)<=(k:Int):=by omega
   by_cases g:(a:Int)+(P.size:Int)<=(s.size:Int)
   ·have g1:decide ((a:Int)+(P.size:Int)<=(s.size:Int))=true:=decide_eq_true g
    rw[g1,Bool.true_and]at hfn hno2
    cases he:((s.extract a (a+P.size)).toList == P.toList)
    ·have hno3:Hid _:=hno2 he
     clear hno2 hfn
     go_wp2
     go_quiet (fail)
     go_wp2
     go_roundw
     case rel=>exact⟨k+1,by omega,by go_num,a7g hb nq,by rw[b1b];exact hr,hno3.out⟩
     case measure=>simp[intOf];omega
    ·have hfn':Hid _:=hfn he
     clear hno2 hfn
     go_wp2
     go_quiet (fail)
     go_wp2
     go_ret
     exact⟨by rw[hfn'.out,a9r];rfl,a7g hb nq⟩
   ·have g1:decide ((a:Int)+(P.size:Int)<=(s.size:Int))=false:=decide_eq_false g
    rw[g1,Bool.false_and]at hfn hno2
    have hno3:Hid _:=hno2 rfl
    clear hno2 hfn g
    go_wp2
    go_quiet (fail)
    go_wp2
    go_roundw
    case rel=>exact⟨k+1,by omega,by go_num,a7g hb nq,by rw[b1b];exact hr,hno3.out⟩
    case measure=>simp[intOf];omega
  ·obtain rfl:k=19:=by omega
   have hn:Hid _:=c1t hno
   rw[hV.out]at hn
   clear hno
   go_wp2
   go_ret
   exact⟨by rw[hn.out];rfl,hb⟩
end Go.Proofs.YtomniogfpfbolaaGreatDoor
