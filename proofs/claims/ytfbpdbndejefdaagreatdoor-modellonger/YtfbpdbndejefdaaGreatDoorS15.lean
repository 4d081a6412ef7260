/- Walks of package lex: what stands between tokens; a token that is made. -/
import Derived.Test.YtfbpdbndejefdaaGreatDoorS10
import Derived.Test.YtfbpdbndejefdaaGreatDoorS11
import Derived.Test.YtfbpdbndejefdaaGreatDoorS04
import Derived.Deep.AppendLies
namespace Go.Proofs.YtfbpdbndejefdaaGreatDoor
open Go.RowKit Go
set_option maxRecDepth 100000
set_option maxHeartbeats 8000000
set_option linter.all false
variable {W W' w:World} {B i C m n base:Nat} {c tm:Array Value} {t:ByteArray} {z:Nat×Nat} {v:Value} {o:Obj} {k a e:Int} {l r:List UInt8} {xs:List Value}
theorem set_block{t:TypeId}(v:Value)(h:W.heap[B]?=some (.cells c t z)):(W.setCell (Ad B i) v).heap[B]?=some (.cells (c.setIfInBounds i v) t z):=by
 obtain⟨y,hk⟩:=Array.getElem?_eq_some_iff.1 h
 show(W.heap.modify B _)[B]?=_
 rw[Array.getElem?_eq_getElem (by rw[Array.size_modify];exact y),Array.getElem_modify_self,hk]
 rfl
theorem cell_block{t:TypeId}(h:W.heap[B]?=some (.cells c t z))(hv:c[i]?=some v):W.cell? (Ad B i)=some v:=by
 simp[World.cell?,h,hv]
theorem frozen_block{t:TypeId}(h:W.heap[B]?=some (.cells c t)):W.frozen? (Ad B i)=false:=by
 simp[World.frozen?,h]
theorem block_alloc(o':Obj)(h:W.heap[B]?=some o):(W.alloc o').heap[B]?=some o:=(Below.heap_alloc _ _ _ (Array.getElem?_eq_some_iff.1 h).1).trans h
theorem block_below(hb:Bw W W')(h:W.heap[B]?=some o):W'.heap[B]?=some o:=(hb.block B (Array.getElem?_eq_some_iff.1 h).1).trans h
theorem block_lt(h:W.heap[B]?=some o):B<W.heap.size:=(Array.getElem?_eq_some_iff.1 h).1
theorem set1_other(W:World)(v:Value)(h:C≠B):(W.setCell (Ad B i) v).heap[C]?=W.heap[C]?:=Below.heap_setCell _ (Ad B i) _ C h
theorem a0a(w:World)(o:Obj):(w.alloc o).heap[w.heap.size]?=some o:=by
 show(w.heap.push o)[w.heap.size]?=some o
 simp
abbrev tokv (k:Int) (t:ByteArray) (a:Int):Value:=.agg #[vi k,.string t,vi a]
abbrev tbx (k:Int) (t:ByteArray) (a:Int):Obj:=.cells #[vi k,.string t,vi a] 92
abbrev a2t:Obj:=tbx 0 ⟨#[]⟩ 0
structure In3 (W:World) (B:Nat) (k:Int) (t:ByteArray) (a:Int):Prop where
 c0:W.cell? (Ad B 0)=some (vi k)
 c1:W.cell? (Ad B 1)=some (.string t)
 c2:W.cell? (Ad B 2)=some (vi a)
 f0:W.frozen? (Ad B 0)=false
 f1:W.frozen? (Ad B 1)=false
 f2:W.frozen? (Ad B 2)=false
theorem in3(h:W.heap[B]?=some (tbx k t a)):In3 W B k t a:=⟨cell_block h rfl,cell_block h rfl,cell_block h rfl,frozen_block h,frozen_block h,frozen_block h⟩
abbrev put3 (W:World) (B:Nat) (k:Int) (t:ByteArray) (a:Int):World:=((W.setCell (Ad B 0) (vi k)).setCell (Ad B 1) (.string t)).setCell (Ad B 2) (vi a)
theorem put3_same(k':Int)(t':ByteArray)(a':Int)(h:W.heap[B]?=some (tbx k t a)):(put3 W B k' t' a').heap[B]?=some (tbx k' t' a'):=set_block _ (set_block _ (set_block _ h))
theorem put3_below(k:Int)(t:ByteArray)(a:Int)(h:Below m w W)(hB:m<=B):Below m w (put3 W B k t a):=((h.setCell (p:=(Ad B 0)) hB _).setCell (p:=(Ad B 1)) hB _).setCell (p:=(Ad B 2)) hB _
theorem d9e(h:tm[4]?.getD undef=Po B 0)(hx:W.heap[B]?=some (tbx k t a)):(results Tryz.f94 tm).run Tryz.prog W=.ok (tokv k t a) W:=by
 obtain⟨c0,c1,c2,_,_,_⟩:=in3 hx
 simp[results,Tryz.results94,go_sem,h,c0,c1,c2]
theorem a4v(k:Int)(s:ByteArray)(hs:s.size<=4000)(w:World) :
  Cl 94 #[vi k,.string s] w fun e q=>e=.returned (tokv k s 0)/\Bw w q:=by
 have p:=fun u=>Tryz.stringslite_Clone s u (by omega)
 have hr:=a0a w a2t
 have y:Bw w (w.alloc a2t):=(Below.refl _ _).alloc (Nat.le_refl _) _
 go_enter Tryz.func94,Tryz.ntmps94
 go_wp2_with (first|(go_at_call 24;go_in)|(go_at_call 34;refine(p _).mono ?_;rintro e w1 ⟨rfl,v⟩;have z:=block_below v hr;obtain⟨c0,c1,c2,f0,f1,f2⟩:=in3 z))
 exact bodyPost_ret (d9e rfl (put3_same k s 0 z)) rfl ⟨rfl,put3_below _ _ _ (y.trans (v.mono y.size)) (Nat.le_refl _)⟩
theorem a7i(s:ByteArray)(k:Nat):(s.extract k s.size).data.toList=s.data.toList.drop k:=by
 simp only[ByteArray.data_extract,Array.toList_extract]
 rw[List.extract_eq_take_drop,List.take_of_length_le (by simp)]
theorem a9t(s:ByteArray)(k:Nat):(s.extract 0 k).data.toList=s.data.toList.take k:=by
 simp[ByteArray.data_extract]
theorem b8t(s:ByteArray)(a b:Nat):(s.extract a b).data.toList=(s.data.toList.drop a).take (b-a):=by
 simp[ByteArray.data_extract]
theorem pre1(l:List UInt8)(c:UInt8):Lib.hasPrefix l [c]=decide (l.head?=some c):=by
 cases l with
 | nil=>rfl
 | cons d r =>
  by_cases h:c=d
  ·subst h;simp[Lib.hasPrefix,List.isPrefixOf]
  ·have z:¬d=c:=fun e=>h e.symm
   simp[Lib.hasPrefix,List.isPrefixOf,h,z]
theorem pre2(l:List UInt8)(c d:UInt8):Lib.hasPrefix l [c,d]=decide (l.take 2=[c,d]):=by
 match l with
 | []=>rfl
 | [x]=>simp[Lib.hasPrefix,List.isPrefixOf]
 | x::y::r =>
  by_cases h:c=x
  ·subst h
   by_cases k:d=y
   ·subst k;simp[Lib.hasPrefix,List.isPrefixOf]
   ·have z:¬y=d:=fun e=>k e.symm
    simp[Lib.hasPrefix,List.isPrefixOf,k,z]
  ·have v:¬x=c:=fun e=>h e.symm
   simp[Lib.hasPrefix,List.isPrefixOf,h,v]
theorem b5b(w:World):Cl 57 #[.int .u8 10] w fun e z=>e=.returned (.func (.func 91) #[] #[Po w.heap.size 0])/\z=w.alloc (.cells #[.int .u8 10] 5):=by
 have hmf:=hmf
 go_enter Tryz.func57,Tryz.ntmps57
 go_wp2
 go_ret
 exact⟨rfl,rfl⟩
theorem a8c(v:Value)(w:World)(hv:∃a n c,v=.slice a n c):Cl 60 #[v] w fun e z=>e=.returned (.func (.func 93) #[] #[Po w.heap.size 0])/\z=w.alloc (.cells #[v] 160):=by
 have hmf:=hmf
 obtain⟨a,n,c,rfl⟩:=hv
 go_enter Tryz.func60,Tryz.ntmps60
 go_wp2
 go_ret
 exact⟨rfl,rfl⟩
theorem c1j(l:List UInt8) :
  (Lib.hasPrefix l [32]=true/\gap1 l=1)\/(Lib.hasPrefix l [32]=false/\Lib.hasPrefix l [10]=true/\gap1 l=1) \/
  (Lib.hasPrefix l [32]=false/\Lib.hasPrefix l [10]=false/\Lib.hasPrefix l [45,45]=true/\gap1 l=runN a6x l/\0<gap1 l) \/
  (Lib.hasPrefix l [32]=false/\Lib.hasPrefix l [10]=false/\Lib.hasPrefix l [45,45]=false/\gap1 l=0):=by
 rw[pre1,pre1,pre2]
 match l with
 | []=>simp[gap1]
 | c::r =>
  by_cases h1:c=32
  ·subst h1;simp[gap1]
  by_cases h2:c=10
  ·subst h2;simp[gap1]
  have v:¬c.toNat=32:=fun k=>h1 (UInt8.toNat_inj.1 k)
  have z:¬c.toNat=10:=fun k=>h2 (UInt8.toNat_inj.1 k)
  by_cases h3:(c::r).take 2=[45,45]
  ·have h4:c=45/\r.head?=some 45:=by
    cases r with
    | nil=>simp at h3
    | cons d r=>simpa using h3
   have h5:gap1 (c::r)=runN a6x (c::r):=by
    unfold gap1
    simp only
    rw[if_neg (by omega),if_pos ⟨by rw[h4.1];rfl,h4.2⟩]
   have y:0<runN a6x (c::r):=by simp[runN,a6x,z]
   right;right;left
   exact⟨by simp[h1],by simp[h2],by simp only[h3,decide_true],h5,by rw[h5];exact y⟩
  ·right;right;right
   refine⟨by simp[h1],by simp[h2],by simp only[h3,decide_false],?_⟩
   unfold gap1
   simp only
   rw[if_neg (by omega),if_neg]
   rintro⟨h4,h5⟩
   have:c=45:=UInt8.toNat_inj.1 h4
   cases r with
   | nil=>simp at h5
   | cons d r=>simp at h5;simp[this,h5]at h3
theorem c1k(s:ByteArray)(hs:s.size<=4000)(w:World) :
  Cl 38 #[.string s] w fun e w'=>e=.returned (vi (gapN s.data.toList:Nat))/\Bw w w':=by
 have hmf:=hmf
 have hr:=a0a w (.cells #[.int .u8 10] 5)
 have hb0:Bw w (w.alloc (.cells #[.int .u8 10] 5)):=(Below.refl _ _).alloc (Nat.le_refl _) _
 have hl:s.data.toList.length=s.size:=by simp
 replace hl:Hid _:=hl
 go_enter Tryz.func38,Tryz.ntmps38
 go_wp2_with (go_at_call 57;refine(b5b _).mono ?_;rintro e w' ⟨rfl,rfl⟩)
 go_loopw [4] (fun i wr=>∃k:Nat,k<=s.size/\i=vi k/\Bw w wr/\wr.heap[w.heap.size]?=some (.cells #[.int .u8 10] 5)/\gapN s.data.toList=k+gapN (s.data.toList.drop k)) (fun i _=>s.size-(intOf i).toNat)
 case atStart=>exact⟨0,Nat.zero_le _,rfl,hb0,hr,by simp⟩
 case round =>
  clear hr hb0
  obtain⟨k,hk,rfl,hb,hr,hg⟩:=hrel
  have hz:(s.extract k s.size).size<=4000:=by simp;omega
  have hd:=a7i s k
  have hS:Says wr 91 (Po w.heap.size 0) a6x:=fun x w1 h1=>b3h _ x w1 (cell_block (block_below h1 hr) rfl)
  have hR:=d5f (s.extract k s.size) hz _ a6x wr hS
  have hd':=b8t s k s.size
  have h0:=c1j (s.extract k s.size).data.toList
  rw[hd']at h0
  have hq:(s.data.toList.drop k).take (s.size-k)=s.data.toList.drop k:=by rw[<- hd',hd]
  have hle:gap1 (s.data.toList.drop k)<=s.size-k:=by
   have:=a6l (s.data.toList.drop k)
   simp at this
   omega
  rw[hd]at hR
  have hsu:=fun h=>a9l (l:=s.data.toList.drop k) h
  have hze:=fun h=>a9k (l:=s.data.toList.drop k) h
  rw[List.drop_drop]at hsu
  have hg':Hid ((gap1 (s.data.toList.drop k)≠0->gapN s.data.toList=(k+gap1 (s.data.toList.drop k))+gapN (s.data.toList.drop (k+gap1 (s.data.toList.drop k))))/\(gap1 (s.data.toList.drop k)=0->gapN s.data.toList=k)) :=
   ⟨fun h=>by rw[hg,hsu h];omega,fun h=>by rw[hg,hze h];omega⟩
  clear hg hsu hze hd hd' hS
  have hq':Hid _:=hq
  have hle':Hid _:=hle
  clear hq hle
  rcases h0 with⟨e1,e2⟩|⟨e1,e2,e3⟩|⟨e1,e2,e3,e4,e5⟩|⟨e1,e2,e3,e4⟩
  ·rw[hq'.out]at e2
   replace e2:Hid _:=e2
   go_wp2_with (go_at_call 58;refine(Tryz.strings_HasPrefix _ _ _).mono ?_;rintro e w' ⟨rfl,rfl⟩)
   have h1:=e2.out
   have h2:=hle'.out
   have h3:=hg'.out.1 (by omega)
   rw[h1]at h3
   go_roundw
   case rel=>exact⟨k+1,by omega,by go_num,hb,hr,h3⟩
   case measure=>simp[intOf];omega
  ·rw[hq'.out]at e3
   replace e3:Hid _:=e3
   go_wp2_with (go_at_call 58;refine(Tryz.strings_HasPrefix _ _ _).mono ?_;rintro e w' ⟨rfl,rfl⟩)
   have h1:=e3.out
   have h2:=hle'.out
   have h3:=hg'.out.1 (by omega)
   rw[h1]at h3
   go_roundw
   case rel=>exact⟨k+1,by omega,by go_num,hb,hr,h3⟩
   case measure=>simp[intOf];omega
  ·rw[hq'.out]at e4 e5
   have h1:=hle'.out
   have h2:=hg'.out.1 (by omega)
   rw[e4]at h1 h2 e5
   replace h2:Hid _:=h2
   replace hg':Hid _:=hg'
   clear e4
   obtain⟨n,hn⟩:∃n,runN a6x (s.data.toList.drop k)=n:=⟨_,rfl⟩
   rw[hn]at h1 h2 e5 hR
   clear hn
   go_wp2_with (first|(go_at_call 58;refine(Tryz.strings_HasPrefix _ _ _).mono ?_;rintro e w' ⟨rfl,rfl⟩)|(go_at_call 59;refine hR.mono ?_;rintro e w2 ⟨rfl,hb2⟩))
   go_roundw
   case rel=>exact⟨k+n,by omega,by go_num,ext_trans hb hb2,block_below hb2 hr,h2.out⟩
   case measure=>simp[intOf];omega
  ·rw[hq'.out]at e4
   replace e4:Hid _:=e4
   go_wp2_with (go_at_call 58;refine(Tryz.strings_HasPrefix _ _ _).mono ?_;rintro e w' ⟨rfl,rfl⟩)
   go_ret
   exact⟨ret_int (by rw[hg'.out.2 e4.out]),hb⟩
abbrev outV (k:Int) (t:ByteArray) (n:Nat) (e:Int):Value:=.tuple #[tokv k t 0,vi n,vi e]
def outR:TokR->Value
 | .inl e=>outV 0 ⟨#[]⟩ 0 e
 | .inr (k,t,n)=>outV k ⟨t.toArray⟩ n 0
theorem b5c(s:ByteArray):(⟨s.data.toList.toArray⟩:ByteArray)=s:=by
 obtain⟨⟨l⟩⟩:=s
 simp
theorem c1l(l:List UInt8)(c:UInt8):Lib.indexByte l c<0↔l.contains c=false:=by
 induction l with
 | nil=>simp[Lib.indexByte]
 | cons b l ih =>
  have y:=Lib.indexByte_ge l c
  rw[Lib.indexByte,List.contains_cons]
  by_cases h:(b == c)=true
  ·have z:(c == b)=true:=by simp at h⊢;exact h.symm
   simp[h,z]
  ·have z:(c == b)=false:=by simp at h⊢;exact fun e=>h e.symm
   have hf:(b == c)=false:=by simpa using h
   rw[hf,z,Bool.false_or,<- ih]
   simp only[Bool.false_eq_true,if_false]
   by_cases k:Lib.indexByte l c=-1
   ·simp[k]
   ·have:(Lib.indexByte l c == -1)=false:=by simpa using k
    rw[this]
    simp only[Bool.false_eq_true,if_false]
    omega
theorem c5v(l:List UInt8)(c:UInt8):Lib.indexByte l c<=l.length:=by
 induction l with
 | nil=>simp[Lib.indexByte]
 | cons b l ih =>
  rw[Lib.indexByte]
  split
  ·simp;omega
  ·split
   ·simp;omega
   ·simp;omega
theorem c1m{n:Int}(h:tm[2]?.getD undef=Po B 0)(h3:tm[3]?.getD undef=vi n)(h4:tm[4]?.getD undef=vi e)(hx:W.heap[B]?=some (tbx k t a)):(results Tryz.f63 tm).run Tryz.prog W=.ok (.tuple #[tokv k t a,vi n,vi e]) W:=by
 obtain⟨c0,c1,c2,_,_,_⟩:=in3 hx
 simp[results,Tryz.results63,go_sem,h,h3,h4,c0,c1,c2]
theorem b8u(c:UInt8)(r:List UInt8) :
  (Lib.hasPrefix (c::r) [61,61]=true/\a3l (c::r)=2/\(c::r).take 2=[61,61]) \/
  (Lib.hasPrefix (c::r) [61,61]=false/\Lib.hasPrefix (c::r) [60,61]=true/\a3l (c::r)=2/\(c::r).take 2=[60,61]) \/
  (Lib.hasPrefix (c::r) [61,61]=false/\Lib.hasPrefix (c::r) [60,61]=false/\Lib.hasPrefix (c::r) [46,46]=true/\a3l (c::r)=2/\(c::r).take 2=[46,46]) \/
  (Lib.hasPrefix (c::r) [61,61]=false/\Lib.hasPrefix (c::r) [60,61]=false/\Lib.hasPrefix (c::r) [46,46]=false /\
   ((Lib.indexByte a6z c<0/\a3l (c::r)=0)\/(0<=Lib.indexByte a6z c/\a3l (c::r)=1))):=by
 rw[pre2,pre2,pre2]
 by_cases h1:(c::r).take 2=[61,61]
 ·left
  exact⟨decide_eq_true h1,by simp only[a3l,a5j,h1,decide_true,Bool.true_or,if_true],h1⟩
 by_cases h2:(c::r).take 2=[60,61]
 ·right;left
  exact⟨decide_eq_false h1,decide_eq_true h2,by simp only[a3l,a5j,h2,decide_true,Bool.true_or,Bool.or_true,if_true],h2⟩
 by_cases h3:(c::r).take 2=[46,46]
 ·right;right;left
  exact⟨decide_eq_false h1,decide_eq_false h2,decide_eq_true h3,by simp only[a3l,a5j,h3,decide_true,Bool.or_true,if_true],h3⟩
 right;right;right
 refine⟨decide_eq_false h1,decide_eq_false h2,decide_eq_false h3,?_⟩
 have z:a5j (c::r)=false:=by
  unfold a5j
  rw[decide_eq_false h1,decide_eq_false h2,decide_eq_false h3]
  rfl
 have hn:=c1l a6z c
 simp only[a3l,z]
 cases hc:a6z.contains c
 ·left
  exact⟨hn.2 hc,by simp⟩
 ·right
  refine⟨?_,by simp⟩
  by_cases k:Lib.indexByte a6z c<0
  ·rw[hn.1 k]at hc;cases hc
  ·omega
theorem b8v(x:UInt8)(u:World):Cl 96 #[.string ⟨#[40,41,123,125,91,93,44,59,61,60,43,45,42,47,37,35]⟩,.int .u8 (x.toNat:Int)] u fun e z=>e=.returned (vi (Lib.indexByte a6z x))/\z=u:=by
 have h:=Tryz.strings_IndexByte ⟨#[40,41,123,125,91,93,44,59,61,60,43,45,42,47,37,35]⟩ (x.toNat:Int) u
 have e:((x.toNat:Int)).toNat.toUInt8=x:=by
  rw[Int.toNat_natCast];exact UInt8.ofNat_toNat
 rw[e]at h
 exact h
theorem a9u(s:ByteArray)(h:0<s.size):∃c r,s.data.toList=c::r/\s[0]=c/\∀k,s.data.toList.take (k+1)=c::r.take k:=by
 obtain⟨⟨l⟩⟩:=s
 cases l with
 | nil=>simp[ByteArray.size]at h
 | cons c r=>exact⟨c,r,rfl,rfl,fun k=>rfl⟩
def b1y (l:List UInt8):Value:=if a3l l=0 then outV 0 ⟨#[]⟩ 0 2 else outV 4 ⟨(l.take (a3l l)).toArray⟩ (a3l l) 0
theorem a5v{t:List UInt8}(h:a3l l=n+1)(ht:l.take (n+1)=t):b1y l=outV 4 ⟨t.toArray⟩ (n+1) 0:=by
 unfold b1y
 rw[h,ht]
 rfl
theorem b8w(h:a3l l=0):b1y l=outV 0 ⟨#[]⟩ 0 2:=by
 unfold b1y
 rw[h]
 rfl
abbrev longer:Value:=.agg #[.string ⟨#[61,61]⟩,.string ⟨#[60,61]⟩,.string ⟨#[46,46]⟩]
theorem idx0(w:World):(Instr.index 166 longer (vi 0)).run Tryz.prog w=.ok (.string ⟨#[61,61]⟩) w:=by
 simp[Instr.index,run_underlying Tryz.underlying166,asIntOf,go_sem]
theorem idx1(w:World):(Instr.index 166 longer (vi 1)).run Tryz.prog w=.ok (.string ⟨#[60,61]⟩) w:=by
 simp[Instr.index,run_underlying Tryz.underlying166,asIntOf,go_sem]
theorem idx2(w:World):(Instr.index 166 longer (vi 2)).run Tryz.prog w=.ok (.string ⟨#[46,46]⟩) w:=by
 simp[Instr.index,run_underlying Tryz.underlying166,asIntOf,go_sem]
theorem c5w(s:ByteArray)(hs:s.size<=4000)(h0:0<s.size)(w:World) :
  Cl 63 #[.string s] w fun e v=>e=.returned (b1y s.data.toList)/\Bw w v:=by
 obtain⟨c,r,hl,hc,d⟩:=a9u s h0
 have z6:Hid (s.data.toList.take 1=[c]):=d 0
 clear d
 have hC:=b8u c r
 rw[<- hl]at hC
 have z4:Hid _:=hl
 clear hl
 have i0:=idx0
 have i1:=idx1
 have i2:=idx2
 have hr:=a0a w a2t
 have z9:Bw w (w.alloc a2t):=(Below.refl _ _).alloc (Nat.le_refl _) _
 have q:=block_alloc (.cells #[.string ⟨#[61,61]⟩,.string ⟨#[60,61]⟩,.string ⟨#[46,46]⟩] 166) hr
 have p:=ext_alloc z9 (.cells #[.string ⟨#[61,61]⟩,.string ⟨#[60,61]⟩,.string ⟨#[46,46]⟩] 166)
 rcases hC with⟨e1,a,f⟩|⟨e1,a,f,o⟩|⟨e1,a,f,o,e5⟩|⟨e1,a,f,o⟩
 ·have i:=fun u=>a4v 4 ⟨#[61,61]⟩ (by decide) u
  have z7:Hid _:=a
  have g:Hid _:=f
  clear a f
  go_enter Tryz.func63,Tryz.ntmps63
  go_wp2
  refine wp_loop_rounds 4 ?_
  rw[rounds_succ]
  go_wp2_with (first|(go_at_call 58;refine(Tryz.strings_HasPrefix _ _ _).mono ?_;rintro e v ⟨rfl,rfl⟩)|(go_at_call 94;refine(i _).mono ?_;rintro e w2 ⟨rfl,y⟩;have z:=block_below y q;obtain⟨c0,c1,c2,f0,f1,f2⟩:=in3 z))
  refine bodyPost_ret (c1m rfl rfl rfl (put3_same 4 _ 0 z)) rfl ⟨?_,put3_below _ _ _ (ext_trans p y) (Nat.le_refl _)⟩
  exact congrArg _ (a5v z7.out g.out).symm
 ·have i:=fun u=>a4v 4 ⟨#[60,61]⟩ (by decide) u
  have g:Hid _:=f
  have h:Hid _:=o
  clear f o
  go_enter Tryz.func63,Tryz.ntmps63
  go_wp2
  refine wp_loop_rounds 4 ?_
  rw[rounds_succ]
  go_wp2_with (go_at_call 58;refine(Tryz.strings_HasPrefix _ _ _).mono ?_;rintro e v ⟨rfl,rfl⟩)
  rw[rounds_succ]
  go_wp2_with (first|(go_at_call 58;refine(Tryz.strings_HasPrefix _ _ _).mono ?_;rintro e v ⟨rfl,rfl⟩)|(go_at_call 94;refine(i _).mono ?_;rintro e w2 ⟨rfl,y⟩;have z:=block_below y q;obtain⟨c0,c1,c2,f0,f1,f2⟩:=in3 z))
  refine bodyPost_ret (c1m rfl rfl rfl (put3_same 4 _ 0 z)) rfl ⟨?_,put3_below _ _ _ (ext_trans p y) (Nat.le_refl _)⟩
  exact congrArg _ (a5v g.out h.out).symm
 ·have i:=fun u=>a4v 4 ⟨#[46,46]⟩ (by decide) u
  have h:Hid _:=o
  have z8:Hid _:=e5
  clear o e5
  go_enter Tryz.func63,Tryz.ntmps63
  go_wp2
  refine wp_loop_rounds 4 ?_
  rw[rounds_succ]
  go_wp2_with (go_at_call 58;refine(Tryz.strings_HasPrefix _ _ _).mono ?_;rintro e v ⟨rfl,rfl⟩)
  rw[rounds_succ]
  go_wp2_with (go_at_call 58;refine(Tryz.strings_HasPrefix _ _ _).mono ?_;rintro e v ⟨rfl,rfl⟩)
  rw[rounds_succ]
  go_wp2_with (first|(go_at_call 58;refine(Tryz.strings_HasPrefix _ _ _).mono ?_;rintro e v ⟨rfl,rfl⟩)|(go_at_call 94;refine(i _).mono ?_;rintro e w2 ⟨rfl,y⟩;have z:=block_below y q;obtain⟨c0,c1,c2,f0,f1,f2⟩:=in3 z))
  refine bodyPost_ret (c1m rfl rfl rfl (put3_same 4 _ 0 z)) rfl ⟨?_,put3_below _ _ _ (ext_trans p y) (Nat.le_refl _)⟩
  exact congrArg _ (a5v h.out z8.out).symm
 ·have hI:=fun u=>b8v s[0] u
  rw[hc]at hI
  have m:=c5v a6z c
  obtain⟨j,hj⟩:∃j,Lib.indexByte a6z c=j:=⟨_,rfl⟩
  rw[hj]at hI o m
  have z3:j<=16:=m
  clear hj m
  have i:=fun u=>a4v 4 (s.extract 0 1) (by simp;omega) u
  have z5:(s[0].toNat:Int)=(c.toNat:Int):=by rw[hc]
  rcases o with⟨k1,k2⟩|⟨k1,k2⟩
  ·have n:Hid _:=k2
   clear k2
   go_enter Tryz.func63,Tryz.ntmps63
   go_wp2
   refine wp_loop_rounds 4 ?_
   rw[rounds_succ]
   go_wp2_with (go_at_call 58;refine(Tryz.strings_HasPrefix _ _ _).mono ?_;rintro e v ⟨rfl,rfl⟩)
   rw[rounds_succ]
   go_wp2_with (go_at_call 58;refine(Tryz.strings_HasPrefix _ _ _).mono ?_;rintro e v ⟨rfl,rfl⟩)
   rw[rounds_succ]
   go_wp2_with (go_at_call 58;refine(Tryz.strings_HasPrefix _ _ _).mono ?_;rintro e v ⟨rfl,rfl⟩)
   rw[rounds_succ]
   go_wp2_with (go_at_call 96;refine(hI _).mono ?_;rintro e v ⟨rfl,rfl⟩)
   exact bodyPost_ret (c1m rfl rfl rfl q) rfl ⟨congrArg _ (b8w n.out).symm,p⟩
  ·have n:Hid _:=k2
   clear k2
   go_enter Tryz.func63,Tryz.ntmps63
   go_wp2
   refine wp_loop_rounds 4 ?_
   rw[rounds_succ]
   go_wp2_with (go_at_call 58;refine(Tryz.strings_HasPrefix _ _ _).mono ?_;rintro e v ⟨rfl,rfl⟩)
   rw[rounds_succ]
   go_wp2_with (go_at_call 58;refine(Tryz.strings_HasPrefix _ _ _).mono ?_;rintro e v ⟨rfl,rfl⟩)
   rw[rounds_succ]
   go_wp2_with (go_at_call 58;refine(Tryz.strings_HasPrefix _ _ _).mono ?_;rintro e v ⟨rfl,rfl⟩)
   rw[rounds_succ]
   go_wp2_with (first|(go_at_call 96;refine(hI _).mono ?_;rintro e v ⟨rfl,rfl⟩)|(go_at_call 94;refine(i _).mono ?_;rintro e w2 ⟨rfl,y⟩;have z:=block_below y q;obtain⟨c0,c1,c2,f0,f1,f2⟩:=in3 z))
   refine bodyPost_ret (c1m rfl rfl rfl (put3_same 4 _ 0 z)) rfl ⟨?_,put3_below _ _ _ (ext_trans p y) (Nat.le_refl _)⟩
   rw[a5v n.out rfl,<- a9t,b5c]
   rfl
theorem c5x{n:Int}(h:tm[2]?.getD undef=Po B 0)(h3:tm[3]?.getD undef=vi n)(h4:tm[4]?.getD undef=vi e)(hx:W.heap[B]?=some (tbx k t a)):(results Tryz.f62 tm).run Tryz.prog W=.ok (.tuple #[tokv k t a,vi n,vi e]) W:=by
 obtain⟨c0,c1,c2,_,_,_⟩:=in3 hx
 simp[results,Tryz.results62,go_sem,h,h3,h4,c0,c1,c2]
theorem res49{n:Int}(h:tm[2]?.getD undef=Po B 0)(h3:tm[3]?.getD undef=vi n)(h4:tm[4]?.getD undef=vi e)(hx:W.heap[B]?=some (tbx k t a)):(results Tryz.f61 tm).run Tryz.prog W=.ok (.tuple #[tokv k t a,vi n,vi e]) W:=by
 obtain⟨c0,c1,c2,_,_,_⟩:=in3 hx
 simp[results,Tryz.results61,go_sem,h,h3,h4,c0,c1,c2]
theorem d1a{n:Int}(h:tm[2]?.getD undef=Po B 0)(h3:tm[3]?.getD undef=vi n)(h4:tm[4]?.getD undef=vi e)(hx:W.heap[B]?=some (tbx k t a)):(results Tryz.f39 tm).run Tryz.prog W=.ok (.tuple #[tokv k t a,vi n,vi e]) W:=by
 obtain⟨c0,c1,c2,_,_,_⟩:=in3 hx
 simp[results,Tryz.results39,go_sem,h,h3,h4,c0,c1,c2]
theorem c5y:inSp [(32,33),(35,126)]=txtB:=by
 funext x
 simp only[inSp,txtB,List.any_cons,List.any_nil,Bool.or_false]
 rw[Bool.eq_iff_iff]
 simp
 omega
theorem c5z:inSp [(97,122),(65,90),(48,57),(95,95)]=rowB:=by
 funext x
 simp only[inSp,rowB,letB,digB,List.any_cons,List.any_nil,Bool.or_false]
 rw[Bool.eq_iff_iff]
 simp
 omega
theorem c6a:inSp [(48,57)]=digB:=by
 funext x
 simp only[inSp,digB,List.any_cons,List.any_nil,Bool.or_false]
theorem b5d{c:Nat}{sp:List (Nat×Nat)}(h:b8i c sp w)(hl:sp.length<=4){p:UInt8->Bool}(hp:inSp sp=p):Says w 93 (Po c 0) p:=by
 subst hp
 exact fun x w1 h1=>b4u c sp x w1 (h.below h1 (Nat.le_refl _)) hl
theorem b1z(w:World)(sp:List (Nat×Nat))(cs:Array Value)(n:Nat)(hn:sp.length=n)(hcs:∀i p,sp[i]?=some p->cs[i*2]?=some (.int .u8 (p.1:Nat))/\cs[i*2+1]?=some (.int .u8 (p.2:Nat)))(hW:((w.alloc a2t).alloc (.cells cs 125)).alloc (.cells #[.slice (some (Ad (w.heap.size+1) 0)) n n] 160)=W) :
  W.heap[w.heap.size]?=some a2t/\Bw w W/\b8i (w.heap.size+1+1) sp W:=by
 subst hW
 refine⟨block_alloc _ (block_alloc _ (a0a _ _)),ext_alloc (ext_alloc (ext_alloc (Below.refl _ _) _) _) _,w.heap.size+1,?_,fun i p hp=>?_⟩
 ·have:=a0a ((w.alloc a2t).alloc (.cells cs 125)) (.cells #[.slice (some (Ad (w.heap.size+1) 0)) n n] 160)
  simp only[World.size_alloc]at this
  rw[hn]
  exact cell_block this rfl
 ·have:=block_alloc (.cells #[.slice (some (Ad (w.heap.size+1) 0)) n n] 160) (a0a (w.alloc a2t) (.cells cs 125))
  simp only[World.size_alloc]at this
  exact⟨cell_block this (hcs i p hp).1,cell_block this (hcs i p hp).2⟩
theorem d5n:∀i p,[((32:Nat),(33:Nat)),(35,126)][i]?=some p->(#[.int .u8 32,.int .u8 33,.int .u8 35,.int .u8 126]:Array Value)[i*2]?=some (.int .u8 (p.1:Nat))/\(#[.int .u8 32,.int .u8 33,.int .u8 35,.int .u8 126]:Array Value)[i*2+1]?=some (.int .u8 (p.2:Nat))
 | 0,p,h=>by cases h;exact⟨rfl,rfl⟩
 | 1,p,h=>by cases h;exact⟨rfl,rfl⟩
 | n+2,p,h=>by simp at h
theorem d5o:∀i p,[((48:Nat),(57:Nat))][i]?=some p->(#[.int .u8 48,.int .u8 57]:Array Value)[i*2]?=some (.int .u8 (p.1:Nat))/\(#[.int .u8 48,.int .u8 57]:Array Value)[i*2+1]?=some (.int .u8 (p.2:Nat))
 | 0,p,h=>by cases h;exact⟨rfl,rfl⟩
 | n+1,p,h=>by simp at h
theorem d5p:∀i p,[((97:Nat),(122:Nat)),(65,90),(48,57),(95,95)][i]?=some p->(#[.int .u8 97,.int .u8 122,.int .u8 65,.int .u8 90,.int .u8 48,.int .u8 57,.int .u8 95,.int .u8 95]:Array Value)[i*2]?=some (.int .u8 (p.1:Nat))/\(#[.int .u8 97,.int .u8 122,.int .u8 65,.int .u8 90,.int .u8 48,.int .u8 57,.int .u8 95,.int .u8 95]:Array Value)[i*2+1]?=some (.int .u8 (p.2:Nat))
 | 0,p,h=>by cases h;exact⟨rfl,rfl⟩
 | 1,p,h=>by cases h;exact⟨rfl,rfl⟩
 | 2,p,h=>by cases h;exact⟨rfl,rfl⟩
 | 3,p,h=>by cases h;exact⟨rfl,rfl⟩
 | n+4,p,h=>by simp at h
def a8u (r:List UInt8):Value:=if r[runN txtB r]?=some 34 then (if 300<runN txtB r then outV 0 ⟨#[]⟩ 0 1 else outV 3 ⟨(r.take (runN txtB r)).toArray⟩ (runN txtB r+2) 0) else outV 0 ⟨#[]⟩ 0 2
theorem b8x(h:r[runN txtB r]?≠some 34):a8u r=outV 0 ⟨#[]⟩ 0 2:=by unfold a8u;rw[if_neg h]
theorem b8y(h:r[runN txtB r]?=some 34)(k:300<runN txtB r):a8u r=outV 0 ⟨#[]⟩ 0 1:=by unfold a8u;rw[if_pos h,if_pos k]
theorem c6b(h:r[runN txtB r]?=some 34)(k:¬300<runN txtB r):a8u r=outV 3 ⟨(r.take (runN txtB r)).toArray⟩ (runN txtB r+2) 0:=by unfold a8u;rw[if_pos h,if_neg k]
theorem d1b{R:ByteArray}(h:n<R.size):R.data.toList[n]?=some R[n]:=by
 rw[List.getElem?_eq_getElem (by simpa using h)];rfl
theorem b8z(s:ByteArray)(hs:s.size<=4000)(h0:0<s.size)(w:World) :
  Cl 62 #[.string s] w fun e w'=>e=.returned (a8u (s.data.toList.drop 1))/\Bw w w':=by
 have z1:(1:Int)<=(s.size:Int):=by omega
 have hW:=fun v u h=>a8c v u h
 rw[<- a7i s 1]
 obtain⟨V,hV⟩:∃V,a8u (s.extract 1 s.size).data.toList=V:=⟨_,rfl⟩
 rw[hV]
 replace hV:Hid _:=hV
 go_enter Tryz.func62,Tryz.ntmps62
 go_wp2_with (first|(go_at_call 60;refine(hW _ _ ⟨_,_,_,rfl⟩).mono ?_;rintro e w' ⟨rfl,rfl⟩)|(go_at_call 59;refine Hid.out ?_))
 have hz:(s.extract 1 s.size).size<=4000:=by simp;omega
 obtain⟨R,hR⟩:∃R,s.extract 1 s.size=R:=⟨_,rfl⟩
 obtain⟨W,d⟩:∃W,((w.alloc a2t).alloc (.cells #[.int .u8 32,.int .u8 33,.int .u8 35,.int .u8 126] 125)).alloc (.cells #[.slice (some (Ad (w.heap.size+1) 0)) 2 2] 160)=W:=⟨_,rfl⟩
 obtain⟨hr,hb,z9⟩:=b1z w [(32,33),(35,126)] _ 2 rfl d5n d
 rw[hR]at hz hV⊢
 rw[d]
 have p:=c0r R hz _ txtB W (b5d z9 (by decide) c5y)
 have z6:=a3w txtB R.data.toList
 have z7:runN txtB R.data.toList<=R.size:=by simpa using z6
 clear d hR hW z9 z6 z1 h0 hs
 have j:=b8x (r:=R.data.toList)
 have m:=b8y (r:=R.data.toList)
 have q:=c6b (r:=R.data.toList)
 rw[<- a9t]at q
 obtain⟨n,hn⟩:∃n,runN txtB R.data.toList=n:=⟨_,rfl⟩
 rw[hn]at p z7 j m q
 rw[b5c]at q
 clear hn
 rw[hV.out]at j m q
 clear hV
 have z:Hid _:=And.intro j (And.intro m q)
 clear j m q
 have hM:=fun u=>a4v 3 (R.extract 0 n) (by simp;omega) u
 refine p.mono ?_
 rintro e w2 ⟨rfl,f⟩
 clear p
 have o:=block_below f hr
 have i:=ext_trans hb f
 clear hb hr f
 obtain⟨c0,c1,c2,f0,f1,f2⟩:=in3 o
 by_cases he:n=R.size
 ·have hx:((n:Int) == (R.size:Int))=true:=by simp[he]
  have a:Hid (V=outV 0 ⟨#[]⟩ 0 2):=z.out.1 (by rw[List.getElem?_eq_none (by simp;omega)];simp)
  clear he z
  refine Lib.hid ?_
  go_wp2
  exact bodyPost_ret (c5x rfl rfl rfl (put3_same _ _ _ o)) rfl ⟨congrArg _ a.out.symm,put3_below _ _ _ i (Nat.le_refl _)⟩
 ·have z3:n<R.size:=by omega
  have hx:((n:Int) == (R.size:Int))=false:=by simp;omega
  have y:=d1b z3
  by_cases hc:R[n].toNat=34
  ·have g:R[n]=34:=UInt8.toNat_inj.1 hc
   have z4:((R[n].toNat:Int) == 34)=true:=by simp[hc]
   rw[g]at y
   by_cases hn3:300<n
   ·have a:Hid (V=outV 0 ⟨#[]⟩ 0 1):=z.out.2.1 y hn3
    have z2:(300:Int)<(n:Int):=by omega
    clear z y hc g he
    refine Lib.hid ?_
    go_wp2
    exact bodyPost_ret (c5x rfl rfl rfl (put3_same _ _ _ o)) rfl ⟨congrArg _ a.out.symm,put3_below _ _ _ i (Nat.le_refl _)⟩
   ·have a:Hid (V=outV 3 (R.extract 0 n) (n+2) 0):=z.out.2.2 y hn3
    have z2:¬(300:Int)<(n:Int):=by omega
    clear z y hc g he
    refine Lib.hid ?_
    go_wp2_with (go_at_call 94;refine(hM _).mono ?_;rintro e w3 ⟨rfl,z5⟩;have z8:=block_below z5 o;obtain⟨c0,c1,c2,f0,f1,f2⟩:=in3 z8)
    exact bodyPost_ret (c5x rfl rfl rfl (put3_same _ _ _ z8)) rfl ⟨congrArg _ (a.out.trans (by simp)).symm,put3_below _ _ _ (ext_trans i z5) (Nat.le_refl _)⟩
  ·have z4:((R[n].toNat:Int) == 34)=false:=by simp;omega
   have a:Hid (V=outV 0 ⟨#[]⟩ 0 2):=z.out.1 (by rw[y];intro e;apply hc;injection e with e;rw[e];rfl)
   clear z y hc he
   refine Lib.hid ?_
   go_wp2
   exact bodyPost_ret (c5x rfl rfl rfl (put3_same _ _ _ o)) rfl ⟨congrArg _ a.out.symm,put3_below _ _ _ i (Nat.le_refl _)⟩
def ErrV (w:World):Prop:=∃ev,w.cell? (Ad 6 0)=some ev/\(ev=.nilIface\/∃te pe,ev=.iface te pe)
theorem ErrV.on{w':World}(h:ErrV w)(hb:Bw w w'):ErrV w':=by
 obtain⟨z,h1,h2⟩:=h
 exact⟨z,(hb.cell (p:=(Ad 6 0)) (World.block_lt_of_cell? _ _ h1)).trans h1,h2⟩
def wnV (l:List UInt8):Value :=
 if (l.head?.map digB).getD false=false then (if 16<l.length then outV 0 ⟨#[]⟩ 0 1 else outV 1 ⟨l.toArray⟩ l.length 0)
 else if numE l=0 then outV 2 ⟨l.toArray⟩ l.length 0 else outV 0 ⟨#[]⟩ 0 (numE l)
theorem c1n(p:UInt8->Bool):∀l:List UInt8,l.all p=decide (l.length<=runN p l)
 | []=>by simp[runN]
 | c::r=>by
  have:=a3w p r
  rw[List.all_cons,c1n p r,runN]
  cases p c
  ·simp
  ·simp
theorem b6t(s:ByteArray)(hs:s.size<=4000)(v:Int)(h:Lib.parseIntB 64 s.data.toList=.ok v)(w:World) :
  Cl 95 #[.string s,vi 10,vi 64] w fun e z=>e=.returned (.tuple #[vi v,.nilIface])/\Bw w z:=by
 refine(Tryz.strconv_ParseInt_10_at64_ok s (by omega) v h w).mono ?_
 rintro e z ⟨rfl,y⟩
 refine⟨rfl,?_⟩
 rcases y with rfl|⟨t,rfl⟩
 ·exact Below.refl _ _
 ·exact Lib.bytesWorld_below _ _ _
theorem b5e(s:ByteArray)(hs:s.size<=4000)(h:Lib.parseIntB 64 s.data.toList=.range)(w:World)(hv:ErrV w) :
  Cl 95 #[.string s,vi 10,vi 64] w fun e z=>∃v N,e=.returned (.tuple #[vi v,.iface 213 (Po N 0)])/\Bw w z:=by
 obtain⟨u,h1,h2⟩:=hv
 refine(Tryz.strconv_ParseInt_10_at64_range s (by omega) h u w h1 h2).mono ?_
 rintro e z ⟨N,rfl,_,_,y⟩
 exact⟨_,N,rfl,y⟩
theorem c6c(c:UInt8)(r:List UInt8) :
  (digB c=false/\16<(c::r).length/\wnV (c::r)=outV 0 ⟨#[]⟩ 0 1) \/
  (digB c=false/\¬16<(c::r).length/\wnV (c::r)=outV 1 ⟨(c::r).toArray⟩ (c::r).length 0) \/
  (digB c=true/\runN digB (c::r)<(c::r).length/\wnV (c::r)=outV 0 ⟨#[]⟩ 0 2) \/
  (digB c=true/\¬runN digB (c::r)<(c::r).length/\c=48/\1<(c::r).length/\wnV (c::r)=outV 0 ⟨#[]⟩ 0 2) \/
  (digB c=true/\¬runN digB (c::r)<(c::r).length/\¬(c=48/\1<(c::r).length)/\Lib.parseIntB 64 (c::r)=.range/\wnV (c::r)=outV 0 ⟨#[]⟩ 0 6) \/
  (digB c=true/\¬runN digB (c::r)<(c::r).length/\¬(c=48/\1<(c::r).length)/\Lib.parseIntB 64 (c::r)=.ok (numV (c::r):Int)/\wnV (c::r)=outV 2 ⟨(c::r).toArray⟩ (c::r).length 0):=by
 have z:=c1n digB (c::r)
 have u:=a3w digB (c::r)
 have s:(((c::r).head?.map digB).getD false)=digB c:=rfl
 unfold wnV
 rw[s]
 cases hc:digB c
 ·by_cases h:16<(c::r).length
  ·left;exact⟨rfl,h,by rw[if_pos rfl,if_pos h]⟩
  ·right;left;exact⟨rfl,h,by rw[if_pos rfl,if_neg h]⟩
 right;right
 by_cases h1:runN digB (c::r)<(c::r).length
 ·left
  have:numE (c::r)=2:=by unfold numE;rw[z,if_pos (by simp only[decide_eq_false_iff_not];omega)]
  exact⟨rfl,h1,by rw[if_neg (by simp),this];rfl⟩
 right
 have v:(c::r).all digB=true:=by rw[z];simp only[decide_eq_true_eq];omega
 by_cases h2:c=48/\1<(c::r).length
 ·left
  have:numE (c::r)=2:=by unfold numE;rw[v,if_neg (by simp),if_pos ⟨h2.2,by rw[h2.1];rfl⟩]
  exact⟨rfl,h1,h2.1,h2.2,by rw[if_neg (by simp),this];rfl⟩
 right
 have hp:=a8m (c::r) (by simp) v
 have y:¬(1<(c::r).length/\(c::r).head?=some 48):=fun h=>h2 ⟨by simpa using h.2,h.1⟩
 by_cases h3:9223372036854775807<numV (c::r)
 ·left
  have:numE (c::r)=6:=by unfold numE;rw[v,if_neg (by simp),if_neg y,if_pos h3]
  exact⟨rfl,h1,h2,by rw[hp,if_pos h3],by rw[if_neg (by simp),this];rfl⟩
 ·right
  have:numE (c::r)=0:=by unfold numE;rw[v,if_neg (by simp),if_neg y,if_neg h3]
  exact⟨rfl,h1,h2,by rw[hp,if_neg h3],by rw[if_neg (by simp),this];rfl⟩
theorem d5q(s:ByteArray)(hs:s.size<=4000)(h0:0<s.size)(w:World)(hE:ErrV w) :
  Cl 61 #[.string s] w fun e w'=>e=.returned (wnV s.data.toList)/\Bw w w':=by
 have y6:(0:Int)<(s.size:Int):=by omega
 have hW:=fun v u h=>a8c v u h
 obtain⟨V,hV⟩:∃V,wnV s.data.toList=V:=⟨_,rfl⟩
 rw[hV]
 replace hV:Hid _:=hV
 replace hE:Hid _:=hE
 go_enter Tryz.func61,Tryz.ntmps61
 go_wp2_with (first|(go_at_call 60;refine(hW _ _ ⟨_,_,_,rfl⟩).mono ?_;rintro e w' ⟨rfl,rfl⟩)|(go_at_call 93;refine Hid.out ?_))
 obtain⟨W,z1⟩:∃W,((w.alloc a2t).alloc (.cells #[.int .u8 48,.int .u8 57] 125)).alloc (.cells #[.slice (some (Ad (w.heap.size+1) 0)) 1 1] 160)=W:=⟨_,rfl⟩
 obtain⟨hr,hb,z0⟩:=b1z w [(48,57)] _ 1 rfl d5o z1
 rw[z1]
 have z8:=b5d z0 (by decide) c6a
 have z2:=z8 s[0] W (Below.refl _ _)
 obtain⟨c,r,hl,hc,_⟩:=a9u s h0
 have hC:=c6c c r
 rw[<- hl,hV.out]at hC
 have z3:s.data.toList.length=s.size:=by simp
 have y9:=b5c s
 rw[z3,y9]at hC
 have y7:=fun u=>a4v 1 s hs u
 have y8:=fun u=>a4v 2 s hs u
 clear z1 hW z0 hV z3 y9 hl
 rw[<- hc]at hC
 clear hc
 refine z2.mono ?_
 rintro e w2 ⟨rfl,z5⟩
 clear z2
 have j:=block_below z5 hr
 have i:=ext_trans hb z5
 have z9:=z8.on z5
 have g:ErrV w2:=ErrV.on (ErrV.on hE.out hb) z5
 clear hb hr z5 hE z8
 obtain⟨c0,c1,c2,f0,f1,f2⟩:=in3 j
 have q:=c0r s hs _ digB w2 z9
 clear z9
 rcases hC with⟨a,d,o⟩|⟨a,d,o⟩|⟨a,d,o⟩|⟨a,d,o,e4,f⟩|⟨a,d,o,e4,f⟩|⟨a,d,o,e4,f⟩
 ·have z4:(16:Int)<(s.size:Int):=by omega
  replace o:Hid _:=o
  rw[a]
  refine Lib.hid ?_
  go_wp2
  exact bodyPost_ret (res49 rfl rfl rfl (put3_same _ _ _ j)) rfl ⟨congrArg _ o.out.symm,put3_below _ _ _ i (Nat.le_refl _)⟩
 ·have z4:¬(16:Int)<(s.size:Int):=by omega
  replace o:Hid _:=o
  rw[a]
  refine Lib.hid ?_
  go_wp2_with (go_at_call 94;refine(y7 _).mono ?_;rintro e w3 ⟨rfl,z⟩;have y:=block_below z j;obtain⟨c0,c1,c2,f0,f1,f2⟩:=in3 y)
  exact bodyPost_ret (res49 rfl rfl rfl (put3_same _ _ _ y)) rfl ⟨congrArg _ o.out.symm,put3_below _ _ _ (ext_trans i z) (Nat.le_refl _)⟩
 ·obtain⟨n,hn⟩:∃n,runN digB s.data.toList=n:=⟨_,rfl⟩
  rw[hn]at d q
  have z4:(n:Int)<(s.size:Int):=by omega
  clear hn d
  replace o:Hid _:=o
  rw[a]
  refine Lib.hid ?_
  go_wp2_with (go_at_call 59;refine q.mono ?_;rintro e w3 ⟨rfl,z⟩;have y:=block_below z j;obtain⟨c0,c1,c2,f0,f1,f2⟩:=in3 y)
  exact bodyPost_ret (res49 rfl rfl rfl (put3_same _ _ _ y)) rfl ⟨congrArg _ o.out.symm,put3_below _ _ _ (ext_trans i z) (Nat.le_refl _)⟩
 ·obtain⟨n,hn⟩:∃n,runN digB s.data.toList=n:=⟨_,rfl⟩
  rw[hn]at d q
  have z4:¬(n:Int)<(s.size:Int):=by omega
  have y4:((s[0].toNat:Int) == 48)=true:=by rw[o];rfl
  have y5:(1:Int)<(s.size:Int):=by omega
  clear hn d o e4
  replace f:Hid _:=f
  rw[a]
  refine Lib.hid ?_
  go_wp2_with (go_at_call 59;refine q.mono ?_;rintro e w3 ⟨rfl,z⟩;have y:=block_below z j;obtain⟨c0,c1,c2,f0,f1,f2⟩:=in3 y)
  exact bodyPost_ret (res49 rfl rfl rfl (put3_same _ _ _ y)) rfl ⟨congrArg _ f.out.symm,put3_below _ _ _ (ext_trans i z) (Nat.le_refl _)⟩
 ·obtain⟨n,hn⟩:∃n,runN digB s.data.toList=n:=⟨_,rfl⟩
  rw[hn]at d q
  have z4:¬(n:Int)<(s.size:Int):=by omega
  clear hn d
  replace f:Hid _:=f
  replace g:Hid _:=g
  have hP:=fun u hu=>b5e s hs e4 u hu
  clear e4
  by_cases k:s[0]=48
  ·have k1:((s[0].toNat:Int) == 48)=true:=by rw[k];rfl
   have k2:¬(1:Int)<(s.size:Int):=fun h=>o ⟨k,by omega⟩
   clear k o
   rw[a]
   refine Lib.hid ?_
   go_wp2_with (first|(go_at_call 59;refine q.mono ?_;rintro e w3 ⟨rfl,z⟩;have y:=block_below z j)|(go_at_call 95;refine(hP _ (ErrV.on g.out z)).mono ?_;rintro e w4 ⟨v4,N4,rfl,p⟩;have m:=block_below p y;obtain⟨c0,c1,c2,f0,f1,f2⟩:=in3 m))
   exact bodyPost_ret (res49 rfl rfl rfl (put3_same _ _ _ m)) rfl ⟨congrArg _ f.out.symm,put3_below _ _ _ (ext_trans (ext_trans i z) p) (Nat.le_refl _)⟩
  ·have k1:((s[0].toNat:Int) == 48)=false:=by
    have:s[0].toNat≠48:=fun e=>k (UInt8.toNat_inj.1 e)
    simp;omega
   clear k o
   rw[a]
   refine Lib.hid ?_
   go_wp2_with (first|(go_at_call 59;refine q.mono ?_;rintro e w3 ⟨rfl,z⟩;have y:=block_below z j)|(go_at_call 95;refine(hP _ (ErrV.on g.out z)).mono ?_;rintro e w4 ⟨v4,N4,rfl,p⟩;have m:=block_below p y;obtain⟨c0,c1,c2,f0,f1,f2⟩:=in3 m))
   exact bodyPost_ret (res49 rfl rfl rfl (put3_same _ _ _ m)) rfl ⟨congrArg _ f.out.symm,put3_below _ _ _ (ext_trans (ext_trans i z) p) (Nat.le_refl _)⟩
 ·obtain⟨n,hn⟩:∃n,runN digB s.data.toList=n:=⟨_,rfl⟩
  rw[hn]at d q
  have z4:¬(n:Int)<(s.size:Int):=by omega
  clear hn d
  replace f:Hid _:=f
  replace g:Hid _:=g
  have hP:=fun u=>b6t s hs _ e4 u
  clear e4
  by_cases k:s[0]=48
  ·have k1:((s[0].toNat:Int) == 48)=true:=by rw[k];rfl
   have k2:¬(1:Int)<(s.size:Int):=fun h=>o ⟨k,by omega⟩
   clear k o
   rw[a]
   refine Lib.hid ?_
   go_wp2_with (first|(go_at_call 59;refine q.mono ?_;rintro e w3 ⟨rfl,z⟩;have y:=block_below z j)|(go_at_call 95;refine(hP _).mono ?_;rintro e w4 ⟨rfl,p⟩;have m:=block_below p y)|(go_at_call 94;refine(y8 _).mono ?_;rintro e w5 ⟨rfl,z6⟩;have z7:=block_below z6 m;obtain⟨c0,c1,c2,f0,f1,f2⟩:=in3 z7))
   exact bodyPost_ret (res49 rfl rfl rfl (put3_same _ _ _ z7)) rfl ⟨congrArg _ f.out.symm,put3_below _ _ _ (ext_trans (ext_trans (ext_trans i z) p) z6) (Nat.le_refl _)⟩
  ·have k1:((s[0].toNat:Int) == 48)=false:=by
    have:s[0].toNat≠48:=fun e=>k (UInt8.toNat_inj.1 e)
    simp;omega
   clear k o
   rw[a]
   refine Lib.hid ?_
   go_wp2_with (first|(go_at_call 59;refine q.mono ?_;rintro e w3 ⟨rfl,z⟩;have y:=block_below z j)|(go_at_call 95;refine(hP _).mono ?_;rintro e w4 ⟨rfl,p⟩;have m:=block_below p y)|(go_at_call 94;refine(y8 _).mono ?_;rintro e w5 ⟨rfl,z6⟩;have z7:=block_below z6 m;obtain⟨c0,c1,c2,f0,f1,f2⟩:=in3 z7))
   exact bodyPost_ret (res49 rfl rfl rfl (put3_same _ _ _ z7)) rfl ⟨congrArg _ f.out.symm,put3_below _ _ _ (ext_trans (ext_trans (ext_trans i z) p) z6) (Nat.le_refl _)⟩
theorem d1c(l:List UInt8):∃k t n e,wnV l=outV k t n e:=by
 unfold wnV
 split
 ·split <;> exact⟨_,_,_,_,rfl⟩
 ·split <;> exact⟨_,_,_,_,rfl⟩
theorem c1o(l:List UInt8):∃k t n e,a8u l=outV k t n e:=by
 unfold a8u
 split
 ·split <;> exact⟨_,_,_,_,rfl⟩
 ·exact⟨_,_,_,_,rfl⟩
theorem c1p(l:List UInt8):∃k t n e,b1y l=outV k t n e:=by
 unfold b1y
 split <;> exact⟨_,_,_,_,rfl⟩
theorem b5f{c:UInt8}(h:letB c=true):digB c=false:=by
 simp[letB]at h
 simp[digB]
 omega
theorem c1q(c:UInt8)(r:List UInt8)(h:0<runN rowB (c::r)):outR (tokR (c::r))=wnV ((c::r).take (runN rowB (c::r))):=by
 have v:=a3w rowB (c::r)
 obtain⟨n,hn⟩:∃n,runN rowB (c::r)=n+1:=⟨runN rowB (c::r)-1,by omega⟩
 have y:rowB c=true:=by
  cases h':rowB c
  ·simp[runN,h']at h
  ·rfl
 have u:(((c::r).take (n+1)).head?.map digB).getD false=digB c:=by simp
 have z:((c::r).take (n+1)).length=n+1:=by rw[List.length_take];omega
 unfold tokR wnV
 simp only
 rw[hn,u,z]
 by_cases hl:letB c=true
 ·rw[if_pos hl,b5f hl,if_pos rfl]
  split <;> rfl
 ·have hd:digB c=true:=by
   simp only[rowB,Bool.or_eq_true]at y
   exact y.resolve_left hl
  rw[if_neg hl,if_pos hd,hd,if_neg (show ¬(true=false) by decide)]
  split <;> rfl
theorem b3n(c:UInt8)(r:List UInt8)(h:¬0<runN rowB (c::r)):letB c=false/\digB c=false:=by
 have z:rowB c=false:=by
  cases h':rowB c
  ·rfl
  ·simp[runN,h']at h
 simpa[rowB]using z
theorem b9a(c:UInt8)(r:List UInt8)(h:¬0<runN rowB (c::r))(hc:c.toNat=34):outR (tokR (c::r))=a8u ((c::r).drop 1):=by
 obtain⟨h1,h2⟩:=b3n c r h
 unfold tokR a8u
 simp only
 rw[if_neg (by simp[h1]),if_neg (by simp[h2]),if_pos hc]
 simp only[List.drop_succ_cons,List.drop_zero]
 split
 ·split <;> rfl
 ·rfl
theorem b9b(c:UInt8)(r:List UInt8)(h:¬0<runN rowB (c::r))(hc:¬c.toNat=34):outR (tokR (c::r))=b1y (c::r):=by
 obtain⟨h1,h2⟩:=b3n c r h
 unfold tokR b1y
 simp only
 rw[if_neg (by simp[h1]),if_neg (by simp[h2]),if_neg hc]
 split <;> rfl
theorem c1r(s:ByteArray)(hs:s.size<=4000)(h0:0<s.size)(w:World)(hE:ErrV w) :
  Cl 39 #[.string s] w fun e w'=>e=.returned (outR (tokR s.data.toList))/\Bw w w':=by
 have z5:(0:Int)<(s.size:Int):=by omega
 have hW:=fun v u h=>a8c v u h
 obtain⟨V,hV⟩:∃V,outR (tokR s.data.toList)=V:=⟨_,rfl⟩
 rw[hV]
 replace hV:Hid _:=hV
 replace hE:Hid _:=hE
 go_enter Tryz.func39,Tryz.ntmps39
 go_wp2_with (first|(go_at_call 60;refine(hW _ _ ⟨_,_,_,rfl⟩).mono ?_;rintro e w' ⟨rfl,rfl⟩)|(go_at_call 59;refine Hid.out ?_))
 obtain⟨W,d⟩:∃W,((w.alloc a2t).alloc (.cells #[.int .u8 97,.int .u8 122,.int .u8 65,.int .u8 90,.int .u8 48,.int .u8 57,.int .u8 95,.int .u8 95] 125)).alloc (.cells #[.slice (some (Ad (w.heap.size+1) 0)) 4 4] 160)=W:=⟨_,rfl⟩
 obtain⟨hr,hb,z9⟩:=b1z w [(97,122),(65,90),(48,57),(95,95)] _ 4 rfl d5p d
 rw[d]
 have p:=c0r s hs _ rowB W (b5d z9 (by decide) c5z)
 have z7:=a3w rowB s.data.toList
 have z8:runN rowB s.data.toList<=s.size:=by simpa using z7
 obtain⟨c,r,hl,j,_⟩:=a9u s h0
 have q1:=c1q c r
 have q2:=b9a c r
 have a:=b9b c r
 rw[<- hl,hV.out]at q1 q2 a
 rw[<- j]at q2 a
 rw[<- a9t]at q1
 obtain⟨n,hn⟩:∃n,runN rowB s.data.toList=n:=⟨_,rfl⟩
 rw[hn]at p z8 q1 q2 a
 clear d hW z9 z7 hV hl j hn
 have hq:Hid _:=And.intro q1 (And.intro q2 a)
 clear q1 q2 a
 refine p.mono ?_
 rintro e w2 ⟨rfl,o⟩
 clear p
 have g:=block_below o hr
 have f:=ext_trans hb o
 have m:ErrV w2:=ErrV.on (ErrV.on hE.out hb) o
 clear hb hr o hE
 by_cases hn0:0<n
 ·have y:=hq.out.1 hn0
  have hx:(0:Int)<(n:Int):=by omega
  have i:=d5q (s.extract 0 n) (by simp;omega) (by simp;omega) w2 m
  obtain⟨k1,t1,n1,e1,hf⟩:=d1c (s.extract 0 n).data.toList
  rw[hf]at i y
  clear hf hq m
  subst y
  refine Lib.hid ?_
  go_wp2_with (go_at_call 61;refine i.mono ?_;rintro e w3 ⟨rfl,q⟩;have z:=block_below q g;obtain⟨c0,c1,c2,f0,f1,f2⟩:=in3 z)
  exact bodyPost_ret (d1a rfl rfl rfl (put3_same _ _ _ z)) rfl ⟨rfl,put3_below _ _ _ (ext_trans f q) (Nat.le_refl _)⟩
 ·have hx:¬(0:Int)<(n:Int):=by omega
  by_cases j:s[0].toNat=34
  ·have z6:((s[0].toNat:Int) == 34)=true:=by simp[j]
   have y:=hq.out.2.1 hn0 j
   have i:=b8z s hs h0 w2
   obtain⟨k1,t1,n1,e1,hf⟩:=c1o (s.data.toList.drop 1)
   rw[hf]at i y
   clear hf hq m j hn0
   subst y
   refine Lib.hid ?_
   go_wp2_with (go_at_call 62;refine i.mono ?_;rintro e w3 ⟨rfl,q⟩;have z:=block_below q g;obtain⟨c0,c1,c2,f0,f1,f2⟩:=in3 z)
   exact bodyPost_ret (d1a rfl rfl rfl (put3_same _ _ _ z)) rfl ⟨rfl,put3_below _ _ _ (ext_trans f q) (Nat.le_refl _)⟩
  ·have z6:((s[0].toNat:Int) == 34)=false:=by simp;omega
   have y:=hq.out.2.2 hn0 j
   have i:=c5w s hs h0 w2
   obtain⟨k1,t1,n1,e1,hf⟩:=c1p s.data.toList
   rw[hf]at i y
   clear hf hq m j hn0
   subst y
   refine Lib.hid ?_
   go_wp2_with (go_at_call 63;refine i.mono ?_;rintro e w3 ⟨rfl,q⟩;have z:=block_below q g;obtain⟨c0,c1,c2,f0,f1,f2⟩:=in3 z)
   exact bodyPost_ret (d1a rfl rfl rfl (put3_same _ _ _ z)) rfl ⟨rfl,put3_below _ _ _ (ext_trans f q) (Nat.le_refl _)⟩
theorem d5r:(Tryz.prog.info? 92).map (fun i=>(i.zero,i.size,i.bytes))=some (some (.agg #[vi 0,.string ⟨#[]⟩,vi 0]),3,32):=by kernel_rfl
def Tok.b (x:Tok):ByteArray:=⟨x.t.toArray⟩
abbrev b3o (x:Tok):List Value:=[vi x.k,.string x.b,vi (x.a:Nat)]
def a8v (xs:List Tok):List Value:=xs.flatMap b3o
theorem b9c(xs:List Tok)(x:Tok):a8v (xs++[x])=a8v xs++b3o x:=by simp[a8v]
theorem c1s{xs:List Tok}{j:Nat}{x:Tok}(h:xs[j]?=some x)(i:Nat)(hi:i<3):(a8v xs)[j*3+i]?=(b3o x)[i]?:=by
 induction xs generalizing j with
 | nil=>simp at h
 | cons y xs ih =>
  cases j with
  | zero =>
   simp at h
   subst h
   simp only[a8v,List.flatMap_cons]
   rw[List.getElem?_append_left (by simp;omega)]
   congr 1
   omega
  | succ j =>
   simp at h
   have:=ih h
   simp only[a8v,List.flatMap_cons]at this⊢
   rw[List.getElem?_append_right (by simp;omega),<- this]
   congr 1
   simp
   omega
theorem own_ge(h:W.ownsRow base 92 3 v n xs){b:Nat}(hb:v.ownBlock=some b):base<=b/\b<W.heap.size:=by
 rcases h.2 with⟨rfl,_⟩|⟨g,cap,u,rfl,z,y,_⟩
 ·simp[Value.ownBlock]at hb
 ·obtain rfl:g=b:=by simpa[Value.ownBlock]using hb
  exact⟨z,(Array.getElem?_eq_some_iff.1 y).1⟩
theorem own_kept(h:W.ownsRow base 92 3 v n xs)(hw:∀b,v.ownBlock=some b->W'.heap[b]?=W.heap[b]?):W'.ownsRow base 92 3 v n xs:=by
 refine⟨h.1,?_⟩
 rcases h.2 with h0|⟨g,cap,y,rfl,z,u,hr⟩
 ·exact .inl h0
 ·exact .inr ⟨g,cap,y,rfl,z,(hw g rfl).trans u,hr⟩
theorem c1t(h:W.ownsRow base 92 3 v n xs)(hb:Bw W W'):W'.ownsRow base 92 3 v n xs :=
 own_kept h fun b e=>hb.block b (own_ge h e).2
abbrev d5s:Obj:=.cells #[vi 0,vi 0] 27
structure SI (w:World) (v:Value) (ts:List Tok) (W:World):Prop where
 own:W.ownsRow (w.heap.size+1) 92 3 v ts.length (a8v ts)
 r:W.heap[w.heap.size]?=some d5s
 bl:Bw w W
theorem SI.on{ts:List Tok}(h:SI w v ts W)(hb:Bw W W'):SI w v ts W' :=
 ⟨c1t h.own hb,block_below hb h.r,ext_trans h.bl hb⟩
theorem SI.step{ts:List Tok}{x:Tok}{w3:World}{g cap:Nat}(h:SI w v ts W)(hown:w3.ownsRow (w.heap.size+1) 92 3 (.slice (some (Ad g 0)) (ts.length+1) cap) (ts.length+1) (a8v ts++b3o x))(hg:W.grownBy w3 v.ownBlock) :
  SI w (.slice (some (Ad g 0)) (ts.length+1) cap) (ts++[x]) w3:=by
 have y:=block_lt h.r
 have z:∀C,C<w.heap.size+1->w3.heap[C]?=W.heap[C]?:=fun C u=>hg.block C (by omega) (fun e=>by have:=(own_ge h.own e.symm).1;omega)
 refine⟨?_,(z _ (by omega)).trans h.r,h.bl.trans ⟨hg.os,hg.tape,hg.output,hg.size,fun C u=>z C (by omega)⟩⟩
 rw[b9c,List.length_append]
 exact hown
theorem d9f{x:Tok}(h:W.heap[B]?=some (tbx x.k x.b (x.a:Nat))):∀j u,(b3o x)[j]?=some u->W.cell? ((Ad B 0).add j)=some u:=World.news_of_block (cs:=#[vi x.k,.string x.b,vi (x.a:Nat)]) h
def a7j:a1u->List Tok
 | .inl _=>[]
 | .inr l=>l
def d5t:a1u->Int
 | .inl (e,_)=>e
 | .inr _=>0
def placeOf:a1u->Nat
 | .inl (_,a)=>a
 | .inr _=>0
structure Out (w:World) (R:a1u) (e:Ending) (w':World):Prop where
 out:∃b n d,e=.returned (.tuple #[.slice b n d,.agg #[vi (d5t R),vi (placeOf R:Nat)]])/\w'.ownsRow (w.heap.size+1) 92 3 (.slice b n d) (a7j R).length (a8v (a7j R))
 bl:Bw w w'
def a3n (l:List UInt8):a1u:=if 4000<l.length then .bad 1 0 else a3z 0 l
theorem put2_same{p q p' q':Value}(h:W.heap[B]?=some (.cells #[p,q] 27)):((W.setCell (Ad B 0) p').setCell (Ad B 1) q').heap[B]?=some (.cells #[p',q'] 27):=set_block _ (set_block _ h)
theorem put2_other(W:World)(p q:Value)(h:C≠B):((W.setCell (Ad B 0) p).setCell (Ad B 1) q).heap[C]?=W.heap[C]?:=(set1_other _ _ h).trans (set1_other _ _ h)
theorem put2_below(p q:Value)(h:Below m w W)(hB:m<=B):Below m w ((W.setCell (Ad B 0) p).setCell (Ad B 1) q):=(h.setCell (p:=(Ad B 0)) hB _).setCell (p:=(Ad B 1)) hB _
theorem SI.out{b:Option Addr}{d:Nat}{ts:List Tok}(h:SI w (.slice b n d) ts W)(p q:Value) :
  ((W.setCell (Ad w.heap.size 0) p).setCell (Ad w.heap.size 1) q).ownsRow (w.heap.size+1) 92 3 (.slice b n d) ts.length (a8v ts) :=
 own_kept h.own fun c e=>put2_other _ _ _ (by have:=(own_ge h.own e).1;omega)
theorem d1d{c:Int}(h:tm[3]?.getD undef=Po B 0)(h2:tm[2]?.getD undef=v)(hx:W.heap[B]?=some (.cells #[vi c,vi a] 27)):(results Tryz.f26 tm).run Tryz.prog W=.ok (.tuple #[v,.agg #[vi c,vi a]]) W:=by
 have c0:Ce W B 0 (vi c):=cell_block hx rfl
 have c1:Ce W B 1 (vi a):=cell_block hx rfl
 simp[results,Tryz.results26,go_sem,h,h2,c0,c1]
structure In2 (W:World) (B:Nat) (c a:Value):Prop where
 c0:W.cell? (Ad B 0)=some c
 c1:W.cell? (Ad B 1)=some a
 f0:W.frozen? (Ad B 0)=false
 f1:W.frozen? (Ad B 1)=false
theorem in2{c a:Value}(h:W.heap[B]?=some (.cells #[c,a] 27)):In2 W B c a:=⟨cell_block h rfl,cell_block h rfl,frozen_block h,frozen_block h⟩
theorem c9j(h:tokR l=.bad e):(e == 0)=false/\-1<e/\e<9:=by
 cases l with
 | nil=>simp[tokR]at h;subst h;decide
 | cons c r =>
  unfold tokR at h
  simp only at h
  split at h
  ·split at h <;> cases h
   decide
  split at h
  ·split at h <;> cases h
   rename_i hz
   refine⟨by simpa using hz,?_⟩
   unfold numE
   split
   ·decide
   ·split
    ·decide
    ·split <;> decide
  split at h
  ·split at h
   ·split at h <;> cases h
    decide
   ·cases h;decide
  split at h <;> cases h
  decide
theorem c6d(s:ByteArray)(hs:4000<s.size)(w:World):Cl 26 #[.string s] w (Out w (.bad 1 0)):=by
 have z:(4000:Int)<(s.size:Int):=by omega
 go_enter Tryz.func26,Tryz.ntmps26
 go_wp2
 exact bodyPost_ret (d1d rfl rfl (a0a _ _)) rfl ⟨⟨none,0,0,rfl,World.ownsRow_nil _ _ _ _⟩,ext_alloc (Below.refl _ _) _⟩
theorem d1e(s:ByteArray)(hs:s.size<=4000)(w:World)(hE:ErrV w):Cl 26 #[.string s] w (Out w (a3z 0 s.data.toList)):=by
 obtain⟨i0,hi0,hz0,hz1,hz2⟩:=info_parts d5r
 have hs':¬(4000:Int)<(s.size:Int):=by omega
 obtain⟨R,hR⟩:∃R,a3z 0 s.data.toList=R:=⟨_,rfl⟩
 rw[hR]
 have hlen:s.data.toList.length=s.size:=by simp
 have hS0:SI w (.slice none 0 0) [] (w.alloc d5s):=⟨World.ownsRow_nil _ _ _ _,a0a _ _,ext_alloc (Below.refl _ _) _⟩
 have hg0:=b4s s.data.toList.length s.data.toList (Nat.le_refl _)
 have hg1:=a7y s.data.toList.length s.data.toList 0 (Nat.le_refl _)
 rw[hlen]at hg0
 rw[hR]at hg1
 replace hg0:Hid _:=hg0
 replace hg1:Hid _:=hg1
 replace hlen:Hid _:=hlen
 replace hE:Hid _:=hE
 have hG:=fun u=>c1k s hs u
 go_enter Tryz.func26,Tryz.ntmps26
 go_wp2_with (go_at_call 38;refine(hG _).mono ?_;rintro e w1 ⟨rfl,hb1⟩;refine Hid.out ?_)
 replace hS0:=hS0.on hb1
 clear hb1 hG
 refine Lib.hid ?_
 go_wp2_with fail
 go_loopw [4,5] (fun v i wr=>∃(k:Nat) (b:Option Addr) (n d:Nat) (ts:List Tok),k<=s.size/\i=vi k/\v=.slice b n d/\SI w v ts wr/\gap1 (s.data.toList.drop k)=0/\R=a1u.pre ts (a3z k (s.data.toList.drop k))/\ts.length<=k) (fun _ i _=>s.size-(intOf i).toNat)
 case atStart=>exact⟨gapN s.data.toList,none,0,0,[],hg0.out.1,rfl,rfl,hS0,hg0.out.2,by rw[a1u.pre_nil,hg1.out];simp,Nat.zero_le _⟩
 case round =>
  clear hS0 hg0 hg1
  obtain⟨k,b,n,d,ts,hk,rfl,rfl,hS,hgap,hRk,htl⟩:=hrel
  obtain⟨c0,c1,f0,f1⟩:=in2 hS.r
  by_cases hlt:k<s.size
  ·have hne:s.data.toList.drop k≠[]:=by
    intro e
    have:=congrArg List.length e
    simp at this
    omega
   have hC:=c1r (s.extract k s.size) (by simp;omega) (by simp;omega) wr (ErrV.on hE.out hS.bl)
   rw[a7i]at hC
   have hk':(k:Int)<(s.size:Int):=by omega
   cases ht:tokR (s.data.toList.drop k)using TokR.byCases with
   | bad e =>
    have hRb:Hid (R=.bad e k):=hRk.trans (by rw[a7b hne hgap ht];rfl)
    obtain⟨hne0,_,_⟩:=c9j ht
    rw[ht]at hC
    unfold outR at hC
    simp only at hC
    clear ht hRk hgap hne htl
    go_wp2_with (go_at_call 39;refine hC.mono ?_;rintro e w2 ⟨rfl,hb2⟩;have hr2:=block_below hb2 hS.r;have hlt2:=block_lt hr2;obtain⟨c0,c1,f0,f1⟩:=in2 hr2)
    refine bodyPost_ret (d1d rfl rfl (block_alloc _ (put2_same hr2))) rfl ?_
    rw[hRb.out]
    exact⟨⟨none,0,0,rfl,World.ownsRow_nil _ _ _ _⟩,ext_alloc (put2_below _ _ (ext_trans hS.bl hb2) (Nat.le_refl _)) _⟩
   | tok k1 t1 n1 =>
    have hsz:=a3p ht
    have hl1:(s.data.toList.drop k).length=s.size-k:=by simp
    rw[hl1]at hsz
    have hRt:=a7c hne hgap ht k
    rw[List.drop_drop]at hRt
    rw[hRt,a1u.pre_pre]at hRk
    rw[ht]at hC
    unfold outR at hC
    simp only at hC
    have hn1:ts.length+1<=maxLen:=by unfold maxLen;omega
    have hb1:(ts.length+1)*32<=140737488355328:=by omega
    replace hRk:Hid _:=hRk
    replace hl1:Hid _:=hl1
    clear ht hgap hne hRt
    go_wp2_with (first|(go_at_call 39;refine hC.mono ?_;rintro e w2 ⟨rfl,hb2⟩;have hr2:=block_below hb2 hS.r;obtain⟨c0,c1,f0,f1⟩:=in2 hr2)|(at_builtin;refine Hid.out ?_))
    clear c0 c1 f0 f1 hr2 hC
    obtain⟨y,hy⟩:∃y:Tok,y=⟨k1,t1,k⟩:=⟨_,rfl⟩
    obtain⟨W,hW⟩:∃W,(w2.alloc (tbx k1 ⟨t1.toArray⟩ k)).alloc (tbx k1 ⟨t1.toArray⟩ k)=W:=⟨_,rfl⟩
    have hnew:W.heap[w2.heap.size+1]?=some (tbx y.k y.b (y.a:Nat)):=by
     subst hW hy
     have:=a0a (w2.alloc (tbx k1 ⟨t1.toArray⟩ k)) (tbx k1 ⟨t1.toArray⟩ k)
     simp only[World.size_alloc]at this
     exact this
    have hSW:SI w (.slice b n d) ts W:=by
     subst hW
     exact((hS.on hb2).on (ext_alloc (Below.refl _ _) _)).on (ext_alloc (Below.refl _ _) _)
    have hszW:w.heap.size+1<=W.heap.size:=block_lt hSW.r
    rw[hW]
    clear hW hb2 hS
    have hdd:k+n1<=s.size:=by omega
    have hG:=fun u=>c1k (s.extract (k+n1) s.size) (by simp;omega) u
    rw[a7i]at hG
    have hg0:=b4s _ (s.data.toList.drop (k+n1)) (Nat.le_refl _)
    have hg1:=a7y _ (s.data.toList.drop (k+n1)) (k+n1) (Nat.le_refl _)
    rw[List.drop_drop]at hg0 hg1
    rw[hg1,<- hy]at hRk
    have hg2:gapN (s.data.toList.drop (k+n1))<=s.size-(k+n1):=by
     have:=hg0.1
     rw[List.length_drop,hlen.out]at this
     exact this
    obtain⟨g1,hg1e⟩:∃g1,gapN (s.data.toList.drop (k+n1))=g1:=⟨_,rfl⟩
    rw[hg1e]at hG hg0 hRk hg2
    have hg3:Hid _:=hg0.2
    clear hg0 hg1 hg1e hy
    refine Lib.hid ?_
    go_wp2_with (first
     | (at_builtin;refine wpList_append_lies _ (by rfl) _ _ _ (by rfl) (w.heap.size+1) 92 i0 _ 3 32 Tryz.underlying75 hi0 hz0 hz1 hz2 rfl (by omega) (.slice b n d) ts.length (a8v ts) (by rfl) hSW.own (Ad (w2.heap.size+1) 0) 1 1 (b3o y) (by rfl) (by rfl) (d9f hnew) (by simp[Value.oneCell']) (by omega) hn1 hb1 hszW _ rfl ?_;intro g cap w5 hown1 hgrow hat1 hlt1;have hS5:=hSW.step hown1 hgrow;clear hown1 hgrow hat1 hlt1)
     | (go_at_call 38;refine(hG _).mono ?_;rintro e w6 ⟨rfl,hb6⟩))
    go_roundw
    case rel=>exact⟨k+n1+g1,_,_,_,ts++[y],by omega,by go_num,rfl,hS5.on hb6,hg3.out,hRk.out,by simp;omega⟩
    case measure=>simp[intOf];omega
  ·have hk':¬(k:Int)<(s.size:Int):=by omega
   have hRe:Hid (R=.toks ts):=hRk.trans (by rw[List.drop_eq_nil_of_le (by rw[hlen.out];omega),a3x];simp[a1u.pre,a1u.toks])
   clear hRk hgap
   go_wp2
   refine bodyPost_ret (d1d rfl rfl (put2_same hS.r)) rfl ?_
   rw[hRe.out]
   exact⟨⟨b,n,d,rfl,hS.out _ _⟩,put2_below _ _ hS.bl (Nat.le_refl _)⟩
end Go.Proofs.YtfbpdbndejefdaaGreatDoor
