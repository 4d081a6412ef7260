/- An order at its place: what the program and the document say of it. -/
import Derived.Test.YthljpnmhddfblaaGreatDoorS15
import Derived.Test.YthljpnmhddfblaaGreatDoorS16
namespace Go.Proofs.YthljpnmhddfblaaGreatDoor
open Go.RowKit Go
set_option maxRecDepth 100000
set_option maxHeartbeats 8000000
set_option linter.all false
def instrB (f:Fd) (x:Od) (i:Nat):Bool :=
 match fieldsR x.op with
 | none=>false
 | some l =>
  if l=[60,60] then (belB x.a f.r)&&(belB x.b f.r)&&(x.c == 0)
  else if l=[60,61] then (belB x.a f.r)&&(belB x.b f.cs.length)&&(x.c == 0)
  else if l=[60] then (belB x.a f.r)&&(x.b == 0)&&(x.c == 0)
  else if l=[60,60,60] then (belB x.a f.r)&&(belB x.b f.r)&&(belB x.c f.r)
  else if l=[62] then (belB x.a f.is.length)&&(x.b == 0)&&(x.c == 0)
  else if l=[60,62] then (belB x.a f.r)&&(belB x.b f.is.length)&&(x.c == 0)
  else if l=[63] then (frB 0 x.a i)&&(x.b == 0)&&(x.c == 0)
  else if l=[60,60,64] then (belB x.a f.r)&&(belB x.b f.r)&&(argB f x x.c)
  else false
theorem fieldsR_lists{op:Int}{l:List Nat}(h:fieldsR op=some l):l=[60,60]\/l=[60,61]\/l=[60]\/l=[60,60,60]\/l=[62]\/l=[60,62]\/l=[63]\/l=[60,60,64]:=by
 unfold fieldsR at h
 repeat' split at h
 all_goals first|(cases h;simp)|cases h
theorem mo_none(f:Fd)(x:Od)(i:Nat)(w:World)(hl:fieldsR x.op=none) :
  Calls Tryz.prog 37 #[plc f x i] w fun e w'=>e=.returned (.bool false)/\Below w.heap.size w w':=by
 have hF:=fields_none x.op hl
 clear hl
 have hnil:=eql46
 go_enter Tryz.func37,Tryz.ntmps37
 go_wp2_with (go_at_call 46;refine(hF _).mono ?_;rintro e w' ⟨rfl,rfl⟩)
 go_ret
 refine⟨rfl,?_⟩
 repeat(first|exact Below.refl _ _|refine ext_alloc ?_ _)
theorem mo_any(f:Fd)(x:Od)(i:Nat)(w:World) :
  Calls Tryz.prog 37 #[plc f x i] w fun e w'=>e=.returned (.bool (instrB f x i))/\Below w.heap.size w w':=by
 have q9:isQ 60:=.inl rfl
 have q10:isQ 61:=.inr (.inl rfl)
 have q11:isQ 62:=.inr (.inr (.inl rfl))
 have q12:isQ 63:=.inr (.inr (.inr (.inl rfl)))
 have q13:isQ 64:=.inr (.inr (.inr (.inr rfl)))
 have key:∀b:Bool,instrB f x i=b->(Calls Tryz.prog 37 #[plc f x i] w fun e w'=>e=.returned (.bool b)/\Below w.heap.size w w')->Calls Tryz.prog 37 #[plc f x i] w fun e w'=>e=.returned (.bool (instrB f x i))/\Below w.heap.size w w':=by
  intro b hb h;rw[hb];exact h
 cases hl:fieldsR x.op with
 | none=>exact key false (by simp[instrB,hl]) (mo_none f x i w hl)
 | some l =>
  rcases fieldsR_lists hl with rfl|rfl|rfl|rfl|rfl|rfl|rfl|rfl
  ·exact key _ (by simp[instrB,hl,qB]) (mo_row2 f x i w 60 60 q9 q9 hl)
  ·exact key _ (by simp[instrB,hl,qB]) (mo_row2 f x i w 60 61 q9 q10 hl)
  ·exact key _ (by simp[instrB,hl,qB]) (mo_row1 f x i w 60 q9 hl)
  ·exact key _ (by simp[instrB,hl,qB]) (mo_row3 f x i w 60 60 60 q9 q9 q9 hl)
  ·exact key _ (by simp[instrB,hl,qB]) (mo_row1 f x i w 62 q11 hl)
  ·exact key _ (by simp[instrB,hl,qB]) (mo_row2 f x i w 60 62 q9 q11 hl)
  ·exact key _ (by simp[instrB,hl,qB]) (mo_row1 f x i w 63 q12 hl)
  ·exact key _ (by simp[instrB,hl,qB]) (mo_row3 f x i w 60 60 64 q9 q9 q13 hl)
theorem wrap64_id{n:Int}(h1:-9223372036854775808<=n)(h2:n<=9223372036854775807):wrap64 n=n:=by
 unfold wrap64
 omega
structure Four (W:World) (b o:Nat) (x:Od):Prop where
 op:W.cell? ⟨b,o,none⟩=some (.int .i64 x.op)
 a:W.cell? ⟨b,o+1,none⟩=some (.int .i64 x.a)
 bb:W.cell? ⟨b,o+2,none⟩=some (.int .i64 x.b)
 c:W.cell? ⟨b,o+3,none⟩=some (.int .i64 x.c)
theorem Four.below{n₀:Nat}{A B:World}(h:Below n₀ A B){b o:Nat}{x:Od}(hb:b<n₀)(t:Four A b o x):Four B b o x :=
 ⟨(h.cell (p:=⟨b,o,none⟩) hb).trans t.op,(h.cell (p:=⟨b,o+1,none⟩) hb).trans t.a,(h.cell (p:=⟨b,o+2,none⟩) hb).trans t.bb,(h.cell (p:=⟨b,o+3,none⟩) hb).trans t.c⟩
def RowV (n₀:Nat) (W:World) (a:Option Addr) (xs:List Vl):Prop :=
 xs.length<=maxLen/\(xs≠[]->∃b off,a=some ⟨b,off,none⟩/\b<n₀/\∀j x,xs[j]?=some x->Three W b (off+j*3) x)
def RowI (n₀:Nat) (W:World) (a:Option Addr) (xs:List Od):Prop :=
 xs.length<=maxLen/\(xs≠[]->∃b off,a=some ⟨b,off,none⟩/\b<n₀/\∀j x,xs[j]?=some x->Four W b (off+j*4) x)
theorem RowV.below{n₀:Nat}{A B:World}(h:Below n₀ A B){a:Option Addr}{xs:List Vl}(r:RowV n₀ A a xs):RowV n₀ B a xs:=by
 refine⟨r.1,fun hne=>?_⟩
 obtain⟨b,off,ea,hb,hc⟩:=r.2 hne
 exact⟨b,off,ea,hb,fun j x hj=>(hc j x hj).below h hb⟩
theorem RowI.below{n₀:Nat}{A B:World}(h:Below n₀ A B){a:Option Addr}{xs:List Od}(r:RowI n₀ A a xs):RowI n₀ B a xs:=by
 refine⟨r.1,fun hne=>?_⟩
 obtain⟨b,off,ea,hb,hc⟩:=r.2 hne
 exact⟨b,off,ea,hb,fun j x hj=>(hc j x hj).below h hb⟩
theorem RowV.mono{n₀ m:Nat}(hm:n₀<=m){A:World}{a:Option Addr}{xs:List Vl}(r:RowV n₀ A a xs):RowV m A a xs:=by
 refine⟨r.1,fun hne=>?_⟩
 obtain⟨b,off,ea,hb,hc⟩:=r.2 hne
 exact⟨b,off,ea,by omega,hc⟩
theorem RowI.mono{n₀ m:Nat}(hm:n₀<=m){A:World}{a:Option Addr}{xs:List Od}(r:RowI n₀ A a xs):RowI m A a xs:=by
 refine⟨r.1,fun hne=>?_⟩
 obtain⟨b,off,ea,hb,hc⟩:=r.2 hne
 exact⟨b,off,ea,by omega,hc⟩
theorem in_box{wr w3:World}{c:Array Value}{t:TypeId}{i:Nat}{v:Value}(hb:Below (wr.alloc (.cells c t)).heap.size (wr.alloc (.cells c t)) w3)(h:c[i]?=some v):w3.cell? ⟨wr.heap.size,i,none⟩=some v :=
 (hb.cell (p:=⟨wr.heap.size,i,none⟩) (by simp)).trans (cell_blk (heap_new _ _) h)
theorem le_lit{n:Nat}(hn:n<=maxLen):n<=9223372036854775807:=by
 have:maxLen=9223372036854775807:=by decide
 omega
def constB (nf:Int) (x:Vl):Bool:=mayB x.k x.n x.s && !(x.k == 4) && !(x.k == 5&&decide (nf<=x.n))
def AllTo {α:Type} (p:Nat->α->Bool) (xs:List α) (m:Nat):Prop:=∀j x,j<m->xs[j]?=some x->p j x=true
def allB {α:Type} (p:Nat->α->Bool) (xs:List α):Bool:=(List.range xs.length).all fun j=>match xs[j]? with|some x=>p j x|none=>true
theorem allB_true{α:Type}{p:Nat->α->Bool}{xs:List α}(h:AllTo p xs xs.length):allB p xs=true:=by
 unfold allB
 rw[List.all_eq_true]
 intro j hj
 cases e:xs[j]? with
 | none=>rfl
 | some x=>exact h j x (List.mem_range.1 hj) e
theorem allB_false{α:Type}{p:Nat->α->Bool}{xs:List α}{j:Nat}{x:α}(hx:xs[j]?=some x)(h:p j x=false):allB p xs=false:=by
 cases e:allB p xs
 ·rfl
 ·unfold allB at e
  rw[List.all_eq_true]at e
  have:=e j (List.mem_range.2 (List.getElem?_eq_some_iff.1 hx).1)
  simp only[hx]at this
  rw[h]at this
  cases this
theorem AllTo.zero{α:Type}{p:Nat->α->Bool}{xs:List α} : AllTo p xs 0:=fun _ _ h=>by omega
theorem AllTo.next{α:Type}{p:Nat->α->Bool}{xs:List α}{m:Nat}{x:α}(hx:xs[m]?=some x)(hp:p m x=true)(h:AllTo p xs m):AllTo p xs (m+1):=fun j y hj hy=>by
 rcases Nat.lt_or_ge j m with h'|h'
 ·exact h j y h' hy
 ·obtain rfl:j=m:=by omega
  rw[hx]at hy
  cases hy
  exact hp
theorem consts_any(a:Option Addr)(c:Nat)(cs:List Vl)(nf:Int)(w:World)(hr:RowV w.heap.size w a cs) :
  Calls Tryz.prog 20 #[.slice a cs.length c,.int .i64 nf] w fun e w'=>e=.returned (.bool (allB (fun _=>constB nf) cs))/\Below w.heap.size w w':=by
 obtain⟨hlen,hrow⟩:=hr
 replace hlen:=le_lit hlen
 go_enter Tryz.func20,Tryz.ntmps20
 go_wp2
 go_loopw [9] (fun i wr=>∃m:Nat,m<=cs.length/\i=.int .i64 m/\Hid (AllTo (fun _=>constB nf) cs m)/\Below w.heap.size w wr) (fun i _=>cs.length-(intOf i).toNat)
 case atStart=>exact⟨0,Nat.zero_le _,rfl,AllTo.zero,Below.refl _ _⟩
 case round =>
  obtain⟨m,hm,rfl,hG,hb⟩:=hrel
  by_cases hlt:m<cs.length
  ·obtain⟨x,hx⟩:∃x,cs[m]?=some x:=⟨cs[m],by simp[hlt]⟩
   obtain⟨b,off,rfl,hbl,hel⟩:=hrow (by intro e;subst e;simp at hlt)
   obtain⟨t0,t1,t2⟩:=(hel m x hx).below hb hbl
   have hbad:constB nf x=false->Hid (allB (fun _=>constB nf) cs=false):=fun h=>allB_false hx h
   have hnext:constB nf x=true->Hid (AllTo (fun _=>constB nf) cs (m+1)):=fun h=>AllTo.next hx h hG.out
   replace hbad:Hid _:=hbad
   replace hnext:Hid _:=hnext
   clear hx hG hrow hel
   cases e1:mayB x.k x.n x.s
   ·have hC:=fun w=>may_f x.k x.n x.s w e1
    replace e1:Hid _:=e1
    go_wp2_with (go_at_call 36;refine(hC _).mono ?_;rintro e w3 ⟨rfl,hb3⟩)
    go_ret
    exact⟨by rw[(hbad.out (by simp[constB,e1.out])).out];rfl,ext_trans (ext_alloc hb _) hb3⟩
   ·have hC:=fun w=>may_t x.k x.n x.s w e1
    replace e1:Hid _:=e1
    go_wp2_with (go_at_call 36;refine(hC _).mono ?_;rintro e w3 ⟨rfl,hb3⟩;have v0:=in_box (i:=0) hb3 rfl;have v1:=in_box (i:=1) hb3 rfl;refine Hid.out ?_)
    replace hb:=ext_trans (ext_alloc hb _) hb3
    clear t0 t1 t2 hb3 hC
    refine Lib.hid ?_
    cases e4:(x.k == 4)
    ·cases e5:(x.k == 5)
     ·go_wp2
      go_roundw
      case rel=>exact⟨m+1,hlt,by simp,(hnext.out (by simp[constB,e1.out,e4,e5])),hb⟩
      case measure=>simp[intOf];omega
     ·cases e6:decide (nf<=x.n)
      ·go_wp2
       go_roundw
       case rel=>exact⟨m+1,hlt,by simp,(hnext.out (by simp[constB,e1.out,e4,e5,e6])),hb⟩
       case measure=>simp[intOf];omega
      ·go_wp2
       go_ret
       exact⟨by rw[(hbad.out (by simp[constB,e1.out,e4,e5,e6])).out];rfl,hb⟩
    ·go_wp2
     go_ret
     exact⟨by rw[(hbad.out (by simp[constB,e1.out,e4])).out];rfl,hb⟩
  ·obtain rfl:m=cs.length:=by omega
   go_wp2
   go_ret
   exact⟨by rw[allB_true hG.out];rfl,hb⟩
def headB (f:Fd):Bool:=frB 0 f.p 5&&frB (max 1 f.p) f.r 250&&decide ((f.cs.length:Int)<=700)&&frB 1 f.is.length 3000
theorem head_0(f:Fd)(w:World)(h0:frB 0 f.p 5=false):Calls Tryz.prog 19 #[f.v] w fun e w'=>e=.returned (.bool false)/\Below w.heap.size w w':=by
 go_enter Tryz.func19,Tryz.ntmps19
 go_wp2_with (go_at_call 35;refine(from_any _ _ _ _).mono ?_;(first|rw[h0]|skip);rintro e w' ⟨rfl,rfl⟩)
 go_ret
 refine⟨rfl,?_⟩
 repeat(first|exact Below.refl _ _|refine ext_alloc ?_ _)
theorem head_1lo(f:Fd)(w:World)(hp:f.p<=1)(h0:frB 0 f.p 5=true)(h1:frB 1 f.r 250=false):Calls Tryz.prog 19 #[f.v] w fun e w'=>e=.returned (.bool false)/\Below w.heap.size w w':=by
 go_enter Tryz.func19,Tryz.ntmps19
 go_wp2_with (go_at_call 35;refine(from_any _ _ _ _).mono ?_;(first|rw[h0]|rw[h1]|skip);rintro e w' ⟨rfl,rfl⟩)
 go_ret
 refine⟨rfl,?_⟩
 repeat(first|exact Below.refl _ _|refine ext_alloc ?_ _)
theorem head_2lo(f:Fd)(w:World)(hp:f.p<=1)(h0:frB 0 f.p 5=true)(h1:frB 1 f.r 250=true)(h2:¬((f.cs.length:Int)<=700)):Calls Tryz.prog 19 #[f.v] w fun e w'=>e=.returned (.bool false)/\Below w.heap.size w w':=by
 go_enter Tryz.func19,Tryz.ntmps19
 go_wp2_with (go_at_call 35;refine(from_any _ _ _ _).mono ?_;(first|rw[h0]|rw[h1]|skip);rintro e w' ⟨rfl,rfl⟩)
 go_ret
 refine⟨rfl,?_⟩
 repeat(first|exact Below.refl _ _|refine ext_alloc ?_ _)
theorem head_3lo(f:Fd)(w:World)(hp:f.p<=1)(h0:frB 0 f.p 5=true)(h1:frB 1 f.r 250=true)(h2:((f.cs.length:Int)<=700)):Calls Tryz.prog 19 #[f.v] w fun e w'=>e=.returned (.bool (frB 1 f.is.length 3000))/\Below w.heap.size w w':=by
 go_enter Tryz.func19,Tryz.ntmps19
 go_wp2_with (go_at_call 35;refine(from_any _ _ _ _).mono ?_;(first|rw[h0]|rw[h1]|skip);rintro e w' ⟨rfl,rfl⟩)
 go_ret
 refine⟨rfl,?_⟩
 repeat(first|exact Below.refl _ _|refine ext_alloc ?_ _)
theorem head_1hi(f:Fd)(w:World)(hp:¬f.p<=1)(h0:frB 0 f.p 5=true)(h1:frB f.p f.r 250=false):Calls Tryz.prog 19 #[f.v] w fun e w'=>e=.returned (.bool false)/\Below w.heap.size w w':=by
 go_enter Tryz.func19,Tryz.ntmps19
 go_wp2_with (go_at_call 35;refine(from_any _ _ _ _).mono ?_;(first|rw[h0]|rw[h1]|skip);rintro e w' ⟨rfl,rfl⟩)
 go_ret
 refine⟨rfl,?_⟩
 repeat(first|exact Below.refl _ _|refine ext_alloc ?_ _)
theorem head_2hi(f:Fd)(w:World)(hp:¬f.p<=1)(h0:frB 0 f.p 5=true)(h1:frB f.p f.r 250=true)(h2:¬((f.cs.length:Int)<=700)):Calls Tryz.prog 19 #[f.v] w fun e w'=>e=.returned (.bool false)/\Below w.heap.size w w':=by
 go_enter Tryz.func19,Tryz.ntmps19
 go_wp2_with (go_at_call 35;refine(from_any _ _ _ _).mono ?_;(first|rw[h0]|rw[h1]|skip);rintro e w' ⟨rfl,rfl⟩)
 go_ret
 refine⟨rfl,?_⟩
 repeat(first|exact Below.refl _ _|refine ext_alloc ?_ _)
theorem head_3hi(f:Fd)(w:World)(hp:¬f.p<=1)(h0:frB 0 f.p 5=true)(h1:frB f.p f.r 250=true)(h2:((f.cs.length:Int)<=700)):Calls Tryz.prog 19 #[f.v] w fun e w'=>e=.returned (.bool (frB 1 f.is.length 3000))/\Below w.heap.size w w':=by
 go_enter Tryz.func19,Tryz.ntmps19
 go_wp2_with (go_at_call 35;refine(from_any _ _ _ _).mono ?_;(first|rw[h0]|rw[h1]|skip);rintro e w' ⟨rfl,rfl⟩)
 go_ret
 refine⟨rfl,?_⟩
 repeat(first|exact Below.refl _ _|refine ext_alloc ?_ _)
theorem head_any(f:Fd)(w:World):Calls Tryz.prog 19 #[f.v] w fun e w'=>e=.returned (.bool (headB f))/\Below w.heap.size w w':=by
 have key:∀b:Bool,headB f=b->(Calls Tryz.prog 19 #[f.v] w fun e w'=>e=.returned (.bool b)/\Below w.heap.size w w')->Calls Tryz.prog 19 #[f.v] w fun e w'=>e=.returned (.bool (headB f))/\Below w.heap.size w w':=by
  intro b hb h;rw[hb];exact h
 cases h0:frB 0 f.p 5
 ·exact key false (by unfold headB;rw[h0];rfl) (head_0 f w h0)
 by_cases hp:f.p<=1
 ·have hm:max 1 f.p=1:=by omega
  cases h1:frB 1 f.r 250
  ·exact key false (by unfold headB;rw[hm,h0,h1];rfl) (head_1lo f w hp h0 h1)
  by_cases h2:(f.cs.length:Int)<=700
  ·exact key _ (by unfold headB;rw[hm,h0,h1,decide_eq_true h2];rfl) (head_3lo f w hp h0 h1 h2)
  ·exact key false (by unfold headB;rw[hm,h0,h1,decide_eq_false h2];rfl) (head_2lo f w hp h0 h1 h2)
 ·have hm:max 1 f.p=f.p:=by omega
  cases h1:frB f.p f.r 250
  ·exact key false (by unfold headB;rw[hm,h0,h1];rfl) (head_1hi f w hp h0 h1)
  by_cases h2:(f.cs.length:Int)<=700
  ·exact key _ (by unfold headB;rw[hm,h0,h1,decide_eq_true h2];rfl) (head_3hi f w hp h0 h1 h2)
  ·exact key false (by unfold headB;rw[hm,h0,h1,decide_eq_false h2];rfl) (head_2hi f w hp h0 h1 h2)
def lastB (x:Od):Bool:=x.op == 12||x.op == 8||x.op == 10
def codeB (f:Fd):Bool:=allB (fun i x=>instrB f x i) f.is&&(match f.is[f.is.length-1]? with|some x=>lastB x|none=>false)
theorem code_any(f:Fd)(w:World)(hr:RowI w.heap.size w f.ia f.is)(hne:f.is≠[]) :
  Calls Tryz.prog 21 #[f.v] w fun e w'=>e=.returned (.bool (codeB f))/\Below w.heap.size w w':=by
 obtain⟨hlen,hrow⟩:=hr
 replace hlen:=le_lit hlen
 obtain⟨b,off,ha,hbl,hel⟩:=hrow hne
 have hpos:0<f.is.length:=List.length_pos_iff.2 hne
 have hv:f.v=.agg #[.int .i64 f.p,.int .i64 f.r,.slice f.ca f.cs.length f.cc,.slice (some ⟨b,off,none⟩) f.is.length f.ic]:=by rw[<- ha]
 have hpl:∀(x:Od) (m:Nat),plc f x m=.agg #[.int .i64 f.p,.int .i64 f.r,.slice f.ca f.cs.length f.cc,.slice (some ⟨b,off,none⟩) f.is.length f.ic,.int .i64 x.op,.int .i64 x.a,.int .i64 x.b,.int .i64 x.c,.int .i64 m]:=fun x m=>by rw[<- ha]
 replace hpl:Hid _:=hpl
 have hf0:=heap_new w (.cells #[.int .i64 f.p,.int .i64 f.r,.slice f.ca f.cs.length f.cc,.slice (some ⟨b,off,none⟩) f.is.length f.ic] 30)
 have hb0:Below w.heap.size w (w.alloc (.cells #[.int .i64 f.p,.int .i64 f.r,.slice f.ca f.cs.length f.cc,.slice (some ⟨b,off,none⟩) f.is.length f.ic] 30)):=ext_alloc (Below.refl _ _) _
 rw[hv]
 clear hv ha
 obtain⟨ans,hans⟩:∃ans,codeB f=ans:=⟨_,rfl⟩
 rw[hans]
 replace hans:Hid _:=hans
 go_enter Tryz.func21,Tryz.ntmps21
 go_wp2
 go_loopw [8] (fun i wr=>∃m:Nat,m<=f.is.length/\i=.int .i64 m/\Hid (AllTo (fun i x=>instrB f x i) f.is m)/\wr.heap[w.heap.size]?=some (.cells #[.int .i64 f.p,.int .i64 f.r,.slice f.ca f.cs.length f.cc,.slice (some ⟨b,off,none⟩) f.is.length f.ic] 30)/\Below w.heap.size w wr) (fun i _=>f.is.length-(intOf i).toNat)
 case atStart=>exact⟨0,Nat.zero_le _,rfl,AllTo.zero,hf0,hb0⟩
 case round =>
  clear hf0 hb0
  obtain⟨m,hm,rfl,hG,hf,hb⟩:=hrel
  have c0:wr.cell? ⟨w.heap.size,0,none⟩=some (.int .i64 f.p):=cell_blk hf rfl
  have c1:wr.cell? ⟨w.heap.size,1,none⟩=some (.int .i64 f.r):=cell_blk hf rfl
  have c2:wr.cell? ⟨w.heap.size,2,none⟩=some (.slice f.ca f.cs.length f.cc):=cell_blk hf rfl
  have c3:wr.cell? ⟨w.heap.size,3,none⟩=some (.slice (some ⟨b,off,none⟩) f.is.length f.ic):=cell_blk hf rfl
  have hl0:w.heap.size<wr.heap.size:=(Array.getElem?_eq_some_iff.1 hf).1
  by_cases hlt:m<f.is.length
  ·obtain⟨x,hx⟩:∃x,f.is[m]?=some x:=⟨f.is[m],by simp[hlt]⟩
   obtain⟨t0,t1,t2,t3⟩:=(hel m x hx).below hb hbl
   have hbad:instrB f x m=false->Hid (codeB f=false):=fun h=>by
    unfold codeB;rw[allB_false (p:=fun i x=>instrB f x i) hx h];exact rfl
   have hnext:instrB f x m=true->Hid (AllTo (fun i x=>instrB f x i) f.is (m+1)):=fun h=>AllTo.next (p:=fun i x=>instrB f x i) hx h hG.out
   replace hbad:Hid _:=hbad
   replace hnext:Hid _:=hnext
   clear hx hG hrow hel
   cases e1:instrB f x m
   ·have hC:=mo_any f x m
    rw[e1,hpl.out]at hC
    replace e1:Hid _:=e1
    go_wp2_with (go_at_call 37;refine(hC _).mono ?_;rintro e w3 ⟨rfl,hb3⟩)
    go_ret
    exact⟨by rw[<- hans.out,(hbad.out e1.out).out];rfl,ext_trans (ext_alloc hb _) hb3⟩
   ·have hC:=mo_any f x m
    rw[e1,hpl.out]at hC
    replace e1:Hid _:=e1
    go_wp2_with (go_at_call 37;refine(hC _).mono ?_;rintro e w3 ⟨rfl,hb3⟩)
    go_roundw
    case rel=>exact⟨m+1,hlt,by simp,(hnext.out e1.out),blk_below hb3 ((Below.heap_alloc _ _ _ (Array.getElem?_eq_some_iff.1 hf).1).trans hf),ext_trans (ext_alloc hb _) hb3⟩
    case measure=>simp[intOf];omega
  ·obtain rfl:m=f.is.length:=by omega
   obtain⟨x,hx⟩:∃x,f.is[f.is.length-1]?=some x:=⟨f.is[f.is.length-1],List.getElem?_eq_getElem (by omega)⟩
   obtain⟨t0,t1,t2,t3⟩:=(hel _ x hx).below hb hbl
   have he:codeB f=lastB x:=by unfold codeB;rw[allB_true hG.out,hx];rfl
   replace he:Hid _:=he
   clear hx hG hrow hel
   have hi:((f.is.length:Int)-1).toNat=f.is.length-1:=by omega
   have hi2:(0:Int)<=(f.is.length:Int)-1:=by omega
   have hi3:(f.is.length:Int)-1<(f.is.length:Int):=by omega
   have hi4:wrap64 ((f.is.length:Int)-1)=(f.is.length:Int)-1:=wrap64_id (by omega) (by omega)
   cases e1:(x.op == 12)
   ·cases e2:(x.op == 8)
    ·cases e3:(x.op == 10)
     ·go_wp2
      go_ret
      exact⟨by rw[<- hans.out,he.out];simp[lastB,e1,e2,e3],hb⟩
     ·go_wp2
      go_ret
      exact⟨by rw[<- hans.out,he.out];simp[lastB,e1,e2,e3],hb⟩
    ·go_wp2
     go_ret
     exact⟨by rw[<- hans.out,he.out];simp[lastB,e1,e2],hb⟩
   ·go_wp2
    go_ret
    exact⟨by rw[<- hans.out,he.out];simp[lastB,e1],hb⟩
structure FAt (W:World) (b o:Nat) (f:Fd):Prop where
 p:W.cell? ⟨b,o,none⟩=some (.int .i64 f.p)
 r:W.cell? ⟨b,o+1,none⟩=some (.int .i64 f.r)
 c:W.cell? ⟨b,o+2,none⟩=some (.slice f.ca f.cs.length f.cc)
 i:W.cell? ⟨b,o+3,none⟩=some (.slice f.ia f.is.length f.ic)
theorem FAt.below{n₀:Nat}{A B:World}(h:Below n₀ A B){b o:Nat}{x:Fd}(hb:b<n₀)(t:FAt A b o x):FAt B b o x :=
 ⟨(h.cell (p:=⟨b,o,none⟩) hb).trans t.p,(h.cell (p:=⟨b,o+1,none⟩) hb).trans t.r,(h.cell (p:=⟨b,o+2,none⟩) hb).trans t.c,(h.cell (p:=⟨b,o+3,none⟩) hb).trans t.i⟩
def FdIn (n₀:Nat) (W:World) (f:Fd):Prop:=RowV n₀ W f.ca f.cs/\RowI n₀ W f.ia f.is
theorem FdIn.below{n₀:Nat}{A B:World}(h:Below n₀ A B){f:Fd}(t:FdIn n₀ A f):FdIn n₀ B f:=⟨t.1.below h,t.2.below h⟩
theorem FdIn.mono{n₀ m:Nat}(hm:n₀<=m){A:World}{f:Fd}(t:FdIn n₀ A f):FdIn m A f:=⟨t.1.mono hm,t.2.mono hm⟩
theorem FdIn.at{w W:World}{f:Fd}(h:Below w.heap.size w W)(t:FdIn w.heap.size w f):FdIn W.heap.size W f:=(t.below h).mono h.size
def RowF (n₀:Nat) (W:World) (a:Option Addr) (fs:List Fd):Prop :=
 fs.length<=maxLen/\(fs≠[]->∃b off,a=some ⟨b,off,none⟩/\b<n₀/\∀j f,fs[j]?=some f->FAt W b (off+j*4) f/\FdIn n₀ W f)
theorem RowF.below{n₀:Nat}{A B:World}(h:Below n₀ A B){a:Option Addr}{xs:List Fd}(r:RowF n₀ A a xs):RowF n₀ B a xs:=by
 refine⟨r.1,fun hne=>?_⟩
 obtain⟨b,off,ea,hb,hc⟩:=r.2 hne
 exact⟨b,off,ea,hb,fun j x hj=>⟨(hc j x hj).1.below h hb,(hc j x hj).2.below h⟩⟩
theorem RowF.mono{n₀ m:Nat}(hm:n₀<=m){A:World}{a:Option Addr}{xs:List Fd}(r:RowF n₀ A a xs):RowF m A a xs:=by
 refine⟨r.1,fun hne=>?_⟩
 obtain⟨b,off,ea,hb,hc⟩:=r.2 hne
 exact⟨b,off,ea,by omega,fun j x hj=>⟨(hc j x hj).1,(hc j x hj).2.mono hm⟩⟩
def fnB (nf:Int) (f:Fd):Bool:=headB f&&allB (fun _=>constB nf) f.cs&&codeB f
def mainB (fs:List Fd) (main:Int):Bool:=match fs[main.toNat]? with|some f=>f.p == 0|none=>false
def progB (fs:List Fd) (main:Int):Bool :=
 decide (1<=fs.length)&&decide (fs.length<=12)&&belB main fs.length&&mainB fs main&&allB (fun _=>fnB fs.length) fs
theorem head_ne{f:Fd}(h:headB f=true):f.is≠[]:=by
 intro e
 simp[headB,frB,e]at h
theorem cellB{W W':World}(hb:Below W.heap.size W W'){b i:Nat}{v:Value}(h:W.cell? ⟨b,i,none⟩=some v):W'.cell? ⟨b,i,none⟩=some v :=
 (hb.cell (p:=⟨b,i,none⟩) (World.block_lt_of_cell? _ _ h)).trans h
abbrev PV (a:Option Addr) (n c:Nat) (main:Int):Value:=.agg #[.slice a n c,.int .i64 main]
theorem may_0(a:Option Addr)(c:Nat)(fs:List Fd)(main:Int)(w:World)(h:(fs.length:Int)<1) :
  Calls Tryz.prog 13 #[PV a fs.length c main] w fun e w'=>e=.returned (.bool false)/\Below w.heap.size w w':=by
 go_enter Tryz.func13,Tryz.ntmps13
 go_wp2
 go_ret
 refine⟨rfl,?_⟩
 repeat(first|exact Below.refl _ _|refine ext_alloc ?_ _)
theorem may_12(a:Option Addr)(c:Nat)(fs:List Fd)(main:Int)(w:World)(h:¬(fs.length:Int)<1)(h2:(12:Int)<(fs.length:Int)) :
  Calls Tryz.prog 13 #[PV a fs.length c main] w fun e w'=>e=.returned (.bool false)/\Below w.heap.size w w':=by
 go_enter Tryz.func13,Tryz.ntmps13
 go_wp2
 go_ret
 refine⟨rfl,?_⟩
 repeat(first|exact Below.refl _ _|refine ext_alloc ?_ _)
theorem may_main(a:Option Addr)(c:Nat)(fs:List Fd)(main:Int)(w:World)(h:¬(fs.length:Int)<1)(h2:¬(12:Int)<(fs.length:Int))(h3:belB main fs.length=false) :
  Calls Tryz.prog 13 #[PV a fs.length c main] w fun e w'=>e=.returned (.bool false)/\Below w.heap.size w w':=by
 go_enter Tryz.func13,Tryz.ntmps13
 go_wp2_with (go_at_call 18;refine(below_any _ _ _).mono ?_;rw[h3];rintro e w' ⟨rfl,rfl⟩)
 go_ret
 refine⟨rfl,?_⟩
 repeat(first|exact Below.refl _ _|refine ext_alloc ?_ _)
theorem may_params(b off c:Nat)(fs:List Fd)(main:Nat)(f:Fd)(w:World)(h:¬(fs.length:Int)<1)(h2:¬(12:Int)<(fs.length:Int))(h3:belB main fs.length=true)(hm:main<fs.length)
  (hb:b<w.heap.size) (hc:w.cell? ⟨b,off+main*4,none⟩=some (.int .i64 f.p)) (hp:(f.p == 0)=false) :
  Calls Tryz.prog 13 #[PV (some ⟨b,off,none⟩) fs.length c main] w fun e w'=>e=.returned (.bool false)/\Below w.heap.size w w':=by
 have hp':(f.p != 0)=true:=by rw[bne,hp];rfl
 go_enter Tryz.func13,Tryz.ntmps13
 go_wp2_with (go_at_call 18;refine(below_any _ _ _).mono ?_;rw[h3];rintro e w' ⟨rfl,rfl⟩)
 go_ret
 refine⟨rfl,?_⟩
 repeat(first|exact Below.refl _ _|refine ext_alloc ?_ _)
theorem may_loop(b off c:Nat)(fs:List Fd)(main:Nat)(f:Fd)(w:World)(h:¬(fs.length:Int)<1)(h2:¬(12:Int)<(fs.length:Int))(h3:belB main fs.length=true)(hm:main<fs.length)
  (hb:b<w.heap.size) (hc:w.cell? ⟨b,off+main*4,none⟩=some (.int .i64 f.p)) (hp:(f.p == 0)=true) (hel:∀j f,fs[j]?=some f->FAt w b (off+j*4) f/\FdIn w.heap.size w f) :
  Calls Tryz.prog 13 #[PV (some ⟨b,off,none⟩) fs.length c main] w fun e w'=>e=.returned (.bool (allB (fun _=>fnB fs.length) fs))/\Below w.heap.size w w':=by
 have hp':(f.p != 0)=false:=by rw[bne,hp];rfl
 have hf0:=heap_new w (.cells #[.slice (some ⟨b,off,none⟩) fs.length c,.int .i64 main] 45)
 have hb0:Below w.heap.size w (w.alloc (.cells #[.slice (some ⟨b,off,none⟩) fs.length c,.int .i64 main] 45)):=ext_alloc (Below.refl _ _) _
 obtain⟨ans,hans⟩:∃ans,allB (fun _=>fnB fs.length) fs=ans:=⟨_,rfl⟩
 rw[hans]
 replace hans:Hid _:=hans
 replace hel:Hid _:=hel
 go_enter Tryz.func13,Tryz.ntmps13
 go_wp2_with (go_at_call 18;refine(below_any _ _ _).mono ?_;rw[h3];rintro e w' ⟨rfl,rfl⟩)
 go_loopw [37] (fun i wr=>∃m:Nat,m<=fs.length/\i=.int .i64 m/\Hid (AllTo (fun _=>fnB fs.length) fs m)/\wr.heap[w.heap.size]?=some (.cells #[.slice (some ⟨b,off,none⟩) fs.length c,.int .i64 main] 45)/\Below w.heap.size w wr) (fun i _=>fs.length-(intOf i).toNat)
 case atStart=>exact⟨0,Nat.zero_le _,rfl,AllTo.zero,hf0,hb0⟩
 case round =>
  clear hf0 hb0
  obtain⟨m,hm,rfl,hG,hf,hbw⟩:=hrel
  have c0:wr.cell? ⟨w.heap.size,0,none⟩=some (.slice (some ⟨b,off,none⟩) fs.length c):=cell_blk hf rfl
  have hl0:w.heap.size<wr.heap.size:=(Array.getElem?_eq_some_iff.1 hf).1
  by_cases hlt:m<fs.length
  ·obtain⟨x,hx⟩:∃x,fs[m]?=some x:=⟨fs[m],by simp[hlt]⟩
   obtain⟨hFA,hFI⟩:=hel.out m x hx
   obtain⟨t0,t1,t2,t3⟩:=hFA.below hbw hb
   have hbad:fnB fs.length x=false->Hid (allB (fun _=>fnB fs.length) fs=false):=fun h=>allB_false hx h
   have hnext:fnB fs.length x=true->Hid (AllTo (fun _=>fnB fs.length) fs (m+1)):=fun h=>AllTo.next hx h hG.out
   replace hbad:Hid _:=hbad
   replace hnext:Hid _:=hnext
   clear hx hG hFA
   cases e1:headB x
   ·have hC:=head_any x
    rw[e1]at hC
    replace e1:Hid _:=e1
    replace hFI:Hid _:=hFI
    go_wp2_with (go_at_call 19;refine(hC _).mono ?_;rintro e w3 ⟨rfl,hb3⟩)
    go_ret
    exact⟨by rw[<- hans.out,(hbad.out (by simp[fnB,e1.out])).out];rfl,ext_trans (ext_alloc hbw _) hb3⟩
   ·have hC:=head_any x
    rw[e1]at hC
    have hne:=head_ne e1
    replace e1:Hid _:=e1
    have hC2:∀W,Below w.heap.size w W->Calls Tryz.prog 20 #[.slice x.ca x.cs.length x.cc,.int .i64 fs.length] W _:=fun W hW=>consts_any x.ca x.cc x.cs fs.length W (hFI.at hW).1
    have hC3:∀W,Below w.heap.size w W->Calls Tryz.prog 21 #[x.v] W _:=fun W hW=>code_any x W (hFI.at hW).2 hne
    replace hFI:Hid _:=hFI
    cases e2:allB (fun _=>constB fs.length) x.cs
    ·rw[e2]at hC2
     replace e2:Hid _:=e2
     clear hC3
     go_wp2_with (first|(go_at_call 19;refine(hC _).mono ?_;rintro e w3 ⟨rfl,hb3⟩;have v2:=in_box (i:=2) hb3 rfl;have b3:=ext_trans (ext_alloc hbw _) hb3;have d0:=cell_blk (blk_below hb3 ((Below.heap_alloc _ _ _ hl0).trans hf)) (i:=0) rfl)|(go_at_call 20;refine(hC2 _ b3).mono ?_;rintro e w4 ⟨rfl,hb4⟩))
     go_ret
     exact⟨by rw[<- hans.out,(hbad.out (by simp[fnB,e1.out,e2.out])).out];rfl,ext_trans b3 hb4⟩
    ·rw[e2]at hC2
     replace e2:Hid _:=e2
     cases e3:codeB x
     ·rw[e3]at hC3
      replace e3:Hid _:=e3
      go_wp2_with (first|(go_at_call 19;refine(hC _).mono ?_;rintro e w3 ⟨rfl,hb3⟩;have v0:=in_box (i:=0) hb3 rfl;have v1:=in_box (i:=1) hb3 rfl;have v2:=in_box (i:=2) hb3 rfl;have v3:=in_box (i:=3) hb3 rfl;have b3:=ext_trans (ext_alloc hbw _) hb3;have f3:=blk_below hb3 ((Below.heap_alloc _ _ _ hl0).trans hf);have d0:=cell_blk f3 (i:=0) rfl)|(go_at_call 20;refine(hC2 _ b3).mono ?_;rintro e w4 ⟨rfl,hb4⟩;have v0:=cellB hb4 v0;have v1:=cellB hb4 v1;have v2:=cellB hb4 v2;have v3:=cellB hb4 v3;have b4:=ext_trans b3 hb4;have f4:=blk_below hb4 f3)|(go_at_call 21;refine(hC3 _ b4).mono ?_;rintro e w5 ⟨rfl,hb5⟩))
      go_ret
      exact⟨by rw[<- hans.out,(hbad.out (by simp[fnB,e1.out,e2.out,e3.out])).out];rfl,ext_trans b4 hb5⟩
     ·rw[e3]at hC3
      replace e3:Hid _:=e3
      go_wp2_with (first|(go_at_call 19;refine(hC _).mono ?_;rintro e w3 ⟨rfl,hb3⟩;have v0:=in_box (i:=0) hb3 rfl;have v1:=in_box (i:=1) hb3 rfl;have v2:=in_box (i:=2) hb3 rfl;have v3:=in_box (i:=3) hb3 rfl;have b3:=ext_trans (ext_alloc hbw _) hb3;have f3:=blk_below hb3 ((Below.heap_alloc _ _ _ hl0).trans hf);have d0:=cell_blk f3 (i:=0) rfl)|(go_at_call 20;refine(hC2 _ b3).mono ?_;rintro e w4 ⟨rfl,hb4⟩;have v0:=cellB hb4 v0;have v1:=cellB hb4 v1;have v2:=cellB hb4 v2;have v3:=cellB hb4 v3;have b4:=ext_trans b3 hb4;have f4:=blk_below hb4 f3)|(go_at_call 21;refine(hC3 _ b4).mono ?_;rintro e w5 ⟨rfl,hb5⟩))
      go_roundw
      case rel=>exact⟨m+1,hlt,by simp,(hnext.out (by simp[fnB,e1.out,e2.out,e3.out])),blk_below hb5 f4,ext_trans b4 hb5⟩
      case measure=>simp[intOf];omega
  ·obtain rfl:m=fs.length:=by omega
   go_wp2
   go_ret
   exact⟨by rw[<- hans.out,allB_true hG.out];rfl,hbw⟩
theorem may_prog(a:Option Addr)(c:Nat)(fs:List Fd)(main:Int)(w:World)(hr:RowF w.heap.size w a fs) :
  Calls Tryz.prog 13 #[PV a fs.length c main] w fun e w'=>e=.returned (.bool (progB fs main))/\Below w.heap.size w w':=by
 have key:∀b:Bool,progB fs main=b->(Calls Tryz.prog 13 #[PV a fs.length c main] w fun e w'=>e=.returned (.bool b)/\Below w.heap.size w w')->Calls Tryz.prog 13 #[PV a fs.length c main] w fun e w'=>e=.returned (.bool (progB fs main))/\Below w.heap.size w w':=by
  intro b hb h;rw[hb];exact h
 by_cases h1:fs.length<1
 ·exact key false (by
            have h:¬1<=fs.length:=by omega
            simp[progB,h]) (may_0 a c fs main w (by omega))
 by_cases h2:12<fs.length
 ·exact key false (by
            have h:¬fs.length<=12:=by omega
            simp[progB,h]) (may_12 a c fs main w (by omega) (by omega))
 cases h3:belB main fs.length
 ·exact key false (by simp[progB,h3]) (may_main a c fs main w (by omega) (by omega) h3)
 have h4:0<=main/\main<fs.length:=by simpa[belB]using h3
 obtain⟨n,rfl⟩:∃n:Nat,main=n:=⟨main.toNat,by omega⟩
 have hn:n<fs.length:=by omega
 obtain⟨b,off,rfl,hb,hel⟩:=hr.2 (by intro e;subst e;simp at hn)
 obtain⟨f,hf⟩:∃f,fs[n]?=some f:=⟨fs[n],by simp[hn]⟩
 have hm:mainB fs n=(f.p == 0):=by simp[mainB,hf]
 cases h5:(f.p == 0)
 ·exact key false (by simp[progB,hm,h5]) (may_params b off c fs n f w (by omega) (by omega) h3 hn hb (hel n f hf).1.p h5)
 ·refine key _ ?_ (may_loop b off c fs n f w (by omega) (by omega) h3 hn hb (hel n f hf).1.p h5 hel)
  have e1:decide (1<=fs.length)=true:=by simp;omega
  have e2:decide (fs.length<=12)=true:=by simp;omega
  unfold progB
  rw[e1,e2,h3,hm,h5]
  rfl
end Go.Proofs.YthljpnmhddfblaaGreatDoor
