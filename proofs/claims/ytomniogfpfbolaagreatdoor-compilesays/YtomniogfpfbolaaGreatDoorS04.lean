import Derived.Test.YtomniogfpfbolaaGreatDoorS01
import Derived.Lib.ParseIntB
namespace Go.Proofs.YtomniogfpfbolaaGreatDoor
open Go
set_option maxRecDepth 100000
set_option maxHeartbeats 8000000
set_option linter.all false
variable {k:Int} {t l r:List UInt8} {c:UInt8}
def letB (c:UInt8):Bool:=decide (c.toNat=95)||(decide (97<=c.toNat)&&decide (c.toNat<=122))||(decide (65<=c.toNat)&&decide (c.toNat<=90))
def digB (c:UInt8):Bool:=decide (48<=c.toNat)&&decide (c.toNat<=57)
def rowB (c:UInt8):Bool:=letB c||digB c
def txtB (c:UInt8):Bool:=decide (32<=c.toNat)&&decide (c.toNat<=126) && !decide (c.toNat=34)
def a3r (c:UInt8):Bool:=!decide (c.toNat=10)
def runN (p:UInt8->Bool):List UInt8->Nat
 | []=>0
 | c::r=>if p c then runN p r+1 else 0
theorem a3s(p:UInt8->Bool):∀l,runN p l<=l.length
 | []=>by simp[runN]
 | c::r=>by
  have:=a3s p r
  simp only[runN,List.length_cons]
  split <;> omega
theorem a7m(p:UInt8->Bool):∀l,∀i,i<runN p l->∀c,l[i]?=some c->p c=true
 | [],i,h,c,e=>by simp at e
 | d::r,i,h,c,e=>by
  simp only[runN]at h
  split at h
  ·cases i with
   | zero=>simp at e;subst e;assumption
   | succ i=>exact a7m p r i (by omega) c (by simpa using e)
  ·omega
theorem a5l(p:UInt8->Bool):∀(l:List UInt8) (n:Nat),n<=l.length->(∀i c,i<n->l[i]?=some c->p c=true)->(∀c,l[n]?=some c->p c=false)->runN p l=n
 | [],n,h,_,_=>by simp at h;simp[runN,h]
 | d::r,0,_,_,h=>by simp[runN,h d (by simp)]
 | d::r,n+1,h0,h1,h2=>by
  have e:=h1 0 d (by omega) (by simp)
  simp only[runN,e,if_true]
  rw[a5l p r n (by simpa using h0) (fun i c y z=>h1 (i+1) c (by omega) (by simpa using z)) (fun c z=>h2 c (by simpa using z))]
def numV (l:List UInt8):Nat:=l.foldl (fun a c=>a*10+(c.toNat-48)) 0
def numE (l:List UInt8):Int :=
 if l.all digB=false then 2 else if 1<l.length/\l.head?=some 48 then 2 else if 9223372036854775807<numV l then 6 else 0
def a5c:List UInt8:=[40,41,123,125,91,93,44,59,61,60,43,45,42,47,37,35]
def a5x (l:List UInt8):Bool:=decide (l.take 2=[61,61])||decide (l.take 2=[60,61])||decide (l.take 2=[46,46])
def a3i:List UInt8->Nat
 | []=>0
 | c::r=>if a5x (c::r) then 2 else if a5c.contains c then 1 else 0
abbrev TokR:Type:=Int⊕(Int×List UInt8×Nat)
abbrev TokR.bad (e:Int):TokR:=Sum.inl e
abbrev TokR.tok (k:Int) (t:List UInt8) (n:Nat):TokR:=Sum.inr (k,t,n)
theorem TokR.byCases{motive:TokR->Prop}(bad:∀e,motive (TokR.bad e))(tok:∀k t n,motive (TokR.tok k t n))(r:TokR):motive r:=by
 rcases r with e|⟨k,t,n⟩
 ·exact bad e
 ·exact tok k t n
theorem TokR.inj{k':Int}{t':List UInt8}{n n':Nat}(h:TokR.tok k t n=TokR.tok k' t' n'):k=k'/\t=t'/\n=n':=by
 cases h
 exact⟨rfl,rfl,rfl⟩
def tokR (l:List UInt8):TokR :=
 match l with
 | []=>.bad 2
 | c::r =>
  if letB c then (if 16<runN rowB l then .bad 1 else .tok 1 (l.take (runN rowB l)) (runN rowB l))
  else if digB c then (if numE (l.take (runN rowB l))=0 then .tok 2 (l.take (runN rowB l)) (runN rowB l) else .bad (numE (l.take (runN rowB l))))
  else if c.toNat=34 then (if r[runN txtB r]?=some 34 then (if 300<runN txtB r then .bad 1 else .tok 3 (r.take (runN txtB r)) (runN txtB r+2)) else .bad 2)
  else if a3i l=0 then .bad 2 else .tok 4 (l.take (a3i l)) (a3i l)
structure Tok where
 k:Int
 t:List UInt8
 a:Nat
abbrev a1k:Type:=(Int×Nat)⊕List Tok
abbrev a1k.bad (e:Int) (a:Nat):a1k:=Sum.inl (e,a)
abbrev a1k.toks (l:List Tok):a1k:=Sum.inr l
theorem a1k.byCases{motive:a1k->Prop}(bad:∀e a,motive (a1k.bad e a))(toks:∀l,motive (a1k.toks l))(r:a1k):motive r:=by
 rcases r with⟨e,a⟩|l
 ·exact bad e a
 ·exact toks l
def a1k.pre (p:List Tok):a1k->a1k
 | .inl x=>.inl x
 | .inr l=>.inr (p++l)
theorem a1k.pre_nil(r:a1k):a1k.pre [] r=r:=by cases r <;> rfl
theorem a1k.pre_pre(p q:List Tok)(r:a1k):a1k.pre p (a1k.pre q r)=a1k.pre (p++q) r:=by cases r <;> simp[a1k.pre]
def gap1:List UInt8->Nat
 | []=>0
 | c::r=>if c.toNat=32\/c.toNat=10 then 1 else if c.toNat=45/\r.head?=some 45 then runN a3r (c::r) else 0
theorem a7e(l:List UInt8):gap1 l<=l.length:=by
 cases l with
 | nil=>simp[gap1]
 | cons c r =>
  have:=a3s a3r (c::r)
  simp only[gap1]
  split
  ·simp
  ·split <;> simp_all
def a9a:Nat->Nat->List UInt8->a1k
 | 0,_,_=>.toks []
 | f+1,a,l =>
  if l=[] then .toks []
  else if gap1 l=0 then
   match tokR l with
   | .inl e=>.bad e a
   | .inr (k,t,n)=>a1k.pre [⟨k,t,a⟩] (a9a f (a+n) (l.drop n))
  else a9a f (a+gap1 l) (l.drop (gap1 l))
theorem b7b:∀l:List UInt8,a3i l<=l.length
 | []=>by simp[a3i]
 | [c]=>by
  have:a5x [c]=false:=by simp[a5x]
  simp only[a3i,this]
  simp
  split <;> omega
 | c::d::r=>by
  simp only[a3i]
  split
  ·simp
  ·split <;> simp
theorem a3a{n:Nat}(h:tokR l=.tok k t n):0<n/\n<=l.length:=by
 cases l with
 | nil=>simp[tokR]at h
 | cons c r =>
  have h1:=a3s rowB (c::r)
  have h2:=a3s txtB r
  unfold tokR at h
  simp only at h
  split at h
  ·rename_i hc
   have:0<runN rowB (c::r):=by simp[runN,rowB,hc]
   split at h <;> cases h
   exact⟨this,h1⟩
  split at h
  ·rename_i hc
   have:0<runN rowB (c::r):=by simp[runN,rowB,hc]
   split at h <;> cases h
   exact⟨this,h1⟩
  split at h
  ·split at h
   ·rename_i hq
    have:runN txtB r<r.length:=by
     by_cases hh:runN txtB r<r.length
     ·exact hh
     ·rw[List.getElem?_eq_none (by omega)]at hq;cases hq
    split at h <;> cases h
    simp;omega
   ·cases h
  split at h
  ·cases h
  ·cases h
   rename_i hs
   exact⟨by omega,b7b _⟩
theorem a3t:∀(f g a:Nat) (l:List UInt8),l.length<=f->l.length<=g->a9a f a l=a9a g a l
 | 0,g,a,l,h,_=>by
  obtain rfl:l=[]:=List.eq_nil_of_length_eq_zero (by omega)
  cases g <;> simp[a9a]
 | f+1,0,a,l,_,h=>by
  obtain rfl:l=[]:=List.eq_nil_of_length_eq_zero (by omega)
  simp[a9a]
 | f+1,g+1,a,l,hf,hg=>by
  simp only[a9a]
  by_cases h0:l=[]
  ·simp[h0]
  ·have z:0<l.length:=List.length_pos_iff.2 h0
   simp only[h0,if_false]
   by_cases h1:gap1 l=0
   ·simp only[h1,if_true]
    cases ht:tokR l using TokR.byCases with
    | bad e=>rfl
    | tok k t n =>
     have:=a3a ht
     simp only
     rw[a3t f g (a+n) (l.drop n) (by simp;omega) (by simp;omega)]
   ·simp only[h1,if_false]
    exact a3t f g _ _ (by simp;omega) (by simp;omega)
def a3j (a:Nat) (l:List UInt8):a1k:=a9a l.length a l
theorem a3w(a:Nat):a3j a []=.toks []:=rfl
theorem a4m(h:gap1 l≠0)(a:Nat):a3j a l=a3j (a+gap1 l) (l.drop (gap1 l)):=by
 have z:l≠[]:=by rintro rfl;simp[gap1]at h
 have y:0<l.length:=List.length_pos_iff.2 z
 unfold a3j
 rw[a3t l.length (l.length-1+1) a l (Nat.le_refl _) (by omega)]
 simp only[a9a,z,h,if_false]
 exact a3t _ _ _ _ (by simp;omega) (by simp)
theorem a4n(h0:l≠[])(h:gap1 l=0){e:Int}(ht:tokR l=.bad e)(a:Nat):a3j a l=.bad e a:=by
 have z:0<l.length:=List.length_pos_iff.2 h0
 unfold a3j
 rw[a3t l.length (l.length-1+1) a l (Nat.le_refl _) (by omega)]
 simp[a9a,h0,h,ht]
theorem a4o(h0:l≠[])(h:gap1 l=0){n:Nat}(ht:tokR l=.tok k t n)(a:Nat):a3j a l=a1k.pre [⟨k,t,a⟩] (a3j (a+n) (l.drop n)):=by
 have z:0<l.length:=List.length_pos_iff.2 h0
 have hn:=a3a ht
 unfold a3j
 rw[a3t l.length (l.length-1+1) a l (Nat.le_refl _) (by omega)]
 simp only[a9a,h0,h,ht,if_false,if_true]
 rw[a3t _ (l.drop n).length _ _ (by simp;omega) (Nat.le_refl _)]
def gapF:Nat->List UInt8->Nat
 | 0,_=>0
 | f+1,l=>if gap1 l=0 then 0 else gap1 l+gapF f (l.drop (gap1 l))
theorem a9m:∀(f g:Nat) (l:List UInt8),l.length<=f->l.length<=g->gapF f l=gapF g l
 | 0,g,l,h,_=>by
  obtain rfl:l=[]:=List.eq_nil_of_length_eq_zero (by omega)
  cases g <;> simp[gapF,gap1]
 | f+1,0,l,_,h=>by
  obtain rfl:l=[]:=List.eq_nil_of_length_eq_zero (by omega)
  simp[gapF,gap1]
 | f+1,g+1,l,hf,hg=>by
  simp only[gapF]
  by_cases h1:gap1 l=0
  ·simp[h1]
  ·have:=a7e l
   simp only[h1,if_false]
   rw[a9m f g _ (by simp;omega) (by simp;omega)]
def gapN (l:List UInt8):Nat:=gapF l.length l
theorem a9n(h:gap1 l=0):gapN l=0:=by
 unfold gapN
 cases l with
 | nil=>rfl
 | cons c r=>simp[gapF,h]
theorem a9o(h:gap1 l≠0):gapN l=gap1 l+gapN (l.drop (gap1 l)):=by
 have z:l≠[]:=by rintro rfl;simp[gap1]at h
 have y:0<l.length:=List.length_pos_iff.2 z
 unfold gapN
 rw[a9m l.length (l.length-1+1) l (Nat.le_refl _) (by omega)]
 simp only[gapF,h,if_false]
 rw[a9m _ (l.drop (gap1 l)).length _ (by simp;omega) (Nat.le_refl _)]
theorem b4z:∀(m:Nat) (l:List UInt8),l.length<=m->gapN l<=l.length/\gap1 (l.drop (gapN l))=0
 | 0,l,h=>by
  obtain rfl:l=[]:=List.eq_nil_of_length_eq_zero (by omega)
  simp[gapN,gapF,gap1]
 | m+1,l,h=>by
  by_cases h1:gap1 l=0
  ·rw[a9n h1];simp[h1]
  ·have h2:=a7e l
   have h3:=b4z m (l.drop (gap1 l)) (by simp;omega)
   rw[a9o h1]
   rw[List.drop_drop]at h3
   refine⟨?_,h3.2⟩
   have:=h3.1
   simp at this
   omega
theorem a8i:∀(m:Nat) (l:List UInt8) (a:Nat),l.length<=m->a3j a l=a3j (a+gapN l) (l.drop (gapN l))
 | 0,l,a,h=>by
  obtain rfl:l=[]:=List.eq_nil_of_length_eq_zero (by omega)
  simp[a3j,a9a]
 | m+1,l,a,h=>by
  by_cases h1:gap1 l=0
  ·rw[a9n h1];simp
  ·have h2:=a7e l
   rw[a9o h1,a4m h1,a8i m (l.drop (gap1 l)) _ (by simp;omega),List.drop_drop]
   congr 1
   omega
structure Nd where
 k:Int
 t:List UInt8
 n:Int
 kids:List Nd
abbrev W.and_:List UInt8:=[97,110,100]
abbrev W.do_:List UInt8:=[100,111]
abbrev W.else_:List UInt8:=[101,108,115,101]
abbrev W.emit_:List UInt8:=[101,109,105,116]
abbrev W.end_:List UInt8:=[101,110,100]
abbrev W.false_:List UInt8:=[102,97,108,115,101]
abbrev W.for_:List UInt8:=[102,111,114]
abbrev W.function_:List UInt8:=[102,117,110,99,116,105,111,110]
abbrev W.if_:List UInt8:=[105,102]
abbrev W.local_:List UInt8:=[108,111,99,97,108]
abbrev W.next_:List UInt8:=[110,101,120,116]
abbrev W.nil_:List UInt8:=[110,105,108]
abbrev W.not_:List UInt8:=[110,111,116]
abbrev W.or_:List UInt8:=[111,114]
abbrev W.return_:List UInt8:=[114,101,116,117,114,110]
abbrev W.then_:List UInt8:=[116,104,101,110]
abbrev W.true_:List UInt8:=[116,114,117,101]
abbrev W.while_:List UInt8:=[119,104,105,108,101]
abbrev S.lp:List UInt8:=[40]
abbrev S.rp:List UInt8:=[41]
abbrev S.lb:List UInt8:=[91]
abbrev S.rb:List UInt8:=[93]
abbrev S.lc:List UInt8:=[123]
abbrev S.rc:List UInt8:=[125]
abbrev S.cm:List UInt8:=[44]
abbrev S.sc:List UInt8:=[59]
abbrev S.eq:List UInt8:=[61]
abbrev S.ee:List UInt8:=[61,61]
abbrev S.lt:List UInt8:=[60]
abbrev S.le:List UInt8:=[60,61]
abbrev S.pl:List UInt8:=[43]
abbrev S.mi:List UInt8:=[45]
abbrev S.mu:List UInt8:=[42]
abbrev S.dv:List UInt8:=[47]
abbrev S.md:List UInt8:=[37]
abbrev S.ct:List UInt8:=[46,46]
abbrev S.hs:List UInt8:=[35]
def a0j:List (List UInt8):=[W.and_,W.do_,W.else_,W.emit_,W.end_,W.false_,W.for_,W.function_,W.if_,W.local_,W.next_,W.nil_,W.not_,W.or_,W.return_,W.then_,W.true_,W.while_]
def a4s (s:List UInt8):Bool:=decide (1<=s.length)&&decide (s.length<=16)&&(s.head?.map letB).getD false&&s.all rowB && !a0j.contains s
abbrev PT:Type:=Int×List UInt8
def tx:List PT->List UInt8
 | []=>[]
 | t::_=>if t.1=2\/t.1=3 then [] else t.2
def opsL:List (List UInt8×Int×Nat):=[(W.or_,21,0),(W.and_,20,1),(S.ee,7,2),(S.lt,8,2),(S.le,9,2),(S.ct,6,3),(S.pl,1,4),(S.mi,2,4),(S.mu,3,5),(S.dv,4,5),(S.md,5,5)]
def opAt (s:List UInt8):Option (Int×Nat):=(opsL.find? (fun p=>p.1 == s)).map (fun p=>p.2)
def opOf (o:Int):Option (List UInt8×Nat):=(opsL.find? (fun p=>p.2.1 == o)).map (fun p=>(p.1,p.2.2))
abbrev PR:Type:=Option (List PT⊕(Nd×List PT))
abbrev PR.no (l:List PT):PR:=some (.inl l)
abbrev PR.ok (n:Nd) (l:List PT):PR:=some (.inr (n,l))
def PR.on (x:PR) (g:Nd->List PT->PR):PR :=
 match x with
 | none=>none
 | some (.inl l)=>some (.inl l)
 | some (.inr (n,l))=>g n l
def need (s:List UInt8) (l:List PT) (g:List PT->PR):PR:=if tx l=s then g l.tail else .no l
def a0n (l:List PT) (g:List UInt8->List PT->PR):PR:=if a4s (tx l)=true then g (tx l) l.tail else .no l
def nd (k:Int) (kids:List Nd):Nd:=⟨k,[],0,kids⟩
def b1s (s:List UInt8):Int:=numV s
def P:Nat->Nat->Nd->Nat->List PT->PR
 | 0,_,_,_,_=>none
 | f+1,0,_,a,l=>if 5<a then P f 1 (nd 0 []) 0 l else (P f 0 (nd 0 []) (a+1) l).on fun n l=>P f 2 n a l
 | f+1,1,_,_,l =>
  if tx l=S.mi then (P f 1 (nd 0 []) 0 l.tail).on fun x l=>.ok (nd 24 [x]) l
  else if tx l=W.not_ then (P f 1 (nd 0 []) 0 l.tail).on fun x l=>.ok (nd 23 [x]) l
  else if tx l=S.hs then (P f 1 (nd 0 []) 0 l.tail).on fun x l=>.ok (nd 25 [x]) l
  else (P f 3 (nd 0 []) 0 l).on fun n l=>P f 4 n 0 l
 | f+1,2,x,a,l =>
  match opAt (tx l) with
  | none=>.ok x l
  | some (o,k) =>
   if k=a then (P f 0 (nd 0 []) (a+1) l.tail).on fun y l=>if a=2 then .ok ⟨22,[],o,[x,y]⟩ l else P f 2 ⟨22,[],o,[x,y]⟩ a l
   else .ok x l
 | f+1,3,_,_,l =>
  match l with
  | []=>.no l
  | t::r =>
   if t.1=2 then .ok ⟨13,[],b1s t.2,[]⟩ r
   else if t.1=3 then .ok ⟨14,t.2,0,[]⟩ r
   else if tx l=S.lp then (P f 0 (nd 0 []) 0 r).on fun n l=>need S.rp l fun l=>.ok n l
   else if tx l=W.nil_ then .ok (nd 15 []) r
   else if tx l=W.true_ then .ok (nd 16 []) r
   else if tx l=W.false_ then .ok (nd 17 []) r
   else if tx l=S.lc then need S.rc r fun l=>.ok (nd 19 []) l
   else if tx l=W.next_ then need S.lp r fun l=>(P f 0 (nd 0 []) 0 l).on fun x l=>need S.cm l fun l=>(P f 0 (nd 0 []) 0 l).on fun y l=>need S.rp l fun l=>.ok (nd 26 [x,y]) l
   else a0n l fun s l=>.ok ⟨18,s,0,[]⟩ l
 | f+1,4,x,_,l=>if tx l=S.lb\/tx l=S.lp then (P f 5 x 0 l).on fun n l=>P f 4 n 0 l else .ok x l
 | f+1,5,x,_,l =>
  if tx l=S.lb then (P f 0 (nd 0 []) 0 l.tail).on fun y l=>need S.rb l fun l=>.ok (nd 20 [x,y]) l
  else need S.lp l fun l=>if tx l=S.rp then .ok (nd 21 [x]) l.tail else P f 6 (nd 21 [x]) 0 l
 | f+1,6,x,_,l=>(P f 0 (nd 0 []) 0 l).on fun y l=>if tx l=S.cm then P f 6 (nd 21 (x.kids++[y])) 0 l.tail else need S.rp l fun l=>.ok (nd 21 (x.kids++[y])) l
 | f+1,7,x,_,l=>if tx l=W.end_\/tx l=W.else_ then .ok x l else (P f 8 (nd 0 []) 0 l).on fun s l=>P f 7 (nd 4 (x.kids++[s])) 0 l
 | f+1,8,_,_,l =>
  if tx l=W.local_ then a0n l.tail fun s l=>need S.eq l fun l=>(P f 0 (nd 0 []) 0 l).on fun x l=>need S.sc l fun l=>.ok ⟨5,s,0,[x]⟩ l
  else if tx l=W.if_ then (P f 0 (nd 0 []) 0 l.tail).on fun x l=>need W.then_ l fun l=>(P f 7 (nd 4 []) 0 l).on fun b l =>
   if tx l=W.else_ then (P f 7 (nd 4 []) 0 l.tail).on fun c l=>need W.end_ l fun l=>.ok (nd 8 [x,b,c]) l else need W.end_ l fun l=>.ok (nd 8 [x,b]) l
  else if tx l=W.while_ then (P f 0 (nd 0 []) 0 l.tail).on fun x l=>need W.do_ l fun l=>(P f 7 (nd 4 []) 0 l).on fun b l=>need W.end_ l fun l=>.ok (nd 9 [x,b]) l
  else if tx l=W.for_ then a0n l.tail fun s l=>need S.eq l fun l=>(P f 0 (nd 0 []) 0 l).on fun x l=>need S.cm l fun l=>(P f 0 (nd 0 []) 0 l).on fun y l=>need W.do_ l fun l=>(P f 7 (nd 4 []) 0 l).on fun b l=>need W.end_ l fun l=>.ok ⟨10,s,0,[x,y,b]⟩ l
  else if tx l=W.return_ then (P f 0 (nd 0 []) 0 l.tail).on fun x l=>need S.sc l fun l=>.ok (nd 11 [x]) l
  else if tx l=W.emit_ then (P f 0 (nd 0 []) 0 l.tail).on fun x l=>need S.sc l fun l=>.ok (nd 12 [x]) l
  else a0n l fun s l=>(P f 9 ⟨18,s,0,[]⟩ 0 l).on fun n l=>need S.sc l fun l=>.ok n l
 | f+1,9,x,a,l =>
  if tx l=S.lb then (P f 5 x 0 l).on fun n l=>P f 9 n a l
  else if tx l=S.lp then (P f 5 x 0 l).on fun n l=>P f 9 n (a+1) l
  else if a=0 then need S.eq l fun l=>(P f 0 (nd 0 []) 0 l).on fun y l=>.ok (nd 6 [x,y]) l
  else if x.k=21 then .ok (nd 7 [x]) l else .no l
 | f+1,10,_,_,l=>need W.function_ l fun l=>a0n l fun s l=>need S.lp l fun l =>
   if tx l=S.rp then (P f 7 (nd 4 []) 0 l.tail).on fun b l=>need W.end_ l fun l=>.ok ⟨2,s,0,[b]⟩ l
   else (P f 11 ⟨2,s,0,[]⟩ 0 l).on fun n l=>need S.rp l fun l=>(P f 7 (nd 4 []) 0 l).on fun b l=>need W.end_ l fun l=>.ok ⟨2,s,0,n.kids++[b]⟩ l
 | f+1,11,x,_,l=>a0n l fun s l=>if tx l=S.cm then P f 11 ⟨2,x.t,0,x.kids++[⟨3,s,0,[]⟩]⟩ 0 l.tail else .ok ⟨2,x.t,0,x.kids++[⟨3,s,0,[]⟩]⟩ l
 | f+1,12,x,_,l=>if l=[] then .ok x l else (P f 10 (nd 0 []) 0 l).on fun g l=>P f 12 (nd 1 (x.kids++[g])) 0 l
 | _+1,_,_,_,_=>none
theorem PR.on_mono{x y:PR}{g h:Nd->List PT->PR}{r:List PT⊕(Nd×List PT)}(hx:∀r,x=some r->y=some r)(hg:∀n l r,g n l=some r->h n l=some r)(e:x.on g=some r):y.on h=some r:=by
 unfold PR.on at e⊢
 match x,e,hx with
 | none,e,_=>cases e
 | some (.inl l),e,hx=>rw[hx _ rfl];exact e
 | some (.inr (n,l)),e,hx=>rw[hx _ rfl];exact hg n l r e
theorem b1t{c:Prop}[Decidable c]{x x' y y':PR}{r:List PT⊕(Nd×List PT)}(h1:x=some r->x'=some r)(h2:y=some r->y'=some r)(e:(if c then x else y)=some r):(if c then x' else y')=some r:=by
 split at e
 ·rename_i h;rw[if_pos h];exact h1 e
 ·rename_i h;rw[if_neg h];exact h2 e
theorem d4e:∀(f z:Nat) (x:Nd) (a:Nat) (l:List PT) (r:List PT⊕(Nd×List PT)),P f z x a l=some r->P (f+1) z x a l=some r:=by
 intro f
 induction f with
 | zero=>intro z x a l r h;cases h
 | succ f ih =>
  intro z x a l r h
  revert h
  match z with
  | 0|1|4|5|6|7|8|9|10|11|12 =>
   rw[P,P]
   repeat' first
    | exact ih _ _ _ _ _
    | exact fun h=>h
    | refine b1t ?_ ?_
    | refine PR.on_mono (ih _ _ _ _) ?_
    | refine need_mono ?_
    | refine needName_mono ?_
    | intro _ _ _
    | intro _ _
  | 2 =>
   rw[P,P]
   cases opAt (tx l) with
   | none=>exact fun h=>h
   | some p =>
    obtain⟨o,k⟩:=p
    repeat' first
     | exact ih _ _ _ _ _
     | exact fun h=>h
     | refine b1t ?_ ?_
     | refine PR.on_mono (ih _ _ _ _) ?_
     | intro _ _ _
  | 3 =>
   cases l with
   | nil=>rw[P,P];exact fun h=>h
   | cons t q =>
    rw[P,P]
    repeat' first
     | exact ih _ _ _ _ _
     | exact fun h=>h
     | refine b1t ?_ ?_
     | refine PR.on_mono (ih _ _ _ _) ?_
     | refine need_mono ?_
     | refine needName_mono ?_
     | intro _ _ _
     | intro _ _
  | n+13 =>
   intro h
   rw[P]at h
   ·cases h
   all_goals (intro e;omega)
theorem c9p{f g tag:Nat}{x:Nd}{a:Nat}{l:List PT}{r:List PT⊕(Nd×List PT)}(h:f<=g)(e:P f tag x a l=some r):P g tag x a l=some r:=by
 induction h with
 | refl=>exact e
 | step _ ih=>exact d4e _ _ _ _ _ _ ih
theorem b5a(l:List UInt8):∀a:Nat,l.foldl (fun a c=>a*10+(c.toNat-48)) a=a*10 ^ l.length+numV l:=by
 induction l with
 | nil=>intro a;simp[numV]
 | cons c r ih =>
  intro a
  simp only[numV,List.foldl_cons,List.length_cons]
  rw[ih,ih (0*10+(c.toNat-48))]
  rw[Nat.pow_succ]
  have:(a*10+(c.toNat-48))*10 ^ r.length=a*(10 ^ r.length*10)+(c.toNat-48)*10 ^ r.length:=by
   rw[Nat.add_mul,Nat.mul_assoc,Nat.mul_comm 10]
  rw[this]
  simp
  omega
theorem a6a(c:UInt8)(r:List UInt8):numV (c::r)=(c.toNat-48)*10 ^ r.length+numV r:=by
 conv=>lhs;unfold numV
 rw[List.foldl_cons,b5a]
 simp
theorem a7n(h:digB c=true):48<=c.toNat/\c.toNat<=57:=by simpa[digB]using h
theorem b1u:∀l:List UInt8,l.all digB=true->numV l<10 ^ l.length
 | [],_=>by simp[numV]
 | c::r,h=>by
  simp only[List.all_cons,Bool.and_eq_true]at h
  have h1:=b1u r h.2
  have h2:=a7n h.1
  rw[a6a,List.length_cons,Nat.pow_succ]
  have:(c.toNat-48)*10 ^ r.length<=9*10 ^ r.length:=Nat.mul_le_mul_right _ (by omega)
  omega
theorem c0q(c:UInt8)(r:List UInt8)(h:49<=c.toNat):10 ^ r.length<=numV (c::r):=by
 rw[a6a]
 have:1*10 ^ r.length<=(c.toNat-48)*10 ^ r.length:=Nat.mul_le_mul_right _ (by omega)
 omega
theorem b2y:∀x y:List UInt8,x.length=y.length->x.all digB=true->y.all digB=true->(numV x<numV y↔Op.bytesLess x y=true)
 | [],[],_,_,_=>by simp[numV,Op.bytesLess]
 | [],_::_,h,_,_=>by simp at h
 | _::_,[],h,_,_=>by simp at h
 | a::x,b::y,h,hx,hy=>by
  simp only[List.length_cons,Nat.add_right_cancel_iff]at h
  simp only[List.all_cons,Bool.and_eq_true]at hx hy
  have w:=b2y x y h hx.2 hy.2
  have la:=a7n hx.1
  have lb:=a7n hy.1
  have z:=b1u x hx.2
  have u:=b1u y hy.2
  rw[a6a,a6a,Op.bytesLess,h]
  rw[h]at z
  generalize 10 ^ y.length=T at *
  by_cases e:a=b
  ·subst e
   simp[w]
  ·have t:a.toNat≠b.toNat:=fun k=>e (UInt8.toNat_inj.1 k)
   have v:(a == b)=false:=by simpa using e
   rw[v]
   simp only[Bool.false_and,Bool.or_false,decide_eq_true_eq,UInt8.lt_iff_toNat_lt]
   by_cases k:a.toNat<b.toNat
   ·have:(a.toNat-48+1)*T<=(b.toNat-48)*T:=Nat.mul_le_mul_right _ (by omega)
    rw[Nat.add_mul]at this
    simp only[k,iff_true]
    omega
   ·have:(b.toNat-48+1)*T<=(a.toNat-48)*T:=Nat.mul_le_mul_right _ (by omega)
    rw[Nat.add_mul]at this
    simp only[k,iff_false]
    omega
def c0r:List UInt8:=[57,50,50,51,51,55,50,48,51,54,56,53,52,55,55,53,56,48,55]
theorem c0s:numV c0r=9223372036854775807:=by decide
theorem c0t(l:List UInt8)(h:l.all digB=true)(h0:¬(1<l.length/\l.head?=some 48)) :
  9223372036854775807<numV l↔(19<l.length\/(l.length=19/\Op.bytesLess c0r l=true)):=by
 have y:=b1u l h
 by_cases e:l.length=19
 ·have:=b2y c0r l (by rw[e];rfl) (by decide) h
  rw[c0s]at this
  simp[e,this]
 ·by_cases k:l.length<19
  ·have:10 ^ l.length<=10 ^ 18:=Nat.pow_le_pow_right (by omega) (by omega)
   have:¬9223372036854775807<numV l:=by omega
   simp only[this,false_iff]
   omega
  ·cases l with
   | nil=>simp at k
   | cons c r =>
    simp only[List.all_cons,Bool.and_eq_true]at h
    have x:=a7n h.1
    have z:c≠48:=fun e=>h0 ⟨by simp at k⊢;omega,by simp[e]⟩
    have:c.toNat≠48:=fun k=>z (UInt8.toNat_inj.1 k)
    have g:=c0q c r (by omega)
    have:10 ^ 19<=10 ^ r.length:=Nat.pow_le_pow_right (by omega) (by simp at e k⊢;omega)
    have:9223372036854775807<numV (c::r):=by omega
    simp only[this,true_iff]
    left
    omega
theorem c9q:∀(l:List UInt8) (a:Nat),l.all digB=true->a<=18446744073709551615 ->
  Lib.parseUintM 18446744073709551615 a l=if 18446744073709551615<a*10 ^ l.length+numV l then .range else .ok (a*10 ^ l.length+numV l)
 | [],a,_,ha=>by
  simp only[Lib.parseUintM,numV,List.foldl_nil,List.length_nil,Nat.pow_zero,Nat.mul_one,Nat.add_zero]
  rw[if_neg (by omega)]
 | c::r,a,h,ha=>by
  simp only[List.all_cons,Bool.and_eq_true]at h
  have z:=a7n h.1
  have e:a*10 ^ (c::r).length+numV (c::r)=(a*10+(c.toNat-48))*10 ^ r.length+numV r:=by
   rw[a6a,List.length_cons,Nat.pow_succ,Nat.add_mul,Nat.mul_assoc,Nat.mul_comm 10]
   omega
  have p:0<10 ^ r.length:=Nat.pow_pos (by omega)
  have q:a*10+(c.toNat-48)<=(a*10+(c.toNat-48))*10 ^ r.length:=Nat.le_mul_of_pos_right _ p
  rw[Lib.parseUintM,if_pos z,e]
  by_cases h1:1844674407370955162<=a
  ·rw[if_pos h1,if_pos (by omega)]
  ·rw[if_neg h1]
   by_cases h2:18446744073709551615<a*10+(c.toNat-48)
   ·rw[if_pos h2,if_pos (by omega)]
   ·rw[if_neg h2]
    exact c9q r _ h.2 (by omega)
theorem a8t(l:List UInt8)(h0:l≠[])(h:l.all digB=true) :
  Lib.parseIntB 64 l=if 9223372036854775807<numV l then .range else .ok (numV l:Int):=by
 cases l with
 | nil=>exact absurd rfl h0
 | cons c r =>
  have w:=a7n (by simp only[List.all_cons,Bool.and_eq_true]at h;exact h.1)
  have x:¬(c.toNat=43\/c.toNat=45):=by omega
  have y:¬c.toNat=45:=by omega
  have z:=c9q (c::r) 0 h (by omega)
  rw[Nat.zero_mul,Nat.zero_add]at z
  simp only[Lib.parseIntB,Lib.parseUintB]
  rw[if_neg x,if_neg h0]
  simp only[show(2 ^ 64-1:Nat)=18446744073709551615 by decide,show(2 ^ (64-1):Nat)=9223372036854775808 by decide]
  rw[z]
  by_cases k:18446744073709551615<numV (c::r)
  ·rw[if_pos k,if_pos (by omega)]
  ·rw[if_neg k]
   simp only[y,not_false_eq_true,true_and,false_and,if_false]
   by_cases k2:9223372036854775807<numV (c::r)
   ·rw[if_pos k2,if_pos (by omega)]
   ·rw[if_neg k2,if_neg (by omega)]
theorem getElem?_take_app{n i:Nat}(h:i<n)(hn:n<=l.length):(l.take n++r)[i]?=l[i]?:=by
 rw[List.getElem?_append_left (by simp;omega),List.getElem?_take_of_lt h]
theorem getElem?_take_at{n:Nat}(hn:n<=l.length):(l.take n++c::r)[n]?=some c:=by
 rw[List.getElem?_append_right (by simp;omega)]
 simp[Nat.min_eq_left hn]
theorem a6m{p:UInt8->Bool}(hc:p c=false):runN p (l.take (runN p l)++c::r)=runN p l:=by
 have hn:=a3s p l
 refine a5l p _ _ (by simp;omega) (fun i d z hd=>?_) (fun d hd=>?_)
 ·rw[getElem?_take_app z hn]at hd
  exact a7m p l i z d hd
 ·rw[getElem?_take_at hn]at hd
  cases hd
  exact hc
theorem a5d{n:Nat}(hn:n<=l.length):(l.take n++r).take n=l.take n:=by
 rw[List.take_append_of_le_length (by simp;omega),List.take_take,Nat.min_self]
theorem c0u{n:Nat}(h:tokR l=.tok k t n)(r:List UInt8) :
  tokR (l.take n++32::r)=.tok k t n/\(if k=3 then 34::(t++[34]) else t)=l.take n:=by
 have u:=a3a h
 cases l with
 | nil=>simp[tokR]at h
 | cons c q =>
  obtain⟨m,rfl⟩:∃m,n=m+1:=⟨n-1,by omega⟩
  have e0:(c::q).take (m+1)++32::r=c::(q.take m++32::r):=by simp
  unfold tokR at h
  simp only at h
  split at h
  ·rename_i hc
   split at h
   ·cases h
   ·rename_i h16
    have z:=a6m (p:=rowB) (l:=c::q) (r:=r) (c:=32) (by decide)
    obtain⟨h1,h2,h3⟩:=TokR.inj h
    subst h1 h2
    rw[h3]at z h16
    rw[h3]
    refine⟨?_,by simp⟩
    have y:=a5d (l:=c::q) (r:=32::r) (n:=m+1) u.2
    rw[e0]at z y⊢
    unfold tokR
    simp only[hc,if_true]
    rw[z,if_neg h16,y]
  split at h
  ·rename_i hl hc
   split at h
   ·rename_i hz
    have z:=a6m (p:=rowB) (l:=c::q) (r:=r) (c:=32) (by decide)
    obtain⟨h1,h2,h3⟩:=TokR.inj h
    subst h1 h2
    rw[h3]at z hz
    rw[h3]
    refine⟨?_,by simp⟩
    have y:=a5d (l:=c::q) (r:=32::r) (n:=m+1) u.2
    rw[e0]at z y⊢
    unfold tokR
    simp only
    rw[if_neg hl,if_pos hc,z,y,if_pos hz]
   ·cases h
  split at h
  ·rename_i hl hd hc
   split at h
   ·rename_i hq
    split at h
    ·cases h
    ·rename_i h300
     obtain⟨h1,h2,h3⟩:=TokR.inj h
     obtain rfl:m=runN txtB q+1:=by omega
     subst h1 h2
     clear h3
     have s:runN txtB q<q.length:=by
      by_cases hh:runN txtB q<q.length
      ·exact hh
      ·rw[List.getElem?_eq_none (by omega)]at hq;cases hq
     have w:q.take (runN txtB q+1)=q.take (runN txtB q)++[34]:=by
      rw[List.take_add_one,hq];rfl
     have v:c=34:=UInt8.toNat_inj.1 hc
     have o:q.take (runN txtB q+1)++32::r=q.take (runN txtB q)++34::32::r:=by rw[w];simp
     have z:=a6m (p:=txtB) (l:=q) (r:=32::r) (c:=34) (by decide)
     refine⟨?_,?_⟩
     ·rw[e0,o]
      unfold tokR
      simp only
      rw[if_neg hl,if_neg hd,if_pos hc,z,getElem?_take_at (by omega),if_pos rfl,if_neg h300,a5d (by omega)]
     ·rw[if_pos rfl,List.take_succ_cons,w,v]
   ·cases h
  ·rename_i hl hd hc
   split at h
   ·cases h
   ·rename_i hz
    obtain⟨h1,h2,h3⟩:=TokR.inj h
    subst h1 h2
    rw[h3]
    refine⟨?_,by simp⟩
    have x:a3i ((c::q).take (m+1)++32::r)=m+1:=by
     rw[e0]
     unfold a3i at h3⊢
     simp only at h3⊢
     split at h3
     ·rename_i h2
      obtain rfl:m=1:=by omega
      cases q with
      | nil=>simp at u
      | cons d q =>
       have:a5x (c::((d::q).take 1++32::r))=a5x (c::d::q):=by simp[a5x]
       rw[this,if_pos h2]
     ·split at h3
      ·rename_i h2
       obtain rfl:m=0:=by omega
       have:a5x (c::((q.take 0)++32::r))=false:=by simp[a5x]
       rw[this,if_neg (by simp),if_pos h2]
      ·omega
    have y:=a5d (l:=c::q) (r:=32::r) (n:=m+1) u.2
    rw[e0]at x y⊢
    unfold tokR
    simp only
    rw[if_neg hl,if_neg hd,if_neg hc,x,y]
    rfl
end Go.Proofs.YtomniogfpfbolaaGreatDoor
