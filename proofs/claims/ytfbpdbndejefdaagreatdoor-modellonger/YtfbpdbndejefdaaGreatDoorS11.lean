/- Of numerals, and of tokens that are written down again: lists of bytes alone. -/
import Derived.Test.YtfbpdbndejefdaaGreatDoorS05
namespace Go.Proofs.YtfbpdbndejefdaaGreatDoor
open Go
set_option maxRecDepth 100000
set_option maxHeartbeats 8000000
set_option linter.all false
variable {c:UInt8} {l r:List UInt8} {n:Nat}
theorem b4v(l:List UInt8):∀a:Nat,l.foldl (fun a c=>a*10+(c.toNat-48)) a=a*10 ^ l.length+numV l:=by
 induction l with
 | nil=>intro a;simp[numV]
 | cons c r ih =>
  intro a
  simp only[numV,List.foldl_cons,List.length_cons]
  rw[ih,ih (0*10+(c.toNat-48))]
  rw[Nat.pow_succ]
  have:(a*10+(c.toNat-48))*10 ^ r.length=a*(10 ^ r.length*10)+(c.toNat-48)*10 ^ r.length:=by
   rw[Nat.add_mul,Nat.mul_assoc,Nat.mul_comm 10]
  rw[this]
  simp
  omega
theorem a5l(c:UInt8)(r:List UInt8):numV (c::r)=(c.toNat-48)*10 ^ r.length+numV r:=by
 conv=>lhs;unfold numV
 rw[List.foldl_cons,b4v]
 simp
theorem a8l(h:digB c=true):48<=c.toNat/\c.toNat<=57:=by simpa[digB]using h
theorem b1s:∀l:List UInt8,l.all digB=true->numV l<10 ^ l.length
 | [],_=>by simp[numV]
 | c::r,h=>by
  simp only[List.all_cons,Bool.and_eq_true]at h
  have h1:=b1s r h.2
  have h2:=a8l h.1
  rw[a5l,List.length_cons,Nat.pow_succ]
  have:(c.toNat-48)*10 ^ r.length<=9*10 ^ r.length:=Nat.mul_le_mul_right _ (by omega)
  omega
theorem c0s(c:UInt8)(r:List UInt8)(h:49<=c.toNat):10 ^ r.length<=numV (c::r):=by
 rw[a5l]
 have:1*10 ^ r.length<=(c.toNat-48)*10 ^ r.length:=Nat.mul_le_mul_right _ (by omega)
 omega
theorem b3i:∀x y:List UInt8,x.length=y.length->x.all digB=true->y.all digB=true->(numV x<numV y↔Op.bytesLess x y=true)
 | [],[],_,_,_=>by simp[numV,Op.bytesLess]
 | [],_::_,h,_,_=>by simp at h
 | _::_,[],h,_,_=>by simp at h
 | a::x,b::y,h,hx,hy=>by
  simp only[List.length_cons,Nat.add_right_cancel_iff]at h
  simp only[List.all_cons,Bool.and_eq_true]at hx hy
  have v:=b3i x y h hx.2 hy.2
  have la:=a8l hx.1
  have lb:=a8l hy.1
  have z:=b1s x hx.2
  have s:=b1s y hy.2
  rw[a5l,a5l,Op.bytesLess,h]
  rw[h]at z
  generalize 10 ^ y.length=T at *
  by_cases e:a=b
  ·subst e
   simp[v]
  ·have q:a.toNat≠b.toNat:=fun k=>e (UInt8.toNat_inj.1 k)
   have u:(a == b)=false:=by simpa using e
   rw[u]
   simp only[Bool.false_and,Bool.or_false,decide_eq_true_eq,UInt8.lt_iff_toNat_lt]
   by_cases k:a.toNat<b.toNat
   ·have:(a.toNat-48+1)*T<=(b.toNat-48)*T:=Nat.mul_le_mul_right _ (by omega)
    rw[Nat.add_mul]at this
    simp only[k,iff_true]
    omega
   ·have:(b.toNat-48+1)*T<=(a.toNat-48)*T:=Nat.mul_le_mul_right _ (by omega)
    rw[Nat.add_mul]at this
    simp only[k,iff_false]
    omega
def d0p:List UInt8:=[57,50,50,51,51,55,50,48,51,54,56,53,52,55,55,53,56,48,55]
theorem c0t:numV d0p=9223372036854775807:=by decide
theorem d0q(l:List UInt8)(h:l.all digB=true)(h0:¬(1<l.length/\l.head?=some 48)) :
  9223372036854775807<numV l↔(19<l.length\/(l.length=19/\Op.bytesLess d0p l=true)):=by
 have y:=b1s l h
 by_cases e:l.length=19
 ·have:=b3i d0p l (by rw[e];rfl) (by decide) h
  rw[c0t]at this
  simp[e,this]
 ·by_cases k:l.length<19
  ·have:10 ^ l.length<=10 ^ 18:=Nat.pow_le_pow_right (by omega) (by omega)
   have:¬9223372036854775807<numV l:=by omega
   simp only[this,false_iff]
   omega
  ·cases l with
   | nil=>simp at k
   | cons c r =>
    simp only[List.all_cons,Bool.and_eq_true]at h
    have v:=a8l h.1
    have z:c≠48:=fun e=>h0 ⟨by simp at k⊢;omega,by simp[e]⟩
    have:c.toNat≠48:=fun k=>z (UInt8.toNat_inj.1 k)
    have g:=c0s c r (by omega)
    have:10 ^ 19<=10 ^ r.length:=Nat.pow_le_pow_right (by omega) (by simp at e k⊢;omega)
    have:9223372036854775807<numV (c::r):=by omega
    simp only[this,true_iff]
    left
    omega
theorem c9e:∀(l:List UInt8) (a:Nat),l.all digB=true->a<=18446744073709551615 ->
  Lib.parseUintM 18446744073709551615 a l=if 18446744073709551615<a*10 ^ l.length+numV l then .range else .ok (a*10 ^ l.length+numV l)
 | [],a,_,ha=>by
  simp only[Lib.parseUintM,numV,List.foldl_nil,List.length_nil,Nat.pow_zero,Nat.mul_one,Nat.add_zero]
  rw[if_neg (by omega)]
 | c::r,a,h,ha=>by
  simp only[List.all_cons,Bool.and_eq_true]at h
  have z:=a8l h.1
  have e:a*10 ^ (c::r).length+numV (c::r)=(a*10+(c.toNat-48))*10 ^ r.length+numV r:=by
   rw[a5l,List.length_cons,Nat.pow_succ,Nat.add_mul,Nat.mul_assoc,Nat.mul_comm 10]
   omega
  have p:0<10 ^ r.length:=Nat.pow_pos (by omega)
  have q:a*10+(c.toNat-48)<=(a*10+(c.toNat-48))*10 ^ r.length:=Nat.le_mul_of_pos_right _ p
  rw[Lib.parseUintM,if_pos z,e]
  by_cases h1:1844674407370955162<=a
  ·rw[if_pos h1,if_pos (by omega)]
  ·rw[if_neg h1]
   by_cases h2:18446744073709551615<a*10+(c.toNat-48)
   ·rw[if_pos h2,if_pos (by omega)]
   ·rw[if_neg h2]
    exact c9e r _ h.2 (by omega)
theorem a8m(l:List UInt8)(h0:l≠[])(h:l.all digB=true) :
  Lib.parseIntB 64 l=if 9223372036854775807<numV l then .range else .ok (numV l:Int):=by
 cases l with
 | nil=>exact absurd rfl h0
 | cons c r =>
  have z:=a8l (by simp only[List.all_cons,Bool.and_eq_true]at h;exact h.1)
  have n1:¬(c.toNat=43\/c.toNat=45):=by omega
  have n2:¬c.toNat=45:=by omega
  have hp:=c9e (c::r) 0 h (by omega)
  rw[Nat.zero_mul,Nat.zero_add]at hp
  simp only[Lib.parseIntB,Lib.parseUintB]
  rw[if_neg n1,if_neg h0]
  simp only[show(2 ^ 64-1:Nat)=18446744073709551615 by decide,show(2 ^ (64-1):Nat)=9223372036854775808 by decide]
  rw[hp]
  by_cases k:18446744073709551615<numV (c::r)
  ·rw[if_pos k,if_pos (by omega)]
  ·rw[if_neg k]
   simp only[n2,not_false_eq_true,true_and,false_and,if_false]
   by_cases k2:9223372036854775807<numV (c::r)
   ·rw[if_pos k2,if_pos (by omega)]
   ·rw[if_neg k2,if_neg (by omega)]
theorem getElem?_take_app{i:Nat}(h:i<n)(hn:n<=l.length):(l.take n++r)[i]?=l[i]?:=by
 rw[List.getElem?_append_left (by simp;omega),List.getElem?_take_of_lt h]
theorem getElem?_take_at(hn:n<=l.length):(l.take n++c::r)[n]?=some c:=by
 rw[List.getElem?_append_right (by simp;omega)]
 simp[Nat.min_eq_left hn]
theorem a5s{p:UInt8->Bool}(hc:p c=false):runN p (l.take (runN p l)++c::r)=runN p l:=by
 have hn:=a3w p l
 refine a7x p _ _ (by simp;omega) (fun i d z hd=>?_) (fun d hd=>?_)
 ·rw[getElem?_take_app z hn]at hd
  exact a6y p l i z d hd
 ·rw[getElem?_take_at hn]at hd
  cases hd
  exact hc
theorem a4l(hn:n<=l.length):(l.take n++r).take n=l.take n:=by
 rw[List.take_append_of_le_length (by simp;omega),List.take_take,Nat.min_self]
theorem c0u{k:Int}{t:List UInt8}(h:tokR l=.tok k t n)(r:List UInt8) :
  tokR (l.take n++32::r)=.tok k t n/\(if k=3 then 34::(t++[34]) else t)=l.take n:=by
 have u:=a3p h
 cases l with
 | nil=>simp[tokR]at h
 | cons c q =>
  obtain⟨m,rfl⟩:∃m,n=m+1:=⟨n-1,by omega⟩
  have e0:(c::q).take (m+1)++32::r=c::(q.take m++32::r):=by simp
  unfold tokR at h
  simp only at h
  split at h
  ·rename_i hc
   split at h
   ·cases h
   ·rename_i h16
    have hr:=a5s (p:=rowB) (l:=c::q) (r:=r) (c:=32) (by decide)
    obtain⟨h1,h2,h3⟩:=TokR.inj h
    subst h1 h2
    rw[h3]at hr h16
    rw[h3]
    refine⟨?_,by simp⟩
    have ht:=a4l (l:=c::q) (r:=32::r) (n:=m+1) u.2
    rw[e0]at hr ht⊢
    unfold tokR
    simp only[hc,if_true]
    rw[hr,if_neg h16,ht]
  split at h
  ·rename_i hl hc
   split at h
   ·rename_i hz
    have hr:=a5s (p:=rowB) (l:=c::q) (r:=r) (c:=32) (by decide)
    obtain⟨h1,h2,h3⟩:=TokR.inj h
    subst h1 h2
    rw[h3]at hr hz
    rw[h3]
    refine⟨?_,by simp⟩
    have ht:=a4l (l:=c::q) (r:=32::r) (n:=m+1) u.2
    rw[e0]at hr ht⊢
    unfold tokR
    simp only
    rw[if_neg hl,if_pos hc,hr,ht,if_pos hz]
   ·cases h
  split at h
  ·rename_i hl hd hc
   split at h
   ·rename_i hq
    split at h
    ·cases h
    ·rename_i h300
     obtain⟨h1,h2,h3⟩:=TokR.inj h
     obtain rfl:m=runN txtB q+1:=by omega
     subst h1 h2
     clear h3
     have s:runN txtB q<q.length:=by
      by_cases hh:runN txtB q<q.length
      ·exact hh
      ·rw[List.getElem?_eq_none (by omega)]at hq;cases hq
     have y:q.take (runN txtB q+1)=q.take (runN txtB q)++[34]:=by
      rw[List.take_add_one,hq];rfl
     have v:c=34:=UInt8.toNat_inj.1 hc
     have o:q.take (runN txtB q+1)++32::r=q.take (runN txtB q)++34::32::r:=by rw[y];simp
     have hr:=a5s (p:=txtB) (l:=q) (r:=32::r) (c:=34) (by decide)
     refine⟨?_,?_⟩
     ·rw[e0,o]
      unfold tokR
      simp only
      rw[if_neg hl,if_neg hd,if_pos hc,hr,getElem?_take_at (by omega),if_pos rfl,if_neg h300,a4l (by omega)]
     ·rw[if_pos rfl,List.take_succ_cons,y,v]
   ·cases h
  ·rename_i hl hd hc
   split at h
   ·cases h
   ·rename_i hz
    obtain⟨h1,h2,h3⟩:=TokR.inj h
    subst h1 h2
    rw[h3]
    refine⟨?_,by simp⟩
    have z:a3l ((c::q).take (m+1)++32::r)=m+1:=by
     rw[e0]
     unfold a3l at h3⊢
     simp only at h3⊢
     split at h3
     ·rename_i h2
      obtain rfl:m=1:=by omega
      cases q with
      | nil=>simp at u
      | cons d q =>
       have:a5j (c::((d::q).take 1++32::r))=a5j (c::d::q):=by simp[a5j]
       rw[this,if_pos h2]
     ·split at h3
      ·rename_i h2
       obtain rfl:m=0:=by omega
       have:a5j (c::((q.take 0)++32::r))=false:=by simp[a5j]
       rw[this,if_neg (by simp),if_pos h2]
      ·omega
    have ht:=a4l (l:=c::q) (r:=32::r) (n:=m+1) u.2
    rw[e0]at z ht⊢
    unfold tokR
    simp only
    rw[if_neg hl,if_neg hd,if_neg hc,z,ht]
    rfl
end Go.Proofs.YtfbpdbndejefdaaGreatDoor
