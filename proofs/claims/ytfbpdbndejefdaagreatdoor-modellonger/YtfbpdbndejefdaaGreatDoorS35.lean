/- What an operation makes of two values: one answer, whatever the world. -/
import Derived.Test.YtfbpdbndejefdaaGreatDoorS30
import Derived.Test.YtfbpdbndejefdaaGreatDoorS27
import Derived.Test.YtfbpdbndejefdaaGreatDoorS07
import Derived.Lib.ItoaLen
namespace Go.Proofs.YtfbpdbndejefdaaGreatDoor.V
open Go.RowKit Go
set_option maxRecDepth 100000
set_option maxHeartbeats 8000000
set_option linter.all false
variable {n op:Int} {s:ByteArray} {x y:Vl}
theorem wf64(h:(Lit.int .i64 n).wf=true):-9223372036854775808<=n/\n<=9223372036854775807:=by
 have z:(decide ((-9223372036854775808:Int)<=n)&&decide (n<=9223372036854775807))=true:=h
 simpa using z
theorem c3w{a b:ByteArray}(h:a.toList=b.toList):a=b:=WideShapes.bytes_inj (by rwa [ByteArray.toList_eq,ByteArray.toList_eq]at h)
theorem b7v(h:mayB 3 n s=true):s.size<=300:=by
 unfold mayB at h
 rw[if_pos rfl]at h
 simp at h
 omega
theorem b0h{k:Int}(h:mayB k n s=true)(hn:-9223372036854775808<=n/\n<=9223372036854775807):(b4h k n s).size<=300:=by
 unfold b4h
 rw[if_neg (by rw[h];decide)]
 split
 ·decide
 ·split
  ·split <;> decide
  ·split
   ·have e:(ByteArray.mk (Lib.itoa n).toArray).size=(Lib.itoa n).length:=rfl
    have:=Lib.itoa_length_le n hn.1 hn.2
    omega
   ·split
    ·rename_i h3
     subst h3
     exact b7v h
    ·split <;> decide
def OC (op:Int) (x y:Vl) (k n er:Int) (s:ByteArray):Prop :=
 ∀w,PTab w->Cl 137 #[vi op,x.v,y.v] w fun e w'=>e=.returned (.tuple #[val k n s,vi er])/\Bw w w'
def OX (op:Int) (x y:Vl):Prop:=∃(r:Vl) (er:Int),OC op x y r.k r.n er r.s/\(er=0->mayB r.k r.n r.s=true/\¬r.k=4/\¬r.k=5) /\
 ((1<=op/\op<=11/\mayB x.k x.n x.s=true/\mayB y.k y.n y.s=true)->er=0\/er=1\/er=3\/er=7)
theorem a2n{er:Int}(h:OC op x y 0 0 er ⟨#[]⟩)(he:er=1\/er=3\/er=7):OX op x y :=
 ⟨⟨0,0,⟨#[]⟩,by decide,by decide,by decide⟩,er,h,fun e=>by omega,fun _=>.inr he⟩
theorem c7w(h:OC op x y 0 0 2 ⟨#[]⟩)(hn:¬(1<=op/\op<=11/\mayB x.k x.n x.s=true/\mayB y.k y.n y.s=true)):OX op x y :=
 ⟨⟨0,0,⟨#[]⟩,by decide,by decide,by decide⟩,2,h,fun e=>by omega,fun e=>absurd e hn⟩
theorem b1l(h:OC op x y 2 (wrap64 n) 0 ⟨#[]⟩):OX op x y :=
 ⟨⟨2,wrap64 n,⟨#[]⟩,by decide,RowKit.wrap64_wf _,by decide⟩,0,h,fun _=>⟨by simp[mayB],by simp,by simp⟩,fun _=>.inl rfl⟩
theorem a2b(h:OC op x y 1 n 0 ⟨#[]⟩)(hn:n=0\/n=1):OX op x y:=by
 rcases hn with rfl|rfl
 ·exact⟨⟨1,0,⟨#[]⟩,by decide,by decide,by decide⟩,0,h,fun _=>⟨by simp[mayB],by simp,by simp⟩,fun _=>.inl rfl⟩
 ·exact⟨⟨1,1,⟨#[]⟩,by decide,by decide,by decide⟩,0,h,fun _=>⟨by simp[mayB],by simp,by simp⟩,fun _=>.inl rfl⟩
theorem d7g(h:OC op x y 3 0 0 s)(hs:s.size<=300):OX op x y :=
 ⟨⟨3,0,s,by decide,by decide,by unfold maxLen;omega⟩,0,h,fun _=>⟨by simp[mayB];omega,by simp,by simp⟩,fun _=>.inl rfl⟩
theorem ox1(x y:Vl)(ha:mayB x.k x.n x.s=true)(hb:mayB y.k y.n y.s=true):OX 1 x y:=by
 by_cases h:x.k=2
 ·by_cases h':y.k=2
  ·exact b1l (fun w1 _=>a8e x.k x.n y.k y.n x.s y.s _ _ _ _ w1 ha hb (fun w=>b9i x.k x.n y.k y.n x.s y.s w (by simpa using h) (by simpa using h')))
  ·exact a2n (fun w1 _=>a8e x.k x.n y.k y.n x.s y.s _ _ _ _ w1 ha hb (fun w=>a6c 1 x.k x.n y.k y.n x.s y.s w (by simpa using h) (by simpa using h'))) (by omega)
 ·exact a2n (fun w1 _=>a8e x.k x.n y.k y.n x.s y.s _ _ _ _ w1 ha hb (fun w=>a7m 1 x.k x.n y.k y.n x.s y.s w (by simpa using h))) (by omega)
theorem ox2(x y:Vl)(ha:mayB x.k x.n x.s=true)(hb:mayB y.k y.n y.s=true):OX 2 x y:=by
 by_cases h:x.k=2
 ·by_cases h':y.k=2
  ·exact b1l (fun w1 _=>a8f x.k x.n y.k y.n x.s y.s _ _ _ _ w1 ha hb (fun w=>b1i x.k x.n y.k y.n x.s y.s w (by simpa using h) (by simpa using h')))
  ·exact a2n (fun w1 _=>a8f x.k x.n y.k y.n x.s y.s _ _ _ _ w1 ha hb (fun w=>a6c 2 x.k x.n y.k y.n x.s y.s w (by simpa using h) (by simpa using h'))) (by omega)
 ·exact a2n (fun w1 _=>a8f x.k x.n y.k y.n x.s y.s _ _ _ _ w1 ha hb (fun w=>a7m 2 x.k x.n y.k y.n x.s y.s w (by simpa using h))) (by omega)
theorem ox3(x y:Vl)(ha:mayB x.k x.n x.s=true)(hb:mayB y.k y.n y.s=true):OX 3 x y:=by
 by_cases h:x.k=2
 ·by_cases h':y.k=2
  ·exact b1l (fun w1 _=>a8g x.k x.n y.k y.n x.s y.s _ _ _ _ w1 ha hb (fun w=>b9j x.k x.n y.k y.n x.s y.s w (by simpa using h) (by simpa using h')))
  ·exact a2n (fun w1 _=>a8g x.k x.n y.k y.n x.s y.s _ _ _ _ w1 ha hb (fun w=>a6c 3 x.k x.n y.k y.n x.s y.s w (by simpa using h) (by simpa using h'))) (by omega)
 ·exact a2n (fun w1 _=>a8g x.k x.n y.k y.n x.s y.s _ _ _ _ w1 ha hb (fun w=>a7m 3 x.k x.n y.k y.n x.s y.s w (by simpa using h))) (by omega)
theorem ox4(x y:Vl)(ha:mayB x.k x.n x.s=true)(hb:mayB y.k y.n y.s=true):OX 4 x y:=by
 by_cases h:x.k=2
 ·by_cases h':y.k=2
  ·rcases Bool.eq_false_or_eq_true (y.n == 0)with z|z
   ·exact a2n (fun w1 _=>a6a x.k x.n y.k y.n x.s y.s _ _ _ _ w1 ha hb (fun w=>b5n x.k x.n y.k y.n x.s y.s w (by simpa using h) (by simpa using h') z)) (by omega)
   ·exact b1l (fun w1 _=>a6a x.k x.n y.k y.n x.s y.s _ _ _ _ w1 ha hb (fun w=>b9k x.k x.n y.k y.n x.s y.s w (by simpa using h) (by simpa using h') z))
  ·exact a2n (fun w1 _=>a6a x.k x.n y.k y.n x.s y.s _ _ _ _ w1 ha hb (fun w=>a6c 4 x.k x.n y.k y.n x.s y.s w (by simpa using h) (by simpa using h'))) (by omega)
 ·exact a2n (fun w1 _=>a6a x.k x.n y.k y.n x.s y.s _ _ _ _ w1 ha hb (fun w=>a7m 4 x.k x.n y.k y.n x.s y.s w (by simpa using h))) (by omega)
theorem ox5(x y:Vl)(ha:mayB x.k x.n x.s=true)(hb:mayB y.k y.n y.s=true):OX 5 x y:=by
 by_cases h:x.k=2
 ·by_cases h':y.k=2
  ·rcases Bool.eq_false_or_eq_true (y.n == 0)with z|z
   ·exact a2n (fun w1 _=>a6b x.k x.n y.k y.n x.s y.s _ _ _ _ w1 ha hb (fun w=>b5o x.k x.n y.k y.n x.s y.s w (by simpa using h) (by simpa using h') z)) (by omega)
   ·exact b1l (fun w1 _=>a6b x.k x.n y.k y.n x.s y.s _ _ _ _ w1 ha hb (fun w=>b9l x.k x.n y.k y.n x.s y.s w (by simpa using h) (by simpa using h') z))
  ·exact a2n (fun w1 _=>a6b x.k x.n y.k y.n x.s y.s _ _ _ _ w1 ha hb (fun w=>a6c 5 x.k x.n y.k y.n x.s y.s w (by simpa using h) (by simpa using h'))) (by omega)
 ·exact a2n (fun w1 _=>a6b x.k x.n y.k y.n x.s y.s _ _ _ _ w1 ha hb (fun w=>a7m 5 x.k x.n y.k y.n x.s y.s w (by simpa using h))) (by omega)
theorem ox11(x y:Vl)(ha:mayB x.k x.n x.s=true)(hb:mayB y.k y.n y.s=true):OX 11 x y:=by
 by_cases h:x.k=2
 ·exact b1l (fun w1 _=>c9x x.k x.n y.k y.n x.s y.s _ _ _ _ w1 ha hb (fun w=>b1i 2 0 x.k x.n _ x.s w rfl (by simpa using h)))
 ·exact a2n (fun w1 _=>c9x x.k x.n y.k y.n x.s y.s _ _ _ _ w1 ha hb (fun w=>a6c 2 2 0 x.k x.n _ x.s w rfl (by simpa using h))) (by omega)
theorem ox10(x y:Vl)(ha:mayB x.k x.n x.s=true)(hb:mayB y.k y.n y.s=true):OX 10 x y:=by
 rcases Bool.eq_false_or_eq_true (truthB x.k x.n x.s)with t|t
 ·exact a2b (fun w1 _=>c7p x.k x.n y.k y.n x.s y.s w1 ha hb t) (by omega)
 ·exact a2b (fun w1 _=>c7q x.k x.n y.k y.n x.s y.s w1 ha hb t) (by omega)
theorem ox7(x y:Vl)(ha:mayB x.k x.n x.s=true)(hb:mayB y.k y.n y.s=true):OX 7 x y:=by
 obtain⟨k,n,s,wk,wn,ws⟩:=x
 obtain⟨u,v,z,o,p,q⟩:=y
 simp only at ha hb
 by_cases h:k=u
 ·subst h
  by_cases h2:n=v
  ·subst h2
   by_cases h3:s.toList=z.toList
   ·obtain rfl:=c3w h3
    exact a2b (fun w1 _=>c2o k n s w1 ha hb) (by omega)
   ·exact a2b (fun w1 _=>c2r k n s z w1 ha hb h3) (by omega)
  ·exact a2b (fun w1 _=>c2q k n v s z w1 ha hb h2) (by omega)
 ·exact a2b (fun w1 _=>c2p k n u v s z w1 ha hb h) (by omega)
theorem ox8(x y:Vl)(ha:mayB x.k x.n x.s=true)(hb:mayB y.k y.n y.s=true):OX 8 x y:=by
 obtain⟨k,n,s,wk,wn,ws⟩:=x
 obtain⟨v,u,z,o,p,q⟩:=y
 simp only at ha hb
 by_cases h2:k=2
 ·by_cases h2':v=2
  ·by_cases l:n<u
   ·exact a2b (fun w1 _=>a2z k n v u s z _ _ _ _ w1 ha hb (fun w=>b2l k n v u s z w (by simpa using h2) (by simpa using h2') l)) (by omega)
   ·by_cases g:u<n
    ·exact a2b (fun w1 _=>a2z k n v u s z _ _ _ _ w1 ha hb (fun w=>b2m k n v u s z w (by simpa using h2) (by simpa using h2') g)) (by omega)
    ·obtain rfl:n=u:=by omega
     exact a2b (fun w1 _=>a2z k n v n s z _ _ _ _ w1 ha hb (fun w=>b2n k n v s z w (by simpa using h2) (by simpa using h2'))) (by omega)
  ·exact a2n (fun w1 _=>a2z k n v u s z _ _ _ _ w1 ha hb (fun w=>b7n 8 k n v u s z w (by simpa using h2) (by simpa using h2') (by simp[h2]))) (by omega)
 ·by_cases h3:k=3
  ·by_cases h3':v=3
   ·rcases Bool.eq_false_or_eq_true (Op.bytesLess s.toList z.toList)with l|l
    ·exact a2b (fun w1 _=>a2z k n v u s z _ _ _ _ w1 ha hb (fun w=>b2o k n v u s z w (by simpa using h3) (by simpa using h3') (by simpa using h2) l)) (by omega)
    ·rcases Bool.eq_false_or_eq_true (s.toList == z.toList)with e|e
     ·exact a2b (fun w1 _=>a2z k n v u s z _ _ _ _ w1 ha hb (fun w=>b2q k n v u s z w (by simpa using h3) (by simpa using h3') (by simpa using h2) l e)) (by omega)
     ·exact a2b (fun w1 _=>a2z k n v u s z _ _ _ _ w1 ha hb (fun w=>b2p k n v u s z w (by simpa using h3) (by simpa using h3') (by simpa using h2) l e)) (by omega)
   ·exact a2n (fun w1 _=>a2z k n v u s z _ _ _ _ w1 ha hb (fun w=>b7m 8 k n v u s z w (by simpa using h2) (by simpa using h3) (by simpa using h3'))) (by omega)
  ·exact a2n (fun w1 _=>a2z k n v u s z _ _ _ _ w1 ha hb (fun w=>b7l 8 k n v u s z w (by simpa using h2) (by simpa using h3))) (by omega)
theorem ox9(x y:Vl)(ha:mayB x.k x.n x.s=true)(hb:mayB y.k y.n y.s=true):OX 9 x y:=by
 obtain⟨k,n,s,wk,wn,ws⟩:=x
 obtain⟨v,u,z,o,p,q⟩:=y
 simp only at ha hb
 by_cases h2:k=2
 ·by_cases h2':v=2
  ·by_cases l:n<u
   ·exact a2b (fun w1 _=>a3a k n v u s z _ _ _ _ w1 ha hb (fun w=>b2r k n v u s z w (by simpa using h2) (by simpa using h2') l)) (by omega)
   ·by_cases g:u<n
    ·exact a2b (fun w1 _=>a3a k n v u s z _ _ _ _ w1 ha hb (fun w=>b2s k n v u s z w (by simpa using h2) (by simpa using h2') g)) (by omega)
    ·obtain rfl:n=u:=by omega
     exact a2b (fun w1 _=>a3a k n v n s z _ _ _ _ w1 ha hb (fun w=>b2t k n v s z w (by simpa using h2) (by simpa using h2'))) (by omega)
  ·exact a2n (fun w1 _=>a3a k n v u s z _ _ _ _ w1 ha hb (fun w=>b7n 9 k n v u s z w (by simpa using h2) (by simpa using h2') (by simp[h2]))) (by omega)
 ·by_cases h3:k=3
  ·by_cases h3':v=3
   ·rcases Bool.eq_false_or_eq_true (Op.bytesLess s.toList z.toList)with l|l
    ·exact a2b (fun w1 _=>a3a k n v u s z _ _ _ _ w1 ha hb (fun w=>b2u k n v u s z w (by simpa using h3) (by simpa using h3') (by simpa using h2) l)) (by omega)
    ·rcases Bool.eq_false_or_eq_true (s.toList == z.toList)with e|e
     ·exact a2b (fun w1 _=>a3a k n v u s z _ _ _ _ w1 ha hb (fun w=>b2w k n v u s z w (by simpa using h3) (by simpa using h3') (by simpa using h2) l e)) (by omega)
     ·exact a2b (fun w1 _=>a3a k n v u s z _ _ _ _ w1 ha hb (fun w=>b2v k n v u s z w (by simpa using h3) (by simpa using h3') (by simpa using h2) l e)) (by omega)
   ·exact a2n (fun w1 _=>a3a k n v u s z _ _ _ _ w1 ha hb (fun w=>b7m 9 k n v u s z w (by simpa using h2) (by simpa using h3) (by simpa using h3'))) (by omega)
  ·exact a2n (fun w1 _=>a3a k n v u s z _ _ _ _ w1 ha hb (fun w=>b7l 9 k n v u s z w (by simpa using h2) (by simpa using h3))) (by omega)
theorem ox6(x y:Vl)(ha:mayB x.k x.n x.s=true)(hb:mayB y.k y.n y.s=true):OX 6 x y:=by
 have q:=wf64 x.wn
 have nb:=wf64 y.wn
 by_cases h:x.k=2\/x.k=3
 ·by_cases h':y.k=2\/y.k=3
  ·have la:=b0h ha q
   have lb:=b0h hb nb
   by_cases z:(b4h x.k x.n x.s).size+(b4h y.k y.n y.s).size<=300
   ·exact d7g (fun w1 ht=>a9d x.k x.n y.k y.n x.s y.s _ _ _ _ w1 ha hb (fun w2 p=>d3g x.k x.n y.k y.n x.s y.s _ _ w2 (by simpa using h) (by simpa using h') (fun v u=>a7q _ _ _ v q.1 q.2 (ht.on (ext_trans p u))) (fun v u=>a7q _ _ _ v nb.1 nb.2 (ht.on (ext_trans p u))) z)) (by rw[ByteArray.size_append];exact z)
   ·exact a2n (fun w1 ht=>a9d x.k x.n y.k y.n x.s y.s _ _ _ _ w1 ha hb (fun w2 p=>c7r x.k x.n y.k y.n x.s y.s _ _ w2 (by simpa using h) (by simpa using h') (fun v u=>a7q _ _ _ v q.1 q.2 (ht.on (ext_trans p u))) (fun v u=>a7q _ _ _ v nb.1 nb.2 (ht.on (ext_trans p u))) la lb (by omega))) (by omega)
  ·exact a2n (fun w1 _=>a9d x.k x.n y.k y.n x.s y.s _ _ _ _ w1 ha hb (fun w2 _=>d7a x.k x.n y.k y.n x.s y.s w2 (by simpa using h) (by simpa using h'))) (by omega)
 ·exact a2n (fun w1 _=>a9d x.k x.n y.k y.n x.s y.s _ _ _ _ w1 ha hb (fun w2 _=>d6z x.k x.n y.k y.n x.s y.s w2 (by simpa using h))) (by omega)
theorem d9j(op:Int)(x y:Vl):OX op x y:=by
 by_cases h1:op<1
 ·exact c7w (fun w _=>d6h op x.k x.n y.k y.n x.s y.s w h1) (by omega)
 by_cases h2:11<op
 ·exact c7w (fun w _=>d2c op x.k x.n y.k y.n x.s y.s w h2) (by omega)
 cases ha:mayB x.k x.n x.s
 ·exact c7w (fun w _=>op_a op x.k x.n y.k y.n x.s y.s w (by omega) (by omega) ha) (fun h=>by rw[ha]at h;cases h.2.2.1)
 cases hb:mayB y.k y.n y.s
 ·exact c7w (fun w _=>op_b op x.k x.n y.k y.n x.s y.s w (by omega) (by omega) ha hb) (fun h=>by rw[hb]at h;cases h.2.2.2)
 have:op=1\/op=2\/op=3\/op=4\/op=5\/op=6\/op=7\/op=8\/op=9\/op=10\/op=11:=by omega
 rcases this with rfl|rfl|rfl|rfl|rfl|rfl|rfl|rfl|rfl|rfl|rfl
 ·exact ox1 x y ha hb
 ·exact ox2 x y ha hb
 ·exact ox3 x y ha hb
 ·exact ox4 x y ha hb
 ·exact ox5 x y ha hb
 ·exact ox6 x y ha hb
 ·exact ox7 x y ha hb
 ·exact ox8 x y ha hb
 ·exact ox9 x y ha hb
 ·exact ox10 x y ha hb
 ·exact ox11 x y ha hb
structure OpF (F:Int->Vl->Vl->Vl×Int):Prop where
 c:∀(op:Int) (x y:Vl) (w:World),PTab w->Cl 137 #[vi op,x.v,y.v] w fun e w'=>e=.returned (.tuple #[(F op x y).1.v,vi (F op x y).2])/\Bw w w'
 m:∀(op:Int) (x y:Vl),(F op x y).2=0->mayB (F op x y).1.k (F op x y).1.n (F op x y).1.s=true/\¬(F op x y).1.k=4/\¬(F op x y).1.k=5
 e:∀(op:Int) (x y:Vl),(1<=op/\op<=11/\mayB x.k x.n x.s=true/\mayB y.k y.n y.s=true)->(F op x y).2=0\/(F op x y).2=1\/(F op x y).2=3\/(F op x y).2=7
theorem d7h:∃F,OpF F:=by
 have h:∀(op:Int) (x y:Vl),∃r:Vl×Int,(∀w,PTab w->Cl 137 #[vi op,x.v,y.v] w fun e z=>e=.returned (.tuple #[r.1.v,vi r.2])/\Bw w z)/\(r.2=0->mayB r.1.k r.1.n r.1.s=true/\¬r.1.k=4/\¬r.1.k=5) /\
   ((1<=op/\op<=11/\mayB x.k x.n x.s=true/\mayB y.k y.n y.s=true)->r.2=0\/r.2=1\/r.2=3\/r.2=7):=fun op x y=>by
  obtain⟨r,er,h1,h2,h3⟩:=d9j op x y
  exact⟨(r,er),h1,h2,h3⟩
 exact⟨fun op x y=>Classical.choose (h op x y),fun op x y w u=>(Classical.choose_spec (h op x y)).1 w u,fun op x y=>(Classical.choose_spec (h op x y)).2.1,fun op x y=>(Classical.choose_spec (h op x y)).2.2⟩
end Go.Proofs.YtfbpdbndejefdaaGreatDoor.V
