/- What is known of a text that was read. -/
import Derived.Test.YtfbpdbndejefdaaGreatDoorS39
namespace Go.Proofs.YtfbpdbndejefdaaGreatDoor
open Go
set_option maxRecDepth 100000
set_option maxHeartbeats 8000000
set_option linter.all false
variable {l:List UInt8}
theorem a6s{n:Nd}(h:a2x l=.inr n):isN n/\n.k=1/\manyN n<=600:=by
 unfold a2x at h
 split at h
 ·cases h
 ·rename_i ts hts
  obtain⟨_,hv,_⟩:=a6r hts
  split at h
  ·cases h
  ·cases h
  ·rename_i m l1 hP
   cases hf:fitB m with
   | false=>rw[hf,if_neg (by decide)]at h;cases h
   | true =>
    rw[hf,if_pos rfl]at h
    cases h
    obtain⟨h1,h2,_⟩:=b8q ⟨64012,hP⟩ hv
    unfold fitB at hf
    simp at hf
    exact⟨h1,h2,hf.2⟩
theorem parse_code{c:Int}{a:Nat}(h:a2x l=.inl (c,a)):c≠0:=by
 unfold a2x at h
 split at h
 ·rename_i x hx
  cases h
  exact b6d hx
 ·rename_i ts hts
  obtain⟨_,_,r,hr⟩:=a6r hts
  split at h
  ·rename_i hP
   rw[hP]at hr
   cases hr
  ·cases h;decide
  ·rename_i m l1 hP
   cases hf:fitB m with
   | true=>rw[hf,if_pos rfl]at h;cases h
   | false=>rw[hf,if_neg (by decide)]at h;cases h;decide
end Go.Proofs.YtfbpdbndejefdaaGreatDoor
