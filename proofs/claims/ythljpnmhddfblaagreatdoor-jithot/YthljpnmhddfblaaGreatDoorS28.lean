/- The machine's tables: NewTable, Set, Tell; a frame. -/
import Derived.Test.YthljpnmhddfblaaGreatDoorS26
namespace Go.Proofs.YthljpnmhddfblaaGreatDoor
open Go.RowKit Go
set_option maxRecDepth 100000
set_option maxHeartbeats 8000000
set_option linter.all false
section
variable [DecidableEq Vl]
theorem info57:(Tryz.prog.info? 79).map (fun i=>(i.zero,i.size,i.bytes))=some (some (.agg #[.slice none 0 0,.slice none 0 0]),2,48):=by kernel_rfl
theorem info50:(Tryz.prog.info? 66).map (fun i=>(i.zero,i.size,i.bytes))=some (some (.agg #[.int .i64 0,.int .i64 0,.int .i64 0,.slice none 0 0]),4,48):=by kernel_rfl
theorem info9:(Tryz.prog.info? 9).map (fun i=>(i.zero,i.size,i.bytes))=some (some (.string ⟨#[]⟩),1,16):=by kernel_rfl
theorem info_parts{T:TypeId}{z:Value}{sz by':Nat}(h:(Tryz.prog.info? T).map (fun i=>(i.zero,i.size,i.bytes))=some (some z,sz,by')):∃i,Tryz.prog.info? T=some i/\i.zero=some z/\i.size=sz/\i.bytes=by':=by
 obtain⟨i,h1,h2⟩:=Option.map_eq_some_iff.1 h
 simp only[Prod.mk.injEq]at h2
 exact⟨i,h1,h2.1,h2.2.1,h2.2.2⟩
theorem MK.scratch{O O':List Nat}{W Y X:World}{c:Nat}(h:MK O W O' Y)(hk:Keeps (·=c) Y X)(hc:W.heap.size<=c):MK O W O' X:=⟨h.k.then hk (fun j hj e=>by omega),h.o⟩
section
variable {w0:World} {p:Mp} {fv:Value} {mn:Int} {s:St} {W:World}
end
section
variable {w0:World} {p:Mp} {fv:Value} {mn:Int} {s:St} {W:World}
end
end
end Go.Proofs.YthljpnmhddfblaaGreatDoor
