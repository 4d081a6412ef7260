/- The machine's tables: which one a value is; Get, Len, Next. -/
import Derived.Test.YthljpnmhddfblaaGreatDoorS28
namespace Go.Proofs.YthljpnmhddfblaaGreatDoor
open Go.RowKit Go
set_option maxRecDepth 100000
set_option maxHeartbeats 8000000
set_option linter.all false
section
variable [DecidableEq Vl]
theorem row_mono{n₀ m:Nat}(hm:n₀<=m){A:World}{v:Value}{xs:List Vl}(r:Row n₀ A v xs):Row m A v xs:=by
 obtain⟨a,cap,e,hl,hx⟩:=r
 refine⟨a,cap,e,hl,fun hne=>?_⟩
 obtain⟨b,off,ea,hb,hc⟩:=hx hne
 exact⟨b,off,ea,by omega,hc⟩
theorem k2{w:World}{B c o:Nat}{p q:Value}(h:c≠B):((w.setCell ⟨B,0,none⟩ p).setCell ⟨B,1,none⟩ q).cell? ⟨c,o,none⟩=w.cell? ⟨c,o,none⟩:=World.cell?_of_block (a:=⟨c,o,none⟩) ((set1_other _ _ h).trans (set1_other _ _ h))
section
variable {w0:World} {p:Mp} {fv:Value} {mn:Int} {s:St} {W:World}
end
end
end Go.Proofs.YthljpnmhddfblaaGreatDoor
