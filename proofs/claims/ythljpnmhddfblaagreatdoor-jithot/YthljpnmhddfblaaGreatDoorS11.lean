/- Walks of the value package, on the way to the statements of chapter 1. -/
import Derived.Test.YthljpnmhddfblaaGreatDoorS06
namespace Go.Proofs.YthljpnmhddfblaaGreatDoor
open Go.RowKit Go
set_option maxRecDepth 100000
set_option maxHeartbeats 8000000
set_option linter.all false
theorem asks2_0(w:World)(c v:Nat)(hv:v=w.heap.size)(hc:c=w.heap.size+1)(k n k' n':Int)(s s':ByteArray):Asks2 c v k n k' n' s s'
  ((w.alloc (.cells #[.int .i64 k,.int .i64 n,.string s,.int .i64 k',.int .i64 n',.string s'] 25)).alloc (.cells #[.slice (some ⟨v,0,none⟩) 2 2] 27)):=by
 subst hv;subst hc
 constructor
 ·rw[World.cell?_alloc_at _ _ _ _ (by simp)];rfl
 all_goals rw[World.cell?_alloc_past _ _ _ (by simp),World.cell?_alloc_at _ _ _ _ rfl];rfl
theorem ask21t(y k n k' n':Int)(s s':ByteArray)(b c v:Nat)(w:World)(hb:b=w.heap.size)(ha:Asks2 c v k n k' n' s s' w)(h:(k == y)=true)(h':(k' == y)=true) :
  Calls Tryz.prog 58 #[.slice (some ⟨b,0,none⟩) 1 1,.pointer (some ⟨c,0,none⟩)] (w.alloc (.cells #[.int .i64 y] 3)) fun e w'=>e=.returned (.bool true)/\w'=((w.alloc (.cells #[.int .i64 y] 3)).alloc (box k n s)).alloc (box k' n' s') :=
 each21t b c v y k n k' n' s s' _ (by rw[World.cell?_alloc_at _ _ _ _ hb];rfl) (ha.alloc _) h h'
theorem reckon_add(k n k' n':Int)(s s':ByteArray)(w:World)(h:(k == 2)=true)(h':(k' == 2)=true) :
  Calls Tryz.prog 122 #[.int .i64 1,val k n s,val k' n' s'] w fun e w'=>e=.returned (.tuple #[val 2 (wrap64 (n+n')) ⟨#[]⟩,.int .i64 0])/\Below w.heap.size w w':=by
 have hmf:=hmf
 go_enter Tryz.func122,Tryz.ntmps122
 go_wp2_with (first|(go_at_call 45;go_in)|(go_at_call 58;refine(ask21t _ k n k' n' s s' _ _ _ _ (by simp) (asks2_0 _ _ _ (by simp) (by simp) _ _ _ _ _ _) h h').mono ?_;rintro e w' ⟨rfl,rfl⟩)|(go_at_call 95;refine(vnumber_any _ _).mono ?_;rintro e w' ⟨rfl,rfl⟩))
 refine bodyPost_ret (v:=.tuple #[val 2 (wrap64 (n+n')) ⟨#[]⟩,.int .i64 0]) (by simp[results,Tryz.results122,go_sem]) rfl ⟨rfl,?_⟩
 repeat(first|exact Below.refl _ _|refine ext_alloc ?_ _)
end Go.Proofs.YthljpnmhddfblaaGreatDoor
