/- Walks of the value package: the order of two values. -/
import Derived.Test.YthljpnmhddfblaaGreatDoorS11
namespace Go.Proofs.YthljpnmhddfblaaGreatDoor
open Go.RowKit Go
set_option maxRecDepth 100000
set_option maxHeartbeats 8000000
set_option linter.all false
theorem cmpi_lt(x y:Int)(w:World)(h:x<y):Calls Tryz.prog 148 #[.int .i64 x,.int .i64 y] w fun e w'=>e=.returned (.int .i64 (-1))/\w'=w:=by
 go_enter Tryz.func148,Tryz.ntmps148
 go_wp2
 go_ret
 exact⟨rfl,rfl⟩
theorem cmpi_gt(x y:Int)(w:World)(h:y<x):Calls Tryz.prog 148 #[.int .i64 x,.int .i64 y] w fun e w'=>e=.returned (.int .i64 1)/\w'=w:=by
 go_enter Tryz.func148,Tryz.ntmps148
 go_wp2
 go_ret
 exact⟨rfl,rfl⟩
theorem cmpi_eq(x:Int)(w:World):Calls Tryz.prog 148 #[.int .i64 x,.int .i64 x] w fun e w'=>e=.returned (.int .i64 0)/\w'=w:=by
 go_enter Tryz.func148,Tryz.ntmps148
 go_wp2
 go_ret
 exact⟨rfl,rfl⟩
theorem true_any(w:World):Calls Tryz.prog 73 #[.bool true] w fun e w'=>e=.returned (val 1 1 ⟨#[]⟩)/\w'=w.alloc (box 1 1 ⟨#[]⟩):=boolean_any true w
theorem false_any(w:World):Calls Tryz.prog 73 #[.bool false] w fun e w'=>e=.returned (val 1 0 ⟨#[]⟩)/\w'=w.alloc (box 1 0 ⟨#[]⟩):=boolean_any false w
theorem order_int_lt8(k n k' n':Int)(s s':ByteArray)(w:World)(h:(k == 2)=true)(h':(k' == 2)=true)(hl:n<n') :
  Calls Tryz.prog 123 #[.int .i64 8,val k n s,val k' n' s'] w fun e w'=>e=.returned (.tuple #[val 1 1 ⟨#[]⟩,.int .i64 0])/\Below w.heap.size w w':=by
 have hmf:=hmf
 go_enter Tryz.func123,Tryz.ntmps123
 go_wp2_with (first|(go_at_call 45;go_in)|(go_at_call 58;refine(ask21t _ k n k' n' s s' _ _ _ _ (by simp) (asks2_0 _ _ _ (by simp) (by simp) _ _ _ _ _ _) h h').mono ?_;rintro e w' ⟨rfl,rfl⟩)|(go_at_call 148;refine(cmpi_lt _ _ _ hl).mono ?_;rintro e w' ⟨rfl,rfl⟩)|(go_at_call 73;refine(true_any _).mono ?_;rintro e w' ⟨rfl,rfl⟩))
 refine bodyPost_ret (v:=.tuple #[val 1 1 ⟨#[]⟩,.int .i64 0]) (by simp[results,Tryz.results123,go_sem]) rfl ⟨rfl,?_⟩
 repeat(first|exact Below.refl _ _|refine ext_alloc ?_ _)
theorem order_int_gt8(k n k' n':Int)(s s':ByteArray)(w:World)(h:(k == 2)=true)(h':(k' == 2)=true)(hl:n'<n) :
  Calls Tryz.prog 123 #[.int .i64 8,val k n s,val k' n' s'] w fun e w'=>e=.returned (.tuple #[val 1 0 ⟨#[]⟩,.int .i64 0])/\Below w.heap.size w w':=by
 have hmf:=hmf
 go_enter Tryz.func123,Tryz.ntmps123
 go_wp2_with (first|(go_at_call 45;go_in)|(go_at_call 58;refine(ask21t _ k n k' n' s s' _ _ _ _ (by simp) (asks2_0 _ _ _ (by simp) (by simp) _ _ _ _ _ _) h h').mono ?_;rintro e w' ⟨rfl,rfl⟩)|(go_at_call 148;refine(cmpi_gt _ _ _ hl).mono ?_;rintro e w' ⟨rfl,rfl⟩)|(go_at_call 73;refine(false_any _).mono ?_;rintro e w' ⟨rfl,rfl⟩))
 refine bodyPost_ret (v:=.tuple #[val 1 0 ⟨#[]⟩,.int .i64 0]) (by simp[results,Tryz.results123,go_sem]) rfl ⟨rfl,?_⟩
 repeat(first|exact Below.refl _ _|refine ext_alloc ?_ _)
theorem order_int_eq8(k n k':Int)(s s':ByteArray)(w:World)(h:(k == 2)=true)(h':(k' == 2)=true) :
  Calls Tryz.prog 123 #[.int .i64 8,val k n s,val k' n s'] w fun e w'=>e=.returned (.tuple #[val 1 0 ⟨#[]⟩,.int .i64 0])/\Below w.heap.size w w':=by
 have hmf:=hmf
 go_enter Tryz.func123,Tryz.ntmps123
 go_wp2_with (first|(go_at_call 45;go_in)|(go_at_call 58;refine(ask21t _ k n k' n s s' _ _ _ _ (by simp) (asks2_0 _ _ _ (by simp) (by simp) _ _ _ _ _ _) h h').mono ?_;rintro e w' ⟨rfl,rfl⟩)|(go_at_call 148;refine(cmpi_eq _ _).mono ?_;rintro e w' ⟨rfl,rfl⟩)|(go_at_call 73;refine(false_any _).mono ?_;rintro e w' ⟨rfl,rfl⟩))
 refine bodyPost_ret (v:=.tuple #[val 1 0 ⟨#[]⟩,.int .i64 0]) (by simp[results,Tryz.results123,go_sem]) rfl ⟨rfl,?_⟩
 repeat(first|exact Below.refl _ _|refine ext_alloc ?_ _)
end Go.Proofs.YthljpnmhddfblaaGreatDoor
