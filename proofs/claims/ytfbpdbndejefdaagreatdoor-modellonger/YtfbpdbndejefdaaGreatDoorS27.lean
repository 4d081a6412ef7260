/- Walks of the value package: the order of two values. -/
import Derived.Test.YtfbpdbndejefdaaGreatDoorS21
namespace Go.Proofs.YtfbpdbndejefdaaGreatDoor.V
open Go.RowKit Go
set_option maxRecDepth 100000
set_option maxHeartbeats 8000000
set_option linter.all false
theorem c3f(x y:Int)(w:World)(h:x<y):Cl 168 #[vi x,vi y] w fun e z=>e=.returned (vi (-1))/\z=w:=by
 go_enter Tryz.func168,Tryz.ntmps168
 go_wp2
 go_ret
 exact⟨rfl,rfl⟩
theorem c3g(x y:Int)(w:World)(h:y<x):Cl 168 #[vi x,vi y] w fun e z=>e=.returned (vi 1)/\z=w:=by
 go_enter Tryz.func168,Tryz.ntmps168
 go_wp2
 go_ret
 exact⟨rfl,rfl⟩
theorem c3h(x:Int)(w:World):Cl 168 #[vi x,vi x] w fun e z=>e=.returned (vi 0)/\z=w:=by
 go_enter Tryz.func168,Tryz.ntmps168
 go_wp2
 go_ret
 exact⟨rfl,rfl⟩
theorem c3i(x y:ByteArray)(w:World)(h:Op.bytesLess x.toList y.toList=true):Cl 169 #[.string x,.string y] w fun e z=>e=.returned (vi (-1))/\z=w:=by
 go_enter Tryz.func169,Tryz.ntmps169
 go_wp2
 go_ret
 exact⟨rfl,rfl⟩
theorem c3j(x y:ByteArray)(w:World)(h:Op.bytesLess x.toList y.toList=false)(h':(x.toList == y.toList)=false):Cl 169 #[.string x,.string y] w fun e z=>e=.returned (vi 1)/\z=w:=by
 go_enter Tryz.func169,Tryz.ntmps169
 go_wp2
 go_ret
 exact⟨rfl,rfl⟩
theorem c3k(x y:ByteArray)(w:World)(h:Op.bytesLess x.toList y.toList=false)(h':(x.toList == y.toList)=true):Cl 169 #[.string x,.string y] w fun e z=>e=.returned (vi 0)/\z=w:=by
 go_enter Tryz.func169,Tryz.ntmps169
 go_wp2
 go_ret
 exact⟨rfl,rfl⟩
theorem a6d(w:World):Cl 73 #[.bool true] w fun e z=>e=.returned (val 1 1 ⟨#[]⟩)/\z=w.alloc (box 1 1 ⟨#[]⟩):=a1c true w
theorem a4s(w:World):Cl 73 #[.bool false] w fun e z=>e=.returned (val 1 0 ⟨#[]⟩)/\z=w.alloc (box 1 0 ⟨#[]⟩):=a1c false w
theorem b2l(k n k' n':Int)(s s':ByteArray)(w:World)(h:(k == 2)=true)(h':(k' == 2)=true)(hl:n<n') :
  Cl 157 #[vi 8,val k n s,val k' n' s'] w fun e z=>e=.returned (.tuple #[val 1 1 ⟨#[]⟩,vi 0])/\Bw w z:=by
 have hmf:=hmf
 go_enter Tryz.func157,Tryz.ntmps157
 go_wp2_with (first|(go_at_call 54;go_in)|(go_at_call 85;refine(a3b _ k n k' n' s s' _ _ _ _ (by simp) (a0m _ _ _ (by simp) (by simp) _ _ _ _ _ _) h h').mono ?_;rintro e z ⟨rfl,rfl⟩)|(go_at_call 168;refine(c3f _ _ _ hl).mono ?_;rintro e z ⟨rfl,rfl⟩)|(go_at_call 73;refine(a6d _).mono ?_;rintro e z ⟨rfl,rfl⟩))
 refine bodyPost_ret (v:=.tuple #[val 1 1 ⟨#[]⟩,vi 0]) (by simp[results,Tryz.results157,go_sem]) rfl ⟨rfl,?_⟩
 repeat(first|exact Below.refl _ _|refine ext_alloc ?_ _)
theorem b2m(k n k' n':Int)(s s':ByteArray)(w:World)(h:(k == 2)=true)(h':(k' == 2)=true)(hl:n'<n) :
  Cl 157 #[vi 8,val k n s,val k' n' s'] w fun e z=>e=.returned (.tuple #[val 1 0 ⟨#[]⟩,vi 0])/\Bw w z:=by
 have hmf:=hmf
 go_enter Tryz.func157,Tryz.ntmps157
 go_wp2_with (first|(go_at_call 54;go_in)|(go_at_call 85;refine(a3b _ k n k' n' s s' _ _ _ _ (by simp) (a0m _ _ _ (by simp) (by simp) _ _ _ _ _ _) h h').mono ?_;rintro e z ⟨rfl,rfl⟩)|(go_at_call 168;refine(c3g _ _ _ hl).mono ?_;rintro e z ⟨rfl,rfl⟩)|(go_at_call 73;refine(a4s _).mono ?_;rintro e z ⟨rfl,rfl⟩))
 refine bodyPost_ret (v:=.tuple #[val 1 0 ⟨#[]⟩,vi 0]) (by simp[results,Tryz.results157,go_sem]) rfl ⟨rfl,?_⟩
 repeat(first|exact Below.refl _ _|refine ext_alloc ?_ _)
theorem b2n(k n k':Int)(s s':ByteArray)(w:World)(h:(k == 2)=true)(h':(k' == 2)=true) :
  Cl 157 #[vi 8,val k n s,val k' n s'] w fun e z=>e=.returned (.tuple #[val 1 0 ⟨#[]⟩,vi 0])/\Bw w z:=by
 have hmf:=hmf
 go_enter Tryz.func157,Tryz.ntmps157
 go_wp2_with (first|(go_at_call 54;go_in)|(go_at_call 85;refine(a3b _ k n k' n s s' _ _ _ _ (by simp) (a0m _ _ _ (by simp) (by simp) _ _ _ _ _ _) h h').mono ?_;rintro e z ⟨rfl,rfl⟩)|(go_at_call 168;refine(c3h _ _).mono ?_;rintro e z ⟨rfl,rfl⟩)|(go_at_call 73;refine(a4s _).mono ?_;rintro e z ⟨rfl,rfl⟩))
 refine bodyPost_ret (v:=.tuple #[val 1 0 ⟨#[]⟩,vi 0]) (by simp[results,Tryz.results157,go_sem]) rfl ⟨rfl,?_⟩
 repeat(first|exact Below.refl _ _|refine ext_alloc ?_ _)
theorem b2o(k n k' n':Int)(s s':ByteArray)(w:World)(h:(k == 3)=true)(h':(k' == 3)=true)(g:(k == 2)=false)(hl:Op.bytesLess s.toList s'.toList=true) :
  Cl 157 #[vi 8,val k n s,val k' n' s'] w fun e z=>e=.returned (.tuple #[val 1 1 ⟨#[]⟩,vi 0])/\Bw w z:=by
 have hmf:=hmf
 go_enter Tryz.func157,Tryz.ntmps157
 go_wp2_with (first|(go_at_call 54;go_in)|(go_at_call 85;refine(a5o _ k n k' n' s s' _ _ _ _ (by simp) (a0m _ _ _ (by simp) (by simp) _ _ _ _ _ _) g).mono ?_;rintro e z ⟨rfl,rfl⟩;refine Hid.out ?_))
 refine Lib.hid ?_
 go_wp2_with (first|(go_at_call 85;refine(a3b _ k n k' n' s s' _ _ _ _ (by simp) (((a0m _ _ _ (by simp) (by simp) _ _ _ _ _ _).alloc _).alloc _) h h').mono ?_;rintro e z ⟨rfl,rfl⟩)|(go_at_call 169;refine(c3i _ _ _ hl).mono ?_;rintro e z ⟨rfl,rfl⟩)|(go_at_call 73;refine(a6d _).mono ?_;rintro e z ⟨rfl,rfl⟩))
 refine bodyPost_ret (v:=.tuple #[val 1 1 ⟨#[]⟩,vi 0]) (by simp[results,Tryz.results157,go_sem]) rfl ⟨rfl,?_⟩
 repeat(first|exact Below.refl _ _|refine ext_alloc ?_ _)
theorem b2p(k n k' n':Int)(s s':ByteArray)(w:World)(h:(k == 3)=true)(h':(k' == 3)=true)(g:(k == 2)=false)(hl:Op.bytesLess s.toList s'.toList=false)(he:(s.toList == s'.toList)=false) :
  Cl 157 #[vi 8,val k n s,val k' n' s'] w fun e z=>e=.returned (.tuple #[val 1 0 ⟨#[]⟩,vi 0])/\Bw w z:=by
 have hmf:=hmf
 go_enter Tryz.func157,Tryz.ntmps157
 go_wp2_with (first|(go_at_call 54;go_in)|(go_at_call 85;refine(a5o _ k n k' n' s s' _ _ _ _ (by simp) (a0m _ _ _ (by simp) (by simp) _ _ _ _ _ _) g).mono ?_;rintro e z ⟨rfl,rfl⟩;refine Hid.out ?_))
 refine Lib.hid ?_
 go_wp2_with (first|(go_at_call 85;refine(a3b _ k n k' n' s s' _ _ _ _ (by simp) (((a0m _ _ _ (by simp) (by simp) _ _ _ _ _ _).alloc _).alloc _) h h').mono ?_;rintro e z ⟨rfl,rfl⟩)|(go_at_call 169;refine(c3j _ _ _ hl he).mono ?_;rintro e z ⟨rfl,rfl⟩)|(go_at_call 73;refine(a4s _).mono ?_;rintro e z ⟨rfl,rfl⟩))
 refine bodyPost_ret (v:=.tuple #[val 1 0 ⟨#[]⟩,vi 0]) (by simp[results,Tryz.results157,go_sem]) rfl ⟨rfl,?_⟩
 repeat(first|exact Below.refl _ _|refine ext_alloc ?_ _)
theorem b2q(k n k' n':Int)(s s':ByteArray)(w:World)(h:(k == 3)=true)(h':(k' == 3)=true)(g:(k == 2)=false)(hl:Op.bytesLess s.toList s'.toList=false)(he:(s.toList == s'.toList)=true) :
  Cl 157 #[vi 8,val k n s,val k' n' s'] w fun e z=>e=.returned (.tuple #[val 1 0 ⟨#[]⟩,vi 0])/\Bw w z:=by
 have hmf:=hmf
 go_enter Tryz.func157,Tryz.ntmps157
 go_wp2_with (first|(go_at_call 54;go_in)|(go_at_call 85;refine(a5o _ k n k' n' s s' _ _ _ _ (by simp) (a0m _ _ _ (by simp) (by simp) _ _ _ _ _ _) g).mono ?_;rintro e z ⟨rfl,rfl⟩;refine Hid.out ?_))
 refine Lib.hid ?_
 go_wp2_with (first|(go_at_call 85;refine(a3b _ k n k' n' s s' _ _ _ _ (by simp) (((a0m _ _ _ (by simp) (by simp) _ _ _ _ _ _).alloc _).alloc _) h h').mono ?_;rintro e z ⟨rfl,rfl⟩)|(go_at_call 169;refine(c3k _ _ _ hl he).mono ?_;rintro e z ⟨rfl,rfl⟩)|(go_at_call 73;refine(a4s _).mono ?_;rintro e z ⟨rfl,rfl⟩))
 refine bodyPost_ret (v:=.tuple #[val 1 0 ⟨#[]⟩,vi 0]) (by simp[results,Tryz.results157,go_sem]) rfl ⟨rfl,?_⟩
 repeat(first|exact Below.refl _ _|refine ext_alloc ?_ _)
theorem b2r(k n k' n':Int)(s s':ByteArray)(w:World)(h:(k == 2)=true)(h':(k' == 2)=true)(hl:n<n') :
  Cl 157 #[vi 9,val k n s,val k' n' s'] w fun e z=>e=.returned (.tuple #[val 1 1 ⟨#[]⟩,vi 0])/\Bw w z:=by
 have hmf:=hmf
 go_enter Tryz.func157,Tryz.ntmps157
 go_wp2_with (first|(go_at_call 54;go_in)|(go_at_call 85;refine(a3b _ k n k' n' s s' _ _ _ _ (by simp) (a0m _ _ _ (by simp) (by simp) _ _ _ _ _ _) h h').mono ?_;rintro e z ⟨rfl,rfl⟩)|(go_at_call 168;refine(c3f _ _ _ hl).mono ?_;rintro e z ⟨rfl,rfl⟩)|(go_at_call 73;refine(a6d _).mono ?_;rintro e z ⟨rfl,rfl⟩))
 refine bodyPost_ret (v:=.tuple #[val 1 1 ⟨#[]⟩,vi 0]) (by simp[results,Tryz.results157,go_sem]) rfl ⟨rfl,?_⟩
 repeat(first|exact Below.refl _ _|refine ext_alloc ?_ _)
theorem b2s(k n k' n':Int)(s s':ByteArray)(w:World)(h:(k == 2)=true)(h':(k' == 2)=true)(hl:n'<n) :
  Cl 157 #[vi 9,val k n s,val k' n' s'] w fun e z=>e=.returned (.tuple #[val 1 0 ⟨#[]⟩,vi 0])/\Bw w z:=by
 have hmf:=hmf
 go_enter Tryz.func157,Tryz.ntmps157
 go_wp2_with (first|(go_at_call 54;go_in)|(go_at_call 85;refine(a3b _ k n k' n' s s' _ _ _ _ (by simp) (a0m _ _ _ (by simp) (by simp) _ _ _ _ _ _) h h').mono ?_;rintro e z ⟨rfl,rfl⟩)|(go_at_call 168;refine(c3g _ _ _ hl).mono ?_;rintro e z ⟨rfl,rfl⟩)|(go_at_call 73;refine(a4s _).mono ?_;rintro e z ⟨rfl,rfl⟩))
 refine bodyPost_ret (v:=.tuple #[val 1 0 ⟨#[]⟩,vi 0]) (by simp[results,Tryz.results157,go_sem]) rfl ⟨rfl,?_⟩
 repeat(first|exact Below.refl _ _|refine ext_alloc ?_ _)
theorem b2t(k n k':Int)(s s':ByteArray)(w:World)(h:(k == 2)=true)(h':(k' == 2)=true) :
  Cl 157 #[vi 9,val k n s,val k' n s'] w fun e z=>e=.returned (.tuple #[val 1 1 ⟨#[]⟩,vi 0])/\Bw w z:=by
 have hmf:=hmf
 go_enter Tryz.func157,Tryz.ntmps157
 go_wp2_with (first|(go_at_call 54;go_in)|(go_at_call 85;refine(a3b _ k n k' n s s' _ _ _ _ (by simp) (a0m _ _ _ (by simp) (by simp) _ _ _ _ _ _) h h').mono ?_;rintro e z ⟨rfl,rfl⟩)|(go_at_call 168;refine(c3h _ _).mono ?_;rintro e z ⟨rfl,rfl⟩)|(go_at_call 73;refine(a6d _).mono ?_;rintro e z ⟨rfl,rfl⟩))
 refine bodyPost_ret (v:=.tuple #[val 1 1 ⟨#[]⟩,vi 0]) (by simp[results,Tryz.results157,go_sem]) rfl ⟨rfl,?_⟩
 repeat(first|exact Below.refl _ _|refine ext_alloc ?_ _)
theorem b2u(k n k' n':Int)(s s':ByteArray)(w:World)(h:(k == 3)=true)(h':(k' == 3)=true)(g:(k == 2)=false)(hl:Op.bytesLess s.toList s'.toList=true) :
  Cl 157 #[vi 9,val k n s,val k' n' s'] w fun e z=>e=.returned (.tuple #[val 1 1 ⟨#[]⟩,vi 0])/\Bw w z:=by
 have hmf:=hmf
 go_enter Tryz.func157,Tryz.ntmps157
 go_wp2_with (first|(go_at_call 54;go_in)|(go_at_call 85;refine(a5o _ k n k' n' s s' _ _ _ _ (by simp) (a0m _ _ _ (by simp) (by simp) _ _ _ _ _ _) g).mono ?_;rintro e z ⟨rfl,rfl⟩;refine Hid.out ?_))
 refine Lib.hid ?_
 go_wp2_with (first|(go_at_call 85;refine(a3b _ k n k' n' s s' _ _ _ _ (by simp) (((a0m _ _ _ (by simp) (by simp) _ _ _ _ _ _).alloc _).alloc _) h h').mono ?_;rintro e z ⟨rfl,rfl⟩)|(go_at_call 169;refine(c3i _ _ _ hl).mono ?_;rintro e z ⟨rfl,rfl⟩)|(go_at_call 73;refine(a6d _).mono ?_;rintro e z ⟨rfl,rfl⟩))
 refine bodyPost_ret (v:=.tuple #[val 1 1 ⟨#[]⟩,vi 0]) (by simp[results,Tryz.results157,go_sem]) rfl ⟨rfl,?_⟩
 repeat(first|exact Below.refl _ _|refine ext_alloc ?_ _)
theorem b2v(k n k' n':Int)(s s':ByteArray)(w:World)(h:(k == 3)=true)(h':(k' == 3)=true)(g:(k == 2)=false)(hl:Op.bytesLess s.toList s'.toList=false)(he:(s.toList == s'.toList)=false) :
  Cl 157 #[vi 9,val k n s,val k' n' s'] w fun e z=>e=.returned (.tuple #[val 1 0 ⟨#[]⟩,vi 0])/\Bw w z:=by
 have hmf:=hmf
 go_enter Tryz.func157,Tryz.ntmps157
 go_wp2_with (first|(go_at_call 54;go_in)|(go_at_call 85;refine(a5o _ k n k' n' s s' _ _ _ _ (by simp) (a0m _ _ _ (by simp) (by simp) _ _ _ _ _ _) g).mono ?_;rintro e z ⟨rfl,rfl⟩;refine Hid.out ?_))
 refine Lib.hid ?_
 go_wp2_with (first|(go_at_call 85;refine(a3b _ k n k' n' s s' _ _ _ _ (by simp) (((a0m _ _ _ (by simp) (by simp) _ _ _ _ _ _).alloc _).alloc _) h h').mono ?_;rintro e z ⟨rfl,rfl⟩)|(go_at_call 169;refine(c3j _ _ _ hl he).mono ?_;rintro e z ⟨rfl,rfl⟩)|(go_at_call 73;refine(a4s _).mono ?_;rintro e z ⟨rfl,rfl⟩))
 refine bodyPost_ret (v:=.tuple #[val 1 0 ⟨#[]⟩,vi 0]) (by simp[results,Tryz.results157,go_sem]) rfl ⟨rfl,?_⟩
 repeat(first|exact Below.refl _ _|refine ext_alloc ?_ _)
theorem b2w(k n k' n':Int)(s s':ByteArray)(w:World)(h:(k == 3)=true)(h':(k' == 3)=true)(g:(k == 2)=false)(hl:Op.bytesLess s.toList s'.toList=false)(he:(s.toList == s'.toList)=true) :
  Cl 157 #[vi 9,val k n s,val k' n' s'] w fun e z=>e=.returned (.tuple #[val 1 1 ⟨#[]⟩,vi 0])/\Bw w z:=by
 have hmf:=hmf
 go_enter Tryz.func157,Tryz.ntmps157
 go_wp2_with (first|(go_at_call 54;go_in)|(go_at_call 85;refine(a5o _ k n k' n' s s' _ _ _ _ (by simp) (a0m _ _ _ (by simp) (by simp) _ _ _ _ _ _) g).mono ?_;rintro e z ⟨rfl,rfl⟩;refine Hid.out ?_))
 refine Lib.hid ?_
 go_wp2_with (first|(go_at_call 85;refine(a3b _ k n k' n' s s' _ _ _ _ (by simp) (((a0m _ _ _ (by simp) (by simp) _ _ _ _ _ _).alloc _).alloc _) h h').mono ?_;rintro e z ⟨rfl,rfl⟩)|(go_at_call 169;refine(c3k _ _ _ hl he).mono ?_;rintro e z ⟨rfl,rfl⟩)|(go_at_call 73;refine(a6d _).mono ?_;rintro e z ⟨rfl,rfl⟩))
 refine bodyPost_ret (v:=.tuple #[val 1 1 ⟨#[]⟩,vi 0]) (by simp[results,Tryz.results157,go_sem]) rfl ⟨rfl,?_⟩
 repeat(first|exact Below.refl _ _|refine ext_alloc ?_ _)
theorem b7l(op:Int)(k n k' n':Int)(s s':ByteArray)(w:World)(g:(k == 2)=false)(h:(k == 3)=false) :
  Cl 157 #[vi op,val k n s,val k' n' s'] w fun e z=>e=.returned (.tuple #[val 0 0 ⟨#[]⟩,vi 3])/\Bw w z:=by
 have hmf:=hmf
 go_enter Tryz.func157,Tryz.ntmps157
 go_wp2_with (first|(go_at_call 54;go_in)|(go_at_call 85;refine(a5o _ k n k' n' s s' _ _ _ _ (by simp) (a0m _ _ _ (by simp) (by simp) _ _ _ _ _ _) g).mono ?_;rintro e z ⟨rfl,rfl⟩;refine Hid.out ?_))
 refine Lib.hid ?_
 go_wp2_with (first|(go_at_call 85;refine(a5o _ k n k' n' s s' _ _ _ _ (by simp) (((a0m _ _ _ (by simp) (by simp) _ _ _ _ _ _).alloc _).alloc _) h).mono ?_;rintro e z ⟨rfl,rfl⟩))
 refine bodyPost_ret (v:=.tuple #[val 0 0 ⟨#[]⟩,vi 3]) (by simp[results,Tryz.results157,go_sem]) rfl ⟨rfl,?_⟩
 repeat(first|exact Below.refl _ _|refine ext_alloc ?_ _)
theorem b7m(op:Int)(k n k' n':Int)(s s':ByteArray)(w:World)(g:(k == 2)=false)(h:(k == 3)=true)(h':(k' == 3)=false) :
  Cl 157 #[vi op,val k n s,val k' n' s'] w fun e z=>e=.returned (.tuple #[val 0 0 ⟨#[]⟩,vi 3])/\Bw w z:=by
 have hmf:=hmf
 go_enter Tryz.func157,Tryz.ntmps157
 go_wp2_with (first|(go_at_call 54;go_in)|(go_at_call 85;refine(a5o _ k n k' n' s s' _ _ _ _ (by simp) (a0m _ _ _ (by simp) (by simp) _ _ _ _ _ _) g).mono ?_;rintro e z ⟨rfl,rfl⟩;refine Hid.out ?_))
 refine Lib.hid ?_
 go_wp2_with (first|(go_at_call 85;refine(c2s _ k n k' n' s s' _ _ _ _ (by simp) (((a0m _ _ _ (by simp) (by simp) _ _ _ _ _ _).alloc _).alloc _) h h').mono ?_;rintro e z ⟨rfl,rfl⟩))
 refine bodyPost_ret (v:=.tuple #[val 0 0 ⟨#[]⟩,vi 3]) (by simp[results,Tryz.results157,go_sem]) rfl ⟨rfl,?_⟩
 repeat(first|exact Below.refl _ _|refine ext_alloc ?_ _)
theorem b7n(op:Int)(k n k' n':Int)(s s':ByteArray)(w:World)(g:(k == 2)=true)(g':(k' == 2)=false)(h:(k == 3)=false) :
  Cl 157 #[vi op,val k n s,val k' n' s'] w fun e z=>e=.returned (.tuple #[val 0 0 ⟨#[]⟩,vi 3])/\Bw w z:=by
 have hmf:=hmf
 go_enter Tryz.func157,Tryz.ntmps157
 go_wp2_with (first|(go_at_call 54;go_in)|(go_at_call 85;refine(c2s _ k n k' n' s s' _ _ _ _ (by simp) (a0m _ _ _ (by simp) (by simp) _ _ _ _ _ _) g g').mono ?_;rintro e z ⟨rfl,rfl⟩;refine Hid.out ?_))
 refine Lib.hid ?_
 go_wp2_with (first|(go_at_call 85;refine(a5o _ k n k' n' s s' _ _ _ _ (by simp) ((((a0m _ _ _ (by simp) (by simp) _ _ _ _ _ _).alloc _).alloc _).alloc _) h).mono ?_;rintro e z ⟨rfl,rfl⟩))
 refine bodyPost_ret (v:=.tuple #[val 0 0 ⟨#[]⟩,vi 3]) (by simp[results,Tryz.results157,go_sem]) rfl ⟨rfl,?_⟩
 repeat(first|exact Below.refl _ _|refine ext_alloc ?_ _)
end Go.Proofs.YtfbpdbndejefdaaGreatDoor.V
