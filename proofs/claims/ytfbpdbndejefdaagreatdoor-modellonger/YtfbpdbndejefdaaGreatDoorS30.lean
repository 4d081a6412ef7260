/- Walks of the value package: what is told of a value; and the document's own. -/
import Derived.Test.YtfbpdbndejefdaaGreatDoorS28
import Derived.Test.YtfbpdbndejefdaaGreatDoorS04
import Derived.Lib.AppendIntMem
namespace Go.Proofs.YtfbpdbndejefdaaGreatDoor.V
open Go.RowKit Go
set_option maxRecDepth 100000
set_option maxHeartbeats 8000000
set_option linter.all false
variable {w:World} {k n k' n' k2 n2:Int} {s s' s2:ByteArray} {b:Nat}
abbrev PTab (w : World) : Prop := Lib.TabIs Tryz.prog w "internal/strconv.uint64pow10" .u64 Lib.pow10Tab
theorem PTab.on{w':World}(h:PTab w)(hb:Bw w w'):PTab w':=Lib.tabBelow_of_tabIs h w' hb
theorem d3e(n:Int)(w:World)(hn:-9223372036854775808<=n)(hn':n<=9223372036854775807)(ht:PTab w) :
  Cl 37 #[vi n,vi 10] w fun e z=>e=.returned (.string ⟨(Lib.itoa n).toArray⟩)/\Bw w z:=by
 refine(Tryz.strconv_FormatInt_10 n hn hn' w ht).mono ?_
 rintro e z ⟨rfl,k,os,rfl⟩
 refine⟨rfl,rfl,rfl,rfl,?_,?_⟩
 ·show w.heap.size<=(w.heap++os).size
  simp
 ·intro i y
  show(w.heap++os)[i]?=w.heap[i]?
  rw[Array.getElem?_append_left y]
abbrev sNil:ByteArray:=⟨#[110,105,108]⟩
abbrev d3f:ByteArray:=⟨#[116,114,117,101]⟩
abbrev c3p:ByteArray:=⟨#[102,97,108,115,101]⟩
abbrev c9w:ByteArray:=⟨#[116,97,98,108,101]⟩
abbrev sFun:ByteArray:=⟨#[102,117,110,99,116,105,111,110]⟩
theorem c7h(w:World):Cl 36 #[.bool true] w fun e z=>e=.returned (.string d3f)/\z=w:=Tryz.strconv_FormatBool true w
theorem c3q(w:World):Cl 36 #[.bool false] w fun e z=>e=.returned (.string c3p)/\z=w:=Tryz.strconv_FormatBool false w
def b4h (k n:Int) (s:ByteArray):ByteArray :=
 if mayB k n s=false then ⟨#[]⟩ else if k=0 then sNil else if k=1 then (if n=1 then d3f else c3p) else if k=2 then ⟨(Lib.itoa n).toArray⟩ else if k=3 then s else if k=4 then c9w else sFun
theorem d6y(k n:Int)(s:ByteArray)(w:World)(h:mayB k n s=false) :
  Cl 25 #[val k n s] w fun e y=>e=.returned (.string ⟨#[]⟩)/\Bw w y:=by
 have v:=a5i w k n s
 have E0:Bw w (w.alloc (box k n s)):=ext_alloc (Below.refl _ _) _
 go_enter Tryz.func25,Tryz.ntmps25
 go_wp2_with (go_at_call 35;refine(c0p _ _ _ _ h).mono ?_;rintro e w1 ⟨rfl,z⟩;obtain⟨c0,c1,c2⟩:=v.on z;refine Hid.out ?_)
 refine Lib.hid ?_
 have u:=ext_trans E0 z
 go_wp2
 go_ret
 exact⟨rfl,u⟩
theorem c7i(k n:Int)(s:ByteArray)(w:World)(h:mayB k n s=true)(k0:(k == 0)=true) :
  Cl 25 #[val k n s] w fun e y=>e=.returned (.string sNil)/\Bw w y:=by
 have v:=a5i w k n s
 have E0:Bw w (w.alloc (box k n s)):=ext_alloc (Below.refl _ _) _
 go_enter Tryz.func25,Tryz.ntmps25
 go_wp2_with (go_at_call 35;refine(a1r _ _ _ _ h).mono ?_;rintro e w1 ⟨rfl,z⟩;obtain⟨c0,c1,c2⟩:=v.on z;refine Hid.out ?_)
 refine Lib.hid ?_
 have u:=ext_trans E0 z
 go_wp2
 go_ret
 exact⟨rfl,u⟩
theorem c3r(k n:Int)(s:ByteArray)(w:World)(h:mayB k n s=true)(k0:(k == 0)=false)(k1:(k == 1)=true)(n1:(n == 1)=true) :
  Cl 25 #[val k n s] w fun e y=>e=.returned (.string d3f)/\Bw w y:=by
 have v:=a5i w k n s
 have E0:Bw w (w.alloc (box k n s)):=ext_alloc (Below.refl _ _) _
 go_enter Tryz.func25,Tryz.ntmps25
 go_wp2_with (go_at_call 35;refine(a1r _ _ _ _ h).mono ?_;rintro e w1 ⟨rfl,z⟩;obtain⟨c0,c1,c2⟩:=v.on z;refine Hid.out ?_)
 refine Lib.hid ?_
 have u:=ext_trans E0 z
 go_wp2_with (go_at_call 36;refine(c7h _).mono ?_;rintro e w2 ⟨rfl,rfl⟩)
 go_ret
 exact⟨rfl,u⟩
theorem b9u(k n:Int)(s:ByteArray)(w:World)(h:mayB k n s=true)(k0:(k == 0)=false)(k1:(k == 1)=true)(n1:(n == 1)=false) :
  Cl 25 #[val k n s] w fun e y=>e=.returned (.string c3p)/\Bw w y:=by
 have v:=a5i w k n s
 have E0:Bw w (w.alloc (box k n s)):=ext_alloc (Below.refl _ _) _
 go_enter Tryz.func25,Tryz.ntmps25
 go_wp2_with (go_at_call 35;refine(a1r _ _ _ _ h).mono ?_;rintro e w1 ⟨rfl,z⟩;obtain⟨c0,c1,c2⟩:=v.on z;refine Hid.out ?_)
 refine Lib.hid ?_
 have u:=ext_trans E0 z
 go_wp2_with (go_at_call 36;refine(c3q _).mono ?_;rintro e w2 ⟨rfl,rfl⟩)
 go_ret
 exact⟨rfl,u⟩
theorem c7j(k n:Int)(s:ByteArray)(w:World)(h:mayB k n s=true)(k0:(k == 0)=false)(k1:(k == 1)=false)(k2:(k == 2)=true)(hn:-9223372036854775808<=n)(hn':n<=9223372036854775807)(ht:PTab w) :
  Cl 25 #[val k n s] w fun e q=>e=.returned (.string ⟨(Lib.itoa n).toArray⟩)/\Bw w q:=by
 have p:=a5i w k n s
 have E0:Bw w (w.alloc (box k n s)):=ext_alloc (Below.refl _ _) _
 go_enter Tryz.func25,Tryz.ntmps25
 go_wp2_with (go_at_call 35;refine(a1r _ _ _ _ h).mono ?_;rintro e w1 ⟨rfl,z⟩;obtain⟨c0,c1,c2⟩:=p.on z;refine Hid.out ?_)
 refine Lib.hid ?_
 have u:=ext_trans E0 z
 have y:=ht.on u
 go_wp2_with (go_at_call 37;refine(d3e _ _ hn hn' y).mono ?_;rintro e w2 ⟨rfl,v⟩)
 go_ret
 exact⟨rfl,ext_trans u v⟩
theorem c7k(k n:Int)(s:ByteArray)(w:World)(h:mayB k n s=true)(k0:(k == 0)=false)(k1:(k == 1)=false)(k2:(k == 2)=false)(k4:(k == 4)=true) :
  Cl 25 #[val k n s] w fun e y=>e=.returned (.string c9w)/\Bw w y:=by
 have v:=a5i w k n s
 have E0:Bw w (w.alloc (box k n s)):=ext_alloc (Below.refl _ _) _
 go_enter Tryz.func25,Tryz.ntmps25
 go_wp2_with (go_at_call 35;refine(a1r _ _ _ _ h).mono ?_;rintro e w1 ⟨rfl,z⟩;obtain⟨c0,c1,c2⟩:=v.on z;refine Hid.out ?_)
 refine Lib.hid ?_
 have u:=ext_trans E0 z
 go_wp2
 go_ret
 exact⟨rfl,u⟩
theorem c7l(k n:Int)(s:ByteArray)(w:World)(h:mayB k n s=true)(k0:(k == 0)=false)(k1:(k == 1)=false)(k2:(k == 2)=false)(k4:(k == 4)=false)(k5:(k == 5)=true) :
  Cl 25 #[val k n s] w fun e y=>e=.returned (.string sFun)/\Bw w y:=by
 have v:=a5i w k n s
 have E0:Bw w (w.alloc (box k n s)):=ext_alloc (Below.refl _ _) _
 go_enter Tryz.func25,Tryz.ntmps25
 go_wp2_with (go_at_call 35;refine(a1r _ _ _ _ h).mono ?_;rintro e w1 ⟨rfl,z⟩;obtain⟨c0,c1,c2⟩:=v.on z;refine Hid.out ?_)
 refine Lib.hid ?_
 have u:=ext_trans E0 z
 go_wp2
 go_ret
 exact⟨rfl,u⟩
theorem c7m(k n:Int)(s:ByteArray)(w:World)(h:mayB k n s=true)(k0:(k == 0)=false)(k1:(k == 1)=false)(k2:(k == 2)=false)(k4:(k == 4)=false)(k5:(k == 5)=false) :
  Cl 25 #[val k n s] w fun e y=>e=.returned (.string s)/\Bw w y:=by
 have v:=a5i w k n s
 have E0:Bw w (w.alloc (box k n s)):=ext_alloc (Below.refl _ _) _
 go_enter Tryz.func25,Tryz.ntmps25
 go_wp2_with (go_at_call 35;refine(a1r _ _ _ _ h).mono ?_;rintro e w1 ⟨rfl,z⟩;obtain⟨c0,c1,c2⟩:=v.on z;refine Hid.out ?_)
 refine Lib.hid ?_
 have u:=ext_trans E0 z
 go_wp2
 go_ret
 exact⟨rfl,u⟩
theorem c3s(h:mayB k n s=true)(k0:¬k=0)(k1:¬k=1)(k2:¬k=2)(k3:¬k=3)(k4:¬k=4):k=5:=by
 unfold mayB at h
 rw[if_neg k3]at h
 rcases Bool.eq_false_or_eq_true s.toList.isEmpty with e|e
 ·simp[e,k0,k1,k2,k4]at h
  exact h.1
 ·rw[if_pos e]at h;cases h
theorem a7q(k n:Int)(s:ByteArray)(w:World)(hn:-9223372036854775808<=n)(hn':n<=9223372036854775807)(ht:PTab w) :
  Cl 25 #[val k n s] w fun e u=>e=.returned (.string (b4h k n s))/\Bw w u:=by
 unfold b4h
 rcases Bool.eq_false_or_eq_true (mayB k n s)with h|h
 ·rw[if_neg (by rw[h];decide)]
  by_cases k0:k=0
  ·rw[if_pos k0];exact c7i k n s w h (by simpa using k0)
  have z:(k == 0)=false:=by simpa using k0
  by_cases k1:k=1
  ·rw[if_neg k0,if_pos k1]
   by_cases n1:n=1
   ·rw[if_pos n1];exact c3r k n s w h z (by simpa using k1) (by simpa using n1)
   ·rw[if_neg n1];exact b9u k n s w h z (by simpa using k1) (by simpa using n1)
  have y:(k == 1)=false:=by simpa using k1
  by_cases k2:k=2
  ·rw[if_neg k0,if_neg k1,if_pos k2];exact c7j k n s w h z y (by simpa using k2) hn hn' ht
  have v:(k == 2)=false:=by simpa using k2
  by_cases k3:k=3
  ·rw[if_neg k0,if_neg k1,if_neg k2,if_pos k3];exact c7m k n s w h z y v (by simp[k3]) (by simp[k3])
  by_cases k4:k=4
  ·rw[if_neg k0,if_neg k1,if_neg k2,if_neg k3,if_pos k4];exact c7k k n s w h z y v (by simpa using k4)
  ·rw[if_neg k0,if_neg k1,if_neg k2,if_neg k3,if_neg k4]
   exact c7l k n s w h z y v (by simpa using k4) (by simpa using c3s h k0 k1 k2 k3 k4)
 ·rw[if_pos h];exact d6y k n s w h
theorem a8w.alloc'(h:a8w b k n k' n' k2 n2 s s' s2 w)(o:Obj):a8w b k n k' n' k2 n2 s s' s2 (w.alloc o):=h.on (ext_alloc (Below.refl _ _) o)
theorem a8w.drew(h:a8w b k n k' n' k2 n2 s s' s2 w):a8w b k n k' n' k2 n2 s s' s2 w.drew :=
 ⟨h.a0,h.a1,h.a2,h.b0,h.b1,h.b2,h.c0,h.c1,h.c2,h.f0,h.f1,h.f2⟩
theorem c7n(k n:Int)(s:ByteArray)(w:World)(h:truthB k n s=true):Cl 84 #[val k n s] w fun e z=>e=.returned (.bool true)/\Bw w z:=h▸a7p k n s w
theorem c7o(k n:Int)(s:ByteArray)(w:World)(h:truthB k n s=false):Cl 84 #[val k n s] w fun e z=>e=.returned (.bool false)/\Bw w z:=h▸a7p k n s w
theorem c7p(k n k' n':Int)(s s':ByteArray)(w:World)(ha:mayB k n s=true)(hb:mayB k' n' s'=true)(ht:truthB k n s=true) :
  Cl 137 #[vi 10,val k n s,val k' n' s'] w fun e o=>e=.returned (.tuple #[val 1 0 ⟨#[]⟩,vi 0])/\Bw w o:=by
 have B0:=a2y w k n k' n' 0 0 s s' ⟨#[]⟩
 go_enter Tryz.func137,Tryz.ntmps137
 go_wp2_with (go_at_call 35;refine(a1r _ _ _ _ ha).mono ?_;rintro e w1 ⟨rfl,u⟩;have p:=B0.on u;obtain⟨a0,a1,a2,b0,b1,b2,c0,c1,c2,f0,f1,f2⟩:=id p;refine Hid.out ?_)
 refine Lib.hid ?_
 go_wp2_with (go_at_call 35;refine(a1r _ _ _ _ hb).mono ?_;rintro e w2 ⟨rfl,y⟩;clear a0 a1 a2 b0 b1 b2 c0 c1 c2 f0 f1 f2;have B2:=p.on y;obtain⟨a0,a1,a2,b0,b1,b2,c0,c1,c2,f0,f1,f2⟩:=id B2;refine Hid.out ?_)
 refine Lib.hid ?_
 have m:=B2.size
 have h:=ext_trans (a2p w _ _ _) (ext_trans u y)
 go_wp2_with (go_at_call 84;refine(c7n _ _ _ _ ht).mono ?_;rintro e f ⟨rfl,z⟩;clear a0 a1 a2 b0 b1 b2 c0 c1 c2 f0 f1 f2;have q:=B2.on z;obtain⟨a0,a1,a2,b0,b1,b2,c0,c1,c2,f0,f1,f2⟩:=id q;refine Hid.out ?_)
 refine Lib.hid ?_
 have j:=q.size
 have i:=ext_trans h z
 go_wp2_with (go_at_call 73;refine(a1c false _).mono ?_;rintro e g ⟨rfl,rfl⟩)
 refine bodyPost_ret (v:=.tuple #[val 1 0 ⟨#[]⟩,vi 0]) (by simp[results,Tryz.results137,go_sem,c0,c1,c2,j]) rfl ⟨rfl,?_⟩
 exact ext_alloc (((i.setCell (by simp;omega) _).setCell (by simp;omega) _).setCell (by simp;omega) _) _
theorem c7q(k n k' n':Int)(s s':ByteArray)(w:World)(ha:mayB k n s=true)(hb:mayB k' n' s'=true)(ht:truthB k n s=false) :
  Cl 137 #[vi 10,val k n s,val k' n' s'] w fun e o=>e=.returned (.tuple #[val 1 1 ⟨#[]⟩,vi 0])/\Bw w o:=by
 have B0:=a2y w k n k' n' 0 0 s s' ⟨#[]⟩
 go_enter Tryz.func137,Tryz.ntmps137
 go_wp2_with (go_at_call 35;refine(a1r _ _ _ _ ha).mono ?_;rintro e w1 ⟨rfl,u⟩;have p:=B0.on u;obtain⟨a0,a1,a2,b0,b1,b2,c0,c1,c2,f0,f1,f2⟩:=id p;refine Hid.out ?_)
 refine Lib.hid ?_
 go_wp2_with (go_at_call 35;refine(a1r _ _ _ _ hb).mono ?_;rintro e w2 ⟨rfl,y⟩;clear a0 a1 a2 b0 b1 b2 c0 c1 c2 f0 f1 f2;have B2:=p.on y;obtain⟨a0,a1,a2,b0,b1,b2,c0,c1,c2,f0,f1,f2⟩:=id B2;refine Hid.out ?_)
 refine Lib.hid ?_
 have m:=B2.size
 have h:=ext_trans (a2p w _ _ _) (ext_trans u y)
 go_wp2_with (go_at_call 84;refine(c7o _ _ _ _ ht).mono ?_;rintro e f ⟨rfl,z⟩;clear a0 a1 a2 b0 b1 b2 c0 c1 c2 f0 f1 f2;have q:=B2.on z;obtain⟨a0,a1,a2,b0,b1,b2,c0,c1,c2,f0,f1,f2⟩:=id q;refine Hid.out ?_)
 refine Lib.hid ?_
 have j:=q.size
 have i:=ext_trans h z
 go_wp2_with (go_at_call 73;refine(a1c true _).mono ?_;rintro e g ⟨rfl,rfl⟩)
 refine bodyPost_ret (v:=.tuple #[val 1 1 ⟨#[]⟩,vi 0]) (by simp[results,Tryz.results137,go_sem,c0,c1,c2,j]) rfl ⟨rfl,?_⟩
 exact ext_alloc (((i.setCell (by simp;omega) _).setCell (by simp;omega) _).setCell (by simp;omega) _) _
theorem c9x(k n k' n':Int)(s s':ByteArray)(k3 n3 er:Int)(s3:ByteArray)(w:World)(ha:mayB k n s=true)(hb:mayB k' n' s'=true)(hr:∀w,Cl 156 #[vi 2,val 2 0 ⟨#[]⟩,val k n s] w fun e q=>e=.returned (.tuple #[val k3 n3 s3,vi er])/\Bw w q) :
  Cl 137 #[vi 11,val k n s,val k' n' s'] w fun e q=>e=.returned (.tuple #[val k3 n3 s3,vi er])/\Bw w q:=by
 have B0:=a2y w k n k' n' 0 0 s s' ⟨#[]⟩
 go_enter Tryz.func137,Tryz.ntmps137
 go_wp2_with (go_at_call 35;refine(a1r _ _ _ _ ha).mono ?_;rintro e w1 ⟨rfl,u⟩;have o:=B0.on u;obtain⟨a0,a1,a2,b0,b1,b2,c0,c1,c2,f0,f1,f2⟩:=id o;refine Hid.out ?_)
 refine Lib.hid ?_
 go_wp2_with (go_at_call 35;refine(a1r _ _ _ _ hb).mono ?_;rintro e w2 ⟨rfl,y⟩;clear a0 a1 a2 b0 b1 b2 c0 c1 c2 f0 f1 f2;have B2:=o.on y;obtain⟨a0,a1,a2,b0,b1,b2,c0,c1,c2,f0,f1,f2⟩:=id B2;refine Hid.out ?_)
 refine Lib.hid ?_
 have m:=B2.size
 have h:=ext_trans (a2p w _ _ _) (ext_trans u y)
 have j:w.heap.size<w2.heap.size:=by omega
 go_wp2
 go_region_with (first|(go_at_call 72;refine(a3g 0 _).mono ?_;rintro e wn ⟨rfl,rfl⟩)|(go_at_call 156;refine(hr _).mono ?_;rintro e a ⟨rfl,z⟩;have i:=ext_trans (a1x (ext_alloc h _)) z;have p:=(B2.alloc' _).drew.on z;obtain⟨A0,A1,A2,D0,D1,D2,d,f,g,F0,F1,F2⟩:=id p;have hz:=p.size))
 all_goals
  go_wp2
  refine bodyPost_ret (v:=.tuple #[val k3 n3 s3,vi er]) (by simp[results,Tryz.results137,go_sem,d,f,g]) rfl ⟨rfl,?_⟩
  exact((i.setCell (by simp;omega) _).setCell (by simp;omega) _).setCell (by simp;omega) _
theorem a9d(k n k' n':Int)(s s':ByteArray)(k3 n3 er:Int)(s3:ByteArray)(w:World)(ha:mayB k n s=true)(hb:mayB k' n' s'=true)(hr:∀w1,Bw w w1->Cl 158 #[val k n s,val k' n' s'] w1 fun e q=>e=.returned (.tuple #[val k3 n3 s3,vi er])/\Bw w1 q) :
  Cl 137 #[vi 6,val k n s,val k' n' s'] w fun e q=>e=.returned (.tuple #[val k3 n3 s3,vi er])/\Bw w q:=by
 have B0:=a2y w k n k' n' 0 0 s s' ⟨#[]⟩
 go_enter Tryz.func137,Tryz.ntmps137
 go_wp2_with (go_at_call 35;refine(a1r _ _ _ _ ha).mono ?_;rintro e w1 ⟨rfl,u⟩;have m:=B0.on u;obtain⟨a0,a1,a2,b0,b1,b2,c0,c1,c2,f0,f1,f2⟩:=id m;refine Hid.out ?_)
 refine Lib.hid ?_
 go_wp2_with (go_at_call 35;refine(a1r _ _ _ _ hb).mono ?_;rintro e w2 ⟨rfl,y⟩;clear a0 a1 a2 b0 b1 b2 c0 c1 c2 f0 f1 f2;have B2:=m.on y;obtain⟨a0,a1,a2,b0,b1,b2,c0,c1,c2,f0,f1,f2⟩:=id B2;refine Hid.out ?_)
 refine Lib.hid ?_
 have j:=B2.size
 have p:=ext_trans (a2p w _ _ _) (ext_trans u y)
 go_wp2_with (go_at_call 158;refine(hr _ p).mono ?_;rintro e h ⟨rfl,z⟩;clear a0 a1 a2 b0 b1 b2 c0 c1 c2 f0 f1 f2;have o:=B2.on z;obtain⟨a0,a1,a2,b0,b1,b2,c0,c1,c2,f0,f1,f2⟩:=id o;refine Hid.out ?_)
 refine Lib.hid ?_
 have g:=o.size
 have i:=ext_trans p z
 go_wp2
 refine bodyPost_ret (v:=.tuple #[val k3 n3 s3,vi er]) (by simp[results,Tryz.results137,go_sem,c0,c1,c2]) rfl ⟨rfl,?_⟩
 exact((i.setCell (by simp;omega) _).setCell (by simp;omega) _).setCell (by simp;omega) _
theorem d6z(k n k' n':Int)(s s':ByteArray)(w:World)(h:(k == 2||k == 3)=false) :
  Cl 158 #[val k n s,val k' n' s'] w fun e z=>e=.returned (.tuple #[val 0 0 ⟨#[]⟩,vi 3])/\Bw w z:=by
 have hmf:=hmf
 go_enter Tryz.func158,Tryz.ntmps158
 go_wp2_with (first|(go_at_call 54;go_in)|(go_at_call 85;refine(d6i _ _ k n k' n' s s' _ _ _ _ (by simp) (a0m _ _ _ (by simp) (by simp) _ _ _ _ _ _) h).mono ?_;rintro e z ⟨rfl,rfl⟩))
 refine bodyPost_ret (v:=.tuple #[val 0 0 ⟨#[]⟩,vi 3]) (by simp[results,Tryz.results158,go_sem]) rfl ⟨rfl,?_⟩
 repeat(first|exact Below.refl _ _|refine ext_alloc ?_ _)
theorem d7a(k n k' n':Int)(s s':ByteArray)(w:World)(h:(k == 2||k == 3)=true)(h':(k' == 2||k' == 3)=false) :
  Cl 158 #[val k n s,val k' n' s'] w fun e z=>e=.returned (.tuple #[val 0 0 ⟨#[]⟩,vi 3])/\Bw w z:=by
 have hmf:=hmf
 go_enter Tryz.func158,Tryz.ntmps158
 go_wp2_with (first|(go_at_call 54;go_in)|(go_at_call 85;refine(d6j _ _ k n k' n' s s' _ _ _ _ (by simp) (a0m _ _ _ (by simp) (by simp) _ _ _ _ _ _) h h').mono ?_;rintro e z ⟨rfl,rfl⟩))
 refine bodyPost_ret (v:=.tuple #[val 0 0 ⟨#[]⟩,vi 3]) (by simp[results,Tryz.results158,go_sem]) rfl ⟨rfl,?_⟩
 repeat(first|exact Below.refl _ _|refine ext_alloc ?_ _)
theorem c7r(k n k' n':Int)(s s':ByteArray)(ta tb:ByteArray)(w:World)(h:(k == 2||k == 3)=true)(h':(k' == 2||k' == 3)=true)(Ca:∀w1,Bw w w1->Cl 25 #[val k n s] w1 fun e z=>e=.returned (.string ta)/\Bw w1 z)(Cb:∀w1,Bw w w1->Cl 25 #[val k' n' s'] w1 fun e z=>e=.returned (.string tb)/\Bw w1 z)(la:ta.size<=300)(lb:tb.size<=300)(hs:300<ta.size+tb.size) :
  Cl 158 #[val k n s,val k' n' s'] w fun e z=>e=.returned (.tuple #[val 0 0 ⟨#[]⟩,vi 1])/\Bw w z:=by
 have hmf:=hmf
 have o:=fun(i:World)=>run_string_add_sum (P:=Tryz.prog) (w:=i) ta tb (by omega)
 have B0:=a2y w k n k' n' 0 0 s s' ⟨#[]⟩
 go_enter Tryz.func158,Tryz.ntmps158
 go_wp2_with (first|(go_at_call 54;go_in)|(go_at_call 85;refine(c9r _ _ k n k' n' s s' _ _ _ _ (by simp) (a0m _ _ _ (by simp) (by simp) _ _ _ _ _ _) h h').mono ?_;rintro e z ⟨rfl,rfl⟩))
 have p:=((((B0.alloc' (.cells #[vi k,vi n,.string s,vi k',vi n',.string s'] 52)).alloc' (.cells #[.slice (some (Ad (w.heap.size+1+1+1) 0)) 2 2] 61)).alloc' (.cells #[vi 2,vi 3] 3)).alloc' (box k n s)).alloc' (box k' n' s')
 have q:Bw w ((((((((w.alloc (box k n s)).alloc (box k' n' s')).alloc (box 0 0 ⟨#[]⟩)).alloc (.cells #[vi k,vi n,.string s,vi k',vi n',.string s'] 52)).alloc (.cells #[.slice (some (Ad (w.heap.size+1+1+1) 0)) 2 2] 61)).alloc (.cells #[vi 2,vi 3] 3)).alloc (box k n s)).alloc (box k' n' s')):=ext_alloc (ext_alloc (ext_alloc (ext_alloc (ext_alloc (a2p _ _ _ _) _) _) _) _) _
 generalize g:(((((((w.alloc (box k n s)).alloc (box k' n' s')).alloc (box 0 0 ⟨#[]⟩)).alloc (.cells #[vi k,vi n,.string s,vi k',vi n',.string s'] 52)).alloc (.cells #[.slice (some (Ad (w.heap.size+1+1+1) 0)) 2 2] 61)).alloc (.cells #[vi 2,vi 3] 3)).alloc (box k n s)).alloc (box k' n' s')=W at p q
 clear g
 obtain⟨a0,a1,a2,b0,b1,b2,c0,c1,c2,f0,f1,f2⟩:=id p
 go_region_held3 (fun z=>z.cell? (Ad w.heap.size 0)=some (vi k)/\z.cell? (Ad w.heap.size 1)=some (vi n)/\z.cell? (Ad w.heap.size 2)=some (.string s)/\z.cell? (Ad (w.heap.size+1) 0)=some (vi k')/\z.cell? (Ad (w.heap.size+1) 1)=some (vi n')/\z.cell? (Ad (w.heap.size+1) 2)=some (.string s')) (go_keep) (first|(go_at_call_of 25 s;refine(Ca _ (a1x q)).mono ?_;rintro e w1 ⟨rfl,u⟩;have m:=ext_trans (a1x q) u;have B2:=p.drew.on u;obtain⟨a0,a1,a2,b0,b1,b2,c0,c1,c2,f0,f1,f2⟩:=id B2)|(go_at_call_of 25 s';refine(Cb _ m).mono ?_;rintro e w2 ⟨rfl,y⟩;have f:=ext_trans m y;have j:=B2.on y;obtain⟨A0,A1,A2,D0,D1,D2,C0,a,d,F0,F1,F2⟩:=id j;have hz:=j.size))
 go_wp2
 refine bodyPost_ret (v:=.tuple #[val 0 0 ⟨#[]⟩,vi 1]) (by simp[results,Tryz.results158,go_sem,C0,a,d]) rfl ⟨rfl,?_⟩
 exact((f.setCell (by simp;omega) _).setCell (by simp;omega) _).setCell (by simp;omega) _
theorem d3g(k n k' n':Int)(s s':ByteArray)(ta tb:ByteArray)(w:World)(h:(k == 2||k == 3)=true)(h':(k' == 2||k' == 3)=true)(Ca:∀w1,Bw w w1->Cl 25 #[val k n s] w1 fun e z=>e=.returned (.string ta)/\Bw w1 z)(Cb:∀w1,Bw w w1->Cl 25 #[val k' n' s'] w1 fun e z=>e=.returned (.string tb)/\Bw w1 z)(hs:ta.size+tb.size<=300) :
  Cl 158 #[val k n s,val k' n' s'] w fun e z=>e=.returned (.tuple #[val 3 0 (ta++tb),vi 0])/\Bw w z:=by
 have hmf:=hmf
 have o:=fun(i:World)=>run_string_add_sum (P:=Tryz.prog) (w:=i) ta tb (by omega)
 have B0:=a2y w k n k' n' 0 0 s s' ⟨#[]⟩
 go_enter Tryz.func158,Tryz.ntmps158
 go_wp2_with (first|(go_at_call 54;go_in)|(go_at_call 85;refine(c9r _ _ k n k' n' s s' _ _ _ _ (by simp) (a0m _ _ _ (by simp) (by simp) _ _ _ _ _ _) h h').mono ?_;rintro e z ⟨rfl,rfl⟩))
 have p:=((((B0.alloc' (.cells #[vi k,vi n,.string s,vi k',vi n',.string s'] 52)).alloc' (.cells #[.slice (some (Ad (w.heap.size+1+1+1) 0)) 2 2] 61)).alloc' (.cells #[vi 2,vi 3] 3)).alloc' (box k n s)).alloc' (box k' n' s')
 have q:Bw w ((((((((w.alloc (box k n s)).alloc (box k' n' s')).alloc (box 0 0 ⟨#[]⟩)).alloc (.cells #[vi k,vi n,.string s,vi k',vi n',.string s'] 52)).alloc (.cells #[.slice (some (Ad (w.heap.size+1+1+1) 0)) 2 2] 61)).alloc (.cells #[vi 2,vi 3] 3)).alloc (box k n s)).alloc (box k' n' s')):=ext_alloc (ext_alloc (ext_alloc (ext_alloc (ext_alloc (a2p _ _ _ _) _) _) _) _) _
 generalize g:(((((((w.alloc (box k n s)).alloc (box k' n' s')).alloc (box 0 0 ⟨#[]⟩)).alloc (.cells #[vi k,vi n,.string s,vi k',vi n',.string s'] 52)).alloc (.cells #[.slice (some (Ad (w.heap.size+1+1+1) 0)) 2 2] 61)).alloc (.cells #[vi 2,vi 3] 3)).alloc (box k n s)).alloc (box k' n' s')=W at p q
 clear g
 obtain⟨a0,a1,a2,b0,b1,b2,c0,c1,c2,f0,f1,f2⟩:=id p
 go_region_held3 (fun z=>z.cell? (Ad w.heap.size 0)=some (vi k)/\z.cell? (Ad w.heap.size 1)=some (vi n)/\z.cell? (Ad w.heap.size 2)=some (.string s)/\z.cell? (Ad (w.heap.size+1) 0)=some (vi k')/\z.cell? (Ad (w.heap.size+1) 1)=some (vi n')/\z.cell? (Ad (w.heap.size+1) 2)=some (.string s')) (go_keep) (first|(go_at_call_of 25 s;refine(Ca _ (a1x q)).mono ?_;rintro e w1 ⟨rfl,u⟩;have m:=ext_trans (a1x q) u;have B2:=p.drew.on u;obtain⟨a0,a1,a2,b0,b1,b2,c0,c1,c2,f0,f1,f2⟩:=id B2)|(go_at_call_of 25 s';refine(Cb _ m).mono ?_;rintro e w2 ⟨rfl,y⟩;have f:=ext_trans m y;have j:=B2.on y;obtain⟨A0,A1,A2,D0,D1,D2,C0,a,d,F0,F1,F2⟩:=id j;have hz:=j.size))
 go_wp2
 refine bodyPost_ret (v:=.tuple #[val 3 0 (ta++tb),vi 0]) (by simp[results,Tryz.results158,go_sem,C0,a,d]) rfl ⟨rfl,?_⟩
 exact((f.setCell (by simp;omega) _).setCell (by simp;omega) _).setCell (by simp;omega) _
end Go.Proofs.YtfbpdbndejefdaaGreatDoor.V
