import Derived.Test.YtomniogfpfbolaaGreatDoorS04
import Derived.WalkSpells
import Derived.WalkLawsBesides
import Derived.Handy
import Derived.Lib.Hide
namespace Go.Proofs.YtomniogfpfbolaaGreatDoor
open Go.RowKit Go
set_option maxRecDepth 100000
set_option maxHeartbeats 8000000
set_option linter.all false
theorem exq{α:Sort _}(a:α):∃x,a=x:=⟨a,rfl⟩
variable {a w:World}
theorem a3l{k:IntKind}{a b:Int}(h:a=b):Ending.returned (.int k a)=.returned (.int k b):=by rw[h]
theorem ret_bool{a b:Bool}(h:a=b):Ending.returned (.bool a)=.returned (.bool b):=by rw[h]
theorem hmf:∀(fn:Fn) (z cap:Array Value) (w:World),(Instr.makeFunc fn z cap).run Tryz.prog w=.ok (.func fn z cap) w:=fun _ _ _ _=>rfl
theorem q1z(h:Bw a w)(o:Obj):Bw a (w.alloc o):=h.alloc h.size o
theorem q3z{b c:World}(h:Bw a b)(k:Bw b c):Bw a c:=h.trans (k.mono h.size)
def b8p (c:Nat) (sp:List (Nat×Nat)) (w:World):Prop :=
 ∃v,w.cell? (Ad c 0)=some (.slice (some (Ad v 0)) sp.length sp.length)/\∀i p,sp[i]?=some p->w.cell? (Ad v (i*2))=some (.int .u8 (p.1:Nat))/\w.cell? (Ad v (i*2+1))=some (.int .u8 (p.2:Nat))
theorem b8p.below{c:Nat}{sp:List (Nat×Nat)}{w':World}(h:b8p c sp w){n:Nat}(hb:Below n w w')(hn:w.heap.size<=n):b8p c sp w':=by
 obtain⟨v,h1,h2⟩:=h
 have e:=World.block_lt_of_cell? _ _ h1
 refine⟨v,(hb.cell (p:=(Ad c 0)) (Nat.lt_of_lt_of_le e hn)).trans h1,fun i p y=>?_⟩
 obtain⟨h3,h4⟩:=h2 i p y
 have z:=World.block_lt_of_cell? _ _ h3
 exact⟨(hb.cell (p:=(Ad v (i*2))) (Nat.lt_of_lt_of_le z hn)).trans h3,(hb.cell (p:=(Ad v (i*2+1))) (Nat.lt_of_lt_of_le z hn)).trans h4⟩
def inSp (sp:List (Nat×Nat)) (x:UInt8):Bool:=sp.any fun p=>decide (p.1<=x.toNat)&&decide (x.toNat<=p.2)
theorem c0x(sp:List (Nat×Nat))(x:UInt8)(k:Nat)(p:Nat×Nat)(hp:sp[k]?=some p):inSp (sp.take (k+1)) x=(inSp (sp.take k) x||(decide (p.1<=x.toNat)&&decide (x.toNat<=p.2))):=by
 simp[inSp,List.take_add_one,hp]
theorem c5y(sp:List (Nat×Nat))(x:UInt8)(k:Nat)(p:Nat×Nat)(hp:sp[k]?=some p)(h1:p.1<=x.toNat)(h2:x.toNat<=p.2):inSp sp x=true:=by
 simp only[inSp,List.any_eq_true]
 exact⟨p,List.mem_of_getElem? hp,by simp[h1,h2]⟩
theorem b5b(c:Nat)(sp:List (Nat×Nat))(x:UInt8)(w:World)(hs:b8p c sp w)(hl:sp.length<=4) :
  Cl 121 #[.int .u8 (x.toNat:Int),Po c 0] w fun e w'=>e=.returned (.bool (inSp sp x))/\Bw w w':=by
 obtain⟨v,h1,h2⟩:=id hs
 go_enter Tryz.func121,Tryz.ntmps121
 go_wp2
 go_loopw [8] (fun i wr=>∃k:Nat,k<=sp.length/\i=vi k/\Bw w wr/\inSp (sp.take k) x=false) (fun i _=>sp.length-(intOf i).toNat)
 case atStart=>exact⟨0,Nat.zero_le _,rfl,bz0,by simp[inSp]⟩
 case round =>
  obtain⟨k,hk,rfl,hb,hno⟩:=hrel
  by_cases hlt:k<sp.length
  ·obtain⟨⟨a,b⟩,hp⟩:∃p,sp[k]?=some p:=⟨sp[k],by simp[hlt]⟩
   obtain⟨g1,g2⟩:=h2 k _ hp
   have l1:=World.block_lt_of_cell? _ _ g1
   have g1':Ce wr v (k*2) (.int .u8 (a:Nat)):=(hb.cell (p:=(Ad v (k*2))) l1).trans g1
   have g2':Ce wr v (k*2+1) (.int .u8 (b:Nat)):=(hb.cell (p:=(Ad v (k*2+1))) l1).trans g2
   have ht:=c0x sp x k _ hp
   have hm:=c5y sp x k _ hp
   simp only at ht hm
   replace ht:Hid _:=ht
   replace hm:Hid _:=hm
   replace hno:Hid _:=hno
   clear h1 h2 g1 g2
   by_cases c1:(a:Int)<=(x.toNat:Int)
   ·by_cases c2:(x.toNat:Int)<=(b:Int)
    ·go_wp2
     go_ret
     exact⟨ret_bool (hm.out (by omega) (by omega)).symm,q1z hb _⟩
    ·go_wp2
     go_roundw
     case rel=>exact⟨k+1,by omega,by go_num,q1z hb _,by rw[ht.out,hno.out];simp;omega⟩
     case measure=>simp[intOf];omega
   ·go_wp2
    go_roundw
    case rel=>exact⟨k+1,by omega,by go_num,q1z hb _,by rw[ht.out,hno.out];simp;omega⟩
    case measure=>simp[intOf];omega
  ·go_wp2
   go_ret
   rw[List.take_of_length_le (by omega)]at hno
   exact⟨ret_bool hno.symm,hb⟩
theorem b2z(c:Nat)(x:UInt8)(w:World)(h:w.cell? (Ad c 0)=some (.int .u8 10)) :
  Cl 119 #[.int .u8 (x.toNat:Int),Po c 0] w fun e y=>e=.returned (.bool (a3r x))/\Bw w y:=by
 by_cases hx:x.toNat=10
 ·have z:(x.toNat:Int)=10:=by omega
  rw[z]
  go_enter Tryz.func119,Tryz.ntmps119
  go_wp2
  go_ret
  exact⟨ret_bool (by simp[a3r,hx]),bz0⟩
 ·have z:((x.toNat:Int) == 10)=false:=by simp;omega
  go_enter Tryz.func119,Tryz.ntmps119
  go_wp2
  go_ret
  exact⟨ret_bool (by simp[a3r,hx];omega),bz0⟩
def Says (w:World) (k:Nat) (cap:Value) (p:UInt8->Bool):Prop :=
 ∀(x:UInt8) (w1:World),Bw w w1->Cl k #[.int .u8 (x.toNat:Int),cap] w1 fun e w'=>e=.returned (.bool (p x))/\Bw w1 w'
theorem Says.on{w1:World}{k:Nat}{cap:Value}{p:UInt8->Bool}(h:Says w k cap p)(hb:Bw w w1):Says w1 k cap p :=
 fun x z h2=>h x z (q3z hb h2)
theorem a6n(p:UInt8->Bool)(l:List UInt8)(k:Nat)(c:UInt8)(hc:l[k]?=some c)(h:∀i d,i<k->l[i]?=some d->p d=true) :
  (p c=true->∀i d,i<k+1->l[i]?=some d->p d=true)/\(p c=false->runN p l=k):=by
 refine⟨fun z i d x hd=>?_,fun z=>?_⟩
 ·by_cases e:i=k
  ·subst e;rw[hc]at hd;cases hd;exact z
  ·exact h i d (by omega) hd
 ·have y:k<l.length:=by
   by_cases hh:k<l.length
   ·exact hh
   ·rw[List.getElem?_eq_none (by omega)]at hc;cases hc
  exact a5l p l k (by omega) h (fun d hd=>by rw[hc]at hd;cases hd;exact z)
theorem d4f(s:ByteArray)(hs:s.size<=4000)(cap:Value)(p:UInt8->Bool)(w:World)(hS:Says w 119 cap p) :
  Cl 101 #[.string s,.func (.func 119) #[] #[cap]] w fun e w'=>e=.returned (vi (runN p s.data.toList:Nat))/\Bw w w':=by
 go_enter Tryz.func101,Tryz.ntmps101
 go_wp2
 go_loopw [5] (fun i wr=>∃k:Nat,k<=s.size/\i=vi k/\Bw w wr/\∀i d,i<k->s.data.toList[i]?=some d->p d=true) (fun i _=>s.size-(intOf i).toNat)
 case atStart=>exact⟨0,Nat.zero_le _,rfl,bz0,fun i d h=>by omega⟩
 case round =>
  obtain⟨k,hk,rfl,hb,hno⟩:=hrel
  by_cases hlt:k<s.size
  ·have hc:s.data.toList[k]?=some s[k]:=by
    rw[List.getElem?_eq_getElem (by simpa using hlt)];rfl
   have hT:=a6n p s.data.toList k s[k] hc hno
   have hC:=hS s[k] wr hb
   clear hc
   replace hT:Hid _:=hT
   replace hno:Hid _:=hno
   cases hp:p s[k]
   ·rw[hp]at hC
    replace hp:Hid _:=hp
    go_wp2_with (go_at_call 119;refine hC.mono ?_;rintro e w' ⟨rfl,hb'⟩)
    go_ret
    exact⟨a3l (by rw[hT.out.2 hp.out]),q3z hb hb'⟩
   ·rw[hp]at hC
    replace hp:Hid _:=hp
    go_wp2_with (go_at_call 119;refine hC.mono ?_;rintro e w' ⟨rfl,hb'⟩)
    go_roundw
    case rel=>exact⟨k+1,by omega,by go_num,q3z hb hb',hT.out.1 hp.out⟩
    case measure=>simp[intOf];omega
  ·go_wp2_with fail
   go_ret
   obtain rfl:k=s.size:=by omega
   refine⟨a3l (by rw[a5l p s.data.toList s.size (by simp) (fun i d hi hd=>hno i d hi hd) (fun c hc=>by rw[List.getElem?_eq_none (by simp)]at hc;cases hc)]),hb⟩
theorem c0y(s:ByteArray)(hs:s.size<=4000)(cap:Value)(p:UInt8->Bool)(w:World)(hS:Says w 121 cap p) :
  Cl 101 #[.string s,.func (.func 121) #[] #[cap]] w fun e w'=>e=.returned (vi (runN p s.data.toList:Nat))/\Bw w w':=by
 go_enter Tryz.func101,Tryz.ntmps101
 go_wp2
 go_loopw [5] (fun i wr=>∃k:Nat,k<=s.size/\i=vi k/\Bw w wr/\∀i d,i<k->s.data.toList[i]?=some d->p d=true) (fun i _=>s.size-(intOf i).toNat)
 case atStart=>exact⟨0,Nat.zero_le _,rfl,bz0,fun i d h=>by omega⟩
 case round =>
  obtain⟨k,hk,rfl,hb,hno⟩:=hrel
  by_cases hlt:k<s.size
  ·have hc:s.data.toList[k]?=some s[k]:=by
    rw[List.getElem?_eq_getElem (by simpa using hlt)];rfl
   have hT:=a6n p s.data.toList k s[k] hc hno
   have hC:=hS s[k] wr hb
   clear hc
   replace hT:Hid _:=hT
   replace hno:Hid _:=hno
   cases hp:p s[k]
   ·rw[hp]at hC
    replace hp:Hid _:=hp
    go_wp2_with (go_at_call 121;refine hC.mono ?_;rintro e w' ⟨rfl,hb'⟩)
    go_ret
    exact⟨a3l (by rw[hT.out.2 hp.out]),q3z hb hb'⟩
   ·rw[hp]at hC
    replace hp:Hid _:=hp
    go_wp2_with (go_at_call 121;refine hC.mono ?_;rintro e w' ⟨rfl,hb'⟩)
    go_roundw
    case rel=>exact⟨k+1,by omega,by go_num,q3z hb hb',hT.out.1 hp.out⟩
    case measure=>simp[intOf];omega
  ·go_wp2_with fail
   go_ret
   obtain rfl:k=s.size:=by omega
   refine⟨a3l (by rw[a5l p s.data.toList s.size (by simp) (fun i d hi hd=>hno i d hi hd) (fun c hc=>by rw[List.getElem?_eq_none (by simp)]at hc;cases hc)]),hb⟩
end Go.Proofs.YtomniogfpfbolaaGreatDoor
