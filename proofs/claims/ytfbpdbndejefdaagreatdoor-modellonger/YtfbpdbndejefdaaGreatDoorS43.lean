/- The program's lay: a node with its slots. -/
import Derived.Test.YtfbpdbndejefdaaGreatDoorS24
import Derived.Test.YtfbpdbndejefdaaGreatDoorS42
namespace Go.Proofs.YtfbpdbndejefdaaGreatDoor.V
open Go.RowKit Go
set_option maxRecDepth 100000
set_option maxHeartbeats 8000000
set_option linter.all false
variable {W:World} {B:Nat} {a b c d e:Value}
theorem d7x:(Tryz.prog.info? 34).map (fun i=>(i.zero,i.size,i.bytes))=some (some (.agg #[vi 0,.string ⟨#[]⟩,vi 0,vi 0,.slice none 0 0]),5,64):=by kernel_rfl
abbrev pbx (x:Pt) (b:Option Addr) (cap:Nat):Obj:=.cells #[vi x.k,.string x.t,vi x.n,vi x.sl,.slice b x.kids.length cap] 34
abbrev zpx:Obj:=.cells #[vi 0,.string ⟨#[]⟩,vi 0,vi 0,.slice none 0 0] 34
structure In5 (W:World) (B:Nat) (a b c d e:Value):Prop where
 c0:W.cell? (Ad B 0)=some a
 c1:W.cell? (Ad B 1)=some b
 c2:W.cell? (Ad B 2)=some c
 c3:W.cell? (Ad B 3)=some d
 c4:W.cell? (Ad B 4)=some e
 f0:W.frozen? (Ad B 0)=false
 f1:W.frozen? (Ad B 1)=false
 f2:W.frozen? (Ad B 2)=false
 f3:W.frozen? (Ad B 3)=false
 f4:W.frozen? (Ad B 4)=false
theorem in5(h:W.heap[B]?=some (.cells #[a,b,c,d,e] 34)):In5 W B a b c d e:=⟨cell_block h rfl,cell_block h rfl,cell_block h rfl,cell_block h rfl,cell_block h rfl,frozen_block h,frozen_block h,frozen_block h,frozen_block h,frozen_block h⟩
abbrev put5 (W:World) (B:Nat) (a b c d e:Value):World:=((((W.setCell (Ad B 0) a).setCell (Ad B 1) b).setCell (Ad B 2) c).setCell (Ad B 3) d).setCell (Ad B 4) e
theorem put5_same(a' b' c' d' e':Value)(h:W.heap[B]?=some (.cells #[a,b,c,d,e] 34)):(put5 W B a' b' c' d' e').heap[B]?=some (.cells #[a',b',c',d',e'] 34):=set_block _ (set_block _ (set_block _ (set_block _ (set_block _ h))))
theorem put5_self(W:World)(B:Nat)(a b c d e:Value):a0b (fun k=>k=B) W (put5 W B a b c d e) :=
 (((((a0b.refl (fun k=>k=B) W).set B 0 a (fun _=>rfl)).set B 1 b (fun _=>rfl)).set B 2 c (fun _=>rfl)).set B 3 d (fun _=>rfl)).set B 4 e (fun _=>rfl)
theorem d9m{tm:Array Value}{v:Value}(h:tm[4]?.getD undef=Po B 0)(hv:tm[5]?.getD undef=v)(hx:W.heap[B]?=some (.cells #[a,b,c,d,e] 34)):(results Tryz.f9 tm).run Tryz.prog W=.ok (.tuple #[.agg #[a,b,c,d,e],v]) W:=by
 obtain⟨c0,c1,c2,c3,c4,_,_,_,_,_⟩:=in5 hx
 subst hv
 simp[results,Tryz.results9,go_sem,h,c0,c1,c2,c3,c4]
def SlV (W:World) (v:Value) (sl:List Int):Prop:=∃a cap,v=.slice a sl.length cap/\sl.length<=cap/\(sl=[]\/∃g off,a=some (Ad g off)/\g<W.heap.size/\∀(j:Nat) (x:Int),sl[j]?=some x->W.cell? (Ad g (off+j))=some (vi x))
theorem c4g(n:Nd):∀s:List Int,manyN n<=s.length->(layN n s).2=s.drop (manyN n):=by
 refine a6j (m:=fun n=>∀s:List Int,manyN n<=s.length->(layN n s).2=s.drop (manyN n)) (fun k t o ks v s h=>?_) n
 have key:∀(l:List Nd) (s:List Int),(∀x∈l,x∈ks)->manyN.go l<=s.length->(layN.go l s).2=s.drop (manyN.go l):=by
  intro l
  induction l with
  | nil=>intro s _ _;simp[layN.go,manyN.go]
  | cons x l ih2 =>
   intro s z h
   simp only[manyN.go]at h⊢
   simp only[layN.go]
   rw[v x (z x (by simp)) s (by omega),ih2 _ (fun y u=>z y (by simp[u])) (by simp;omega),List.drop_drop]
 simp only[manyN]at h⊢
 simp only[layN]
 rw[key ks s.tail (fun _ h=>h) (by simp;omega)]
 cases s with
 | nil=>simp at h
 | cons a s=>simp
end Go.Proofs.YtfbpdbndejefdaaGreatDoor.V
