/- Rows once more: slices.Clone, slices.Clip. -/
import Derived.Test.YthljpnmhddfblaaGreatDoorS32
namespace Go.Proofs.YthljpnmhddfblaaGreatDoor
open Go.RowKit Go
set_option maxRecDepth 100000
set_option maxHeartbeats 8000000
set_option linter.all false
section
variable [DecidableEq Vl]
theorem own_get{W:World}{base e sz n:Nat}{v:Value}{xs:List Value}(h:W.ownsRow base e sz v n xs)(hn:v≠.slice none 0 0):∃g cap,v=.slice (some ⟨g,0,none⟩) n cap/\OwnR W g e sz n cap xs/\base<=g:=by
 obtain⟨h1,h2⟩:=h
 rcases h2 with⟨e,_⟩|⟨g,cap,cur,e,hb,h2,h3,h4,h5,h6⟩
 ·exact absurd e hn
 ·exact⟨g,cap,e,⟨h1,cur,h2,h3,h4,h5,h6⟩,hb⟩
theorem info25:(Tryz.prog.info? 25).map (fun i=>(i.zero,i.size,i.bytes))=some (some nilV.v,3,32):=by kernel_rfl
structure ClQ (w:World) (T sz n:Nat) (xs:List Value) (e:Ending) (w':World):Prop where
 ex:∃g cap,e=.returned (.slice (some ⟨g,0,none⟩) n cap)/\OwnR w' g T sz n cap xs/\w.heap.size<=g/\Below w.heap.size w w'
theorem cl_end{w w1:World}{T sz n:Nat}{v':Value}{xs:List Value}{o:Obj}(hown:w1.ownsRow w.heap.size T sz v' n xs)(hg:(w.alloc o).grownBy w1 (some w.heap.size))(hnil:v'≠.slice none 0 0):ClQ w T sz n xs (.returned v') w1:=by
 obtain⟨g,cap,rfl,hO,hb⟩:=own_get hown hnil
 exact⟨g,cap,rfl,hO,hb,((Below.refl _ w).alloc (Nat.le_refl _) _).grown hg (by simp) (by intro k hk;simp at hk;omega)⟩
theorem cloneV(b off n c:Nat)(xs:List Value)(w:World)(hn:n<=1000)(hl:xs.length=n*3)(h1:∀u∈xs,u.oneCell'=true)(hc:∀(j:Nat) x,xs[j]?=some x->w.cell? ⟨b,off+j,none⟩=some x) :
  Calls Tryz.prog 126 #[.slice (some ⟨b,off,none⟩) n c] w (ClQ w 25 3 n xs):=by
 obtain⟨i0,hi0,hz0,hz1,hz2⟩:=info_parts info25
 have q:∀(w:World) (a:Option Addr) (n c n' c':Nat),(binOp .eql 27 (.slice a n c) (.slice none n' c')).run Tryz.prog w=.ok (.bool a.isNone) w:=fun w a n c n' c'=>Lib.run_eql_slice_nil w _ _ a n c n' c' Tryz.underlying27
 have A:Hid (∀(j:Nat) x,xs[j]?=some x->w.cell? ⟨b,off+j,none⟩=some x):=hc
 clear hc
 go_enter Tryz.func126,Tryz.ntmps126
 go_wp2_with (at_builtin;refine wpList_append_own_at _ (by rfl) _ _ _ (by rfl) w.heap.size 25 i0 _ 3 32 Tryz.underlying27 hi0 hz0 hz1 hz2 rfl (by decide) (.slice (some ⟨w.heap.size,0,none⟩) 0 0) 0 [] (by rfl) (World.ownsRow_made w #[] 0 (Nat.le_refl _) (Nat.zero_le _) rfl) ⟨b,off,none⟩ n c xs (by rfl) hl ?qc2 h1 ?qc4 ?qc5 ?qc6 ?_)
 case qc2 =>
  intro j u hj
  rw[Addr.add_lit]
  exact Lib.cell?_alloc_some _ (A.out j u hj)
 case qc4=>unfold maxLen;omega
 case qc5=>omega
 case qc6=>simp
 intro v' w1 hown hgrow hnil hat
 have hfin:=cl_end hown hgrow hnil
 replace hfin:Hid _:=hfin
 clear hown hgrow hnil hat
 go_wp2
 go_ret
 exact hfin.out
theorem cloneI(b off n c:Nat)(xs:List Value)(w:World)(hn:n<=1000)(hl:xs.length=n*1)(h1:∀u∈xs,u.oneCell'=true)(hc:∀(j:Nat) x,xs[j]?=some x->w.cell? ⟨b,off+j,none⟩=some x) :
  Calls Tryz.prog 103 #[.slice (some ⟨b,off,none⟩) n c] w (ClQ w 3 1 n xs):=by
 obtain⟨i0,hi0,hz0,hz1,hz2⟩:=info_parts (T:=3) (z:=.int .i64 0) (sz:=1) (by':=8) (by kernel_rfl)
 have q:∀(w:World) (a:Option Addr) (n c n' c':Nat),(binOp .eql 96 (.slice a n c) (.slice none n' c')).run Tryz.prog w=.ok (.bool a.isNone) w:=fun w a n c n' c'=>Lib.run_eql_slice_nil w _ _ a n c n' c' Tryz.underlying96
 have A:Hid (∀(j:Nat) x,xs[j]?=some x->w.cell? ⟨b,off+j,none⟩=some x):=hc
 clear hc
 go_enter Tryz.func103,Tryz.ntmps103
 go_wp2_with (at_builtin;refine wpList_append_own_at _ (by rfl) _ _ _ (by rfl) w.heap.size 3 i0 _ 1 8 Tryz.underlying96 hi0 hz0 hz1 hz2 rfl (by decide) (.slice (some ⟨w.heap.size,0,none⟩) 0 0) 0 [] (by rfl) (World.ownsRow_made w #[] 0 (Nat.le_refl _) (Nat.zero_le _) rfl) ⟨b,off,none⟩ n c xs (by rfl) hl ?qc2 h1 ?qc4 ?qc5 ?qc6 ?_)
 case qc2 =>
  intro j u hj
  rw[Addr.add_lit]
  exact Lib.cell?_alloc_some _ (A.out j u hj)
 case qc4=>unfold maxLen;omega
 case qc5=>omega
 case qc6=>simp
 intro v' w1 hown hgrow hnil hat
 have hfin:=cl_end hown hgrow hnil
 replace hfin:Hid _:=hfin
 clear hown hgrow hnil hat
 go_wp2
 go_ret
 exact hfin.out
theorem cloneT(a:Option Addr)(c:Nat)(w:World):Calls Tryz.prog 127 #[.slice a 0 c] w fun e w'=>(∃a' c',e=.returned (.slice a' 0 c'))/\Below w.heap.size w w':=by
 obtain⟨i0,hi0,hz0,hz1,hz2⟩:=info_parts info57
 have q:∀(w:World) (a:Option Addr) (n c n' c':Nat),(binOp .eql 34 (.slice a n c) (.slice none n' c')).run Tryz.prog w=.ok (.bool a.isNone) w:=fun w a n c n' c'=>Lib.run_eql_slice_nil w _ _ a n c n' c' Tryz.underlying34
 cases a with
 | none =>
  go_enter Tryz.func127,Tryz.ntmps127
  go_wp2
  go_ret
  exact⟨⟨_,_,rfl⟩,Below.refl _ _⟩
 | some p =>
  go_enter Tryz.func127,Tryz.ntmps127
  go_wp2
  go_ret
  exact⟨⟨_,_,rfl⟩,ext_alloc (Below.refl _ _) _⟩
theorem clip0(a:Option Addr)(c:Nat)(w:World):Calls Tryz.prog 128 #[.slice a 0 c] w fun e w'=>(∃a' c',e=.returned (.slice a' 0 c'))/\w'=w:=by
 cases a with
 | none =>
  go_enter Tryz.func128,Tryz.ntmps128
  go_wp2
  go_ret
  exact⟨⟨_,_,rfl⟩,rfl⟩
 | some p =>
  go_enter Tryz.func128,Tryz.ntmps128
  go_wp2
  go_ret
  exact⟨⟨_,_,rfl⟩,rfl⟩
end
end Go.Proofs.YthljpnmhddfblaaGreatDoor
