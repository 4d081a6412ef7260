/- A value once more, in memory of its own; a row of values. -/
import Derived.Test.YthljpnmhddfblaaGreatDoorS29
namespace Go.Proofs.YthljpnmhddfblaaGreatDoor
open Go.RowKit Go
set_option maxRecDepth 100000
set_option maxHeartbeats 8000000
set_option linter.all false
section
variable [DecidableEq Vl]
theorem clone_any(t:ByteArray)(W:World)(ht:t.size<=300):Calls Tryz.prog 29 #[.string t] W fun e W'=>e=.returned (.string t)/\Below W.heap.size W W':=by
 have hc:=fun w=>Tryz.stringslite_Clone t w (by omega)
 go_enter Tryz.func29,Tryz.ntmps29
 go_wp2_with (go_at_call 38;refine(hc _).mono ?_;rintro e w2 ⟨rfl,hb2⟩)
 go_ret
 exact⟨rfl,hb2⟩
theorem res70{tm:Array Value}{W:World}{B:Nat}{x:Vl}(h:tm[2]?.getD undef=.pointer (some ⟨B,0,none⟩))(hx:W.heap[B]?=some (bx x)):(results Tryz.f25 tm).run Tryz.prog W=.ok x.v W:=by
 obtain⟨c0,c1,c2,_,_,_⟩:=in3 hx
 simp[results,Tryz.results25,go_sem,h,c0,c1,c2]
theorem new2'(W:World)(a b:Obj):((W.alloc a).alloc b).heap[W.heap.size+1]?=some b:=by
 have:=heap_new (W.alloc a) b
 simpa using this
theorem freshV_any(v:Vl)(W:World)(hv:v.s.size<=300):Calls Tryz.prog 25 #[v.v] W fun e W'=>e=.returned v.v/\Below W.heap.size W W':=by
 have hc:=clone_any v.s
 have E0:=ext_alloc (ext_alloc (Below.refl W.heap.size W) (bx v)) (bx nilV)
 have g0:((W.alloc (bx v)).alloc (bx nilV)).heap[W.heap.size]?=some (bx v):=block_alloc _ (heap_new _ _)
 have g1:=new2' W (bx v) (bx nilV)
 go_enter Tryz.func25,Tryz.ntmps25
 go_wp2_with (go_at_call 29;refine(hc _ hv).mono ?_;rintro e w2 ⟨rfl,hb2⟩;obtain⟨a0,a1,a2,f0,f1,f2⟩:=in3 (block_below hb2 g0);obtain⟨b0,b1,b2,z0,z1,z2⟩:=in3 (block_below hb2 g1);refine Hid.out ?_)
 refine Lib.hid ?_
 have hz:=block_lt (block_below hb2 g1)
 have e1:=set_block (i:=2) (.string v.s) (block_below hb2 g0)
 have e2:(w2.setCell ⟨W.heap.size,2,none⟩ (.string v.s)).heap[W.heap.size+1]?=some (bx nilV):=(set1_other _ _ (by omega)).trans (block_below hb2 g1)
 have E2:Below W.heap.size W (w2.setCell ⟨W.heap.size,2,none⟩ (.string v.s)):=(ext_trans E0 hb2).setCell (p:=⟨W.heap.size,2,none⟩) (Nat.le_refl _) _
 go_wp2
 refine bodyPost_ret (res70 (B:=W.heap.size+1) (x:=v) rfl ?_) rfl ⟨rfl,?_⟩
 ·exact put3_same v e2
 ·exact put3_below v E2 (by omega)
theorem made_row(T:TypeId)(e:TypeId)(z:Value)(sz by' n:Nat)(hu:Tryz.prog.underlying T=some (.slice e))(hi:(Tryz.prog.info? e).map (fun i=>(i.zero,i.size,i.bytes))=some (some z,sz,by'))(hn:n<=100000)(hsz:sz<=100)(hby:by'<=1000):∃mc:Array Value,(∀u:World,(Instr.makeSlice T (.int .i64 0) (.int .i64 (n:Nat))).run Tryz.prog u=.ok (.slice (some ⟨u.heap.size,0,none⟩) 0 n) (u.alloc (.cells mc e)))/\mc.size=n*sz:=by
 obtain⟨i0,hi0,hz0,hz1,hz2⟩:=info_parts hi
 refine⟨madeCells z.cells (n*sz),fun u=>?_,size_madeCells _ _⟩
 have hm:n*sz<=100000*100:=Nat.mul_le_mul hn hsz
 have hm2:by'*n<=1000*100000:=Nat.mul_le_mul hby hn
 have hm3:(by':Int)*(n:Int)<=281474976710656:=by
  have h9:((by'*n:Nat):Int)<=281474976710656:=by omega
  rwa [Int.natCast_mul]at h9
 have:=run_makeSlice (P:=Tryz.prog) (w:=u) T e i0 _ hu hi0 hz0 .i64 .i64 0 (n:Nat) (by omega) (by omega) (by rw[hz1];simp only[Int.toNat_natCast];omega) (by rw[hz2];exact hm3) (by omega)
 rw[hz1]at this
 simp only[Int.toNat_natCast,Int.toNat_zero]at this
 exact this
theorem OwnR.made{W:World}{mc:Array Value}{e:TypeId}{n sz:Nat}(hs:mc.size=n*sz)(hn:n<=100000):OwnR (W.alloc (.cells mc e)) W.heap.size e sz 0 n [] :=
 ⟨by simp,mc,heap_new _ _,Nat.zero_le _,by unfold maxLen;omega,hs,by simp⟩
theorem eachV_any(sv:Value)(xs:List Vl)(W:World)(hr:Row W.heap.size W sv xs)(hl:xs.length<=1000)(hs:∀x∈xs,x.s.size<=300) :
  Calls Tryz.prog 24 #[sv,.func (.func 25) #[] #[]] W fun e W'=>∃g cap,e=.returned (.slice (some ⟨g,0,none⟩) xs.length cap)/\OwnR W' g 25 3 xs.length cap (flat xs)/\W.heap.size<=g/\Below W.heap.size W W':=by
 obtain⟨a,cp,rfl,_,hx⟩:=hr
 obtain⟨n,hn⟩:∃n,xs.length=n:=⟨_,rfl⟩
 rw[hn]at hl⊢
 obtain⟨mc,hmk,hms⟩:=made_row 27 25 _ 3 32 n Tryz.underlying27 info26 (by omega) (by omega) (by omega)
 obtain⟨i0,hi0,hz0,hz1,hz2⟩:=info_parts info26
 replace hn:Hid _:=hn
 replace hx:Hid _:=hx
 replace hs:Hid _:=hs
 go_enter Tryz.func24,Tryz.ntmps24
 go_wp2
 go_loopw [5,13] (fun t i wr=>∃k g cap:Nat,k<=n/\i=.int .i64 (k:Nat)/\t=.slice (some ⟨g,0,none⟩) k cap/\Hid (OwnR wr g 25 3 k cap (flat (xs.take k)))/\W.heap.size<=g/\Below W.heap.size W wr) (fun _ i _=>n-(intOf i).toNat)
 case atStart=>exact⟨0,W.heap.size,n,Nat.zero_le _,rfl,rfl,OwnR.made hms (by omega),Nat.le_refl _,ext_alloc (Below.refl _ _) _⟩
 case round =>
  obtain⟨k,g,cap,hk,rfl,rfl,hO,hg,hbw⟩:=hrel
  by_cases hlt:k<n
  ·obtain⟨x,hxk⟩:∃x,xs[k]?=some x:=⟨xs[k]'(by rw[hn.out];exact hlt),List.getElem?_eq_getElem _⟩
   obtain⟨b,off,rfl,hb,hc⟩:=hx.out (fun e=>by rw[e]at hxk;simp at hxk)
   obtain⟨c0,c1,c2⟩:=(hc k x hxk).below hbw hb
   have hxs:=hs.out x (List.mem_of_getElem? hxk)
   have hbwr:b<wr.heap.size:=Nat.lt_of_lt_of_le hb hbw.size
   have hfv:=freshV_any x (wr.alloc (.cells #[.int .i64 x.k,.int .i64 x.n,.string x.s] 25)) hxs
   have hgl:g<wr.heap.size:=hO.out.lt
   have h63:k+1<=maxLen:=by unfold maxLen;omega
   have hby:(k+1)*32<=140737488355328:=by omega
   go_wp2_with (first|(go_at_call 25;refine hfv.mono ?_;rintro e w2 ⟨rfl,hb2⟩;have E2:=ext_trans (ext_alloc (Below.refl wr.heap.size wr) (.cells #[.int .i64 x.k,.int .i64 x.n,.string x.s] 25)) hb2;have E3:=ext_alloc E2 (.cells #[.int .i64 x.k,.int .i64 x.n,.string x.s] 25);have hown:=(hO.out.same (E3.block g hgl)).owns (base:=W.heap.size) hg;have hnews:=news (W:=w2.alloc (.cells #[.int .i64 x.k,.int .i64 x.n,.string x.s] 25)) (heap_new w2 _);have hsz:W.heap.size<=(w2.alloc (.cells #[.int .i64 x.k,.int .i64 x.n,.string x.s] 25)).heap.size:=Nat.le_trans hbw.size E3.size)|(at_builtin;refine wpList_append_lies _ (by rfl) _ _ _ (by rfl) W.heap.size 25 i0 _ 3 32 Tryz.underlying27 hi0 hz0 hz1 hz2 rfl (by omega) (.slice (some ⟨g,0,none⟩) k cap) k _ (by rfl) hown ⟨w2.heap.size,0,none⟩ 1 1 (trio x) (by rfl) (by rfl) hnews (by simp[Value.oneCell']) (by omega) h63 hby hsz _ rfl ?_;intro g3 cap3 w3 hown3 hgrow hat hlt3))
   go_roundw
   case measure=>simp[intOf];omega
   case rel =>
    have hO3:=OwnR.of hown3
    refine⟨k+1,g3,cap3,by omega,by go_num,rfl,?_,hO3.2,?_⟩
    ·rw[take_snoc hxk,flat_snoc]
     exact hO3.1
    ·have hk3:=Keeps.grown hgrow
     exact(((Keeps.of_below (S:=fun k=>some k=some g) hbw).trans ((Keeps.of_below (S:=fun k=>some k=some g) E3).mono (fun _ _ h=>h))).trans hk3).below (Nat.le_refl _) (fun k hk e=>by have:=Option.some.inj e;omega)
  ·obtain rfl:k=n:=by omega
   go_wp2
   go_ret
   refine⟨g,cap,rfl,?_,hg,hbw⟩
   have:=hO.out
   rw[List.take_of_length_le (by rw[hn.out];exact Nat.le_refl _)]at this
   exact this
end
end Go.Proofs.YthljpnmhddfblaaGreatDoor
