/- A machine is made out of a state. -/
import Derived.Test.YthljpnmhddfblaaGreatDoorS38
namespace Go.Proofs.YthljpnmhddfblaaGreatDoor
open Go.RowKit Go
set_option maxRecDepth 100000
set_option maxHeartbeats 8000000
set_option linter.all false
section
variable [DecidableEq Vl]
theorem Rw.onTo{W C:World}{O O':List Nat}{sv:Value}{xs:List Vl}(h:Rw W O sv xs)(hb:Below W.heap.size W C)(hO:∀k,k<W.heap.size->k∉O->k∉O'):Rw C O' sv xs:=by
 obtain⟨a,cap,e,hl,hx⟩:=h
 refine⟨a,cap,e,hl,fun hne=>?_⟩
 obtain⟨b,off,ea,h1,h2,hc⟩:=hx hne
 refine⟨b,off,ea,hO b h2 h1,Nat.lt_of_lt_of_le h2 hb.size,fun j x hj=>?_⟩
 obtain⟨t0,t1,t2⟩:=hc j x hj
 exact⟨(hb.cell (p:=⟨b,_,none⟩) h2).trans t0,(hb.cell (p:=⟨b,_,none⟩) h2).trans t1,(hb.cell (p:=⟨b,_,none⟩) h2).trans t2⟩
theorem FS.mc{W0 W:World}{F fc T tc U uc lo:Nat}{fw:List Fw}{tw:List Tw}{s:St}(h:FS lo W F fc T tc U uc fw tw s)(hlo:W0.heap.size<=lo)(hb:Below W0.heap.size W0 W)(fv:Value)(mn:Int) :
  Mc W0 ⟨W.heap.size,F,fc,T,tc,U,uc,fw,tw,[]⟩ fv mn s (W.alloc (mcb fv mn ⟨W.heap.size,F,fc,T,tc,U,uc,fw,tw,[]⟩ s.fr.length s.tb.length s.out.length s.st s.en s.er s.la.k s.la.n s.la.s)):=by
 have hB:=ext_alloc (Below.refl W.heap.size W) (mcb fv mn ⟨W.heap.size,F,fc,T,tc,U,uc,fw,tw,[]⟩ s.fr.length s.tb.length s.out.length s.st s.en s.er s.la.k s.la.n s.la.s)
 have hlt:∀k∈F::T::U::fw.map Fw.g,k<W.heap.size:=fun k hk=>by
  rcases List.mem_cons.1 hk with rfl|hk
  ·exact h.fo.lt
  rcases List.mem_cons.1 hk with rfl|hk
  ·exact h.to.lt
  rcases List.mem_cons.1 hk with rfl|hk
  ·exact h.uo.lt
  obtain⟨q,hq,rfl⟩:=List.mem_map.1 hk
  exact(h.rg q hq).lt
 have hno:∀k,k<W.heap.size->k∉(F::T::U::fw.map Fw.g)++[]->k∉(W.heap.size::F::T::U::fw.map Fw.g)++[]:=fun k h1 h2 h3=>by
  rw[List.append_nil]at h2 h3
  rcases List.mem_cons.1 h3 with rfl|h3
  ·omega
  exact h2 h3
 refine⟨heap_new _ _,h.fo.same (hB.block _ h.fo.lt),h.to.same (hB.block _ h.to.lt),h.uo.same (hB.block _ h.uo.lt),fun q hq=>(h.rg q hq).same (hB.block _ (h.rg q hq).lt),h.hf,h.ht,fun q hq=>⟨(h.tr [] (by simp) q hq).1.onTo hB hno,(h.tr [] (by simp) q hq).2.onTo hB hno⟩,fun k hk=>(by cases hk),?_,fun k hk=>?_,ext_alloc hb _⟩
 ·exact List.nodup_cons.2 ⟨fun hk=>Nat.lt_irrefl _ (hlt _ hk),h.nd⟩
 ·rcases List.mem_cons.1 hk with rfl|hk
  ·exact hb.size
  ·exact Nat.le_trans hlo (h.lo k hk)
theorem res30{tm:Array Value}{W:World}{v:Value}(h:tm[4]?.getD undef=v):(results Tryz.f10 tm).run Tryz.prog W=.ok v W:=by
 simp[results,Tryz.results10,go_sem,h]
theorem new_any(cv fv tv ov:Value)(ca:Option Addr)(cn cc:Nat)(hcv:cv=.slice ca cn cc)(mn:Int)(s:St)(W:World)(hI:StIn W.heap.size W fv tv ov s)(hS:Small s) :
  Calls Tryz.prog 10 #[.agg #[cv,.int .i64 mn],stv fv tv ov s] W fun e W'=>∃p,e=.returned (.pointer (some ⟨p.B,0,none⟩))/\p.ap=[]/\Mc W p cv mn s W':=by
 obtain⟨w1,hw1⟩:∃w1,(W.alloc (.cells #[cv,.int .i64 mn] 45)).alloc (stb fv tv ov s)=w1:=⟨_,rfl⟩
 have E0:Below W.heap.size W w1:=by rw[<- hw1];exact ext_alloc (ext_alloc (Below.refl W.heap.size W) _) _
 have g0:w1.heap[W.heap.size]?=some (.cells #[cv,.int .i64 mn] 45):=by rw[<- hw1];exact block_alloc _ (heap_new _ _)
 have g1:w1.heap[W.heap.size+1]?=some (stb fv tv ov s):=by rw[<- hw1];exact new2' W _ _
 have hf:∀w2,Below W.heap.size W w2->Calls Tryz.prog 15 #[stv fv tv ov s] w2 _:=fun w2 hb=>fresh_any fv tv ov s w2 (hI.at hb) hS
 obtain⟨fa,fp,hfv,_⟩:=hI.f
 obtain⟨ta,tp,htv,_⟩:=hI.t
 obtain⟨oa,op,hov,_⟩:=hI.o
 clear hI hS
 subst hfv
 subst htv
 subst hov
 subst hcv
 obtain⟨nf,hnf⟩:∃n,s.fr.length=n:=⟨_,rfl⟩
 obtain⟨nt,hnt⟩:∃n,s.tb.length=n:=⟨_,rfl⟩
 obtain⟨no,hno⟩:∃n,s.out.length=n:=⟨_,rfl⟩
 rw[hnf,hnt,hno]at hf hw1 g1⊢
 replace hf:Hid _:=hf
 have a0:=cell_block (i:=0) g0 rfl
 have a1:=cell_block (i:=1) g0 rfl
 obtain⟨b0,b1,b2,b3,b4,b5,b6,b7,b8⟩:=nine g1
 have hS:∀u,Below w1.heap.size w1 u->u.cell? ⟨W.heap.size,0,none⟩=some (.slice ca cn cc)/\u.cell? ⟨W.heap.size,1,none⟩=some (.int .i64 mn):=fun u hb=>⟨cellB hb a0,cellB hb a1⟩
 replace hS:Hid _:=hS
 go_enter Tryz.func10,Tryz.ntmps10
 go_wp2
 go_region_with (first|(go_at_call 15;refine(hf.out _ (ext_drew E0)).mono ?_;rintro e w2 ⟨F,fc,T,tc,U,uc,fw,tw,rfl,hFS,hb2⟩;have N2:=ext_trans (ext_drew (Below.refl w1.heap.size w1)) hb2;obtain⟨_,_⟩:=hS.out w2 N2))
 all_goals
  go_wp2
  have hM:=hFS.mc (W0:=W) (ext_drew E0).size (ext_trans E0 N2) (.slice ca cn cc) mn
  rw[hnf,hnt,hno]at hM
  exact bodyPost_ret (res30 (v:=.pointer (some ⟨w2.heap.size,0,none⟩)) rfl) rfl ⟨_,rfl,rfl,hM⟩
end
end Go.Proofs.YthljpnmhddfblaaGreatDoor
