/- A machine's twin. -/
import Derived.Test.YthljpnmhddfblaaGreatDoorS36
import Derived.Test.YthljpnmhddfblaaGreatDoorS38
import Derived.Deep.DeepCutAuto
namespace Go.Proofs.YthljpnmhddfblaaGreatDoor
open Go.RowKit Go
set_option maxRecDepth 100000
set_option maxHeartbeats 8000000
set_option linter.all false
section
variable [DecidableEq Vl]
section
variable {w0:World} {m:Hm} {s:Ms} {W:World}
structure TwQ (m:Hm) (s:Ms) (W:World) (e:Ending) (W':World):Prop where
 ex:∃m':Hm,e=.returned (.pointer (some ⟨m'.B,0,none⟩))/\Mh W m' s W'/\m'.fv=m.fv/\m'.mn=m.mn
theorem nine_block{W:World}{B:Nat}{a b c d e f g h i:Value}(hz:W.heap[B]?=some zst):((((((((((W.setCell ⟨B,0,none⟩ a).setCell ⟨B,1,none⟩ b).setCell ⟨B,2,none⟩ c).setCell ⟨B,3,none⟩ d).setCell ⟨B,4,none⟩ e).setCell ⟨B,5,none⟩ f).setCell ⟨B,6,none⟩ g).setCell ⟨B,7,none⟩ h).setCell ⟨B,8,none⟩ i).heap[B]?)=some (.cells #[a,b,c,d,e,f,g,h,i] 38):=by
 have:=set_block (i:=8) i (set_block (i:=7) h (set_block (i:=6) g (set_block (i:=5) f (set_block (i:=4) e (set_block (i:=3) d (set_block (i:=2) c (set_block (i:=1) b (set_block (i:=0) a hz))))))))
 simpa[zst]using this
theorem nine_below{w W:World}{B n:Nat}{a b c d e f g h i:Value}(hb:Below n w W)(hB:n<=B):Below n w (((((((((W.setCell ⟨B,0,none⟩ a).setCell ⟨B,1,none⟩ b).setCell ⟨B,2,none⟩ c).setCell ⟨B,3,none⟩ d).setCell ⟨B,4,none⟩ e).setCell ⟨B,5,none⟩ f).setCell ⟨B,6,none⟩ g).setCell ⟨B,7,none⟩ h).setCell ⟨B,8,none⟩ i) :=
 ((((((((hb.setCell (p:=⟨B,0,none⟩) hB _).setCell (p:=⟨B,1,none⟩) hB _).setCell (p:=⟨B,2,none⟩) hB _).setCell (p:=⟨B,3,none⟩) hB _).setCell (p:=⟨B,4,none⟩) hB _).setCell (p:=⟨B,5,none⟩) hB _).setCell (p:=⟨B,6,none⟩) hB _).setCell (p:=⟨B,7,none⟩) hB _).setCell (p:=⟨B,8,none⟩) hB _
theorem Mh.rowFr(h:Mh w0 m s W):RowFr W.heap.size W (.slice (some ⟨m.F,0,none⟩) 1 m.fc) [s.x]:=by
 refine⟨_,m.fc,rfl,by simp[maxLen],fun _=>⟨m.F,0,rfl,h.lt.2.1,fun j x hj=>?_⟩⟩
 have hj0:j=0:=by have:=(List.getElem?_eq_some_iff.1 hj).1;simp at this;exact this
 subst hj0
 simp at hj
 subst hj
 have hc:=h.cs
 refine⟨hc.d0,hc.d1,hc.d2,_,hc.d3,?_⟩
 have hl:s.x.rs.length<=maxLen:=by obtain⟨_,_,_,h1,h2,_⟩:=h.rg;omega
 exact⟨_,m.c,rfl,hl,fun _=>⟨m.g,0,rfl,h.lt.2.2,fun j v hv=>by
  have:=(hc.rg j v hv).1
  simpa using this⟩⟩
theorem twin_any(h:Mh w0 m s W)(hf:∃a n c,m.fv=.slice a n c)(ht:∃a c,m.tv=.slice a 0 c)(hu:∃a c,m.uv=.slice a 0 c)(hrs:s.x.rs≠[]/\s.x.rs.length<=1000):Calls Tryz.prog 99 #[.pointer (some ⟨m.B,0,none⟩)] W (TwQ m s W):=by
 obtain⟨fa,fn,fcp,hf⟩:=hf
 obtain⟨ta,tc,ht⟩:=ht
 obtain⟨ua,uc,hu⟩:=hu
 obtain⟨W1,hW1⟩:∃W1,W.alloc zst=W1:=⟨_,rfl⟩
 have E1:Below W.heap.size W W1:=by rw[<- hW1];exact ext_alloc (Below.refl _ _) _
 have g1:W1.heap[W.heap.size]?=some zst:=by rw[<- hW1];exact heap_new _ _
 have hc:=h.cs
 have c0:=hc.c0
 rw[hf]at c0
 have c1:=hc.c1
 have c2:=hc.c2
 have c3:=hc.c3
 have c4:=hc.c4
 have c5:=hc.c5
 have c6:=hc.c6
 have c7:=hc.c7
 have c8:=hc.c8
 have c9:=hc.c9
 have c10:=hc.c10
 rw[ht]at c3
 rw[hu]at c4
 obtain⟨z0,z1,z2,z3,z4,z5,z6,z7,z8⟩:=nine g1
 have y:=fun i=>frozen_block (i:=i) g1
 have y0:=y 0
 have y1:=y 1
 have y2:=y 2
 have y3:=y 3
 have y4:=y 4
 have y5:=y 5
 have y6:=y 6
 have y7:=y 7
 have y8:=y 8
 obtain⟨X1,hX1⟩:∃X1,((((((((W1.setCell ⟨W.heap.size,0,none⟩ (.slice (some ⟨m.F,0,none⟩) 1 m.fc)).setCell ⟨W.heap.size,1,none⟩ (.slice ta 0 tc)).setCell ⟨W.heap.size,2,none⟩ (.slice ua 0 uc)).setCell ⟨W.heap.size,3,none⟩ (.int .i64 s.st)).setCell ⟨W.heap.size,4,none⟩ (.int .i64 s.en)).setCell ⟨W.heap.size,5,none⟩ (.int .i64 s.er)).setCell ⟨W.heap.size,6,none⟩ (.int .i64 s.la.k)).setCell ⟨W.heap.size,7,none⟩ (.int .i64 s.la.n)).setCell ⟨W.heap.size,8,none⟩ (.string s.la.s)=X1:=⟨_,rfl⟩
 have gX:X1.heap[W.heap.size]?=some (.cells #[.slice (some ⟨m.F,0,none⟩) 1 m.fc,.slice ta 0 tc,.slice ua 0 uc,.int .i64 s.st,.int .i64 s.en,.int .i64 s.er,.int .i64 s.la.k,.int .i64 s.la.n,.string s.la.s] 38):=by rw[<- hX1];exact nine_block g1
 have EX:Below W.heap.size W X1:=by rw[<- hX1];exact nine_below E1 (Nat.le_refl _)
 have hMX:=h.on EX
 have hF:∀_:Unit,Calls Tryz.prog 22 #[.slice (some ⟨m.F,0,none⟩) 1 m.fc,.func (.func 125) #[] #[]] X1 _:=fun _=>eachF2_any _ [s.x] X1 hMX.rowFr (by simp) (by simpa using hrs.2) (by simpa using hrs.1)
 have hT:=fun u=>cloneT ta tc u
 have hU:=fun u=>clip0 ua uc u
 have x0:=cell_block (i:=0) gX rfl
 replace hF:Hid _:=hF
 replace hT:Hid _:=hT
 replace hU:Hid _:=hU
 replace h:Hid _:=h
 replace hX1:Hid _:=hX1
 replace hX1:=hX1.out
 clear hc hMX E1 y
 go_enter Tryz.func99,Tryz.ntmps99
 go_wp2_with (go_at_call 22;refine(hF.out ()).mono ?_;rintro e w2 ⟨F,fc,fw,rfl,hO,hfx,hFI,hFl,hb2⟩;refine Hid.out ?_)
 refine Lib.hid ?_
 obtain⟨gq,cq,rfl⟩:∃gq cq,fw=[⟨s.x,gq,cq⟩]:=by
  match fw,hfx with
  | [q],hfx=>simp at hfx;exact⟨q.g,q.c,by rw[<- hfx]⟩
 have hZ:=block_lt gX
 have G2:=block_below hb2 gX
 have p0:=cell_block (i:=0) G2 rfl
 have f0:=frozen_block (i:=0) G2
 obtain⟨X2,hX2⟩:∃X,w2.setCell ⟨W.heap.size,0,none⟩ (.slice (some ⟨F,0,none⟩) 1 fc)=X:=⟨_,rfl⟩
 have H2:X2.heap[W.heap.size]?=some (.cells #[.slice (some ⟨F,0,none⟩) 1 fc,.slice ta 0 tc,.slice ua 0 uc,.int .i64 s.st,.int .i64 s.en,.int .i64 s.er,.int .i64 s.la.k,.int .i64 s.la.n,.string s.la.s] 38):=by rw[<- hX2];exact set_block _ G2
 have E2:Below W.heap.size W X2:=by rw[<- hX2];exact(ext_trans EX hb2).setCell (p:=⟨W.heap.size,0,none⟩) (Nat.le_refl _) _
 have hFZ:W.heap.size<F:=Nat.lt_of_lt_of_le hZ hFl
 have hq:=hFI.lo _ (List.mem_cons_self (a:=(⟨s.x,gq,cq⟩:Fw)))
 have hgZ:W.heap.size<gq:=Nat.lt_of_lt_of_le hZ hq.1
 have hO2:OwnR X2 F 66 4 1 fc (frCells [⟨s.x,gq,cq⟩]):=by rw[<- hX2];exact hO.same (set1_other _ _ (by omega))
 have hR2:OwnR X2 gq 25 3 s.x.rs.length cq (flat s.x.rs):=by rw[<- hX2];exact(hFI.rg _ (List.mem_cons_self (a:=(⟨s.x,gq,cq⟩:Fw)))).same (set1_other _ _ (by omega))
 have hFq:gq≠F:=hq.2
 have hS:∀u,Below X2.heap.size X2 u->u.cell? ⟨W.heap.size,1,none⟩=some (.slice ta 0 tc)/\u.cell? ⟨W.heap.size,2,none⟩=some (.slice ua 0 uc)/\u.frozen? ⟨W.heap.size,1,none⟩=false/\u.frozen? ⟨W.heap.size,2,none⟩=false:=fun u hu=>by
  have:=block_below hu H2
  exact⟨cell_block this rfl,cell_block this rfl,frozen_block this,frozen_block this⟩
 have hfin:∀u a1 n1 a2 n2,Below X2.heap.size X2 u->∀wr,(wr=(u.setCell ⟨W.heap.size,1,none⟩ (.slice a1 0 n1)).setCell ⟨W.heap.size,2,none⟩ (.slice a2 0 n2)\/wr=(u.setCell ⟨W.heap.size,2,none⟩ (.slice a2 0 n2)).setCell ⟨W.heap.size,1,none⟩ (.slice a1 0 n1))->wr.heap[W.heap.size]?=some (.cells #[.slice (some ⟨F,0,none⟩) 1 fc,.slice a1 0 n1,.slice a2 0 n2,.int .i64 s.st,.int .i64 s.en,.int .i64 s.er,.int .i64 s.la.k,.int .i64 s.la.n,.string s.la.s] 38)/\Below W.heap.size W wr/\OwnR wr F 66 4 1 fc (frCells [⟨s.x,gq,cq⟩])/\OwnR wr gq 25 3 s.x.rs.length cq (flat s.x.rs):=fun u a1 n1 a2 n2 hu wr hwr=>by
  have H:=block_below hu H2
  have hEu:=ext_trans E2 hu
  have hOu:=hO2.same (hu.block F hO2.lt)
  have hRu:=hR2.same (hu.block gq hR2.lt)
  rcases hwr with rfl|rfl
  ·exact⟨by have:=set_block (i:=2) (.slice a2 0 n2) (set_block (i:=1) (.slice a1 0 n1) H);simpa using this,(hEu.setCell (p:=⟨W.heap.size,1,none⟩) (Nat.le_refl _) _).setCell (p:=⟨W.heap.size,2,none⟩) (Nat.le_refl _) _,(hOu.same (set1_other _ _ (by omega))).same (set1_other _ _ (by omega)),(hRu.same (set1_other _ _ (by omega))).same (set1_other _ _ (by omega))⟩
  ·exact⟨by have:=set_block (i:=1) (.slice a1 0 n1) (set_block (i:=2) (.slice a2 0 n2) H);simpa using this,(hEu.setCell (p:=⟨W.heap.size,2,none⟩) (Nat.le_refl _) _).setCell (p:=⟨W.heap.size,1,none⟩) (Nat.le_refl _) _,(hOu.same (set1_other _ _ (by omega))).same (set1_other _ _ (by omega)),(hRu.same (set1_other _ _ (by omega))).same (set1_other _ _ (by omega))⟩
 obtain⟨s1,s2,s3,s4⟩:=hS _ (Below.refl _ _)
 replace hS:Hid _:=hS
 replace hfin:Hid _:=hfin
 clear hO hfx hFI hb2 G2 E2 hO2 hR2 H2 hF gX hX1 x0 z0 z1 z2 z3 z4 z5 z6 z7 z8 y0 y1 y2 y3 y4 y5 y6 y7 y8 g1 hW1 hq hFl
 go_wp2
 go_cut [] from 12 (fun wr=>Hid (∃a1 n1 a2 n2,wr.heap[W.heap.size]?=some (.cells #[.slice (some ⟨F,0,none⟩) 1 fc,.slice a1 0 n1,.slice a2 0 n2,.int .i64 s.st,.int .i64 s.en,.int .i64 s.er,.int .i64 s.la.k,.int .i64 s.la.n,.string s.la.s] 38)/\Below W.heap.size W wr/\OwnR wr F 66 4 1 fc (frCells [⟨s.x,gq,cq⟩])/\OwnR wr gq 25 3 s.x.rs.length cq (flat s.x.rs)))
 case first =>
  have U0:=ext_drew (Below.refl X2.heap.size X2)
  go_region_with (first|(go_at_call 127;refine(hT.out _).mono ?_;rintro e w3 ⟨⟨a1,n1,rfl⟩,hb3⟩;have U3:=ext_trans U0 hb3;obtain⟨s1,s2,s3,s4⟩:=hS.out w3 U3)|(go_at_call 128;refine(hU.out _).mono ?_;rintro e _ ⟨⟨a2,n2,rfl⟩,rfl⟩))
  all_goals
   go_wp2
   go_meet
   exact⟨_,_,_,_,hfin.out _ _ _ _ _ U3 _ (by first|exact .inl rfl|exact .inr rfl)⟩
 case rest =>
  obtain⟨a1,n1,a2,n2,hx,hb,hO,hR⟩:=hcut.out
  obtain⟨z0,z1,z2,z3,z4,z5,z6,z7,z8⟩:=nine hx
  have hBW:=h.out.lt.1
  have d0:=(hb.cell (p:=⟨m.B,0,none⟩) hBW).trans c0
  have d1:=(hb.cell (p:=⟨m.B,1,none⟩) hBW).trans c1
  have hend:∀u o,Below wc.heap.size wc u->o=Obj.cells #[.slice fa fn fcp,.int .i64 m.mn,.slice (some ⟨F,0,none⟩) 1 fc,.slice a1 0 n1,.slice a2 0 n2,.int .i64 s.st,.int .i64 s.en,.int .i64 s.er,.int .i64 s.la.k,.int .i64 s.la.n,.string s.la.s] 64->TwQ m s W (.returned (.pointer (some ⟨u.heap.size,0,none⟩))) (u.alloc o):=fun u o hu ho=>by
   subst ho
   have hz:=hu.size
   have hF:=hO.lt
   have hg:=hR.lt
   have hbz:=hb.size
   refine⟨⟨u.heap.size,F,fc,gq,cq,.slice fa fn fcp,.slice a1 0 n1,.slice a2 0 n2,m.mn⟩,rfl,⟨heap_new _ _,?_,?_,?_,?_,?_,?_,?_⟩,hf.symm,rfl⟩
   ·exact(hO.same (hu.block F hF)).same (Below.heap_alloc _ _ _ (by omega))
   ·exact(hR.same (hu.block gq hg)).same (Below.heap_alloc _ _ _ (by omega))
   ·show u.heap.size≠F
    omega
   ·show u.heap.size≠gq
    omega
   ·exact fun e=>hFq e.symm
   ·intro k hk
    simp only[Hm.own,List.mem_cons,List.not_mem_nil,or_false]at hk
    rcases hk with rfl|rfl|rfl
    ·exact Nat.le_trans hbz hz
    ·exact Nat.le_of_lt hFZ
    ·exact Nat.le_of_lt hgZ
   ·exact ext_alloc (ext_trans hb hu) _
  replace hend:Hid _:=hend
  clear hcut hx hb hO hR hfin hS hT hU
  go_wp2
  go_region
  all_goals
   go_wp2
   go_ret
   exact hend.out _ _ (ext_drew (Below.refl _ _)) rfl
end
end
end Go.Proofs.YthljpnmhddfblaaGreatDoor
