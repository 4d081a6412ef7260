/- What the loop's trace is; what a policy may be; where the machine is. -/
import Derived.Test.YthljpnmhddfblaaGreatDoorS46
import Derived.Test.YthljpnmhddfblaaGreatDoorS45
namespace Go.Proofs.YthljpnmhddfblaaGreatDoor
open Go.RowKit Go Go.Shelf Go.ChangeMaps
set_option maxRecDepth 100000
set_option maxHeartbeats 8000000
set_option linter.all false
section
variable [DecidableEq Vl]
theorem idT_trH:IdT trH:=by
 refine⟨fun o ho=>?_,fun o ho=>?_,fun i o ho=>?_,by simp[trH],by simp[trH],fun s hs=>?_⟩
 ·simp[trH]at ho
  rcases ho with rfl|rfl|rfl|rfl|rfl|rfl <;> simp[opH]
 ·simp[trH]at ho
  rcases ho with rfl|rfl|rfl|rfl|rfl|rfl <;> exact Nat.zero_le 300
 ·have hi:=(List.getElem?_eq_some_iff.1 ho).1
  have h6:i=0\/i=1\/i=2\/i=3\/i=4\/i=5:=by simp[trH]at hi;omega
  rcases h6 with rfl|rfl|rfl|rfl|rfl|rfl
  ·cases ho;exact⟨fun h=>by simp[askN]at h,fun h=>by simp[askN]at h⟩
  ·cases ho;exact⟨fun h=>by simp[askN]at h,fun h=>by simp[askN]at h⟩
  ·cases ho;exact⟨fun _=>⟨0,rfl,by omega⟩,fun _=>⟨1,rfl,by omega⟩⟩
  ·cases ho;exact⟨fun _=>⟨2,rfl,by omega⟩,fun h=>by simp[askN]at h⟩
  ·cases ho;exact⟨fun h=>by simp[askN]at h,fun h=>by simp[askN]at h⟩
  ·cases ho;exact⟨fun _=>⟨0,rfl,by omega⟩,fun _=>⟨4,rfl,by omega⟩⟩
 ·simp[trH]at hs
  rcases hs with rfl|rfl|rfl|rfl
  all_goals
   refine⟨by simp,by simp,fun n hn=>?_⟩
   simp at hn
  ·exact .inl hn
  ·rcases hn with rfl|rfl
   ·exact .inl rfl
   ·exact .inr ⟨2,rfl,by simp[trH]⟩
  ·rcases hn with rfl|rfl
   ·exact .inl rfl
   ·exact .inr ⟨2,rfl,by simp[trH]⟩
  ·rcases hn with rfl|rfl|rfl
   ·exact .inr ⟨5,rfl,by simp[trH]⟩
   ·exact .inl rfl
   ·exact .inr ⟨2,rfl,by simp[trH]⟩
theorem deed_of{p q:Ti}(h:deed p=deed q):p.op=q.op/\p.x=q.x/\p.y=q.y:=by
 simp[deed]at h
 exact⟨h.1,h.2.1,h.2.2.1⟩
theorem idS_trH:IdS trH:=by
 refine⟨fun o ho=>?_,fun i j p q hij hp hq e=>?_⟩
 ·simp[trH]at ho
  rcases ho with rfl|rfl|rfl|rfl|rfl|rfl <;> exact⟨rfl,rfl,rfl⟩
 ·obtain⟨e1,e2,e3⟩:=deed_of e
  have hi:=(List.getElem?_eq_some_iff.1 hp).1
  have hj:=(List.getElem?_eq_some_iff.1 hq).1
  have hi6:i=0\/i=1\/i=2\/i=3\/i=4\/i=5:=by simp[trH]at hi;omega
  have hj6:j=0\/j=1\/j=2\/j=3\/j=4\/j=5:=by simp[trH]at hj;omega
  rcases hi6 with rfl|rfl|rfl|rfl|rfl|rfl <;> rcases hj6 with rfl|rfl|rfl|rfl|rfl|rfl <;> first|omega|(cases hp;cases hq;simp at e1 e2 e3)
theorem from_yes(a n b:Int)(h1:a<=n)(h2:n<=b)(w:World):Calls Tryz.prog 8 #[.int .i64 a,.int .i64 n,.int .i64 b] w fun e w'=>e=.returned (.bool true)/\w'=w:=by
 go_enter Tryz.func8,Tryz.ntmps8
 go_wp2
 all_goals
  go_ret
  simp_all
theorem policy_yes(ht mo ca tr:Int)(h1:1<=ht/\ht<=60000)(h2:1<=mo/\mo<=400)(h3:0<=ca/\ca<=20)(h4:0<=tr/\tr<=100)(w:World):Calls Tryz.prog 7 #[.agg #[.int .i64 ht,.int .i64 mo,.int .i64 ca,.int .i64 tr]] w fun e w'=>e=.returned (.bool true)/\Below w.heap.size w w':=by
 obtain⟨h1,h1'⟩:=h1
 obtain⟨h2,h2'⟩:=h2
 obtain⟨h3,h3'⟩:=h3
 obtain⟨h4,h4'⟩:=h4
 go_enter Tryz.func7,Tryz.ntmps7
 go_wp2_with (go_at_call 8;refine(from_yes _ _ _ (by assumption) (by assumption) _).mono ?_;rintro e _ ⟨rfl,rfl⟩)
 go_ret
 exact⟨rfl,ext_alloc (Below.refl _ _) _⟩
theorem res30s{tm:Array Value}{W:World}{B:Nat}{a b:Value}(h:tm[2]?.getD undef=.pointer (some ⟨B,0,none⟩))(hx:W.heap[B]?=some (.cells #[a,b] 86)):(results Tryz.f30 tm).run Tryz.prog W=.ok (.agg #[a,b]) W:=by
 have d0:W.cell? ⟨B,0,none⟩=some a:=cell_block hx rfl
 have d1:W.cell? ⟨B,1,none⟩=some b:=cell_block hx rfl
 simp[results,Tryz.results30,go_sem,h,d0,d1]
section
variable {w0:World} {m:Hm} {s:Ms} {W:World}
structure AtQ (W:World) (s:Ms) (e:Ending) (W':World):Prop where
 e:e=.returned (.agg #[.int .i64 s.x.f,.int .i64 s.x.pc])
 k:Below W.heap.size W W'
theorem at_any(h:Mh w0 m s W)(D:Nat)(hD:W.cell? ⟨D,0,none⟩=some (.pointer (some ⟨m.B,0,none⟩))):Calls Tryz.prog 30 #[.pointer (some ⟨D,0,none⟩)] W (AtQ W s):=by
 obtain⟨w1,hw1⟩:∃w1,W.alloc (.cells #[.int .i64 0,.int .i64 0] 86)=w1:=⟨_,rfl⟩
 have E1:Below W.heap.size W w1:=by rw[<- hw1];exact ext_alloc (Below.refl _ _) _
 have g1:w1.heap[W.heap.size]?=some (.cells #[.int .i64 0,.int .i64 0] 86):=by rw[<- hw1];exact heap_new _ _
 have h1:=h.on E1
 have hc:=h1.cs
 have ht:∀_:Unit,Calls Tryz.prog 39 #[.pointer (some ⟨m.B,0,none⟩)] w1 _:=fun _=>top0 hc.c2
 have c0:=cellB E1 hD
 have d0:=hc.d0
 have d1:=hc.d1
 have b0:=cell_block (i:=0) g1 rfl
 have b1:=cell_block (i:=1) g1 rfl
 have z0:w1.frozen? ⟨W.heap.size,0,none⟩=false:=frozen_block g1
 have z1:w1.frozen? ⟨W.heap.size,1,none⟩=false:=frozen_block g1
 have hF:m.F<W.heap.size:=h.lt.2.1
 replace ht:Hid _:=ht
 replace h:Hid _:=h
 have fin:∀(k:Nat) (a b:Value),(((w1.drewN k).setCell ⟨W.heap.size,0,none⟩ a).setCell ⟨W.heap.size,1,none⟩ b).heap[W.heap.size]?=some (.cells #[a,b] 86)/\Below W.heap.size W (((w1.drewN k).setCell ⟨W.heap.size,0,none⟩ a).setCell ⟨W.heap.size,1,none⟩ b):=fun k a b=>⟨set_block _ (set_block (W:=w1.drewN k) _ g1),((drewN_below (n:=k) E1).setCell (p:=⟨W.heap.size,0,none⟩) (Nat.le_refl _) _).setCell (p:=⟨W.heap.size,1,none⟩) (Nat.le_refl _) _⟩
 replace fin:Hid _:=fin
 clear h1 hc g1 hD
 go_enter Tryz.func30,Tryz.ntmps30
 go_wp2_with (go_at_call 39;refine(ht.out ()).mono ?_;rintro e w3 ⟨rfl,k,rfl⟩)
 go_region
 all_goals
  go_wp2
  exact bodyPost_ret (res30s rfl (fin.out _ _ _).1) rfl ⟨rfl,(fin.out _ _ _).2⟩
end
structure Po where
 hot:Int
 most:Int
 cache:Int
 tries:Int
structure Sx where
 kept:Int
 tried:Int
 inside:Int
abbrev dbox (B:Nat) (y:Po) (x:Sx) (mt mc mr:Nat) (hv:Value):Obj:=.cells #[.pointer (some ⟨B,0,none⟩),.int .i64 y.hot,.int .i64 y.most,.int .i64 y.cache,.int .i64 y.tries,.int .i64 x.kept,.int .i64 x.tried,.int .i64 x.inside,.map (some mt),.map (some mc),.map (some mr),hv] 61
structure NdQ (B:Nat) (y:Po) (W:World) (e:Ending) (W':World):Prop where
 h:∃D mt mc mr,e=.returned (.pointer (some ⟨D,0,none⟩))/\W'.heap[D]?=some (dbox B y ⟨0,0,0⟩ mt mc mr (.slice none 0 0))/\W'.heap[mt]?=some (.map #[] 0)/\W'.heap[mc]?=some (.map #[] 0)/\W'.heap[mr]?=some (.map #[] 0)/\W.heap.size<=mt/\mt<mc/\mc<mr/\mr<D
 k:Below W.heap.size W W'
theorem newDriver_any(B:Nat)(y:Po)(W:World):Calls Tryz.prog 9 #[.pointer (some ⟨B,0,none⟩),.agg #[.int .i64 y.hot,.int .i64 y.most,.int .i64 y.cache,.int .i64 y.tries]] W (NdQ B y W):=by
 have m7:∀u:World,(Instr.makeMap 57 none).run Tryz.prog u=.ok (.map (some u.heap.size)) (u.alloc (.map #[] 0)):=fun u=>by rfl
 have m8:∀u:World,(Instr.makeMap 58 none).run Tryz.prog u=.ok (.map (some u.heap.size)) (u.alloc (.map #[] 0)):=fun u=>by rfl
 obtain⟨o1,ho1⟩:∃o1,Obj.cells #[.int .i64 y.hot,.int .i64 y.most,.int .i64 y.cache,.int .i64 y.tries] 23=o1:=⟨_,rfl⟩
 have fin:∀o2,o2=dbox B y ⟨0,0,0⟩ (W.heap.size+1) (W.heap.size+1+1) (W.heap.size+1+1+1) (.slice none 0 0)->NdQ B y W (.returned (.pointer (some ⟨W.heap.size+1+1+1+1,0,none⟩))) (((((W.alloc o1).alloc (.map #[] 0)).alloc (.map #[] 0)).alloc (.map #[] 0)).alloc o2):=by
  rintro o2 rfl
  refine⟨⟨_,W.heap.size+1,W.heap.size+1+1,W.heap.size+1+1+1,rfl,?_,?_,?_,?_,by omega,by omega,by omega,by omega⟩,ext_alloc (ext_alloc (ext_alloc (ext_alloc (ext_alloc (Below.refl _ _) _) _) _) _) _⟩
  ·have:=new3 ((W.alloc o1).alloc (.map #[] 0)) (.map #[] 0) (.map #[] 0) (dbox B y ⟨0,0,0⟩ (W.heap.size+1) (W.heap.size+1+1) (W.heap.size+1+1+1) (.slice none 0 0))
   rw[World.size_alloc,World.size_alloc]at this
   exact this
  ·exact block_alloc _ (block_alloc _ (block_alloc _ (new2' W _ _)))
  ·exact block_alloc _ (block_alloc _ (new3 W _ _ _))
  ·have:=new3 (W.alloc o1) (.map #[] 0) (.map #[] 0) (.map #[] 0)
   rw[World.size_alloc]at this
   exact block_alloc _ this
 subst ho1
 replace fin:Hid _:=fin
 go_enter Tryz.func9,Tryz.ntmps9
 go_wp2
 go_ret
 exact fin.out _ rfl
end
open Go.WideMaps (KeyLaw)
section
variable [DecidableEq Vl]
theorem rowH:86<Tryz.prog.types.size:=of_decide_eq_true (by kernel_rfl)
theorem lawH:KeyLaw Tryz.prog 86:=deep_law_laid laidOut (m:=5) (by omega) rowH (by kernel_rfl) (by kernel_rfl)
theorem keyedH:Maps.Keyed Tryz.prog 86:=Maps.Keyed.of_law lawH
abbrev hdV (pc:Nat):Value:=.agg #[.int .i64 0,.int .i64 (pc:Nat)]
def hl (pc:Nat):Lit:=.string (keyBytes [.int .i64 0,.int .i64 (pc:Nat)])
theorem keyH_0:keyOf Tryz.prog 86 (hdV 0)=some (hl 0):=by kernel_rfl
theorem keyH_1:keyOf Tryz.prog 86 (hdV 1)=some (hl 1):=by kernel_rfl
theorem keyH_2:keyOf Tryz.prog 86 (hdV 2)=some (hl 2):=by kernel_rfl
theorem keyH_3:keyOf Tryz.prog 86 (hdV 3)=some (hl 3):=by kernel_rfl
theorem keyH_4:keyOf Tryz.prog 86 (hdV 4)=some (hl 4):=by kernel_rfl
theorem keyH_5:keyOf Tryz.prog 86 (hdV 5)=some (hl 5):=by kernel_rfl
theorem keyH_6:keyOf Tryz.prog 86 (hdV 6)=some (hl 6):=by kernel_rfl
theorem keyH_7:keyOf Tryz.prog 86 (hdV 7)=some (hl 7):=by kernel_rfl
theorem keyH(pc:Nat)(h:pc<8):keyOf Tryz.prog 86 (hdV pc)=some (hl pc):=by
 match pc,h with
 | 0,_=>exact keyH_0
 | 1,_=>exact keyH_1
 | 2,_=>exact keyH_2
 | 3,_=>exact keyH_3
 | 4,_=>exact keyH_4
 | 5,_=>exact keyH_5
 | 6,_=>exact keyH_6
 | 7,_=>exact keyH_7
theorem hl_33:(hl 3).sameKey (hl 3)=true:=by kernel_rfl
theorem hl_34:(hl 3).sameKey (hl 4)=false:=by kernel_rfl
theorem hl_37:(hl 3).sameKey (hl 7)=false:=by kernel_rfl
abbrev heldE (v:Value):Option (DataW Value×List MemPlace):=some (.held v,[])
abbrev Hd (W:World) (M nn:Nat) (D:DataW Value):Prop:=W.ownsMap Tryz.prog 86 heldE M nn D
abbrev D0:DataW Value:=.map []
abbrev D3 (v:Value):DataW Value:=.map [(hl 3,.held v)]
theorem has_3(v:Value):Maps.has (D3 v) (hl 3)=true:=by simp[Maps.has,hl_33]
theorem has_34(v:Value):Maps.has (D3 v) (hl 4)=false:=by simp[Maps.has,hl_34]
theorem has_37(v:Value):Maps.has (D3 v) (hl 7)=false:=by simp[Maps.has,hl_37]
theorem at_3(v:Value)(z:DataW Value):(D3 v).atKey (hl 3) z=.held v:=by simp[DataW.atKey,hl_33]
theorem put_0(v:Value):D0.put (hl 3) (.held v)=D3 v:=rfl
theorem put_3(u v:Value):(D3 u).put (hl 3) (.held v)=D3 v:=by
 simp[DataW.put_eq,ChangeMaps.putKey,ChangeMaps.notKey,hl_33]
 rfl
theorem hd_same{W W':World}{M nn:Nat}{D:DataW Value}(h:Hd W M nn D)(e:W'.heap[M]?=W.heap[M]?):Hd W' M nn D:=by
 obtain⟨es,clock,hb,F,hr⟩:=h
 exact⟨es,clock,e.trans hb,F,hr⟩
theorem hd_lt{W:World}{M nn:Nat}{D:DataW Value}(h:Hd W M nn D):M<W.heap.size:=by
 obtain⟨es,clock,hb,F,hr⟩:=h
 exact block_lt hb
theorem hd_new{W:World}{M:Nat}(h:W.heap[M]?=some (.map #[] 0)):Hd W M 0 D0:=Joins.ownsMap_empty h
def heldV:DataW Value->Value|.held v=>v|_=>undef
section
variable {W:World} {M nn:Nat} {D:DataW Value}
theorem look_p(h:Hd W M nn D){pc:Nat}(hp:pc<8):(Instr.lookup 57 (.map (some M)) (hdV pc) true).run Tryz.prog W=.ok (.tuple #[heldV (D.atKey (hl pc) (.held (.pointer none))),.bool (Maps.has D (hl pc))]) W:=by
 obtain⟨v,ps,hr,hv⟩:=h.look_ok keyedH Tryz.underlying57 (Tryz.zeroValue83 _) (zd:=.held (.pointer none)) (zp:=[]) rfl (keyH pc hp)
 have e:=congrArg (fun o:Option (DataW Value×List MemPlace)=>o.map Prod.fst) hv
 simp only[Option.map_some,Option.some.injEq]at e
 rw[<- e]
 exact hr
theorem store_n(h:Hd W M nn D)(hn:nn<=100000){pc:Nat}(hp:pc<8)(v:Value):∃W',(Instr.mapUpdate 58 (.map (some M)) (hdV pc) v).run Tryz.prog W=.ok () W'/\Hd W' M (nn+1) (D.put (hl pc) (.held v))/\Keeps (fun k=>k=M) W W':=by
 obtain⟨W',h1,h2,h3⟩:=h.store keyedH Tryz.underlying58 (by unfold maxLen;omega) (keyH pc hp) (val:=v) (d:=.held v) (ps:=[]) rfl
 exact⟨W',h1,h2,turned_keeps h3⟩
theorem store_p(h:Hd W M nn D)(hn:nn<=100000){pc:Nat}(hp:pc<8)(v:Value):∃W',(Instr.mapUpdate 57 (.map (some M)) (hdV pc) v).run Tryz.prog W=.ok () W'/\Hd W' M (nn+1) (D.put (hl pc) (.held v))/\Keeps (fun k=>k=M) W W':=by
 obtain⟨W',h1,h2,h3⟩:=h.store keyedH Tryz.underlying57 (by unfold maxLen;omega) (keyH pc hp) (val:=v) (d:=.held v) (ps:=[]) rfl
 exact⟨W',h1,h2,turned_keeps h3⟩
theorem len_p(h:Hd W M nn D)(ty:TypeId):(Builtin.len_ #[57] ty #[.map (some M)]).run Tryz.prog W=.ok (.int .i64 (Maps.size D)) W:=h.len Tryz.underlying57 ty
end
structure Dr (w0:World) (m:Hm) (s:Ms) (D mt mc mr:Nat) (y:Po) (x:Sx) (hv:Value) (T C R:DataW Value) (W:World):Prop where
 mh:Mh w0 m s W
 bx:W.heap[D]?=some (dbox m.B y x mt mc mr hv)
 ht:∃n,n<=10/\Hd W mt n T
 hc:∃n,n<=10000/\Hd W mc n C
 hr:∃n,n<=1000/\Hd W mr n R
 nd:(D::mt::mc::mr::m.own).Nodup
 lo:w0.heap.size<=D/\w0.heap.size<=mt/\w0.heap.size<=mc/\w0.heap.size<=mr
section
variable {w0:World} {m:Hm} {s:Ms} {D mt mc mr:Nat} {y:Po} {x:Sx} {hv:Value} {T C R:DataW Value} {W W':World}
theorem Dr.on(h:Dr w0 m s D mt mc mr y x hv T C R W)(hb:Below W.heap.size W W'):Dr w0 m s D mt mc mr y x hv T C R W':=by
 obtain⟨a,ha,hT⟩:=h.ht
 obtain⟨b,hb',hC⟩:=h.hc
 obtain⟨c,hc,hR⟩:=h.hr
 exact⟨h.mh.on hb,block_below hb h.bx,⟨a,ha,hd_same hT (hb.block _ (hd_lt hT))⟩,⟨b,hb',hd_same hC (hb.block _ (hd_lt hC))⟩,⟨c,hc,hd_same hR (hb.block _ (hd_lt hR))⟩,h.nd,h.lo⟩
theorem Dr.mach(h:Dr w0 m s D mt mc mr y x hv T C R W){s':Ms}(hM:Mh w0 m s' W')(hK:Keeps (·∈m.own) W W'):Dr w0 m s' D mt mc mr y x hv T C R W':=by
 obtain⟨a,ha,hT⟩:=h.ht
 obtain⟨b,hb',hC⟩:=h.hc
 obtain⟨c,hc,hR⟩:=h.hr
 obtain⟨n1,h2⟩:=List.nodup_cons.1 h.nd
 obtain⟨n2,h3⟩:=List.nodup_cons.1 h2
 obtain⟨n3,h4⟩:=List.nodup_cons.1 h3
 obtain⟨n4,h5⟩:=List.nodup_cons.1 h4
 have k1:D∉m.own:=fun e=>n1 (List.mem_cons_of_mem _ (List.mem_cons_of_mem _ (List.mem_cons_of_mem _ e)))
 have k2:mt∉m.own:=fun e=>n2 (List.mem_cons_of_mem _ (List.mem_cons_of_mem _ e))
 have k3:mc∉m.own:=fun e=>n3 (List.mem_cons_of_mem _ e)
 exact⟨hM,(hK.block _ (block_lt h.bx) k1).trans h.bx,⟨a,ha,hd_same hT (hK.block _ (hd_lt hT) k2)⟩,⟨b,hb',hd_same hC (hK.block _ (hd_lt hC) k3)⟩,⟨c,hc,hd_same hR (hK.block _ (hd_lt hR) n4)⟩,h.nd,h.lo⟩
theorem runTrace_no(h:Dr w0 m s D mt mc mr y x hv T C R W){pc:Nat}(hp:pc<8)(hf:s.x.f=0)(hpc:s.x.pc=pc)(hno:Maps.has T (hl pc)=false)(fu:Int) :
  Calls Tryz.prog 16 #[.pointer (some ⟨D,0,none⟩),.int .i64 fu] W fun e W'=>e=.returned (.bool false)/\Below W.heap.size W W':=by
 have hat:∀u,Below W.heap.size W u->Calls Tryz.prog 30 #[.pointer (some ⟨D,0,none⟩)] u fun e W'=>e=.returned (hdV pc)/\Below W.heap.size W W'/\∃v,(Instr.lookup 57 (.map (some mt)) (hdV pc) true).run Tryz.prog W'=.ok (.tuple #[v,.bool false]) W':=fun u hu=>(at_any (h.on hu).mh D (cell_block (h.on hu).bx rfl)).mono fun e W' k=>by
  obtain⟨n,_,hT⟩:=((h.on hu).on k.k).ht
  have hl:=look_p hT hp
  rw[hno]at hl
  exact⟨by rw[k.e,hf,hpc],ext_trans hu k.k,_,hl⟩
 have c8:∀u,Below W.heap.size W u->u.cell? ⟨D,8,none⟩=some (.map (some mt)):=fun u hu=>cell_block (h.on hu).bx rfl
 have c0:=c8 _ (Below.refl _ _)
 replace hat:Hid _:=hat
 replace c8:Hid _:=c8
 clear h hf hpc hno
 go_enter Tryz.func16,Tryz.ntmps16
 go_wp2
 go_region_with (go_at_call 30;refine(hat.out _ (by first|exact Below.refl _ _|exact ext_drew (Below.refl _ _))).mono ?_;rintro e w3 ⟨rfl,hb3,v,hl3⟩;have c3:=c8.out w3 hb3)
 all_goals
  go_wp2
  go_ret
  exact⟨rfl,hb3⟩
end
theorem res17(tm:Array Value)(W:World):(results Tryz.f17 tm).run Tryz.prog W=.ok (.tuple #[]) W:=by
 simp[results,Tryz.results17,go_sem]
section
variable {w0:World} {m:Hm} {s s':Ms} {D mt mc mr:Nat} {y:Po} {x:Sx} {hv:Value} {T C R:DataW Value} {W W':World} {n:Nat}
structure StQ (w0:World) (m:Hm) (s':Ms) (D mt mc mr:Nat) (y:Po) (x:Sx) (hv:Value) (T C R:DataW Value) (W:World) (e:Ending) (W':World):Prop where
 e:e=.returned (.tuple #[])
 h:Dr w0 m s' D mt mc mr y x hv T C R W'
 k:Keeps (·∈m.own) W W'
theorem step_plain(hP:Ph w0 m n)(h:Dr w0 m s D mt mc mr y x hv T C R W){pc:Nat}(hf:s.x.f=0)(hpc:s.x.pc=pc){o:Od}(ho:odL[pc]?=some o)(hop:o.op≠10)(hst:∀u,Mh w0 m s u->Calls Tryz.prog 33 #[.pointer (some ⟨m.B,0,none⟩)] u (HQ w0 m u s')) :
  Calls Tryz.prog 17 #[.pointer (some ⟨D,0,none⟩)] W (StQ w0 m s' D mt mc mr y x hv T C R W):=by
 have h32:=p_order hP h.mh hf hpc ho
 have c0:W.cell? ⟨D,0,none⟩=some (.pointer (some ⟨m.B,0,none⟩)):=cell_block h.bx rfl
 have h33:∀w2,Below W.heap.size W w2->w2.cell? ⟨D,0,none⟩=some (.pointer (some ⟨m.B,0,none⟩))/\D<w2.heap.size:=fun w2 hb=>⟨cell_block (h.on hb).bx rfl,block_lt (h.on hb).bx⟩
 have hs:∀w2,Below W.heap.size W w2->Calls Tryz.prog 33 #[.pointer (some ⟨m.B,0,none⟩)] (w2.alloc (.cells #[.int .i64 o.op,.int .i64 o.a,.int .i64 o.b,.int .i64 o.c] 32)) fun e w4=>e=.returned (.tuple #[])/\w4.cell? ⟨w2.heap.size,0,none⟩=some (.int .i64 o.op)/\Hid (StQ w0 m s' D mt mc mr y x hv T C R W (.returned (.tuple #[])) w4):=fun w2 hb=>by
  have E:Below W.heap.size W (w2.alloc (.cells #[.int .i64 o.op,.int .i64 o.a,.int .i64 o.b,.int .i64 o.c] 32)):=ext_alloc hb _
  refine(hst _ (h.on E).mh).mono fun e w4 k=>⟨k.e,?_,rfl,(h.on E).mach k.h k.k.k,(Keeps.of_below E).trans k.k.k⟩
  refine k.k.k.cell (cell_block (i:=0) (heap_new w2 _) rfl) (fun hm=>?_)
  have:=h.mh.ltm _ hm
  have:=hb.size
  omega
 have hop':(o.op == 10)=false:=by simpa using hop
 replace hs:Hid _:=hs
 replace h33:Hid _:=h33
 clear ho hpc hf hst h hop
 go_enter Tryz.func17,Tryz.ntmps17
 go_wp2_with (first|(go_at_call 32;refine h32.mono ?_;rintro e w2 ⟨rfl,hb2⟩;obtain⟨c2,hD2⟩:=h33.out w2 hb2)|(go_at_call 33;refine(hs.out w2 hb2).mono ?_;rintro e w4 ⟨rfl,c4,fin⟩))
 simp only[bodyPost]
 exact⟨trivial,.tuple #[],res17 _ _,fin.out⟩
end
section
variable {w0:World} {m:Hm} {s s':Ms} {D mt mc mr:Nat} {y:Po} {x:Sx} {hv:Value} {T C R:DataW Value} {W W':World} {n:Nat}
theorem step_loop(hP:Ph w0 m n)(h:Dr w0 m s D mt mc mr y x hv T C R W){pc:Nat}(hf:s.x.f=0)(hpc:s.x.pc=pc){o:Od}(ho:odL[pc]?=some o)(hop:o.op=10){pc':Nat}(hf':s'.x.f=0)(hpc':s'.x.pc=pc'){Q:World->Prop}(hct:∀u,Dr w0 m s' D mt mc mr y x hv T C R u->Keeps (·∈m.own) W u->Calls Tryz.prog 34 #[.pointer (some ⟨D,0,none⟩),hdV pc'] u fun e w'=>e=.returned (.tuple #[])/\Q w')(hst:∀u,Mh w0 m s u->Calls Tryz.prog 33 #[.pointer (some ⟨m.B,0,none⟩)] u (HQ w0 m u s')) :
  Calls Tryz.prog 17 #[.pointer (some ⟨D,0,none⟩)] W fun e w'=>e=.returned (.tuple #[])/\Q w':=by
 have h32:=p_order hP h.mh hf hpc ho
 have c0:W.cell? ⟨D,0,none⟩=some (.pointer (some ⟨m.B,0,none⟩)):=cell_block h.bx rfl
 have h33:∀w2,Below W.heap.size W w2->w2.cell? ⟨D,0,none⟩=some (.pointer (some ⟨m.B,0,none⟩))/\D<w2.heap.size:=fun w2 hb=>⟨cell_block (h.on hb).bx rfl,block_lt (h.on hb).bx⟩
 have hs:∀w2,Below W.heap.size W w2->Calls Tryz.prog 33 #[.pointer (some ⟨m.B,0,none⟩)] (w2.alloc (.cells #[.int .i64 o.op,.int .i64 o.a,.int .i64 o.b,.int .i64 o.c] 32)) fun e w4=>e=.returned (.tuple #[])/\w4.cell? ⟨w2.heap.size,0,none⟩=some (.int .i64 o.op)/\Hid (StQ w0 m s' D mt mc mr y x hv T C R W (.returned (.tuple #[])) w4):=fun w2 hb=>by
  have E:Below W.heap.size W (w2.alloc (.cells #[.int .i64 o.op,.int .i64 o.a,.int .i64 o.b,.int .i64 o.c] 32)):=ext_alloc hb _
  refine(hst _ (h.on E).mh).mono fun e w4 k=>⟨k.e,?_,rfl,(h.on E).mach k.h k.k.k,(Keeps.of_below E).trans k.k.k⟩
  refine k.k.k.cell (cell_block (i:=0) (heap_new w2 _) rfl) (fun hm=>?_)
  have:=h.mh.ltm _ hm
  have:=hb.size
  omega
 have hop':(o.op == 10)=true:=by simpa using hop
 have hat:∀u,StQ w0 m s' D mt mc mr y x hv T C R W (.returned (.tuple #[])) u->Calls Tryz.prog 30 #[.pointer (some ⟨D,0,none⟩)] u fun e W'=>e=.returned (hdV pc')/\Hid (Calls Tryz.prog 34 #[.pointer (some ⟨D,0,none⟩),hdV pc'] W' fun e w'=>e=.returned (.tuple #[])/\Q w'):=fun u hu=>(at_any hu.h.mh D (cell_block hu.h.bx rfl)).mono fun e W' k=>⟨by rw[k.e,hf',hpc'],hct W' (hu.h.on k.k) (hu.k.trans (Keeps.of_below k.k))⟩
 replace hat:Hid _:=hat
 replace hs:Hid _:=hs
 replace h33:Hid _:=h33
 clear ho hpc hf hst h hop hct hf' hpc'
 go_enter Tryz.func17,Tryz.ntmps17
 go_wp2_with (first|(go_at_call 32;refine h32.mono ?_;rintro e w2 ⟨rfl,hb2⟩;obtain⟨c2,hD2⟩:=h33.out w2 hb2)|(go_at_call 33;refine(hs.out w2 hb2).mono ?_;rintro e w4 ⟨rfl,c4,fin⟩)|(go_at_call 30;refine(hat.out _ fin.out).mono ?_;rintro e w5 ⟨rfl,h34⟩)|(go_at_call 34;refine h34.out.mono ?_;rintro e w6 ⟨rfl,hQ6⟩))
 simp only[bodyPost]
 exact⟨trivial,.tuple #[],res17 _ _,rfl,hQ6⟩
end
section
variable {W:World} {M nn:Nat} {D:DataW Value}
theorem look1_h(h:Hd W M nn D){t e:TypeId}(ht:Tryz.prog.underlying t=some (.map 86 e)){z:Value}(hz:∀u:World,(zeroValue e).run Tryz.prog u=.ok z u){pc:Nat}(hp:pc<8):(Instr.lookup t (.map (some M)) (hdV pc) false).run Tryz.prog W=.ok (heldV (D.atKey (hl pc) (.held z))) W:=by
 obtain⟨es,clock,hb,F,_,rfl⟩:=h
 rcases Maps.fit_look false keyedH ht (hz W) hb F (keyH pc hp) with⟨hr,_,ha⟩|⟨e0,q,_,_,hr,hq,ha,_⟩
 ·rw[ha];exact hr
 ·rw[ha,hr]
  have e:=congrArg (fun o:Option (DataW Value×List MemPlace)=>o.map Prod.fst) hq
  simp only[Option.map_some,Option.some.injEq]at e
  rw[<- e]
  rfl
theorem count_h(h:Hd W M nn D)(hn:nn<=100000){pc:Nat}(hp:pc<8){c:Int}(hat:heldV (D.atKey (hl pc) (.held (.int .i64 0)))=.int .i64 c)(v:Value) :
  ∃(st:Nat) (w1 w2:World),(Instr.lookup 58 (.map (some M)) (hdV pc) false).run Tryz.prog W=.ok (.int .i64 c) W /\
   (Instr.mapEntry 58 (.map (some M)) (hdV pc)).run Tryz.prog W=.ok (.tuple #[.int .i64 c,.int .i64 st]) w1 /\
   (Instr.lookup 58 (.map (some M)) (hdV pc) false).run Tryz.prog w1=.ok (.int .i64 c) w1 /\
   (Instr.entryStore 58 (.map (some M)) (.int .i64 st) v).run Tryz.prog w1=.ok () w2 /\
   Hd w2 M (nn+1) (D.put (hl pc) (.held v))/\Keeps (fun k=>k=M) W w2/\(∀i,i≠M->w1.heap[i]?=W.heap[i]?):=by
 have hl1:=look1_h h Tryz.underlying58 (fun u=>Tryz.zeroValue3 u) hp
 rw[hat]at hl1
 obtain⟨w2,hu,ho,hg⟩:=store_n h hn hp v
 obtain⟨es,clock,hb,F,_,_⟩:=h
 obtain⟨q,st,es1,clock1,he,hl',hl2,hst⟩:=entry_all lawH Tryz.underlying58 (fun u=>Tryz.zeroValue3 u) hb F (keyH pc hp)
 obtain⟨es',clock',hs,hu'⟩:=hst v
 rw[hl1]at hl'
 simp only[Result.ok.injEq,and_true]at hl'
 subst hl'
 rw[hu]at hu'
 simp only[Result.ok.injEq,true_and]at hu'
 rw[setBlock_twice,<- hu']at hs
 exact⟨st,_,w2,hl1,he,hl2,hs,ho,hg,fun i hi=>ChangeMaps.heap_setBlock_other hb _ hi⟩
end
theorem res34(tm:Array Value)(W:World):(results Tryz.f34 tm).run Tryz.prog W=.ok (.tuple #[]) W:=by
 simp[results,Tryz.results34,go_sem]
section
variable {w0:World} {m:Hm} {s:Ms} {D mt mc mr:Nat} {y:Po} {x:Sx} {hv:Value} {T C R:DataW Value} {W W':World}
theorem Dr.ap(h:Dr w0 m s D mt mc mr y x hv T C R W):D≠mt/\D≠mc/\D≠mr/\mt≠mc/\mt≠mr/\mc≠mr/\D∉m.own/\mt∉m.own/\mc∉m.own/\mr∉m.own:=by
 obtain⟨n1,h2⟩:=List.nodup_cons.1 h.nd
 obtain⟨n2,h3⟩:=List.nodup_cons.1 h2
 obtain⟨n3,h4⟩:=List.nodup_cons.1 h3
 obtain⟨n4,h5⟩:=List.nodup_cons.1 h4
 rw[List.mem_cons,List.mem_cons,List.mem_cons,not_or,not_or,not_or]at n1
 rw[List.mem_cons,List.mem_cons,not_or,not_or]at n2
 rw[List.mem_cons,not_or]at n3
 exact⟨n1.1,n1.2.1,n1.2.2.1,n2.1,n2.2.1,n3.1,n1.2.2.2,n2.2.2,n3.2,n4⟩
theorem Dr.cnt(h:Dr w0 m s D mt mc mr y x hv T C R W){C':DataW Value}{n:Nat}(hn:n<=10000)(hC:Hd W' mc n C')(hK:Keeps (fun k=>k=mc) W W'):Dr w0 m s D mt mc mr y x hv T C' R W':=by
 obtain⟨a1,a2,a3,a4,a5,a6,a7,a8,a9,a10⟩:=h.ap
 obtain⟨a,ha,hT⟩:=h.ht
 obtain⟨c,hc,hR⟩:=h.hr
 exact⟨h.mh.wrote hK (fun k e=>by have e':k=mc:=e;rw[e'];exact a9) (fun k e=>by have e':k=mc:=e;rw[e'];exact h.lo.2.2.1),(hK.block _ (block_lt h.bx) a2).trans h.bx,⟨a,ha,hd_same hT (hK.block _ (hd_lt hT) a4)⟩,⟨n,hn,hC⟩,⟨c,hc,hd_same hR (hK.block _ (hd_lt hR) (fun e=>a6 e.symm))⟩,h.nd,h.lo⟩
structure CtQ (w0:World) (m:Hm) (s:Ms) (D mt mc mr:Nat) (y:Po) (x:Sx) (hv:Value) (T C R:DataW Value) (W W':World):Prop where
 h:Dr w0 m s D mt mc mr y x hv T C R W'
 k:Keeps (fun k=>k=mc) W W'
theorem count_less(h:Dr w0 m s D mt mc mr y x hv T C R W){n:Nat}(hn:n<10000)(hC:Hd W mc n C){c:Int}(hat:heldV (C.atKey (hl 3) (.held (.int .i64 0)))=.int .i64 c)(h0:0<=c/\c<=60000)(hat':heldV ((C.put (hl 3) (.held (.int .i64 (c+1)))).atKey (hl 3) (.held (.int .i64 0)))=.int .i64 (c+1))(hlt:c+1<y.hot) :
  Calls Tryz.prog 34 #[.pointer (some ⟨D,0,none⟩),hdV 3] W fun e W'=>e=.returned (.tuple #[])/\CtQ w0 m s D mt mc mr y x hv T (C.put (hl 3) (.held (.int .i64 (c+1)))) R W W'/\Hd W' mc (n+1) (C.put (hl 3) (.held (.int .i64 (c+1)))):=by
 obtain⟨a1,a2,a3,a4,a5,a6,a7,a8,a9,a10⟩:=h.ap
 obtain⟨w1,hw1⟩:∃w1,(W.alloc (.cells #[.int .i64 0,.int .i64 3] 86))=w1:=⟨_,rfl⟩
 have E1:Below W.heap.size W w1:=by rw[<- hw1];exact ext_alloc (Below.refl _ _) _
 have g1:w1.heap[W.heap.size]?=some (.cells #[.int .i64 0,.int .i64 3] 86):=by rw[<- hw1];exact heap_new _ _
 have h1:=h.on E1
 have hC1:Hd w1.drew mc n C:=hd_same hC (E1.block _ (hd_lt hC))
 obtain⟨st,v1,v2,k1,k2,k3,k4,k5,k6,k7⟩:=count_h hC1 (by omega) (pc:=3) (by omega) hat (.int .i64 (c+1))
 have hmcl:mc<W.heap.size:=hd_lt hC
 have nb:¬W.heap.size=mc:=by omega
 have hsz:W.heap.size<w1.heap.size:=block_lt g1
 have g2:v2.heap[W.heap.size]?=some (.cells #[.int .i64 0,.int .i64 3] 86):=(k6.block _ hsz nb).trans g1
 have h2:Dr w0 m s D mt mc mr y x hv T (C.put (hl 3) (.held (.int .i64 (c+1)))) R v2:=(h1.on (ext_drew (Below.refl _ _))).cnt (by omega) k5 k6
 have fin:∀k,CtQ w0 m s D mt mc mr y x hv T (C.put (hl 3) (.held (.int .i64 (c+1)))) R W (v2.drewN k)/\Hd (v2.drewN k) mc (n+1) (C.put (hl 3) (.held (.int .i64 (c+1)))):=fun k=>⟨⟨h2.on (drewN_below (Below.refl _ _)),(Keeps.of_below E1).trans ((Keeps.of_below (ext_drew (Below.refl _ _))).trans (k6.trans (Keeps.of_below (drewN_below (Below.refl _ _)))))⟩,hd_same k5 rfl⟩
 have c9:w1.cell? ⟨D,9,none⟩=some (.map (some mc)):=cell_block h1.bx rfl
 have d9:v2.cell? ⟨D,9,none⟩=some (.map (some mc)):=cell_block h2.bx rfl
 have d1:v2.cell? ⟨D,1,none⟩=some (.int .i64 y.hot):=cell_block h2.bx rfl
 have e0:=cell_block (i:=0) g1 rfl
 have e1:=cell_block (i:=1) g1 rfl
 have f0:=cell_block (i:=0) g2 rfl
 have f1:=cell_block (i:=1) g2 rfl
 have l2:∀k,(Instr.lookup 58 (.map (some mc)) (hdV 3) false).run Tryz.prog (v2.drewN k)=.ok (.int .i64 (c+1)) (v2.drewN k):=fun k=>by
  have:=look1_h (W:=v2.drewN k) (hd_same k5 rfl) Tryz.underlying58 (fun u=>Tryz.zeroValue3 u) (pc:=3) (by omega)
  rw[hat']at this
  exact this
 have l20:(Instr.lookup 58 (.map (some mc)) (hdV 3) false).run Tryz.prog v2=.ok (.int .i64 (c+1)) v2:=by
  have:=look1_h k5 Tryz.underlying58 (fun u=>Tryz.zeroValue3 u) (pc:=3) (by omega)
  rw[hat']at this
  exact this
 have j1:(Instr.lookup 58 (.map (some mc)) (.agg #[.int .i64 0,.int .i64 3]) false).run Tryz.prog w1.drew=.ok (.int .i64 c) w1.drew:=k1
 have j2:(Instr.mapEntry 58 (.map (some mc)) (.agg #[.int .i64 0,.int .i64 3])).run Tryz.prog w1.drew=.ok (.tuple #[.int .i64 c,.int .i64 st]) v1:=k2
 have j3:(Instr.lookup 58 (.map (some mc)) (.agg #[.int .i64 0,.int .i64 3]) false).run Tryz.prog v1=.ok (.int .i64 c) v1:=k3
 have l3:∀k,(Instr.lookup 58 (.map (some mc)) (.agg #[.int .i64 0,.int .i64 3]) false).run Tryz.prog (v2.drewN k)=.ok (.int .i64 (c+1)) (v2.drewN k):=l2
 have l30:(Instr.lookup 58 (.map (some mc)) (.agg #[.int .i64 0,.int .i64 3]) false).run Tryz.prog v2=.ok (.int .i64 (c+1)) v2:=l20
 clear k1 k2 k3 l2 l20
 have hws:IntKind.i64.wrap (c+1)=c+1:=IntWalk.i64_in _ ⟨by omega,by omega⟩
 replace fin:Hid _:=fin
 clear h h1 h2 hC hC1 hat hat' k5 k6 k7 g1 g2 E1
 go_enter Tryz.func34,Tryz.ntmps34
 go_wp2
 go_region
 all_goals
  go_wp2
  go_quiet (fail)
  go_wp2
  exact bodyPost_ret (res34 _ _) rfl ⟨rfl,fin.out _⟩
end
section
variable {w0:World} {m:Hm} {s:Ms} {D mt mc mr:Nat} {y:Po} {x:Sx} {hv:Value} {T C R:DataW Value} {W W':World}
theorem count_hot(h:Dr w0 m s D mt mc mr y x hv T C R W){n:Nat}(hn:n<9999)(hC:Hd W mc n C){c:Int}(hat:heldV (C.atKey (hl 3) (.held (.int .i64 0)))=.int .i64 c)(h0:0<=c/\c<=60000)(hat':heldV ((C.put (hl 3) (.held (.int .i64 (c+1)))).atKey (hl 3) (.held (.int .i64 0)))=.int .i64 (c+1))(hlt:y.hot<=c+1)(hT0:heldV (T.atKey (hl 3) (.held (.pointer none)))=.pointer none)(hca:0<y.cache){r:Int}(hR0:heldV (R.atKey (hl 3) (.held (.int .i64 0)))=.int .i64 r)(hrt:r<y.tries){Q:World->Prop}(htry:∀u,CtQ w0 m s D mt mc mr y x hv T ((C.put (hl 3) (.held (.int .i64 (c+1)))).put (hl 3) (.held (.int .i64 0))) R W u->Calls Tryz.prog 44 #[.pointer (some ⟨D,0,none⟩),hdV 3] u fun e w'=>e=.returned (.tuple #[])/\Q w') :
  Calls Tryz.prog 34 #[.pointer (some ⟨D,0,none⟩),hdV 3] W fun e w'=>e=.returned (.tuple #[])/\Q w':=by
 obtain⟨a1,a2,a3,a4,a5,a6,a7,a8,a9,a10⟩:=h.ap
 obtain⟨w1,hw1⟩:∃w1,(W.alloc (.cells #[.int .i64 0,.int .i64 3] 86))=w1:=⟨_,rfl⟩
 have E1:Below W.heap.size W w1:=by rw[<- hw1];exact ext_alloc (Below.refl _ _) _
 have g1:w1.heap[W.heap.size]?=some (.cells #[.int .i64 0,.int .i64 3] 86):=by rw[<- hw1];exact heap_new _ _
 have h1:=h.on E1
 have hC1:Hd w1.drew mc n C:=hd_same hC (E1.block _ (hd_lt hC))
 obtain⟨st,v1,v2,k1,k2,k3,k4,k5,k6,k7⟩:=count_h hC1 (by omega) (pc:=3) (by omega) hat (.int .i64 (c+1))
 have hmcl:mc<W.heap.size:=hd_lt hC
 have nb:¬W.heap.size=mc:=by omega
 have hsz:W.heap.size<w1.heap.size:=block_lt g1
 have g2:v2.heap[W.heap.size]?=some (.cells #[.int .i64 0,.int .i64 3] 86):=(k6.block _ hsz nb).trans g1
 have h2:Dr w0 m s D mt mc mr y x hv T (C.put (hl 3) (.held (.int .i64 (c+1)))) R v2:=(h1.on (ext_drew (Below.refl _ _))).cnt (by omega) k5 k6
 have up:∀u,Below v2.heap.size v2 u->∃v3,(Instr.mapUpdate 58 (.map (some mc)) (.agg #[.int .i64 0,.int .i64 3]) (.int .i64 0)).run Tryz.prog u=.ok () v3/\v3.heap[W.heap.size]?=some (.cells #[.int .i64 0,.int .i64 3] 86)/\Hid (CtQ w0 m s D mt mc mr y x hv T ((C.put (hl 3) (.held (.int .i64 (c+1)))).put (hl 3) (.held (.int .i64 0))) R W v3):=fun u hu=>by
  have hCu:Hd u mc (n+1) _:=hd_same k5 (hu.block _ (hd_lt k5))
  obtain⟨v3,q1,q2,q3⟩:=store_n hCu (by omega) (pc:=3) (by omega) (.int .i64 0)
  have gu:=block_below hu g2
  refine⟨v3,q1,(q3.block _ (block_lt gu) nb).trans gu,(h2.on hu).cnt (by omega) q2 q3,(Keeps.of_below E1).trans ((Keeps.of_below (ext_drew (Below.refl _ _))).trans (k6.trans ((Keeps.of_below hu).trans q3)))⟩
 have rd:∀v3,CtQ w0 m s D mt mc mr y x hv T ((C.put (hl 3) (.held (.int .i64 (c+1)))).put (hl 3) (.held (.int .i64 0))) R W v3->v3.cell? ⟨D,8,none⟩=some (.map (some mt))/\v3.cell? ⟨D,3,none⟩=some (.int .i64 y.cache)/\v3.cell? ⟨D,10,none⟩=some (.map (some mr))/\v3.cell? ⟨D,4,none⟩=some (.int .i64 y.tries)/\(∀k,(Instr.lookup 57 (.map (some mt)) (.agg #[.int .i64 0,.int .i64 3]) false).run Tryz.prog (v3.drewN k)=.ok (.pointer none) (v3.drewN k))/\(∀k,(Instr.lookup 58 (.map (some mr)) (.agg #[.int .i64 0,.int .i64 3]) false).run Tryz.prog (v3.drewN k)=.ok (.int .i64 r) (v3.drewN k))/\(Instr.lookup 57 (.map (some mt)) (.agg #[.int .i64 0,.int .i64 3]) false).run Tryz.prog v3=.ok (.pointer none) v3/\(Instr.lookup 58 (.map (some mr)) (.agg #[.int .i64 0,.int .i64 3]) false).run Tryz.prog v3=.ok (.int .i64 r) v3/\∀k,Calls Tryz.prog 44 #[.pointer (some ⟨D,0,none⟩),.agg #[.int .i64 0,.int .i64 3]] (v3.drewN k) fun e w'=>e=.returned (.tuple #[])/\Q w':=fun v3 hq=>by
  obtain⟨_,_,hTt⟩:=hq.h.ht
  obtain⟨_,_,hRr⟩:=hq.h.hr
  have t1:=fun u (e:u.heap[mt]?=v3.heap[mt]?)=>look1_h (hd_same (W':=u) hTt e) Tryz.underlying57 (fun u=>Tryz.zeroValue83 u) (pc:=3) (by omega)
  have t2:=fun u (e:u.heap[mr]?=v3.heap[mr]?)=>look1_h (hd_same (W':=u) hRr e) Tryz.underlying58 (fun u=>Tryz.zeroValue3 u) (pc:=3) (by omega)
  rw[hT0]at t1
  rw[hR0]at t2
  exact⟨cell_block hq.h.bx rfl,cell_block hq.h.bx rfl,cell_block hq.h.bx rfl,cell_block hq.h.bx rfl,fun k=>t1 _ rfl,fun k=>t2 _ rfl,t1 _ rfl,t2 _ rfl,fun k=>htry _ ⟨hq.h.on (drewN_below (Below.refl _ _)),hq.k.trans (Keeps.of_below (drewN_below (Below.refl _ _)))⟩⟩
 have c9:w1.cell? ⟨D,9,none⟩=some (.map (some mc)):=cell_block h1.bx rfl
 have d9:v2.cell? ⟨D,9,none⟩=some (.map (some mc)):=cell_block h2.bx rfl
 have d1:v2.cell? ⟨D,1,none⟩=some (.int .i64 y.hot):=cell_block h2.bx rfl
 have e0:=cell_block (i:=0) g1 rfl
 have e1:=cell_block (i:=1) g1 rfl
 have f0:=cell_block (i:=0) g2 rfl
 have f1:=cell_block (i:=1) g2 rfl
 have l2:∀k,(Instr.lookup 58 (.map (some mc)) (hdV 3) false).run Tryz.prog (v2.drewN k)=.ok (.int .i64 (c+1)) (v2.drewN k):=fun k=>by
  have:=look1_h (W:=v2.drewN k) (hd_same k5 rfl) Tryz.underlying58 (fun u=>Tryz.zeroValue3 u) (pc:=3) (by omega)
  rw[hat']at this
  exact this
 have l20:(Instr.lookup 58 (.map (some mc)) (hdV 3) false).run Tryz.prog v2=.ok (.int .i64 (c+1)) v2:=by
  have:=look1_h k5 Tryz.underlying58 (fun u=>Tryz.zeroValue3 u) (pc:=3) (by omega)
  rw[hat']at this
  exact this
 have j1:(Instr.lookup 58 (.map (some mc)) (.agg #[.int .i64 0,.int .i64 3]) false).run Tryz.prog w1.drew=.ok (.int .i64 c) w1.drew:=k1
 have j2:(Instr.mapEntry 58 (.map (some mc)) (.agg #[.int .i64 0,.int .i64 3])).run Tryz.prog w1.drew=.ok (.tuple #[.int .i64 c,.int .i64 st]) v1:=k2
 have j3:(Instr.lookup 58 (.map (some mc)) (.agg #[.int .i64 0,.int .i64 3]) false).run Tryz.prog v1=.ok (.int .i64 c) v1:=k3
 have l3:∀k,(Instr.lookup 58 (.map (some mc)) (.agg #[.int .i64 0,.int .i64 3]) false).run Tryz.prog (v2.drewN k)=.ok (.int .i64 (c+1)) (v2.drewN k):=l2
 have l30:(Instr.lookup 58 (.map (some mc)) (.agg #[.int .i64 0,.int .i64 3]) false).run Tryz.prog v2=.ok (.int .i64 (c+1)) v2:=l20
 clear k1 k2 k3 l2 l20
 have hws:IntKind.i64.wrap (c+1)=c+1:=IntWalk.i64_in _ ⟨by omega,by omega⟩
 have hnl:¬c+1<y.hot:=by omega
 replace up:Hid _:=up
 replace rd:Hid _:=rd
 clear htry hT0 hR0 hlt h h1 h2 hC hC1 hat hat' k5 k6 k7 g1 g2 E1
 go_enter Tryz.func34,Tryz.ntmps34
 go_wp2
 go_region
 all_goals
  go_wp2
  go_quiet (fail)
  go_wp2
  rename Nat=>nq
  obtain⟨v3,q1,q2,q3⟩:=up.out (v2.drewN (nq+1)) (drewN_below (Below.refl _ _))
  obtain⟨r8,r3,r10,r4,ra,rb,ra0,rb0,rc⟩:=rd.out v3 q3.out
  have s0:=cell_block (i:=0) q2 rfl
  have s1:=cell_block (i:=1) q2 rfl
  replace rc:Hid _:=rc
  clear q2 q3 up rd
  go_region
  all_goals
   go_wp2
   go_quiet (fail)
   go_wp2_with (go_at_call 44;refine(rc.out _).mono ?_;rintro e w6 ⟨rfl,hQ6⟩)
   simp only[bodyPost]
   exact⟨trivial,.tuple #[],res34 _ _,rfl,hQ6⟩
end
section
variable {w0:World} {m:Hm} {s s':Ms} {D mt mc mr:Nat} {y:Po} {x:Sx} {hv:Value} {T C R:DataW Value} {W W':World} {i n:Nat} {d:Vl} {Rb vb lo:Nat} {iv sv:Value} {vs:List Value} {vals:List Vl}
theorem Dr.kept{S:Nat->Prop}(h:Dr w0 m s D mt mc mr y x hv T C R W)(hM:Mh w0 m s' W')(hK:Keeps S W W')(k1:¬S D)(k2:¬S mt)(k3:¬S mc)(k4:¬S mr):Dr w0 m s' D mt mc mr y x hv T C R W':=by
 obtain⟨a,ha,hT⟩:=h.ht
 obtain⟨b,hb',hC⟩:=h.hc
 obtain⟨c,hc,hR⟩:=h.hr
 exact⟨hM,(hK.block _ (block_lt h.bx) k1).trans h.bx,⟨a,ha,hd_same hT (hK.block _ (hd_lt hT) k2)⟩,⟨b,hb',hd_same hC (hK.block _ (hd_lt hC) k3)⟩,⟨c,hc,hd_same hR (hK.block _ (hd_lt hR) k4)⟩,h.nd,h.lo⟩
theorem Dr.ins(h:Dr w0 m s D mt mc mr y x hv T C R W)(z:Int):Dr w0 m s D mt mc mr y { x with inside:=z } hv T C R (W.setCell ⟨D,7,none⟩ (.int .i64 z)):=by
 obtain⟨a1,a2,a3,a4,a5,a6,a7,a8,a9,a10⟩:=h.ap
 obtain⟨a,ha,hT⟩:=h.ht
 obtain⟨b,hb',hC⟩:=h.hc
 obtain⟨c,hc,hR⟩:=h.hr
 have hK:=keeps_one W D 7 (.int .i64 z)
 exact⟨h.mh.wrote hK (fun k e=>by have e':k=D:=e;rw[e'];exact a7) (fun k e=>by have e':k=D:=e;rw[e'];exact h.lo.1),set_block _ h.bx,⟨a,ha,hd_same hT (hK.block _ (hd_lt hT) a1.symm)⟩,⟨b,hb',hd_same hC (hK.block _ (hd_lt hC) a2.symm)⟩,⟨c,hc,hd_same hR (hK.block _ (hd_lt hR) a3.symm)⟩,h.nd,h.lo⟩
theorem runTrace_yes(hn:n<=200)(hi:i<=n)(h:Dr w0 m (sI i n d (4*i+3)) D mt mc mr y x hv (D3 (.pointer (some ⟨Rb,0,none⟩))) C R W)(hr:Rn w0 m (sI i n d (4*i+3)) Rb vb lo iv sv vs vals W)(v1:vb≠D)(v2:vb≠mt)(v3:vb≠mc)(v4:vb≠mr)(hx:x.inside=0) :
  Calls Tryz.prog 16 #[.pointer (some ⟨D,0,none⟩),.int .i64 4000] W fun e W'=>e=.returned (.bool true)/\Dr w0 m (stS 4 [numV n,numV n,numV 1,boV false] (4*n+4)) D mt mc mr y { x with inside:=((4*n+4:Nat):Int)-((4*i+3:Nat):Int) } hv (D3 (.pointer (some ⟨Rb,0,none⟩))) C R W':=by
 obtain⟨a1,a2,a3,a4,a5,a6,a7,a8,a9,a10⟩:=h.ap
 obtain⟨p,hp⟩:∃p:Nat,4*i+3=p:=⟨_,rfl⟩
 obtain⟨q,hq⟩:∃q:Nat,4*n+4=q:=⟨_,rfl⟩
 have hpq:p<q:=by omega
 have hq9:q<=900:=by omega
 have hat:∀u,Below W.heap.size W u->Calls Tryz.prog 30 #[.pointer (some ⟨D,0,none⟩)] u fun e W'=>e=.returned (hdV 3)/\Below W.heap.size W W'/\(Instr.lookup 57 (.map (some mt)) (hdV 3) true).run Tryz.prog W'=.ok (.tuple #[.pointer (some ⟨Rb,0,none⟩),.bool true]) W':=fun u hu=>(at_any (h.on hu).mh D (cell_block (h.on hu).bx rfl)).mono fun e W' k=>by
  obtain⟨n,_,hT⟩:=((h.on hu).on k.k).ht
  have hl:=look_p hT (pc:=3) (by omega)
  rw[has_3,at_3]at hl
  exact⟨k.e,ext_trans hu k.k,hl⟩
 have c8:∀u,Below W.heap.size W u->u.cell? ⟨D,8,none⟩=some (.map (some mt))/\u.cell? ⟨D,0,none⟩=some (.pointer (some ⟨m.B,0,none⟩))/\u.cell? ⟨m.B,5,none⟩=some (.int .i64 (p:Nat)):=fun u hu=>⟨cell_block (h.on hu).bx rfl,cell_block (h.on hu).bx rfl,by rw[<- hp];exact(h.on hu).mh.cs.c5⟩
 have c0:=(c8 _ (Below.refl _ _)).1
 have h31:∀u,Below W.heap.size W u->Calls Tryz.prog 31 #[.pointer (some ⟨Rb,0,none⟩),.int .i64 4000] u fun e w4=>e=.returned (.tuple #[])/\Hid (Dr w0 m (stS 4 [numV n,numV n,numV 1,boV false] (4*n+4)) D mt mc mr y x hv (D3 (.pointer (some ⟨Rb,0,none⟩))) C R w4):=fun u hu=>(rounds_any hn hi (hr.on hu)).mono fun e w4 k=>⟨k.e,by
  obtain⟨vals',hr'⟩:=k.h
  exact(h.on hu).kept hr'.mh k.k (fun e=>e.elim a7 (fun e=>v1 e.symm)) (fun e=>e.elim a8 (fun e=>v2 e.symm)) (fun e=>e.elim a9 (fun e=>v3 e.symm)) (fun e=>e.elim a10 (fun e=>v4 e.symm))⟩
 have rd:∀w4,Dr w0 m (stS 4 [numV n,numV n,numV 1,boV false] (4*n+4)) D mt mc mr y x hv (D3 (.pointer (some ⟨Rb,0,none⟩))) C R w4->w4.cell? ⟨D,7,none⟩=some (.int .i64 0)/\w4.frozen? ⟨D,7,none⟩=false/\w4.cell? ⟨D,0,none⟩=some (.pointer (some ⟨m.B,0,none⟩))/\w4.cell? ⟨m.B,5,none⟩=some (.int .i64 (q:Nat))/\∀u,Below w4.heap.size w4 u->Dr w0 m (stS 4 [numV n,numV n,numV 1,boV false] (4*n+4)) D mt mc mr y { x with inside:=((4*n+4:Nat):Int)-((4*i+3:Nat):Int) } hv (D3 (.pointer (some ⟨Rb,0,none⟩))) C R (u.setCell ⟨D,7,none⟩ (.int .i64 ((q:Nat)-(p:Nat)))):=fun w4 h4=>⟨by rw[<- hx];exact cell_block h4.bx rfl,frozen_block h4.bx,cell_block h4.bx rfl,by rw[<- hq];exact h4.mh.cs.c5,fun u hu=>by
  rw[<- hp,<- hq]
  exact(h4.on hu).ins _⟩
 have nDB:¬D=m.B:=fun e=>a7 (by rw[e];simp)
 have w1:IntKind.i64.wrap ((q:Int)-(p:Int))=(q:Int)-(p:Int):=IntWalk.i64_in _ ⟨by omega,by omega⟩
 have hlt:((p:Nat):Int)<((q:Nat):Int):=by omega
 replace hat:Hid _:=hat
 replace c8:Hid _:=c8
 replace h31:Hid _:=h31
 replace rd:Hid _:=rd
 clear h hr hx hp hq hpq hi
 go_enter Tryz.func16,Tryz.ntmps16
 go_wp2
 go_region_with (go_at_call 30;refine(hat.out _ (by first|exact Below.refl _ _|exact ext_drew (Below.refl _ _))).mono ?_;rintro e w3 ⟨rfl,hb3,hl3⟩;obtain⟨c3,c30,c35⟩:=c8.out w3 hb3)
 all_goals
  go_wp2_with (go_at_call 31;refine(h31.out _ hb3).mono ?_;rintro e w4 ⟨rfl,h4⟩;obtain⟨e7,z7,e0,e5,fin⟩:=rd.out w4 h4.out;replace fin:Hid _:=fin)
  go_region
  all_goals
   go_wp2
   go_ret
   exact⟨by simp[hlt],fin.out _ (ext_drew (Below.refl _ _))⟩
end
end
end Go.Proofs.YthljpnmhddfblaaGreatDoor
