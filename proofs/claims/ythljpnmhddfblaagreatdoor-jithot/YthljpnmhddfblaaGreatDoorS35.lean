/- Texts, a frame and a row of frames once more, in memory of their own. -/
import Derived.Test.YthljpnmhddfblaaGreatDoorS30
import Derived.Test.YthljpnmhddfblaaGreatDoorS33
namespace Go.Proofs.YthljpnmhddfblaaGreatDoor
open Go.RowKit Go
set_option maxRecDepth 100000
set_option maxHeartbeats 8000000
set_option linter.all false
section
variable [DecidableEq Vl]
def RowS (n₀:Nat) (W:World) (sv:Value) (ts:List ByteArray):Prop :=
 ∃(a:Option Addr) (cap:Nat),sv=.slice a ts.length cap/\ts.length<=maxLen/\(ts≠[]->∃b off,a=some ⟨b,off,none⟩/\b<n₀/\∀j t,ts[j]?=some t->W.cell? ⟨b,off+j,none⟩=some (.string t))
def FrAt (n₀:Nat) (W:World) (b o:Nat) (x:Frm):Prop :=
 W.cell? ⟨b,o,none⟩=some (.int .i64 x.f)/\W.cell? ⟨b,o+1,none⟩=some (.int .i64 x.pc)/\W.cell? ⟨b,o+2,none⟩=some (.int .i64 x.d)/\∃rv,W.cell? ⟨b,o+3,none⟩=some rv/\Row n₀ W rv x.rs
def RowFr (n₀:Nat) (W:World) (sv:Value) (xs:List Frm):Prop :=
 ∃(a:Option Addr) (cap:Nat),sv=.slice a xs.length cap/\xs.length<=maxLen/\(xs≠[]->∃b off,a=some ⟨b,off,none⟩/\b<n₀/\∀j x,xs[j]?=some x->FrAt n₀ W b (off+j*4) x)
theorem FrAt.below{n₀:Nat}{A B:World}(h:Below n₀ A B){b o:Nat}{x:Frm}(hb:b<n₀)(t:FrAt n₀ A b o x):FrAt n₀ B b o x:=by
 obtain⟨t0,t1,t2,rv,t3,hr⟩:=t
 exact⟨(h.cell (p:=⟨b,o,none⟩) hb).trans t0,(h.cell (p:=⟨b,o+1,none⟩) hb).trans t1,(h.cell (p:=⟨b,o+2,none⟩) hb).trans t2,rv,(h.cell (p:=⟨b,o+3,none⟩) hb).trans t3,hr.below h⟩
theorem eachS_any(sv:Value)(ts:List ByteArray)(W:World)(hr:RowS W.heap.size W sv ts)(hl:ts.length<=60000)(hs:∀t∈ts,t.size<=300) :
  Calls Tryz.prog 28 #[sv,.func (.func 29) #[] #[]] W fun e W'=>∃g cap,e=.returned (.slice (some ⟨g,0,none⟩) ts.length cap)/\OwnR W' g 9 1 ts.length cap (ts.map Value.string)/\W.heap.size<=g/\Below W.heap.size W W':=by
 obtain⟨a,cp,rfl,_,hx⟩:=hr
 obtain⟨n,hn⟩:∃n,ts.length=n:=⟨_,rfl⟩
 rw[hn]at hl⊢
 obtain⟨mc,hmk,hms⟩:=made_row 35 9 _ 1 16 n Tryz.underlying35 info9 (by omega) (by omega) (by omega)
 obtain⟨i0,hi0,hz0,hz1,hz2⟩:=info_parts info9
 replace hn:Hid _:=hn
 replace hx:Hid _:=hx
 replace hs:Hid _:=hs
 go_enter Tryz.func28,Tryz.ntmps28
 go_wp2
 go_loopw [5,13] (fun t i wr=>∃k g cap:Nat,k<=n/\i=.int .i64 (k:Nat)/\t=.slice (some ⟨g,0,none⟩) k cap/\Hid (OwnR wr g 9 1 k cap ((ts.take k).map Value.string))/\W.heap.size<=g/\Below W.heap.size W wr) (fun _ i _=>n-(intOf i).toNat)
 case atStart=>exact⟨0,W.heap.size,n,Nat.zero_le _,rfl,rfl,OwnR.made hms (by omega),Nat.le_refl _,ext_alloc (Below.refl _ _) _⟩
 case round =>
  obtain⟨k,g,cap,hk,rfl,rfl,hO,hg,hbw⟩:=hrel
  by_cases hlt:k<n
  ·obtain⟨x,hxk⟩:∃x,ts[k]?=some x:=⟨ts[k]'(by rw[hn.out];exact hlt),List.getElem?_eq_getElem _⟩
   obtain⟨b,off,rfl,hb,hc⟩:=hx.out (fun e=>by rw[e]at hxk;simp at hxk)
   have c0:=(hbw.cell (p:=⟨b,off+k,none⟩) hb).trans (hc k x hxk)
   have hxs:=hs.out x (List.mem_of_getElem? hxk)
   have hbwr:b<wr.heap.size:=Nat.lt_of_lt_of_le hb hbw.size
   have hfv:=fun w=>clone_any x w hxs
   have hgl:g<wr.heap.size:=hO.out.lt
   have h63:k+1<=maxLen:=by unfold maxLen;omega
   have hby:(k+1)*16<=140737488355328:=by omega
   have hnw:∀(u:World) (j:Nat) (y:Value),[Value.string x][j]?=some y->(u.alloc (.cells #[.string x] 9)).cell? ((⟨u.heap.size,0,none⟩:Addr).add j)=some y:=fun u j y hy=>by
    match j,hy with
    | 0,hy=>cases hy;exact cell_block (i:=0) (heap_new u _) rfl
    | j+1,hy=>simp at hy
   go_wp2_with (first|(go_at_call 29;refine(hfv _).mono ?_;rintro e w2 ⟨rfl,E2⟩;have E3:=ext_alloc E2 (.cells #[.string x] 9);have hown:=(hO.out.same (E3.block g hgl)).owns (base:=W.heap.size) hg;have hnews:=hnw w2;have hsz:W.heap.size<=(w2.alloc (.cells #[.string x] 9)).heap.size:=Nat.le_trans hbw.size E3.size)|(at_builtin;refine wpList_append_lies _ (by rfl) _ _ _ (by rfl) W.heap.size 9 i0 _ 1 16 Tryz.underlying35 hi0 hz0 hz1 hz2 rfl (by omega) (.slice (some ⟨g,0,none⟩) k cap) k _ (by rfl) hown ⟨w2.heap.size,0,none⟩ 1 1 [Value.string x] (by rfl) (by rfl) hnews (by simp[Value.oneCell']) (by omega) h63 hby hsz _ rfl ?_;intro g3 cap3 w3 hown3 hgrow hat hlt3))
   go_roundw
   case measure=>simp[intOf];omega
   case rel =>
    have hO3:=OwnR.of hown3
    refine⟨k+1,g3,cap3,by omega,by go_num,rfl,?_,hO3.2,?_⟩
    ·rw[take_snoc hxk,List.map_append]
     exact hO3.1
    ·have hk3:=Keeps.grown hgrow
     exact(((Keeps.of_below (S:=fun k=>some k=some g) hbw).trans ((Keeps.of_below (S:=fun k=>some k=some g) E3).mono (fun _ _ h=>h))).trans hk3).below (Nat.le_refl _) (fun k hk e=>by have:=Option.some.inj e;omega)
  ·obtain rfl:k=n:=by omega
   go_wp2
   go_ret
   refine⟨g,cap,rfl,?_,hg,hbw⟩
   have:=hO.out
   rw[List.take_of_length_le (by rw[hn.out];exact Nat.le_refl _)]at this
   exact this
theorem res68{tm:Array Value}{W:World}{B:Nat}{a b c d:Value}(h:tm[2]?.getD undef=.pointer (some ⟨B,0,none⟩))(hx:W.heap[B]?=some (.cells #[a,b,c,d] 66)):(results Tryz.f23 tm).run Tryz.prog W=.ok (.agg #[a,b,c,d]) W:=by
 have d0:W.cell? ⟨B,0,none⟩=some a:=cell_block hx rfl
 have d1:W.cell? ⟨B,1,none⟩=some b:=cell_block hx rfl
 have d2:W.cell? ⟨B,2,none⟩=some c:=cell_block hx rfl
 have d3:W.cell? ⟨B,3,none⟩=some d:=cell_block hx rfl
 simp[results,Tryz.results23,go_sem,h,d0,d1,d2,d3]
theorem fresh1_any(x:Frm)(rv:Value)(W:World)(hr:Row W.heap.size W rv x.rs)(hl:x.rs.length<=1000)(hs:∀v∈x.rs,v.s.size<=300) :
  Calls Tryz.prog 23 #[.agg #[.int .i64 x.f,.int .i64 x.pc,.int .i64 x.d,rv]] W fun e W'=>∃g cap,e=.returned (.agg #[.int .i64 x.f,.int .i64 x.pc,.int .i64 x.d,.slice (some ⟨g,0,none⟩) x.rs.length cap])/\OwnR W' g 25 3 x.rs.length cap (flat x.rs)/\W.heap.size<=g/\Below W.heap.size W W':=by
 obtain⟨a,cp,hrv,_⟩:=id hr
 have E0:=ext_alloc (ext_alloc (Below.refl W.heap.size W) (.cells #[.int .i64 x.f,.int .i64 x.pc,.int .i64 x.d,rv] 66)) (.cells #[.int .i64 0,.int .i64 0,.int .i64 0,.slice none 0 0] 66)
 have g0:((W.alloc (.cells #[.int .i64 x.f,.int .i64 x.pc,.int .i64 x.d,rv] 66)).alloc (.cells #[.int .i64 0,.int .i64 0,.int .i64 0,.slice none 0 0] 66)).heap[W.heap.size]?=some (.cells #[.int .i64 x.f,.int .i64 x.pc,.int .i64 x.d,rv] 66):=block_alloc _ (heap_new _ _)
 have g1:=new2' W (.cells #[.int .i64 x.f,.int .i64 x.pc,.int .i64 x.d,rv] 66) (.cells #[.int .i64 0,.int .i64 0,.int .i64 0,.slice none 0 0] 66)
 have hev:=eachV_any rv x.rs _ (row_mono E0.size (hr.below E0)) hl hs
 subst hrv
 obtain⟨n,hn⟩:∃n,x.rs.length=n:=⟨_,rfl⟩
 rw[hn]at hev g0 g1 E0⊢
 clear hr hl hs hn
 go_enter Tryz.func23,Tryz.ntmps23
 go_wp2_with (go_at_call 24;refine hev.mono ?_;rintro e w2 ⟨g,cap,rfl,hO,hg,hb2⟩;refine Hid.out ?_)
 refine Lib.hid ?_
 have G0:=block_below hb2 g0
 have G1:=block_below hb2 g1
 have hz:W.heap.size+1<w2.heap.size:=block_lt G1
 have a0:=cell_block (i:=0) G0 rfl
 have a1:=cell_block (i:=1) G0 rfl
 have a2:=cell_block (i:=2) G0 rfl
 have a3:=cell_block (i:=3) G0 rfl
 have b0:=cell_block (i:=0) G1 rfl
 have b1:=cell_block (i:=1) G1 rfl
 have b2:=cell_block (i:=2) G1 rfl
 have b3:=cell_block (i:=3) G1 rfl
 have f3:=frozen_block (i:=3) G0
 have z0:=frozen_block (i:=0) G1
 have z1:=frozen_block (i:=1) G1
 have z2:=frozen_block (i:=2) G1
 have z3:=frozen_block (i:=3) G1
 have hg2:W.heap.size+1<g:=by have:=hg;simp at this;omega
 have e2:(w2.setCell ⟨W.heap.size,3,none⟩ (.slice (some ⟨g,0,none⟩) n cap)).heap[W.heap.size+1]?=_:=(set1_other _ _ (by omega)).trans G1
 have E2:Below W.heap.size W (w2.setCell ⟨W.heap.size,3,none⟩ (.slice (some ⟨g,0,none⟩) n cap)):=(ext_trans E0 hb2).setCell (p:=⟨W.heap.size,3,none⟩) (Nat.le_refl _) _
 have hO2:OwnR (w2.setCell ⟨W.heap.size,3,none⟩ (.slice (some ⟨g,0,none⟩) n cap)) g 25 3 n cap (flat x.rs):=hO.same (set1_other _ _ (by omega))
 go_wp2
 refine bodyPost_ret (res68 (B:=W.heap.size+1) rfl (set_block _ (set_block _ (set_block _ (set_block _ e2))))) rfl ⟨g,cap,rfl,?_,by omega,?_⟩
 ·exact hO2.same ((set1_other _ _ (by omega)).trans ((set1_other _ _ (by omega)).trans ((set1_other _ _ (by omega)).trans (set1_other _ _ (by omega)))))
 ·exact(((E2.setCell (p:=⟨W.heap.size+1,0,none⟩) (Nat.le_succ _) _).setCell (p:=⟨W.heap.size+1,1,none⟩) (Nat.le_succ _) _).setCell (p:=⟨W.heap.size+1,2,none⟩) (Nat.le_succ _) _).setCell (p:=⟨W.heap.size+1,3,none⟩) (Nat.le_succ _) _
structure FI (lo:Nat) (W:World) (g:Nat) (fw:List Fw):Prop where
 rg:∀q∈fw,OwnR W q.g 25 3 q.x.rs.length q.c (flat q.x.rs)
 lo:∀q∈fw,lo<=q.g/\q.g≠g
 nd:(fw.map Fw.g).Nodup
theorem FI.nil(lo:Nat)(W:World)(g:Nat):FI lo W g []:=⟨by simp,by simp,by simp⟩
theorem FI.snoc{lo:Nat}{W U w3:World}{g g3:Nat}{fw:List Fw}(h:FI lo W g fw)(hg:g<W.heap.size)(hb:Below W.heap.size W U)(hgr:U.grownBy w3 (some g))(hat:g=g3\/g3=U.heap.size){q:Fw}(hq:OwnR U q.g 25 3 q.x.rs.length q.c (flat q.x.rs))(hql:W.heap.size<=q.g)(hlo:lo<=W.heap.size):FI lo w3 g3 (fw++[q]):=by
 have hne:∀z∈fw,z.g<W.heap.size:=fun z hz=>(h.rg z hz).lt
 have hsz:=hb.size
 have hql2:=hq.lt
 have hk:∀k,k<U.heap.size->k≠g->w3.heap[k]?=U.heap[k]?:=fun k hk hn=>hgr.block k hk (fun e=>hn (Option.some.inj e))
 refine⟨fun z hz=>?_,fun z hz=>?_,?_⟩
 ·rcases List.mem_append.1 hz with hz|hz
  ·have h1:=hne z hz
   exact((h.rg z hz).same (hb.block _ h1)).same (hk _ (by omega) (h.lo z hz).2)
  ·simp only[List.mem_singleton]at hz
   subst hz
   exact hq.same (hk _ hql2 (by omega))
 ·rcases List.mem_append.1 hz with hz|hz
  ·have h1:=hne z hz
   refine⟨(h.lo z hz).1,fun e=>?_⟩
   rcases hat with e2|e2
   ·exact(h.lo z hz).2 (by omega)
   ·omega
  ·simp only[List.mem_singleton]at hz
   subst hz
   refine⟨by omega,fun e=>?_⟩
   rcases hat with e2|e2 <;> omega
 ·rw[List.map_append,List.nodup_append]
  refine⟨h.nd,by simp,fun a ha b hb'=>?_⟩
  obtain⟨z,hz,rfl⟩:=List.mem_map.1 ha
  simp at hb'
  subst hb'
  have:=hne z hz
  omega
theorem eachF_any(sv:Value)(xs:List Frm)(W:World)(hr:RowFr W.heap.size W sv xs)(hl:xs.length<=40)(hrl:∀x∈xs,x.rs.length<=1000)(hs:∀x∈xs,∀v∈x.rs,v.s.size<=300) :
  Calls Tryz.prog 22 #[sv,.func (.func 23) #[] #[]] W fun e W'=>∃g cap fw,e=.returned (.slice (some ⟨g,0,none⟩) xs.length cap)/\OwnR W' g 66 4 xs.length cap (frCells fw)/\fw.map Fw.x=xs/\FI W.heap.size W' g fw/\W.heap.size<=g/\Below W.heap.size W W':=by
 obtain⟨a,cp,rfl,_,hx⟩:=hr
 obtain⟨n,hn⟩:∃n,xs.length=n:=⟨_,rfl⟩
 rw[hn]at hl⊢
 obtain⟨mc,hmk,hms⟩:=made_row 33 66 _ 4 48 n Tryz.underlying33 info50 (by omega) (by omega) (by omega)
 obtain⟨i0,hi0,hz0,hz1,hz2⟩:=info_parts info50
 replace hn:Hid _:=hn
 replace hx:Hid _:=hx
 replace hs:Hid _:=hs
 replace hrl:Hid _:=hrl
 go_enter Tryz.func22,Tryz.ntmps22
 go_wp2
 go_loopw [5,13] (fun t i wr=>∃(k g cap:Nat) (fw:List Fw),k<=n/\i=.int .i64 (k:Nat)/\t=.slice (some ⟨g,0,none⟩) k cap/\Hid (OwnR wr g 66 4 k cap (frCells fw)/\fw.map Fw.x=xs.take k/\FI W.heap.size wr g fw)/\W.heap.size<=g/\Below W.heap.size W wr) (fun _ i _=>n-(intOf i).toNat)
 case atStart=>exact⟨0,W.heap.size,n,[],Nat.zero_le _,rfl,rfl,⟨OwnR.made hms (by omega),by simp,FI.nil _ _ _⟩,Nat.le_refl _,ext_alloc (Below.refl _ _) _⟩
 case round =>
  obtain⟨k,g,cap,fw,hk,rfl,rfl,hO,hg,hbw⟩:=hrel
  by_cases hlt:k<n
  ·obtain⟨x,hxk⟩:∃x,xs[k]?=some x:=⟨xs[k]'(by rw[hn.out];exact hlt),List.getElem?_eq_getElem _⟩
   obtain⟨b,off,rfl,hb,hc⟩:=hx.out (fun e=>by rw[e]at hxk;simp at hxk)
   obtain⟨c0,c1,c2,rv,c3,hrow⟩:=(hc k x hxk).below hbw hb
   have hmem:=List.mem_of_getElem? hxk
   have hbwr:b<wr.heap.size:=Nat.lt_of_lt_of_le hb hbw.size
   have hb0:=ext_alloc (Below.refl wr.heap.size wr) (.cells #[.int .i64 x.f,.int .i64 x.pc,.int .i64 x.d,rv] 66)
   have hfv:=fresh1_any x rv (wr.alloc (.cells #[.int .i64 x.f,.int .i64 x.pc,.int .i64 x.d,rv] 66)) (row_mono (by rw[World.size_alloc];have:=hbw.size;omega) (hrow.below (hb0.mono hbw.size))) (hrl.out x hmem) (hs.out x hmem)
   have hgl:g<wr.heap.size:=hO.out.1.lt
   have h63:k+1<=maxLen:=by unfold maxLen;omega
   have hby:(k+1)*48<=140737488355328:=by omega
   obtain⟨ra,rc,hrv,_⟩:=id hrow
   subst hrv
   obtain⟨m,hm⟩:∃m,x.rs.length=m:=⟨_,rfl⟩
   rw[hm]at hfv c3 hb0
   replace hm:Hid _:=hm
   clear hrow
   have hnw:∀(u:World) (gq cq:Nat) (j:Nat) (y:Value),[Value.int .i64 x.f,Value.int .i64 x.pc,Value.int .i64 x.d,Value.slice (some ⟨gq,0,none⟩) m cq][j]?=some y->(u.alloc (.cells #[.int .i64 x.f,.int .i64 x.pc,.int .i64 x.d,.slice (some ⟨gq,0,none⟩) m cq] 66)).cell? ((⟨u.heap.size,0,none⟩:Addr).add j)=some y:=fun u gq cq j y hy=>by
    match j,hy with
    | 0,hy=>cases hy;exact cell_block (i:=0) (heap_new u _) rfl
    | 1,hy=>cases hy;exact cell_block (i:=1) (heap_new u _) rfl
    | 2,hy=>cases hy;exact cell_block (i:=2) (heap_new u _) rfl
    | 3,hy=>cases hy;exact cell_block (i:=3) (heap_new u _) rfl
    | j+4,hy=>simp at hy
   go_wp2_with (first|(go_at_call 23;refine hfv.mono ?_;rintro e w2 ⟨gq,cq,rfl,hOq,hgq,hb2⟩;have E2:=ext_trans hb0 hb2;have E3:=ext_alloc E2 (.cells #[.int .i64 x.f,.int .i64 x.pc,.int .i64 x.d,.slice (some ⟨gq,0,none⟩) m cq] 66);have hown:=(hO.out.1.same (E3.block g hgl)).owns (base:=W.heap.size) hg;have hnews:=hnw w2 gq cq;have hsz:W.heap.size<=(w2.alloc (.cells #[.int .i64 x.f,.int .i64 x.pc,.int .i64 x.d,.slice (some ⟨gq,0,none⟩) m cq] 66)).heap.size:=Nat.le_trans hbw.size E3.size)|(at_builtin;refine wpList_append_lies _ (by rfl) _ _ _ (by rfl) W.heap.size 66 i0 _ 4 48 Tryz.underlying33 hi0 hz0 hz1 hz2 rfl (by omega) (.slice (some ⟨g,0,none⟩) k cap) k _ (by rfl) hown ⟨w2.heap.size,0,none⟩ 1 1 [Value.int .i64 x.f,Value.int .i64 x.pc,Value.int .i64 x.d,Value.slice (some ⟨gq,0,none⟩) m cq] (by rfl) (by rfl) hnews (by simp[Value.oneCell']) (by omega) h63 hby hsz _ rfl ?_;intro g3 cap3 w3 hown3 hgrow hat hlt3))
   go_roundw
   case measure=>simp[intOf];omega
   case rel =>
    have hO3:=OwnR.of hown3
    obtain⟨o1,o2,o3⟩:=hO.out
    have hat':g=g3\/g3=(w2.alloc (.cells #[.int .i64 x.f,.int .i64 x.pc,.int .i64 x.d,.slice (some ⟨gq,0,none⟩) m cq] 66)).heap.size:=by
     rcases hat with e|e
     ·exact .inl (Option.some.inj e)
     ·exact .inr e
    have hOq':OwnR (w2.alloc (.cells #[.int .i64 x.f,.int .i64 x.pc,.int .i64 x.d,.slice (some ⟨gq,0,none⟩) m cq] 66)) gq 25 3 x.rs.length cq (flat x.rs):=by rw[hm.out];exact hOq.same (Below.heap_alloc _ _ _ hOq.lt)
    refine⟨k+1,g3,cap3,fw++[⟨x,gq,cq⟩],by omega,by go_num,rfl,⟨?_,?_,?_⟩,hO3.2,?_⟩
    ·rw[frCells_append]
     have:=hO3.1
     rw[<- hm.out]at this
     simpa[frCells]using this
    ·rw[take_snoc hxk,List.map_append,o2];rfl
    ·exact o3.snoc hgl E3 hgrow hat' (q:=⟨x,gq,cq⟩) hOq' (by have:=hgq;rw[World.size_alloc]at this;show wr.heap.size<=gq;omega) hbw.size
    ·have hk3:=Keeps.grown hgrow
     exact(((Keeps.of_below (S:=fun k=>some k=some g) hbw).trans ((Keeps.of_below (S:=fun k=>some k=some g) E3).mono (fun _ _ h=>h))).trans hk3).below (Nat.le_refl _) (fun k hk e=>by have:=Option.some.inj e;omega)
  ·obtain rfl:k=n:=by omega
   go_wp2
   go_ret
   obtain⟨o1,o2,o3⟩:=hO.out
   rw[List.take_of_length_le (by rw[hn.out];exact Nat.le_refl _)]at o2
   exact⟨g,cap,fw,rfl,o1,o2,o3,hg,hbw⟩
theorem three_flat{W:World}{b:Nat} : ∀(xs:List Vl) (off:Nat),(∀(j:Nat) x,xs[j]?=some x->Three W b (off+j*3) x)->∀(j:Nat) v,(flat xs)[j]?=some v->W.cell? ⟨b,off+j,none⟩=some v
 | [],off,_,j,v,h=>by simp[flat]at h
 | x::xs,off,hx,j,v,h=>by
  have e:flat (x::xs)=.int .i64 x.k :: .int .i64 x.n :: .string x.s::flat xs:=by simp[flat]
  rw[e]at h
  obtain⟨t0,t1,t2⟩:=hx 0 x rfl
  simp only[Nat.zero_mul,Nat.add_zero]at t0 t1 t2
  match j,h with
  | 0,h=>cases h;exact t0
  | 1,h=>cases h;exact t1
  | 2,h=>cases h;exact t2
  | j+3,h =>
   have:=three_flat xs (off+3) (fun i y hi=>by have:=hx (i+1) y hi;rw[show off+(i+1)*3=off+3+i*3 by omega]at this;exact this) j v h
   rw[show off+(j+3)=off+3+j by omega]
   exact this
theorem flat_one(xs:List Vl):∀u∈flat xs,u.oneCell'=true:=fun u hu=>by
 obtain⟨x,_,hx⟩:=List.mem_flatMap.1 hu
 simp at hx
 rcases hx with rfl|rfl|rfl <;> rfl
theorem flat_len3(xs:List Vl):(flat xs).length=xs.length*3:=by
 induction xs with
 | nil=>rfl
 | cons x xs ih =>
  have e:flat (x::xs)=.int .i64 x.k :: .int .i64 x.n :: .string x.s::flat xs:=by simp[flat]
  rw[e];simp only[List.length_cons,ih];omega
theorem res125{tm:Array Value}{W:World}{B:Nat}{a b c d:Value}(h:tm[2]?.getD undef=.pointer (some ⟨B,0,none⟩))(hx:W.heap[B]?=some (.cells #[a,b,c,d] 66)):(results Tryz.f125 tm).run Tryz.prog W=.ok (.agg #[a,b,c,d]) W:=by
 have d0:W.cell? ⟨B,0,none⟩=some a:=cell_block hx rfl
 have d1:W.cell? ⟨B,1,none⟩=some b:=cell_block hx rfl
 have d2:W.cell? ⟨B,2,none⟩=some c:=cell_block hx rfl
 have d3:W.cell? ⟨B,3,none⟩=some d:=cell_block hx rfl
 simp[results,Tryz.results125,go_sem,h,d0,d1,d2,d3]
theorem twin1_any(x:Frm)(rv:Value)(W:World)(hr:Row W.heap.size W rv x.rs)(hl:x.rs.length<=1000)(hs:x.rs≠[]) :
  Calls Tryz.prog 125 #[.agg #[.int .i64 x.f,.int .i64 x.pc,.int .i64 x.d,rv]] W fun e W'=>∃g cap,e=.returned (.agg #[.int .i64 x.f,.int .i64 x.pc,.int .i64 x.d,.slice (some ⟨g,0,none⟩) x.rs.length cap])/\OwnR W' g 25 3 x.rs.length cap (flat x.rs)/\W.heap.size<=g/\Below W.heap.size W W':=by
 obtain⟨a,cp,hrv,_⟩:=id hr
 have E0:=ext_alloc (ext_alloc (Below.refl W.heap.size W) (.cells #[.int .i64 x.f,.int .i64 x.pc,.int .i64 x.d,rv] 66)) (.cells #[.int .i64 0,.int .i64 0,.int .i64 0,.slice none 0 0] 66)
 have g0:((W.alloc (.cells #[.int .i64 x.f,.int .i64 x.pc,.int .i64 x.d,rv] 66)).alloc (.cells #[.int .i64 0,.int .i64 0,.int .i64 0,.slice none 0 0] 66)).heap[W.heap.size]?=some (.cells #[.int .i64 x.f,.int .i64 x.pc,.int .i64 x.d,rv] 66):=block_alloc _ (heap_new _ _)
 have g1:=new2' W (.cells #[.int .i64 x.f,.int .i64 x.pc,.int .i64 x.d,rv] 66) (.cells #[.int .i64 0,.int .i64 0,.int .i64 0,.slice none 0 0] 66)
 obtain⟨a',cp',hrv',_,hrx⟩:=hr
 obtain⟨rb,off,rfl,hrb,hrc⟩:=hrx hs
 have hcc:=three_flat x.rs off hrc
 have hev:∀u,Below W.heap.size W u->Calls Tryz.prog 126 #[.slice (some ⟨rb,off,none⟩) x.rs.length cp'] u (ClQ u 25 3 x.rs.length (flat x.rs)):=fun u hu=>cloneV rb off x.rs.length cp' (flat x.rs) u hl (flat_len3 _) (flat_one _) (fun j v hj=>(hu.cell (p:=⟨rb,off+j,none⟩) hrb).trans (hcc j v hj))
 have hev:=hev _ E0
 subst hrv'
 obtain⟨n,hn⟩:∃n,x.rs.length=n:=⟨_,rfl⟩
 rw[hn]at hev g0 g1 E0⊢
 clear hrv hrx hrc hcc hl hs hn
 go_enter Tryz.func125,Tryz.ntmps125
 go_wp2_with (go_at_call 126;refine hev.mono ?_;rintro e w2 ⟨g,cap,rfl,hO,hg,hb2⟩;refine Hid.out ?_)
 refine Lib.hid ?_
 have G0:=block_below hb2 g0
 have G1:=block_below hb2 g1
 have hz:W.heap.size+1<w2.heap.size:=block_lt G1
 have a0:=cell_block (i:=0) G0 rfl
 have a1:=cell_block (i:=1) G0 rfl
 have a2:=cell_block (i:=2) G0 rfl
 have a3:=cell_block (i:=3) G0 rfl
 have b0:=cell_block (i:=0) G1 rfl
 have b1:=cell_block (i:=1) G1 rfl
 have b2:=cell_block (i:=2) G1 rfl
 have b3:=cell_block (i:=3) G1 rfl
 have f3:=frozen_block (i:=3) G0
 have z0:=frozen_block (i:=0) G1
 have z1:=frozen_block (i:=1) G1
 have z2:=frozen_block (i:=2) G1
 have z3:=frozen_block (i:=3) G1
 have hg2:W.heap.size+1<g:=by have:=hg;simp at this;omega
 have e2:(w2.setCell ⟨W.heap.size,3,none⟩ (.slice (some ⟨g,0,none⟩) n cap)).heap[W.heap.size+1]?=_:=(set1_other _ _ (by omega)).trans G1
 have E2:Below W.heap.size W (w2.setCell ⟨W.heap.size,3,none⟩ (.slice (some ⟨g,0,none⟩) n cap)):=(ext_trans E0 hb2).setCell (p:=⟨W.heap.size,3,none⟩) (Nat.le_refl _) _
 have hO2:OwnR (w2.setCell ⟨W.heap.size,3,none⟩ (.slice (some ⟨g,0,none⟩) n cap)) g 25 3 n cap (flat x.rs):=hO.same (set1_other _ _ (by omega))
 go_wp2
 refine bodyPost_ret (res125 (B:=W.heap.size+1) rfl (set_block _ (set_block _ (set_block _ (set_block _ e2))))) rfl ⟨g,cap,rfl,?_,by omega,?_⟩
 ·exact hO2.same ((set1_other _ _ (by omega)).trans ((set1_other _ _ (by omega)).trans ((set1_other _ _ (by omega)).trans (set1_other _ _ (by omega)))))
 ·exact(((E2.setCell (p:=⟨W.heap.size+1,0,none⟩) (Nat.le_succ _) _).setCell (p:=⟨W.heap.size+1,1,none⟩) (Nat.le_succ _) _).setCell (p:=⟨W.heap.size+1,2,none⟩) (Nat.le_succ _) _).setCell (p:=⟨W.heap.size+1,3,none⟩) (Nat.le_succ _) _
theorem eachF2_any(sv:Value)(xs:List Frm)(W:World)(hr:RowFr W.heap.size W sv xs)(hl:xs.length<=40)(hrl:∀x∈xs,x.rs.length<=1000)(hs:∀x∈xs,x.rs≠[]) :
  Calls Tryz.prog 22 #[sv,.func (.func 125) #[] #[]] W fun e W'=>∃g cap fw,e=.returned (.slice (some ⟨g,0,none⟩) xs.length cap)/\OwnR W' g 66 4 xs.length cap (frCells fw)/\fw.map Fw.x=xs/\FI W.heap.size W' g fw/\W.heap.size<=g/\Below W.heap.size W W':=by
 obtain⟨a,cp,rfl,_,hx⟩:=hr
 obtain⟨n,hn⟩:∃n,xs.length=n:=⟨_,rfl⟩
 rw[hn]at hl⊢
 obtain⟨mc,hmk,hms⟩:=made_row 33 66 _ 4 48 n Tryz.underlying33 info50 (by omega) (by omega) (by omega)
 obtain⟨i0,hi0,hz0,hz1,hz2⟩:=info_parts info50
 replace hn:Hid _:=hn
 replace hx:Hid _:=hx
 replace hs:Hid _:=hs
 replace hrl:Hid _:=hrl
 go_enter Tryz.func22,Tryz.ntmps22
 go_wp2
 go_loopw [5,13] (fun t i wr=>∃(k g cap:Nat) (fw:List Fw),k<=n/\i=.int .i64 (k:Nat)/\t=.slice (some ⟨g,0,none⟩) k cap/\Hid (OwnR wr g 66 4 k cap (frCells fw)/\fw.map Fw.x=xs.take k/\FI W.heap.size wr g fw)/\W.heap.size<=g/\Below W.heap.size W wr) (fun _ i _=>n-(intOf i).toNat)
 case atStart=>exact⟨0,W.heap.size,n,[],Nat.zero_le _,rfl,rfl,⟨OwnR.made hms (by omega),by simp,FI.nil _ _ _⟩,Nat.le_refl _,ext_alloc (Below.refl _ _) _⟩
 case round =>
  obtain⟨k,g,cap,fw,hk,rfl,rfl,hO,hg,hbw⟩:=hrel
  by_cases hlt:k<n
  ·obtain⟨x,hxk⟩:∃x,xs[k]?=some x:=⟨xs[k]'(by rw[hn.out];exact hlt),List.getElem?_eq_getElem _⟩
   obtain⟨b,off,rfl,hb,hc⟩:=hx.out (fun e=>by rw[e]at hxk;simp at hxk)
   obtain⟨c0,c1,c2,rv,c3,hrow⟩:=(hc k x hxk).below hbw hb
   have hmem:=List.mem_of_getElem? hxk
   have hbwr:b<wr.heap.size:=Nat.lt_of_lt_of_le hb hbw.size
   have hb0:=ext_alloc (Below.refl wr.heap.size wr) (.cells #[.int .i64 x.f,.int .i64 x.pc,.int .i64 x.d,rv] 66)
   have hfv:=twin1_any x rv (wr.alloc (.cells #[.int .i64 x.f,.int .i64 x.pc,.int .i64 x.d,rv] 66)) (row_mono (by rw[World.size_alloc];have:=hbw.size;omega) (hrow.below (hb0.mono hbw.size))) (hrl.out x hmem) (hs.out x hmem)
   have hgl:g<wr.heap.size:=hO.out.1.lt
   have h63:k+1<=maxLen:=by unfold maxLen;omega
   have hby:(k+1)*48<=140737488355328:=by omega
   obtain⟨ra,rc,hrv,_⟩:=id hrow
   subst hrv
   obtain⟨m,hm⟩:∃m,x.rs.length=m:=⟨_,rfl⟩
   rw[hm]at hfv c3 hb0
   replace hm:Hid _:=hm
   clear hrow
   have hnw:∀(u:World) (gq cq:Nat) (j:Nat) (y:Value),[Value.int .i64 x.f,Value.int .i64 x.pc,Value.int .i64 x.d,Value.slice (some ⟨gq,0,none⟩) m cq][j]?=some y->(u.alloc (.cells #[.int .i64 x.f,.int .i64 x.pc,.int .i64 x.d,.slice (some ⟨gq,0,none⟩) m cq] 66)).cell? ((⟨u.heap.size,0,none⟩:Addr).add j)=some y:=fun u gq cq j y hy=>by
    match j,hy with
    | 0,hy=>cases hy;exact cell_block (i:=0) (heap_new u _) rfl
    | 1,hy=>cases hy;exact cell_block (i:=1) (heap_new u _) rfl
    | 2,hy=>cases hy;exact cell_block (i:=2) (heap_new u _) rfl
    | 3,hy=>cases hy;exact cell_block (i:=3) (heap_new u _) rfl
    | j+4,hy=>simp at hy
   go_wp2_with (first|(go_at_call 125;refine hfv.mono ?_;rintro e w2 ⟨gq,cq,rfl,hOq,hgq,hb2⟩;have E2:=ext_trans hb0 hb2;have E3:=ext_alloc E2 (.cells #[.int .i64 x.f,.int .i64 x.pc,.int .i64 x.d,.slice (some ⟨gq,0,none⟩) m cq] 66);have hown:=(hO.out.1.same (E3.block g hgl)).owns (base:=W.heap.size) hg;have hnews:=hnw w2 gq cq;have hsz:W.heap.size<=(w2.alloc (.cells #[.int .i64 x.f,.int .i64 x.pc,.int .i64 x.d,.slice (some ⟨gq,0,none⟩) m cq] 66)).heap.size:=Nat.le_trans hbw.size E3.size)|(at_builtin;refine wpList_append_lies _ (by rfl) _ _ _ (by rfl) W.heap.size 66 i0 _ 4 48 Tryz.underlying33 hi0 hz0 hz1 hz2 rfl (by omega) (.slice (some ⟨g,0,none⟩) k cap) k _ (by rfl) hown ⟨w2.heap.size,0,none⟩ 1 1 [Value.int .i64 x.f,Value.int .i64 x.pc,Value.int .i64 x.d,Value.slice (some ⟨gq,0,none⟩) m cq] (by rfl) (by rfl) hnews (by simp[Value.oneCell']) (by omega) h63 hby hsz _ rfl ?_;intro g3 cap3 w3 hown3 hgrow hat hlt3))
   go_roundw
   case measure=>simp[intOf];omega
   case rel =>
    have hO3:=OwnR.of hown3
    obtain⟨o1,o2,o3⟩:=hO.out
    have hat':g=g3\/g3=(w2.alloc (.cells #[.int .i64 x.f,.int .i64 x.pc,.int .i64 x.d,.slice (some ⟨gq,0,none⟩) m cq] 66)).heap.size:=by
     rcases hat with e|e
     ·exact .inl (Option.some.inj e)
     ·exact .inr e
    have hOq':OwnR (w2.alloc (.cells #[.int .i64 x.f,.int .i64 x.pc,.int .i64 x.d,.slice (some ⟨gq,0,none⟩) m cq] 66)) gq 25 3 x.rs.length cq (flat x.rs):=by rw[hm.out];exact hOq.same (Below.heap_alloc _ _ _ hOq.lt)
    refine⟨k+1,g3,cap3,fw++[⟨x,gq,cq⟩],by omega,by go_num,rfl,⟨?_,?_,?_⟩,hO3.2,?_⟩
    ·rw[frCells_append]
     have:=hO3.1
     rw[<- hm.out]at this
     simpa[frCells]using this
    ·rw[take_snoc hxk,List.map_append,o2];rfl
    ·exact o3.snoc hgl E3 hgrow hat' (q:=⟨x,gq,cq⟩) hOq' (by have:=hgq;rw[World.size_alloc]at this;show wr.heap.size<=gq;omega) hbw.size
    ·have hk3:=Keeps.grown hgrow
     exact(((Keeps.of_below (S:=fun k=>some k=some g) hbw).trans ((Keeps.of_below (S:=fun k=>some k=some g) E3).mono (fun _ _ h=>h))).trans hk3).below (Nat.le_refl _) (fun k hk e=>by have:=Option.some.inj e;omega)
  ·obtain rfl:k=n:=by omega
   go_wp2
   go_ret
   obtain⟨o1,o2,o3⟩:=hO.out
   rw[List.take_of_length_le (by rw[hn.out];exact Nat.le_refl _)]at o2
   exact⟨g,cap,fw,rfl,o1,o2,o3,hg,hbw⟩
end
end Go.Proofs.YthljpnmhddfblaaGreatDoor
