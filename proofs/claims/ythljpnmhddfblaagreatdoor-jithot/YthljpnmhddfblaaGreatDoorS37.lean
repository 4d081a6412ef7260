/- A table and a row of tables once more, in memory of their own. -/
import Derived.Test.YthljpnmhddfblaaGreatDoorS35
namespace Go.Proofs.YthljpnmhddfblaaGreatDoor
open Go.RowKit Go
set_option maxRecDepth 100000
set_option maxHeartbeats 8000000
set_option linter.all false
section
variable [DecidableEq Vl]
def TbAt (n₀:Nat) (W:World) (b o:Nat) (x:Tb):Prop:=∃kv vv,W.cell? ⟨b,o,none⟩=some kv/\W.cell? ⟨b,o+1,none⟩=some vv/\Row n₀ W kv x.ks/\Row n₀ W vv x.vs
def RowTb (n₀:Nat) (W:World) (sv:Value) (xs:List Tb):Prop :=
 ∃(a:Option Addr) (cap:Nat),sv=.slice a xs.length cap/\xs.length<=maxLen/\(xs≠[]->∃b off,a=some ⟨b,off,none⟩/\b<n₀/\∀j x,xs[j]?=some x->TbAt n₀ W b (off+j*2) x)
theorem TbAt.below{n₀:Nat}{A B:World}(h:Below n₀ A B){b o:Nat}{x:Tb}(hb:b<n₀)(t:TbAt n₀ A b o x):TbAt n₀ B b o x:=by
 obtain⟨kv,vv,t0,t1,hr,hr'⟩:=t
 exact⟨kv,vv,(h.cell (p:=⟨b,o,none⟩) hb).trans t0,(h.cell (p:=⟨b,o+1,none⟩) hb).trans t1,hr.below h,hr'.below h⟩
theorem flat_at'{rs:List Vl}{i:Nat}{v:Vl}(hi:rs[i]?=some v):(flat rs)[i*3]?=some (.int .i64 v.k)/\(flat rs)[i*3+1]?=some (.int .i64 v.n)/\(flat rs)[i*3+2]?=some (.string v.s):=by
 induction rs generalizing i with
 | nil=>simp at hi
 | cons x xs ih =>
  have e:flat (x::xs)=.int .i64 x.k :: .int .i64 x.n :: .string x.s::flat xs:=by simp[flat]
  rw[e]
  cases i with
  | zero=>simp at hi;subst hi;simp
  | succ i =>
   rw[show(i+1)*3=i*3+1+1+1 by omega]
   simp only[List.getElem?_cons_succ]at hi⊢
   exact ih hi
def RwG (lo:Nat) (W:World) (g:Nat) (sv:Value) (xs:List Vl):Prop :=
 ∃(a:Option Addr) (cap:Nat),sv=.slice a xs.length cap/\xs.length<=maxLen/\(xs≠[]->∃b off,a=some ⟨b,off,none⟩/\lo<=b/\b≠g/\b<W.heap.size/\∀j x,xs[j]?=some x->Three W b (off+j*3) x)
theorem RwG.of{W:World}{g cap lo h:Nat}{xs:List Vl}(hO:OwnR W g 25 3 xs.length cap (flat xs))(hl:lo<=g)(hne:g≠h):RwG lo W h (.slice (some ⟨g,0,none⟩) xs.length cap) xs:=by
 have hcap:xs.length<=maxLen:=by
  obtain⟨_,_,_,h1,h2,_⟩:=hO
  omega
 refine⟨some ⟨g,0,none⟩,cap,rfl,hcap,fun _=>⟨g,0,rfl,hl,hne,hO.lt,fun j x hx=>?_⟩⟩
 obtain⟨e0,e1,e2⟩:=flat_at' hx
 rw[Nat.zero_add]
 exact⟨(hO.cell e0).1,(hO.cell e1).1,(hO.cell e2).1⟩
theorem RwG.keep{lo lo':Nat}{W W':World}{g g':Nat}{sv:Value}{xs:List Vl}(h:RwG lo W g sv xs)(hlo:lo'<=lo)(hk:∀b,lo<=b->b<W.heap.size->b≠g->W'.heap[b]?=W.heap[b]?/\b≠g')(hs:W.heap.size<=W'.heap.size):RwG lo' W' g' sv xs:=by
 obtain⟨a,cap,e,hl,hx⟩:=h
 refine⟨a,cap,e,hl,fun hne=>?_⟩
 obtain⟨b,off,ea,h1,h2,h3,hc⟩:=hx hne
 obtain⟨k1,k2⟩:=hk b h1 h3 h2
 refine⟨b,off,ea,by omega,k2,by omega,fun j x hj=>?_⟩
 obtain⟨t1,t2,t3⟩:=hc j x hj
 exact⟨(World.cell?_of_block (a:=⟨b,_,none⟩) k1).trans t1,(World.cell?_of_block (a:=⟨b,_,none⟩) k1).trans t2,(World.cell?_of_block (a:=⟨b,_,none⟩) k1).trans t3⟩
theorem k2'{w:World}{B c o:Nat}{p q:Value}(h:c≠B):((w.setCell ⟨B,0,none⟩ p).setCell ⟨B,1,none⟩ q).cell? ⟨c,o,none⟩=w.cell? ⟨c,o,none⟩:=World.cell?_of_block (a:=⟨c,o,none⟩) ((set1_other _ _ h).trans (set1_other _ _ h))
theorem res72{tm:Array Value}{W:World}{B:Nat}{a b:Value}(h:tm[2]?.getD undef=.pointer (some ⟨B,0,none⟩))(hx:W.heap[B]?=some (.cells #[a,b] 79)):(results Tryz.f27 tm).run Tryz.prog W=.ok (.agg #[a,b]) W:=by
 have d0:W.cell? ⟨B,0,none⟩=some a:=cell_block hx rfl
 have d1:W.cell? ⟨B,1,none⟩=some b:=cell_block hx rfl
 simp[results,Tryz.results27,go_sem,h,d0,d1]
theorem fresh2_any(x:Tb)(kv vv:Value)(W:World)(hr:Row W.heap.size W kv x.ks)(hr':Row W.heap.size W vv x.vs)(hl:x.ks.length<=1000)(hl':x.vs.length<=1000)(hs:∀v∈x.ks,v.s.size<=300)(hs':∀v∈x.vs,v.s.size<=300) :
  Calls Tryz.prog 27 #[.agg #[kv,vv]] W fun e W'=>∃g cap g' cap',e=.returned (.agg #[.slice (some ⟨g,0,none⟩) x.ks.length cap,.slice (some ⟨g',0,none⟩) x.vs.length cap'])/\OwnR W' g 25 3 x.ks.length cap (flat x.ks)/\OwnR W' g' 25 3 x.vs.length cap' (flat x.vs)/\W.heap.size<=g/\W.heap.size<=g'/\Below W.heap.size W W':=by
 obtain⟨a,cp,hkv,_⟩:=id hr
 obtain⟨a',cp',hvv,_⟩:=id hr'
 have hk:∀w2,Below W.heap.size W w2->Calls Tryz.prog 24 #[kv,.func (.func 25) #[] #[]] w2 _:=fun w2 hb=>eachV_any kv x.ks w2 (row_mono hb.size (hr.below hb)) hl hs
 have hv:∀w2,Below W.heap.size W w2->Calls Tryz.prog 24 #[vv,.func (.func 25) #[] #[]] w2 _:=fun w2 hb=>eachV_any vv x.vs w2 (row_mono hb.size (hr'.below hb)) hl' hs'
 subst hkv
 subst hvv
 obtain⟨n,hn⟩:∃n,x.ks.length=n:=⟨_,rfl⟩
 obtain⟨n',hn'⟩:∃n,x.vs.length=n:=⟨_,rfl⟩
 rw[hn]at hk⊢
 rw[hn']at hv⊢
 obtain⟨w1,hw1⟩:∃w1,(W.alloc (.cells #[.slice a n cp,.slice a' n' cp'] 79)).alloc (.cells #[.slice none 0 0,.slice none 0 0] 79)=w1:=⟨_,rfl⟩
 have E0:Below W.heap.size W w1:=by rw[<- hw1];exact ext_alloc (ext_alloc (Below.refl W.heap.size W) _) _
 have g0:w1.heap[W.heap.size]?=some (.cells #[.slice a n cp,.slice a' n' cp'] 79):=by rw[<- hw1];exact block_alloc _ (heap_new _ _)
 have g1:w1.heap[W.heap.size+1]?=some (.cells #[.slice none 0 0,.slice none 0 0] 79):=by rw[<- hw1];exact new2' W _ _
 have p0:=cell_block (i:=0) g0 rfl
 have p1:=cell_block (i:=1) g0 rfl
 have hS:∀u,Below w1.heap.size w1 u->u.cell? ⟨W.heap.size,0,none⟩=some (.slice a n cp)/\u.cell? ⟨W.heap.size,1,none⟩=some (.slice a' n' cp'):=fun u hb=>⟨cellB hb p0,cellB hb p1⟩
 have hz:W.heap.size+1<w1.heap.size:=block_lt g1
 replace hS:Hid _:=hS
 replace hk:Hid _:=hk
 replace hv:Hid _:=hv
 have y1:W.heap.size≠W.heap.size+1:=by omega
 clear hr hr' hl hl' hs hs' hn hn'
 go_enter Tryz.func27,Tryz.ntmps27
 go_wp2
 go_region_held3 (fun u=>u.cell? ⟨W.heap.size,0,none⟩=some (.slice a n cp)/\u.cell? ⟨W.heap.size,1,none⟩=some (.slice a' n' cp')) (first|go_keep|with_reducible exact⟨(k2' y1).trans s0,(k2' y1).trans s1⟩) (first|(go_at_call_of 24 a;refine(hk.out _ (ext_drew E0)).mono ?_;rintro e w2 ⟨g,cap,rfl,hO,hg,hb2⟩;have N2:=ext_trans (ext_drew (Below.refl w1.heap.size w1)) hb2;obtain⟨s0,s1⟩:=hS.out w2 N2)|(go_at_call_of 24 a';refine(hv.out _ (ext_trans E0 N2)).mono ?_;rintro e w3 ⟨g',cap',rfl,hO',hg',hb3⟩;have N3:=ext_trans N2 hb3;obtain⟨s0,s1⟩:=hS.out w3 N3;have G1:=block_below N3 g1;have m0:=cell_block (i:=0) G1 rfl;have m1:=cell_block (i:=1) G1 rfl;have z0:=frozen_block (i:=0) G1;have z1:=frozen_block (i:=1) G1))
 have hg2:W.heap.size+1<g:=by have h9:w1.heap.size<=g:=hg;omega
 have hg3:w2.heap.size<=g':=hg'
 have hz2:=N2.size
 have E3:Below W.heap.size W w3:=ext_trans E0 N3
 have hOa:OwnR w3 g 25 3 n cap (flat x.ks):=hO.same (hb3.block g hO.lt)
 go_wp2
 refine bodyPost_ret (res72 (B:=W.heap.size+1) rfl (put2_same G1)) rfl ⟨g,cap,g',cap',rfl,?_,?_,by omega,by omega,put2_below _ _ E3 (by omega)⟩
 ·exact hOa.same (put2_other _ _ _ (by omega))
 ·exact hO'.same (put2_other _ _ _ (by omega))
def TI (lo:Nat) (W:World) (g:Nat) (tw:List Tw):Prop:=∀q∈tw,RwG lo W g q.a q.t.ks/\RwG lo W g q.b q.t.vs
theorem eachT_any(sv:Value)(xs:List Tb)(W:World)(hr:RowTb W.heap.size W sv xs)(hl:xs.length<=200)(hrl:∀x∈xs,x.ks.length<=1000/\x.vs.length<=1000)(hs:∀x∈xs,(∀v∈x.ks,v.s.size<=300)/\∀v∈x.vs,v.s.size<=300) :
  Calls Tryz.prog 26 #[sv,.func (.func 27) #[] #[]] W fun e W'=>∃g cap tw,e=.returned (.slice (some ⟨g,0,none⟩) xs.length cap)/\OwnR W' g 79 2 xs.length cap (tbCells tw)/\tw.map Tw.t=xs/\TI W.heap.size W' g tw/\W.heap.size<=g/\Below W.heap.size W W':=by
 obtain⟨a,cp,rfl,_,hx⟩:=hr
 obtain⟨n,hn⟩:∃n,xs.length=n:=⟨_,rfl⟩
 rw[hn]at hl⊢
 obtain⟨mc,hmk,hms⟩:=made_row 34 79 _ 2 48 n Tryz.underlying34 info57 (by omega) (by omega) (by omega)
 obtain⟨i0,hi0,hz0,hz1,hz2⟩:=info_parts info57
 replace hn:Hid _:=hn
 replace hx:Hid _:=hx
 replace hs:Hid _:=hs
 replace hrl:Hid _:=hrl
 go_enter Tryz.func26,Tryz.ntmps26
 go_wp2
 go_loopw [5,13] (fun t i wr=>∃(k g cap:Nat) (tw:List Tw),k<=n/\i=.int .i64 (k:Nat)/\t=.slice (some ⟨g,0,none⟩) k cap/\Hid (OwnR wr g 79 2 k cap (tbCells tw)/\tw.map Tw.t=xs.take k/\TI W.heap.size wr g tw)/\W.heap.size<=g/\Below W.heap.size W wr) (fun _ i _=>n-(intOf i).toNat)
 case atStart=>exact⟨0,W.heap.size,n,[],Nat.zero_le _,rfl,rfl,⟨OwnR.made hms (by omega),by simp,fun q hq=>by simp at hq⟩,Nat.le_refl _,ext_alloc (Below.refl _ _) _⟩
 case round =>
  obtain⟨k,g,cap,tw,hk,rfl,rfl,hO,hg,hbw⟩:=hrel
  by_cases hlt:k<n
  ·obtain⟨x,hxk⟩:∃x,xs[k]?=some x:=⟨xs[k]'(by rw[hn.out];exact hlt),List.getElem?_eq_getElem _⟩
   obtain⟨b,off,rfl,hb,hc⟩:=hx.out (fun e=>by rw[e]at hxk;simp at hxk)
   obtain⟨kv,vv,c0,c1,hrow,hrow'⟩:=(hc k x hxk).below hbw hb
   have hmem:=List.mem_of_getElem? hxk
   have hbwr:b<wr.heap.size:=Nat.lt_of_lt_of_le hb hbw.size
   have hb0:=ext_alloc (Below.refl wr.heap.size wr) (.cells #[kv,vv] 79)
   have hfv:=fresh2_any x kv vv (wr.alloc (.cells #[kv,vv] 79)) (row_mono (by rw[World.size_alloc];have:=hbw.size;omega) (hrow.below (hb0.mono hbw.size))) (row_mono (by rw[World.size_alloc];have:=hbw.size;omega) (hrow'.below (hb0.mono hbw.size))) (hrl.out x hmem).1 (hrl.out x hmem).2 (hs.out x hmem).1 (hs.out x hmem).2
   have hgl:g<wr.heap.size:=hO.out.1.lt
   have h63:k+1<=maxLen:=by unfold maxLen;omega
   have hby:(k+1)*48<=140737488355328:=by omega
   obtain⟨ra,rc,hrv,_⟩:=id hrow
   obtain⟨ra',rc',hrv',_⟩:=id hrow'
   subst hrv
   subst hrv'
   obtain⟨m,hm⟩:∃m,x.ks.length=m:=⟨_,rfl⟩
   obtain⟨m',hm'⟩:∃m,x.vs.length=m:=⟨_,rfl⟩
   rw[hm]at hfv c0 hb0
   rw[hm']at hfv c1 hb0
   replace hm:Hid _:=hm
   replace hm':Hid _:=hm'
   clear hrow hrow'
   have hnw:∀(u:World) (p q:Value) (j:Nat) (y:Value),[p,q][j]?=some y->(u.alloc (.cells #[p,q] 79)).cell? ((⟨u.heap.size,0,none⟩:Addr).add j)=some y:=fun u p q j y hy=>by
    match j,hy with
    | 0,hy=>cases hy;exact cell_block (i:=0) (heap_new u _) rfl
    | 1,hy=>cases hy;exact cell_block (i:=1) (heap_new u _) rfl
    | j+2,hy=>simp at hy
   go_wp2_with (first|(go_at_call 27;refine hfv.mono ?_;rintro e w2 ⟨gq,cq,gr,cr,rfl,hOq,hOr,hgq,hgr,hb2⟩;have E2:=ext_trans hb0 hb2;have E3:=ext_alloc E2 (.cells #[.slice (some ⟨gq,0,none⟩) m cq,.slice (some ⟨gr,0,none⟩) m' cr] 79);have hown:=(hO.out.1.same (E3.block g hgl)).owns (base:=W.heap.size) hg;have hnews:=hnw w2 (.slice (some ⟨gq,0,none⟩) m cq) (.slice (some ⟨gr,0,none⟩) m' cr);have hsz:W.heap.size<=(w2.alloc (.cells #[.slice (some ⟨gq,0,none⟩) m cq,.slice (some ⟨gr,0,none⟩) m' cr] 79)).heap.size:=Nat.le_trans hbw.size E3.size)|(at_builtin;refine wpList_append_lies _ (by rfl) _ _ _ (by rfl) W.heap.size 79 i0 _ 2 48 Tryz.underlying34 hi0 hz0 hz1 hz2 rfl (by omega) (.slice (some ⟨g,0,none⟩) k cap) k _ (by rfl) hown ⟨w2.heap.size,0,none⟩ 1 1 [.slice (some ⟨gq,0,none⟩) m cq,.slice (some ⟨gr,0,none⟩) m' cr] (by rfl) (by rfl) hnews (by simp[Value.oneCell']) (by omega) h63 hby hsz _ rfl ?_;intro g3 cap3 w3 hown3 hgrow hat hlt3))
   go_roundw
   case measure=>simp[intOf];omega
   case rel =>
    have hO3:=OwnR.of hown3
    obtain⟨o1,o2,o3⟩:=hO.out
    have hU:(w2.alloc (.cells #[.slice (some ⟨gq,0,none⟩) m cq,.slice (some ⟨gr,0,none⟩) m' cr] 79)).heap.size=w2.heap.size+1:=World.size_alloc _ _
    have hat':g=g3\/g3=w2.heap.size+1:=by
     rcases hat with e|e
     ·exact .inl (Option.some.inj e)
     ·exact .inr (by omega)
    have hwr:(wr.alloc (.cells #[.slice ra m rc,.slice ra' m' rc'] 79)).heap.size=wr.heap.size+1:=World.size_alloc _ _
    have hql:=hOq.lt
    have hrl2:=hOr.lt
    have hE2:=E2.size
    have hbs:=hbw.size
    have hgs:=hgrow.size
    rw[hU]at hgs
    have same:∀b,b<w2.heap.size->b≠g->w3.heap[b]?=w2.heap[b]?:=fun b hb hn=>(hgrow.block b (by omega) (fun e=>hn (Option.some.inj e))).trans (Below.heap_alloc _ _ _ hb)
    refine⟨k+1,g3,cap3,tw++[⟨x,.slice (some ⟨gq,0,none⟩) m cq,.slice (some ⟨gr,0,none⟩) m' cr⟩],by omega,by go_num,rfl,⟨?_,?_,?_⟩,hO3.2,?_⟩
    ·rw[tbCells_append]
     simpa[tbCells]using hO3.1
    ·rw[take_snoc hxk,List.map_append,o2];rfl
    ·intro z hz
     rcases List.mem_append.1 hz with hz|hz
     ·have key:∀b,W.heap.size<=b->b<wr.heap.size->b≠g->w3.heap[b]?=wr.heap[b]?/\b≠g3:=fun b _ hb hn=>⟨(same b (by omega) hn).trans (E2.block b hb),fun e=>by rcases hat' with e2|e2 <;> omega⟩
      exact⟨(o3 z hz).1.keep (Nat.le_refl _) key (by omega),(o3 z hz).2.keep (Nat.le_refl _) key (by omega)⟩
     ·simp only[List.mem_singleton]at hz
      subst hz
      have q1:OwnR w3 gq 25 3 x.ks.length cq (flat x.ks):=by rw[hm.out];exact hOq.same (same gq hql (by omega))
      have q2:OwnR w3 gr 25 3 x.vs.length cr (flat x.vs):=by rw[hm'.out];exact hOr.same (same gr hrl2 (by omega))
      have r1:=RwG.of (lo:=W.heap.size) (h:=g3) q1 (by omega) (by rcases hat' with e2|e2 <;> omega)
      have r2:=RwG.of (lo:=W.heap.size) (h:=g3) q2 (by omega) (by rcases hat' with e2|e2 <;> omega)
      rw[hm.out]at r1
      rw[hm'.out]at r2
      exact⟨r1,r2⟩
    ·have hk3:=Keeps.grown hgrow
     exact(((Keeps.of_below (S:=fun k=>some k=some g) hbw).trans ((Keeps.of_below (S:=fun k=>some k=some g) E3).mono (fun _ _ h=>h))).trans hk3).below (Nat.le_refl _) (fun k hk e=>by have:=Option.some.inj e;omega)
  ·obtain rfl:k=n:=by omega
   go_wp2
   go_ret
   obtain⟨o1,o2,o3⟩:=hO.out
   rw[List.take_of_length_le (by rw[hn.out];exact Nat.le_refl _)]at o2
   exact⟨g,cap,tw,rfl,o1,o2,o3,hg,hbw⟩
end
end Go.Proofs.YthljpnmhddfblaaGreatDoor
