import Derived.Test.YtomniogfpfbolaaGreatDoorS53
import Derived.Test.YtomniogfpfbolaaGreatDoorS52
import Derived.Test.YtomniogfpfbolaaGreatDoorS32
namespace Go.Proofs.YtomniogfpfbolaaGreatDoor.V.C
open Go.RowKit Go
set_option maxRecDepth 100000
set_option maxHeartbeats 8000000
set_option linter.all false
variable {B cap mn:Nat} {b:Option Addr} {sl:List Int} {l:List UInt8}
section
variable [DecidableEq Vl]
structure Lr (V:World) (B:Nat) (n:Nd) (b:Option Addr) (cap:Nat) (c a:Int) (st:Bool):Prop where
 c3:V.cell? (Ad B 3)=some (.slice b n.kids.length cap)
 c6:V.cell? (Ad B 6)=some (vi c)
 c7:V.cell? (Ad B 7)=some (vi a)
 c8:V.cell? (Ad B 8)=some (.bool st)
theorem d7f{w0 V:World}{n:Nd}{ls:List Ld}{c a:Int}{st:Bool}(h:Lo w0 B n b cap sl ls c a st V):Lr V B n b cap c a st:=by
 obtain⟨sb,y,lb,x,z,_⟩:=h.box
 exact⟨q2z z rfl,q2z z rfl,q2z z rfl,q2z z rfl⟩
theorem b8n(s:ByteArray)(w:World)(nn:Nd)(c:Int)(a:Nat)(hm:Cl 4 #[.string s] w fun e r=>e=.returned (.tuple #[.agg #[.slice none 0 0,vi 0],.agg #[vi c,vi (a:Nat)]])/\Bw w r)(hall:∀V,Cl 5 #[.string s] V (Go.Proofs.YtomniogfpfbolaaGreatDoor.LQ V nn (.error (c,a)))):Cl 3 #[.string s] w fun e r=>e=.returned (.bool true)/\Bw w r:=by
 go_enter Tryz.func3,Tryz.ntmps3
 go_wp2_with (go_at_call 4;refine hm.mono ?_;rintro e w1 ⟨rfl,v⟩;refine Hid.out ?_)
 have u:=hall ((w1.alloc (.cells #[.slice none 0 0,vi 0] 24)).alloc (.cells #[vi c,vi (a:Nat)] 27))
 have x:=q1z (q1z (Below.refl w1.heap.size w1) (.cells #[.slice none 0 0,vi 0] 24)) (.cells #[vi c,vi (a:Nat)] 27)
 have g0:((w1.alloc (.cells #[.slice none 0 0,vi 0] 24)).alloc (.cells #[vi c,vi (a:Nat)] 27)).heap[w1.heap.size]?=some (.cells #[.slice none 0 0,vi 0] 24):=q4z _ (new1 _ _)
 have g1:=new2 w1 (.cells #[.slice none 0 0,vi 0] 24) (.cells #[vi c,vi (a:Nat)] 27)
 clear hm hall
 refine Lib.hid ?_
 go_wp2_with (go_at_call 5;refine u.mono ?_;rintro e t ⟨B,b,cap,sl,ls,o,n,st,rfl,y,p,q,rfl,rfl⟩;subst o;refine Hid.out ?_)
 obtain⟨c3,c6,c7,c8⟩:=d7f y
 have k0:=q0z y.bl g0
 have k1:=q0z y.bl g1
 have p0:t.cell? (Ad w1.heap.size 0)=some (.slice none 0 0):=q2z k0 rfl
 have p1:t.cell? (Ad w1.heap.size 1)=some (vi 0):=q2z k0 rfl
 have q0:t.cell? (Ad (w1.heap.size+1) 0)=some (vi c):=q2z k1 rfl
 have q1:t.cell? (Ad (w1.heap.size+1) 1)=some (vi (a:Nat)):=q2z k1 rfl
 have z:=q3z v (q3z x y.bl)
 replace z:Hid _:=z
 clear u x g0 g1 y p k0 k1 v
 refine Lib.hid ?_
 go_wp2
 go_quiet (fail)
 go_wp2
 go_ret
 exact⟨rfl,q9z z.out⟩
theorem c5t{fs:List Fd}{f:Fd}(h12:fs.length<=12)(hf:fs[mn]?=some f)(hp:f.p=0)(ha:∀(j:Nat) (g:Fd),fs[j]?=some g->fnB fs.length g=true):a9x fs (mn:Nat)=true:=by
 have y:mn<fs.length:=(List.getElem?_eq_some_iff.1 hf).1
 have h2:allB (fun _=>fnB fs.length) fs=true:=a5h (p:=fun _=>fnB fs.length) (fun j x _ z=>ha j x z)
 simp only[a9x,h2,b7k,Int.toNat_natCast,hf,hp,belB]
 simp;omega
structure Sy (n:Nd) (u:Pt):Prop where
 l:n.kids.length=u.kids.length
 m:u.kids.length<=12
 k:∀(j:Nat) (q:Pt),u.kids[j]?=some q->1<=q.kids.length/\q.kids.length<=600/\∃y:Nd,n.kids[j]?=some y/\y.kids.length=q.kids.length/\sk y.t=.string q.t
structure Sm (w1 W:World) (B L:Nat) (fb fo:Nat) (fc mn:Nat) (b:Option Addr) (cap:Nat) (u:Pt):Prop where
 p0:W.cell? (Ad w1.heap.size 0)=some (.slice (some (Ad fb fo)) L fc)
 p1:W.cell? (Ad w1.heap.size 1)=some (vi (mn:Nat))
 q0:W.cell? (Ad (w1.heap.size+1) 0)=some (vi 0)
 q1:W.cell? (Ad (w1.heap.size+1) 1)=some (vi 0)
 c3:W.cell? (Ad B 3)=some (.slice b L cap)
 f:∀(j:Nat) (q:Pt),u.kids[j]?=some q->W.cell? (Ad fb (fo+j*4))=some (vi ((q.kids.length:Int)-1))
 y:∀(j:Nat) (q:Pt),u.kids[j]?=some q->∃g off b' cap',b=some (Ad g off)/\W.cell? (Ad g (off+j*4+1))=some (.string q.t)/\W.cell? (Ad g (off+j*4+3))=some (.slice b' q.kids.length cap')
theorem Sm.on{w1 W W':World}{L fb fo fc:Nat}{u:Pt}(h:Sm w1 W B L fb fo fc mn b cap u)(hb:Bw W W'):Sm w1 W' B L fb fo fc mn b cap u:=by
 refine⟨cellB hb h.p0,cellB hb h.p1,cellB hb h.q0,cellB hb h.q1,cellB hb h.c3,fun j q hq=>cellB hb (h.f j q hq),fun j q hq=>?_⟩
 obtain⟨g,z,b',cap',e,h1,h2⟩:=h.y j q hq
 exact⟨g,z,b',cap',e,cellB hb h1,cellB hb h2⟩
theorem c5u(s:ByteArray)(w:World)(n:Nd)(u:Pt)(sl:List Int)(hS:Sy n u)(hm:Cl 4 #[.string s] w (MkZ w u))(hall:∀V,Cl 5 #[.string s] V (Go.Proofs.YtomniogfpfbolaaGreatDoor.LQ V n (.ok sl))):Cl 3 #[.string s] w fun e w'=>e=.returned (.bool true)/\Bw w w':=by
 obtain⟨L,hL⟩:=exq (u.kids.length)
 unfold MkZ at hm
 simp only[PV,hL]at hm
 have hL12:L<=12:=by have:=hS.m;omega
 go_enter Tryz.func3,Tryz.ntmps3
 go_wp2_with (go_at_call 4;refine hm.mono ?_;rintro e w1 ⟨fa,fc,mn,fs,rfl,hmn,⟨qm,hqm,hqt,hql⟩,hfl,hrow,hfs,hb1⟩;refine Hid.out ?_)
 have hal:=hall ((w1.alloc (.cells #[.slice fa L fc,vi (mn:Nat)] 24)).alloc (.cells #[vi 0,vi 0] 27))
 have hbx:=q1z (q1z (Below.refl w1.heap.size w1) (.cells #[.slice fa L fc,vi (mn:Nat)] 24)) (.cells #[vi 0,vi 0] 27)
 have g0:((w1.alloc (.cells #[.slice fa L fc,vi (mn:Nat)] 24)).alloc (.cells #[vi 0,vi 0] 27)).heap[w1.heap.size]?=some (.cells #[.slice fa L fc,vi (mn:Nat)] 24):=q4z _ (new1 _ _)
 have g1:=new2 w1 (.cells #[.slice fa L fc,vi (mn:Nat)] 24) (.cells #[vi 0,vi 0] 27)
 have hne:fs≠[]:=by intro e;rw[e]at hfl;simp at hfl;omega
 obtain⟨fb,fo,rfl,hfb,hat⟩:=hrow.2 hne
 obtain⟨fm,hfm⟩:∃f,fs[mn]?=some f:=⟨_,List.getElem?_eq_getElem (by omega)⟩
 have hprog:a9x fs (mn:Nat)=true:=by
  refine c5t (by omega) hfm ?_ (fun j g hg=>by rw[hfl];exact(hfs j g hg).1)
  obtain⟨q,hq,hp⟩:=(hfs mn fm hfm).2
  rw[hqm]at hq
  cases hq
  rw[hp,hql];rfl
 have hcode:∀V,Bw w1 V->Cl 6 #[.agg #[.slice (some (Ad fb fo)) L fc,vi (mn:Nat)]] V fun e w'=>e=.returned (.bool true)/\Bw V w':=fun V hb=>by
  have h:=c4p (some (Ad fb fo)) fc fs (mn:Nat) V ((hrow.below hb).mono hb.size)
  rw[hprog,hfl]at h
  exact h
 have hfc:∀V,Bw w1 V->∀(j:Nat) (q:Pt),u.kids[j]?=some q->V.cell? (Ad fb (fo+j*4))=some (vi ((q.kids.length:Int)-1)):=fun V hb j q hq=>by
  have hj:j<fs.length:=by have:=(List.getElem?_eq_some_iff.1 hq).1;omega
  have hf:=List.getElem?_eq_getElem hj
  obtain⟨q',hq',hp⟩:=(hfs j _ hf).2
  rw[hq]at hq'
  cases hq'
  have h1:=(hS.k j q hq).1
  have:=(hb.cell (p:=(Ad fb (fo+j*4))) hfb).trans (hat j _ hf).1.p
  rw[hp,show((q.kids.length-1:Nat):Int)=(q.kids.length:Int)-1 by omega]at this
  exact this
 replace hcode:Hid _:=hcode
 replace hfc:Hid _:=hfc
 clear hm hall hat hfs hrow hprog hfm hne
 refine Lib.hid ?_
 go_wp2_with (go_at_call 5;refine hal.mono ?_;rintro e w2 ⟨B,b,cap,sl',ls,c',a',st,rfl,hLo,hN,rfl,rfl,rfl,rfl⟩;refine Hid.out ?_)
 have hR:=d7f hLo
 have k0:=q0z hLo.bl g0
 have k1:=q0z hLo.bl g1
 have hb12:=q3z hbx hLo.bl
 have hSm:Sm w1 w2 B L fb fo fc mn b cap u:=by
  refine⟨q2z k0 rfl,q2z k0 rfl,q2z k1 rfl,q2z k1 rfl,?_,hfc.out _ hb12,fun j q hq=>?_⟩
  ·have:=hR.c3;rw[hS.l,hL]at this;exact this
  ·obtain⟨_,_,y,hy,hyl,hyt⟩:=hS.k j q hq
   obtain⟨nk,nt,no,ks⟩:=n
   obtain⟨g,off,b',cap',e,_,h1,_,h3,_⟩:=KA.at (KA.of hN) hy
   refine⟨g,off,b',cap',e,?_,?_⟩
   ·rw[h1,hyt]
   ·rw[h3,hyl]
 have c8:=hR.c8
 have hcl:=hcode.out w2.drew hb12.drew
 have hbw:=q3z hb1 hb12
 obtain⟨p0,p1,q0,q1,c3,_,_⟩:=id hSm
 replace hSm:Hid _:=hSm
 clear hal hbx g0 g1 hLo hN k0 k1 hb1 hR hcode hfc hb12
 refine Lib.hid ?_
 go_wp2
 go_region_held3 (fun u=>u.cell? (Ad w1.heap.size 0)=some (.slice (some (Ad fb fo)) L fc)/\u.cell? (Ad w1.heap.size 1)=some (vi (mn:Nat))/\u.cell? (Ad (w1.heap.size+1) 0)=some (vi 0)/\u.cell? (Ad (w1.heap.size+1) 1)=some (vi 0)/\u.cell? (Ad B 3)=some (.slice b L cap)) (go_keep) ((go_at_call 6;refine hcl.mono ?_;rintro e w3 ⟨rfl,hb3⟩;have hS3:=hSm.out.on (bz0.drew.trans hb3);obtain⟨p0,p1,q0,q1,c3,_,_⟩:=id hS3;replace hS3:Hid _:=hS3))
 have hbw3:=q3z hbw (q3z (Below.refl w2.heap.size w2).drew hb3)
 have hget:Hid (∀j,j<L->∃q,u.kids[j]?=some q):=fun j hj=>⟨_,List.getElem?_eq_getElem (by omega)⟩
 have hqs:Hid (∀(j:Nat) (q:Pt),u.kids[j]?=some q->(1:Int)<=q.kids.length/\(q.kids.length:Int)<=600):=fun j q hq=>⟨by have:=(hS.k j q hq).1;omega,by have:=(hS.k j q hq).2.1;omega⟩
 clear hcl hb3 hSm hS hbw
 go_wp2
 go_loopw [6] (fun ix wr=>∃j:Nat,j<=L/\ix=vi (j:Nat)/\Bw w3 wr) (fun ix _=>L-(intOf ix).toNat)
 case atStart=>exact⟨0,Nat.zero_le _,rfl,bz0⟩
 case round =>
  obtain⟨j,hj,rfl,hbr⟩:=hrel
  have hSr:=hS3.out.on hbr
  clear p0 p1 q0 q1 c3
  obtain⟨p0,p1,_,_,c3,hf,hy⟩:=hSr
  by_cases hlt:j<L
  ·have hlt':(j:Int)<(L:Int):=by omega
   have hge:(0:Int)<=(j:Int):=by omega
   obtain⟨q,hq⟩:=hget.out j hlt
   have cf:=hf j q hq
   obtain⟨g,off,b',cap',rfl,_,cy⟩:=hy j q hq
   have hj1:Hid (j+1<=L):=hlt
   obtain⟨hq1,hq6⟩:=hqs.out j q hq
   clear hf hy hq hS3 hget hqm hqt hql
   go_wp2
   go_quiet (fail)
   go_wp2
   go_roundw
   case rel=>exact⟨j+1,hj1.out,by go_num,q9z hbr⟩
   case measure =>
    have:=hj1.out
    simp[intOf];omega
  ·have hlt':¬(j:Int)<(L:Int):=by omega
   have hjL:j=L:=by omega
   subst hjL
   obtain⟨g,off,b',cap',rfl,cy,_⟩:=hy mn qm hqm
   rw[hqt]at cy
   have hm':(mn:Int)<(j:Int):=by omega
   have hm0:(0:Int)<=(mn:Int):=by omega
   have hfin:Hid (Bw w wr):=q3z hbw3 hbr
   clear hf hy hS3 hget hqm hqt hql hbr hbw3
   go_wp2
   go_quiet (fail)
   go_wp2
   go_ret
   exact⟨rfl,q9z hfin.out⟩
theorem c0p{n:Nd}(h:a1q l=.inr n):a1l n<=14:=by
 unfold a1q at h
 split at h
 ·cases h
 ·split at h
  ·cases h
  ·cases h
  ·rename_i m l1 hP
   cases hf:fitB m with
   | false=>rw[hf,if_neg (by decide)]at h;cases h
   | true =>
    rw[hf,if_pos rfl]at h
    cases h
    unfold fitB at hf
    simp at hf
    exact hf.1
theorem b7a{n:Nd}(h:a4r (a1q l)=.inr (n,sl)):a1q l=.inr n:=by
 unfold a4r at h
 split at h
 ·cases h
 ·rename_i n' hn'
  split at h
  ·cases h
  ·cases h;exact hn'
theorem d8z(q:Pt):(era q).t=q.t.data.toList:=by obtain⟨k,t,n,sl,kids⟩:=q;rfl
theorem says_any(s:ByteArray)(w:World)(hE:ErrV w)(hsp:a5b w):Cl 3 #[.string s] w fun e w'=>e=.returned (.bool true)/\Bw w w':=by
 cases hR:a4r (a1q s.data.toList) with
 | inl x =>
  obtain⟨c,a⟩:=x
  have r:=c9o s w hE hsp c a hR
  cases t:a1q s.data.toList with
  | inl y =>
   rw[t]at hR
   cases hR
   exact b8n s w nil0 c a r (fun V=>c5p s V c a t)
  | inr n =>
   rw[t]at hR
   refine b8n s w n c a r (fun V=>?_)
   have h:=b8l s V n t
   unfold a4r at hR
   simp only at hR
   split at hR
   ·rename_i e p
    cases hR
    rw[p]at h
    exact h
   ·cases hR
 | inr y =>
  obtain⟨n,sl⟩:=y
  obtain⟨g,hk,h6,v⟩:=b8k hR
  have t:=b7a hR
  obtain⟨u,b,o⟩:=c6t g hk v
  obtain⟨p,f⟩:=d1b g hk (c0p t) v b
  have z:n.kids=u.kids.map era:=by rw[<- p,a5p]
  have i:∀q∈u.kids,isN (era q):=fun q hq=>by
   have r:era q∈n.kids:=by rw[z];exact List.mem_map_of_mem hq
   obtain⟨nk,nt,no,ks⟩:=n
   exact a7h g r
  have r:=c5s s w hE hsp n sl u hR b o f i (by show manyN (era u)<=600;rw[p];exact h6)
  refine c5u s w n u sl ⟨by rw[z];simp,o.l,fun j q hq=>?_⟩ r (fun V=>?_)
  ·have d:=o.wf q (List.mem_of_getElem? hq)
   refine⟨d.l1,by have:=d.l6;omega,era q,by rw[z,List.getElem?_map,hq];rfl,by rw[a5p];simp,?_⟩
   rw[d8z]
  ·have h:=b8l s V n t
   rw[v]at h
   exact h
end
end Go.Proofs.YtomniogfpfbolaaGreatDoor.V.C
