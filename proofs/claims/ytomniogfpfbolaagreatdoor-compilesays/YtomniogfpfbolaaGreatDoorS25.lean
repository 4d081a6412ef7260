import Derived.Test.YtomniogfpfbolaaGreatDoorS22
namespace Go.Proofs.YtomniogfpfbolaaGreatDoor
open Go.RowKit Go
set_option maxRecDepth 100000
set_option maxHeartbeats 8000000
set_option linter.all false
variable {W W':World} {B i j cap:Nat} {ts:List Tok} {bad:Bool} {b:Option Addr} {s t:List UInt8} {Fin:Nat->Prop} {r:PRes}
abbrev dbx (b:Option Addr) (n cap:Nat) (i:Int) (bad:Bool):Obj:=.cells #[.slice b n cap,vi i,.bool bad] 82
structure Dr (W:World) (B:Nat) (ts:List Tok) (i:Nat) (bad:Bool):Prop where
 box:∃b cap,W.heap[B]?=some (dbx b ts.length cap (i:Nat) bad)/\a5q W b ts B/\ts.length<=cap
 le:i<=ts.length
 short:ts.length<=4000
theorem Dr.keep{S:Nat->Prop}(h:Dr W B ts i bad)(hk:a0b S W W')(hs:∀g,g<=B->¬S g):Dr W' B ts i bad:=by
 obtain⟨b,cap,h1,h2,h4⟩:=h.box
 exact⟨⟨b,cap,(hk.block _ (q5z h1) (hs _ (Nat.le_refl _))).trans h1,h2.keep hk (fun g z=>hs g (by omega)),h4⟩,h.le,h.short⟩
theorem Dr.below(h:Dr W B ts i bad)(hb:Bw W W'):Dr W' B ts i bad:=h.keep (a0b.of_below (S:=fun _=>False) hb) (fun _ _=>id)
theorem Dr.lt(h:Dr W B ts i bad):B<W.heap.size:=by
 obtain⟨b,cap,h1,_⟩:=h.box
 exact q5z h1
theorem Dr.go(h:Dr W B ts i bad)(hj:j<=ts.length):Dr (W.setCell (Ad B 1) (vi (j:Nat))) B ts j bad:=by
 obtain⟨b,cap,h1,h2,h4⟩:=h.box
 have z:a0b (fun k=>k=B) W (W.setCell (Ad B 1) (vi (j:Nat))):=(a0b.refl _ W).set B 1 _ (fun _=>rfl)
 exact⟨⟨b,cap,q7z _ h1,h2.keep z (fun g y e=>by omega),h4⟩,hj,h.short⟩
theorem Dr.fail(h:Dr W B ts i bad)(bad':Bool):Dr (W.setCell (Ad B 2) (.bool bad')) B ts i bad':=by
 obtain⟨b,cap,h1,h2,h4⟩:=h.box
 have z:a0b (fun k=>k=B) W (W.setCell (Ad B 2) (.bool bad')):=(a0b.refl _ W).set B 2 _ (fun _=>rfl)
 exact⟨⟨b,cap,q7z _ h1,h2.keep z (fun g y e=>by omega),h4⟩,h.le,h.short⟩
theorem Dr.put4(h:Dr W B ts i bad)(C:Nat)(a b c d:Value)(hC:B<C):Dr (put4 W C a b c d) B ts i bad:=h.keep (a1o W C a b c d) (fun g z=>by omega)
structure DrC (W:World) (B:Nat) (b:Option Addr) (n cap:Nat) (i:Int) (bad:Bool):Prop where
 c0:W.cell? (Ad B 0)=some (.slice b n cap)
 c1:W.cell? (Ad B 1)=some (vi i)
 c2:W.cell? (Ad B 2)=some (.bool bad)
 f1:W.frozen? (Ad B 1)=false
 f2:W.frozen? (Ad B 2)=false
theorem drC{n:Nat}{i:Int}(h:W.heap[B]?=some (dbx b n cap i bad)):DrC W B b n cap i bad :=
 ⟨q2z h rfl,q2z h rfl,q2z h rfl,q6z h,q6z h⟩
theorem Dr.cells(h:Dr W B ts i bad):∃b cap,DrC W B b ts.length cap (i:Nat) bad:=by
 obtain⟨b,cap,h1,_⟩:=h.box
 exact⟨b,cap,drC h1⟩
def txd (ts:List Tok) (i:Nat) (bad:Bool):List UInt8:=if bad then [] else tx (rest ts i)
theorem d5k(ts:List Tok)(i:Nat):txd ts i false=tx (rest ts i):=rfl
theorem c7p(B:Nat)(b:Option Addr)(n cap i:Nat)(w:World)(hc:DrC w B b n cap (i:Nat) true):Cl 44 #[Po B 0] w fun e z=>e=.returned (sk [])/\Bw w z:=by
 obtain⟨c0,c1,c2,f1,f2⟩:=hc
 go_enter Tryz.func44,Tryz.ntmps44
 go_wp2
 go_quiet (fail)
 go_wp2
 go_ret
 exact⟨rfl,q9z bz0⟩
theorem c7q(B:Nat)(b:Option Addr)(n cap:Nat)(w:World)(hc:DrC w B b n cap (n:Nat) false):Cl 44 #[Po B 0] w fun e z=>e=.returned (sk [])/\Bw w z:=by
 obtain⟨c0,c1,c2,f1,f2⟩:=hc
 go_enter Tryz.func44,Tryz.ntmps44
 go_wp2
 go_quiet (fail)
 go_wp2
 go_ret
 exact⟨rfl,q9z bz0⟩
theorem c7r(B g n cap i:Nat)(k:Int)(q2:(k == 2)=true)(w:World)(hc:DrC w B (some (Ad g 0)) n cap (i:Nat) false)(hi:i<n)(d0:w.cell? (Ad g (i*3))=some (vi k)):Cl 44 #[Po B 0] w fun e z=>e=.returned (sk [])/\Bw w z:=by
 obtain⟨c0,c1,c2,f1,f2⟩:=hc
 have y:(i:Int)<(n:Int):=by omega
 have x:decide (n<=i)=false:=decide_eq_false (by omega)
 go_enter Tryz.func44,Tryz.ntmps44
 go_wp2
 go_quiet (fail)
 go_wp2
 go_ret
 exact⟨rfl,q9z bz0⟩
theorem b9r(B g n cap i:Nat)(w:World)(hc:DrC w B (some (Ad g 0)) n cap (i:Nat) false)(hi:i<n)(d0:w.cell? (Ad g (i*3))=some (vi 3)):Cl 44 #[Po B 0] w fun e z=>e=.returned (sk [])/\Bw w z:=by
 obtain⟨c0,c1,c2,f1,f2⟩:=hc
 have y:(i:Int)<(n:Int):=by omega
 have x:decide (n<=i)=false:=decide_eq_false (by omega)
 go_enter Tryz.func44,Tryz.ntmps44
 go_wp2
 go_quiet (fail)
 go_wp2
 go_ret
 exact⟨rfl,q9z bz0⟩
theorem c7s(B g n cap i:Nat)(k:Int)(q2:(k == 2)=false)(q3:(k == 3)=false)(t:ByteArray)(w:World)(hc:DrC w B (some (Ad g 0)) n cap (i:Nat) false)(hi:i<n)(d0:w.cell? (Ad g (i*3))=some (vi k))(d1:w.cell? (Ad g (i*3+1))=some (.string t)):Cl 44 #[Po B 0] w fun e z=>e=.returned (.string t)/\Bw w z:=by
 obtain⟨c0,c1,c2,f1,f2⟩:=hc
 have y:(i:Int)<(n:Int):=by omega
 have x:decide (n<=i)=false:=decide_eq_false (by omega)
 go_enter Tryz.func44,Tryz.ntmps44
 go_wp2
 go_quiet (fail)
 go_wp2
 go_quiet (fail)
 go_wp2
 go_ret
 exact⟨rfl,q9z (q9z bz0)⟩
theorem a4g(B:Nat)(ts:List Tok)(i:Nat)(bad:Bool)(w:World)(hR:Dr w B ts i bad):Cl 44 #[Po B 0] w fun e s=>e=.returned (sk (txd ts i bad))/\Bw w s:=by
 obtain⟨b,cap,h1,r,_⟩:=hR.box
 have q:=hR.le
 have y:=drC h1
 cases bad with
 | true=>exact c7p B b _ cap i w y
 | false =>
  rw[d5k]
  cases hx:ts[i]? with
  | none =>
   have u:i=ts.length:=by
    have:=List.getElem?_eq_none_iff.1 hx
    omega
   subst u
   rw[a3v (Nat.le_refl _)]
   exact c7q B b _ cap w y
  | some x =>
   rw[a6e hx]
   obtain⟨t,_⟩:=List.getElem?_eq_some_iff.1 hx
   rcases r with rfl|⟨g,rfl,n,p,z⟩
   ·simp at hx
   have v:w.cell? (Ad g (i*3))=some (vi x.k):=z i x hx 0 _ rfl
   have o:=z i x hx 1 _ rfl
   unfold tx
   simp only
   by_cases h2:x.k=2
   ·rw[if_pos (.inl h2)]
    exact c7r B g _ cap i x.k (by simpa using h2) w y t v
   by_cases h3:x.k=3
   ·rw[if_pos (.inr h3)]
    rw[h3]at v
    exact b9r B g _ cap i w y t v
   rw[if_neg (by omega)]
   exact c7s B g _ cap i x.k (by simpa using h2) (by simpa using h3) _ w y t v o
theorem a0o(B:Nat)(ts:List Tok)(i:Nat)(bad:Bool)(s:List UInt8)(h:¬txd ts i bad=s)(w:World)(hR:Dr w B ts i bad):Cl 45 #[Po B 0,sk s] w fun e x=>e=.returned (.bool false)/\Bw w x:=by
 have y:=a4g B ts i bad w hR
 obtain⟨v,z⟩:=exq (txd ts i bad)
 rw[z]at y h
 have u:(v == s)=false:=by simpa using h
 clear z hR
 go_enter Tryz.func45,Tryz.ntmps45
 go_wp2_with (go_at_call 44;refine y.mono ?_;rintro e w1 ⟨rfl,t⟩)
 go_ret
 exact⟨rfl,t⟩
theorem a2k(B:Nat)(ts:List Tok)(i:Nat)(bad:Bool)(s:List UInt8)(h:txd ts i bad=s)(hi:i<ts.length)(w:World)(hR:Dr w B ts i bad):Cl 45 #[Po B 0,sk s] w fun e y=>e=.returned (.bool true)/\Dr y B ts (i+1) bad/\a0b (fun k=>k=B) w y:=by
 have v:=a4g B ts i bad w hR
 rw[h]at v
 have u:=hR.short
 go_enter Tryz.func45,Tryz.ntmps45
 go_wp2_with (go_at_call 44;refine v.mono ?_;rintro e w1 ⟨rfl,x⟩;have z:=hR.below x;obtain⟨b,cap,c0,c1,c2,f1,f2⟩:=z.cells)
 go_ret
 exact⟨rfl,z.go (j:=i+1) hi,(a0b.of_below x).set B 1 _ (fun _=>rfl)⟩
theorem b7u(h:txd ts i bad=s)(hs:s≠[]):bad=false/\i<ts.length:=by
 cases bad with
 | true=>exact absurd h.symm hs
 | false=>exact⟨rfl,a5a h hs⟩
def Fl (ts:List Tok) (Fin:Nat->Prop) (r:PRes) (i:Nat) (bad:Bool) (K:List PT->PR):Prop:=(bad=true/\Fin i)\/(bad=false/\K (rest ts i)=some r)
def a1y (ts:List Tok) (Fin:Nat->Prop) (r:PRes):Prop:=allV (ts.map pt)/\∀j,j<=ts.length->r=.inl (rest ts j)->Fin j
def DU (w:World) (B:Nat) (ts:List Tok) (Fin:Nat->Prop) (r:PRes) (g:List PT->PR) (e:Ending) (w':World):Prop:=e=.returned (.tuple #[])/\∃j bad,Dr w' B ts j bad/\a0b (fun k=>k=B) w w'/\Fl ts Fin r j bad g
theorem d1x(B:Nat)(ts:List Tok)(i:Nat)(bad:Bool)(s:List UInt8)(h:¬txd ts i bad=s)(w:World)(hR:Dr w B ts i bad):Cl 42 #[Po B 0,sk s] w fun e y=>e=.returned (.tuple #[])/\Dr y B ts i true/\a0b (fun k=>k=B) w y:=by
 have v:=a0o B ts i bad s h w hR
 go_enter Tryz.func42,Tryz.ntmps42
 go_wp2_with (go_at_call 45;refine v.mono ?_;rintro e w1 ⟨rfl,x⟩;have z:=hR.below x;obtain⟨b,cap,c0,c1,c2,f1,f2⟩:=z.cells)
 go_end0
 exact⟨rfl,z.fail true,(a0b.of_below x).set B 2 _ (fun _=>rfl)⟩
theorem c7t(B:Nat)(ts:List Tok)(i:Nat)(bad:Bool)(s:List UInt8)(h:txd ts i bad=s)(hi:i<ts.length)(w:World)(hR:Dr w B ts i bad):Cl 42 #[Po B 0,sk s] w fun e x=>e=.returned (.tuple #[])/\Dr x B ts (i+1) bad/\a0b (fun k=>k=B) w x:=by
 have v:=a2k B ts i bad s h hi w hR
 go_enter Tryz.func42,Tryz.ntmps42
 go_wp2_with (go_at_call 45;refine v.mono ?_;rintro e w1 ⟨rfl,y,z⟩)
 go_end0
 exact⟨rfl,y,z⟩
theorem a2o(hs:s≠[])(hF:a1y ts Fin r){g:List PT->PR}(z:Fl ts Fin r i bad (fun l=>need s l g))(w:World)(hR:Dr w B ts i bad):Cl 42 #[Po B 0,sk s] w (DU w B ts Fin r g):=by
 by_cases h:txd ts i bad=s
 ·obtain⟨rfl,v⟩:=b7u h hs
  refine(c7t B ts i false s h v w hR).mono ?_
  rintro e w1 ⟨rfl,x,y⟩
  refine⟨rfl,i+1,false,x,y,.inr ⟨rfl,?_⟩⟩
  rcases z with⟨u,_⟩|⟨_,z⟩
  ·cases u
  ·unfold need at z
   dsimp only at z
   rw[if_pos (show tx (rest ts i)=s from h),a0g]at z
   exact z
 ·refine(d1x B ts i bad s h w hR).mono ?_
  rintro e w1 ⟨rfl,x,y⟩
  refine⟨rfl,i,true,x,y,.inl ⟨rfl,?_⟩⟩
  rcases z with⟨_,h1⟩|⟨rfl,z⟩
  ·exact h1
  ·unfold need at z
   dsimp only at z
   rw[if_neg (show ¬tx (rest ts i)=s from h)]at z
   exact hF.2 i hR.le (Option.some.inj z).symm
def rsvO:Obj:=.cells ((a0j.map fun l=>Value.string ⟨l.toArray⟩).toArray) 9
theorem d1y(w:World):Cl 95 #[] w fun e z=>e=.returned (.slice (some (Ad w.heap.size 0)) 18 18)/\z=w.alloc rsvO:=by
 go_enter Tryz.func95,Tryz.ntmps95
 go_wp2
 go_ret
 exact⟨rfl,rfl⟩
theorem a8r(s:List UInt8):a4s s=(decide (1<=s.length)&&decide (s.length<=16)&&(s.head?.map letB).getD false&&s.all rowB && !a0j.contains s):=rfl
theorem b4c(s:ByteArray)(w:World):Cl 72 #[.string s] w fun e w'=>e=.returned (.bool (a4s s.data.toList))/\Bw w w':=by
 have hl:s.data.toList.length=s.size:=by simp
 by_cases h1:s.size<1
 ·have:a4s s.data.toList=false:=by rw[a8r,hl];simp;omega
  rw[this]
  have h1':(s.size:Int)<1:=by omega
  go_enter Tryz.func72,Tryz.ntmps72
  go_wp2
  go_ret
  exact⟨rfl,bz0⟩
 by_cases h2:16<s.size
 ·have:a4s s.data.toList=false:=by rw[a8r,hl];simp;omega
  rw[this]
  have h1':¬(s.size:Int)<1:=by omega
  have h2':(16:Int)<(s.size:Int):=by omega
  go_enter Tryz.func72,Tryz.ntmps72
  go_wp2
  go_ret
  exact⟨rfl,bz0⟩
 have h0:0<s.size:=by omega
 have h1':¬(s.size:Int)<1:=by omega
 have h2':¬(16:Int)<(s.size:Int):=by omega
 have h0':(0:Int)<(s.size:Int):=by omega
 have hh:s.data.toList.head?=some s[0]:=by rw[List.head?_eq_getElem?];exact a7f h0
 have hN:a4s s.data.toList=(letB s[0]&&s.data.toList.all rowB && !a0j.contains s.data.toList):=by
  rw[a8r,hl,hh]
  simp only[Option.map_some,Option.getD_some]
  rw[decide_eq_true (by omega:1<=s.size),decide_eq_true (by omega:s.size<=16)]
  simp
 rw[hN]
 obtain⟨V,hV⟩:=exq ((letB s[0]&&s.data.toList.all rowB && !a0j.contains s.data.toList))
 rw[hV]
 have hL:=fun(k:Nat) (hk:k<s.size)=>a8l s[k] w
 have hD:=fun(k:Nat) (hk:k<s.size)=>a7t s[k] w
 have hL0:=hL 0 h0
 clear hN hh
 by_cases h3:letB s[0]=false
 ·rw[h3]at hL0
  have:V=false:=by rw[<- hV,h3];rfl
  subst this
  clear hV
  go_enter Tryz.func72,Tryz.ntmps72
  go_wp2_with (go_at_call 67;refine hL0.mono ?_;rintro e w' ⟨rfl,hw'⟩;rw[hw'];clear hw')
  go_ret
  exact⟨rfl,bz0⟩
 have h3':letB s[0]=true:=by simpa using h3
 rw[h3']at hL0
 rw[h3',Bool.true_and]at hV
 replace hV:Hid _:=hV
 replace hl:Hid _:=hl
 go_enter Tryz.func72,Tryz.ntmps72
 go_wp2_with (go_at_call 67;refine hL0.mono ?_;rintro e w' ⟨rfl,hw'⟩;rw[hw'];clear hw')
 go_loop [3] (fun i=>∃k:Nat,k<=s.size/\i=vi k/\∀j d,j<k->s.data.toList[j]?=some d->rowB d=true) (fun i=>s.size-(intOf i).toNat)
 case atStart=>exact⟨0,by omega,rfl,fun i d h=>by omega⟩
 case round =>
  obtain⟨k,hk,rfl,hno⟩:=hrel
  replace hno:Hid _:=hno
  by_cases hlt:k<s.size
  ·have hlt':(k:Int)<(s.size:Int):=by omega
   have hLk:=hL k hlt
   have hDk:=hD k hlt
   have hc:s.data.toList[k]?=some s[k]:=a7f hlt
   by_cases hrow:rowB s[k]=true
   ·have hp:Hid (∀j d,j<k+1->s.data.toList[j]?=some d->rowB d=true):=by
     intro j d hj hd
     by_cases e:j=k
     ·subst e;rw[hc]at hd;cases hd;exact hrow
     ·exact hno.out j d (by omega) hd
    have hr:rowB s[k]=(letB s[k]||digB s[k]):=rfl
    rw[hr]at hrow
    clear hr hc
    cases e1:letB s[k] with
    | true =>
     rw[e1]at hLk
     go_wp2_with (go_at_call 67;refine hLk.mono ?_;rintro e w' ⟨rfl,hw'⟩;rw[hw'];clear hw')
     go_round
     case rel=>exact⟨k+1,by omega,by go_num,hp.out⟩
     case measure=>simp[intOf];omega
    | false =>
     have e2:digB s[k]=true:=by rw[e1]at hrow;simpa using hrow
     rw[e1]at hLk
     rw[e2]at hDk
     go_wp2_with (first|(go_at_call 67;refine hLk.mono ?_;rintro e w' ⟨rfl,hw'⟩;rw[hw'];clear hw')|(go_at_call 68;refine hDk.mono ?_;rintro e w' ⟨rfl,hw'⟩;rw[hw'];clear hw'))
     go_round
     case rel=>exact⟨k+1,by omega,by go_num,hp.out⟩
     case measure=>simp[intOf];omega
   ·have hV0:V=false:=by
     rw[<- hV.out]
     have:s.data.toList.all rowB=false:=by
      rw[<- Bool.not_eq_true,List.all_eq_true]
      intro h
      exact hrow (h _ (List.mem_of_getElem? hc))
     rw[this];rfl
    have hr:rowB s[k]=(letB s[k]||digB s[k]):=rfl
    rw[hr]at hrow
    have e1:letB s[k]=false:=by cases e:letB s[k] with|true=>rw[e]at hrow;simp at hrow|false=>rfl
    have e2:digB s[k]=false:=by cases e:digB s[k] with|true=>rw[e]at hrow;simp at hrow|false=>rfl
    rw[e1]at hLk
    rw[e2]at hDk
    subst hV0
    clear hr hc hrow
    go_wp2_with (first|(go_at_call 67;refine hLk.mono ?_;rintro e w' ⟨rfl,hw'⟩;rw[hw'];clear hw')|(go_at_call 68;refine hDk.mono ?_;rintro e w' ⟨rfl,hw'⟩;rw[hw'];clear hw'))
    go_ret
    exact⟨rfl,bz0⟩
  ·have hge:¬(k:Int)<(s.size:Int):=by omega
   have hall:s.data.toList.all rowB=true:=by
    rw[List.all_eq_true]
    intro x hx
    obtain⟨j,hj⟩:=List.getElem?_of_mem hx
    exact hno.out j x (by have:=(List.getElem?_eq_some_iff.1 hj).1;have:=hl.out;omega) hj
   have hV2:Hid ((!a0j.contains s.data.toList)=V):=by
    have:=hV.out
    rw[hall,Bool.true_and]at this
    exact this
   have hRs:=d1y w
   have hb0:=q1z (Below.refl w.heap.size w) rsvO
   have gR:=a0a w rsvO
   obtain⟨W,hW⟩:=exq (w.alloc rsvO)
   rw[hW]at hRs hb0 gR
   clear hV hno hall hL hD hW
   go_wp2_with (go_at_call 95;refine hRs.mono ?_;rintro e w' ⟨rfl,hw'⟩;rw[hw'];clear hw')
   go_loop [5] (fun i=>∃q:Nat,q<=18/\i=vi q/\∀j x,j<q->a0j[j]?=some x->¬x=s.data.toList) (fun i=>18-(intOf i).toNat)
   case atStart=>exact⟨0,by omega,rfl,fun i d h=>by omega⟩
   case round =>
    obtain⟨q,hq,rfl,hno⟩:=hrel
    replace hno:Hid _:=hno
    by_cases hlt:q<18
    ·have hlt':(q:Int)<18:=by omega
     obtain⟨x,hx⟩:∃x,a0j[q]?=some x:=⟨_,List.getElem?_eq_getElem (show q<a0j.length from hlt)⟩
     have hcell:W.cell? (Ad w.heap.size q)=some (sk x):=q2z gR (by simp[hx])
     by_cases hxs:x=s.data.toList
     ·have hV0:V=false:=by
       rw[<- hV2.out]
       have:a0j.contains s.data.toList=true:=List.contains_iff_mem.2 (hxs▸List.mem_of_getElem? hx)
       rw[this];rfl
      subst hV0
      have hcell':W.cell? (Ad w.heap.size q)=some (.string s):=by rw[hcell,hxs]
      clear hx hxs hcell
      go_wp2
      go_ret
      exact⟨rfl,hb0⟩
     ·have hp:Hid (∀j y,j<q+1->a0j[j]?=some y->¬y=s.data.toList):=by
       intro j y hj hy
       by_cases e:j=q
       ·subst e;rw[hx]at hy;cases hy;exact hxs
       ·exact hno.out j y (by omega) hy
      have hne:¬(⟨x.toArray⟩:ByteArray)=s:=fun e=>hxs (by rw[<- e])
      obtain⟨t,rfl⟩:∃t:List UInt8,s=⟨t.toArray⟩:=⟨s.data.toList,rfl⟩
      have hneb:(x == t)=false:=by simpa using hxs
      clear hx hxs
      go_wp2
      go_round
      case rel=>exact⟨q+1,by omega,by go_num,hp.out⟩
      case measure=>simp[intOf];omega
    ·have hge:¬(q:Int)<18:=by omega
     have hV1:V=true:=by
      rw[<- hV2.out]
      have:a0j.contains s.data.toList=false:=by
       rw[<- Bool.not_eq_true,List.contains_iff_mem]
       intro hm
       obtain⟨j,hj⟩:=List.getElem?_of_mem hm
       exact hno.out j _ (by have:j<18:=(List.getElem?_eq_some_iff.1 hj).1;omega) hj rfl
      rw[this];rfl
     subst hV1
     go_wp2
     go_ret
     exact⟨rfl,hb0⟩
theorem d5l(B:Nat)(ts:List Tok)(i:Nat)(bad:Bool)(h:a4s (txd ts i bad)=false)(w:World)(hR:Dr w B ts i bad):Cl 43 #[Po B 0] w fun e s=>e=.returned (sk [])/\Dr s B ts i true/\a0b (fun k=>k=B) w s:=by
 have q:=a4g B ts i bad w hR
 have t:=fun u=>b4c ⟨(txd ts i bad).toArray⟩ u
 simp only[h]at t
 obtain⟨v,r⟩:=exq (txd ts i bad)
 rw[r]at q t
 clear r h
 go_enter Tryz.func43,Tryz.ntmps43
 go_wp2_with (first|(go_at_call 44;refine q.mono ?_;rintro e w1 ⟨rfl,p⟩)|(go_at_call 72;refine(t _).mono ?_;rintro e o ⟨rfl,x⟩;have z:=q3z p x;have y:=hR.below z;obtain⟨b,cap,c0,c1,c2,f1,f2⟩:=y.cells))
 go_ret
 exact⟨rfl,y.fail true,(a0b.of_below z).set B 2 _ (fun _=>rfl)⟩
theorem d1z(B:Nat)(ts:List Tok)(i:Nat)(bad:Bool)(h:a4s (txd ts i bad)=true)(hi:i<ts.length)(w:World)(hR:Dr w B ts i bad):Cl 43 #[Po B 0] w fun e s=>e=.returned (sk (txd ts i bad))/\Dr s B ts (i+1) bad/\a0b (fun k=>k=B) w s:=by
 have q:=a4g B ts i bad w hR
 have t:=fun u=>b4c ⟨(txd ts i bad).toArray⟩ u
 simp only[h]at t
 have n:=hR.short
 obtain⟨v,r⟩:=exq (txd ts i bad)
 rw[r]at q t⊢
 clear r h
 go_enter Tryz.func43,Tryz.ntmps43
 go_wp2_with (first|(go_at_call 44;refine q.mono ?_;rintro e w1 ⟨rfl,p⟩)|(go_at_call 72;refine(t _).mono ?_;rintro e o ⟨rfl,x⟩;have z:=q3z p x;have y:=hR.below z;obtain⟨b,cap,c0,c1,c2,f1,f2⟩:=y.cells))
 go_ret
 exact⟨rfl,y.go (j:=i+1) hi,(a0b.of_below z).set B 1 _ (fun _=>rfl)⟩
def DN (w:World) (B:Nat) (ts:List Tok) (Fin:Nat->Prop) (r:PRes) (g:List UInt8->List PT->PR) (e:Ending) (w':World):Prop:=∃s j bad,e=.returned (sk s)/\Dr w' B ts j bad/\a0b (fun k=>k=B) w w'/\Fl ts Fin r j bad (g s)
theorem b2o(hF:a1y ts Fin r){g:List UInt8->List PT->PR}(z:Fl ts Fin r i bad (fun l=>a0n l g))(w:World)(hR:Dr w B ts i bad):Cl 43 #[Po B 0] w (DN w B ts Fin r g):=by
 cases h:a4s (txd ts i bad) with
 | true =>
  have v:txd ts i bad≠[]:=fun e=>by rw[e]at h;exact absurd h (by decide)
  obtain⟨rfl,u⟩:=b7u rfl v
  refine(d1z B ts i false h u w hR).mono ?_
  rintro e w1 ⟨rfl,x,y⟩
  refine⟨_,i+1,false,rfl,x,y,.inr ⟨rfl,?_⟩⟩
  rcases z with⟨t,_⟩|⟨_,z⟩
  ·cases t
  ·unfold a0n at z
   dsimp only at z
   rw[if_pos (show a4s (tx (rest ts i))=true from h),a0g]at z
   exact z
 | false =>
  refine(d5l B ts i bad h w hR).mono ?_
  rintro e w1 ⟨rfl,x,y⟩
  refine⟨_,i,true,rfl,x,y,.inl ⟨rfl,?_⟩⟩
  rcases z with⟨_,h1⟩|⟨rfl,z⟩
  ·exact h1
  ·unfold a0n at z
   dsimp only at z
   rw[if_neg (show ¬a4s (tx (rest ts i))=true by rw[show tx (rest ts i)=txd ts i false from rfl,h];decide)]at z
   exact hF.2 i hR.le (Option.some.inj z).symm
def NA (D:Nat->Prop) (w:World) (B:Nat) (ts:List Tok) (Fin:Nat->Prop) (r:PRes) (g:Nd->List PT->PR) (e:Ending) (w':World):Prop :=
 ∃x b cap j bad,e=.returned (ndv x b cap)/\NdV (fun q=>D q\/w.heap.size<=q) w' x (ndv x b cap)/\Dr w' B ts j bad/\a0b (fun k=>k=B) w w'/\Fl ts Fin r j bad (g x)
def DRow (f:Nat):Prop:=∀(a:Nat) (r:PRes) (Fin:Nat->Prop) (g:Nd->List PT->PR) (B:Nat) (ts:List Tok) (i:Nat) (w:World),a<=6->a1y ts Fin r->Dr w B ts i false->(P f 0 nil0 a (rest ts i)).on g=some r->Cl 117 #[Po B 0,vi (a:Nat)] w (NA no w B ts Fin r g)
def DUn (f:Nat):Prop:=∀(r:PRes) (Fin:Nat->Prop) (g:Nd->List PT->PR) (B:Nat) (ts:List Tok) (i:Nat) (w:World),a1y ts Fin r->Dr w B ts i false->(P f 1 nil0 0 (rest ts i)).on g=some r->Cl 133 #[Po B 0] w (NA no w B ts Fin r g)
def DFst (f:Nat):Prop:=∀(r:PRes) (Fin:Nat->Prop) (g:Nd->List PT->PR) (B:Nat) (ts:List Tok) (i:Nat) (w:World),a1y ts Fin r->Dr w B ts i false->(P f 3 nil0 0 (rest ts i)).on g=some r->Cl 149 #[Po B 0] w (NA no w B ts Fin r g)
def DBeh (f:Nat):Prop:=∀(x:Nd) (b:Option Addr) (cap:Nat) (D:Nat->Prop) (r:PRes) (Fin:Nat->Prop) (g:Nd->List PT->PR) (B:Nat) (ts:List Tok) (i:Nat) (w:World),a1y ts Fin r->Dr w B ts i false->NdV D w x (ndv x b cap)->(∀q,D q->q≠B)->(P f 5 x 0 (rest ts i)).on g=some r->Cl 118 #[Po B 0,ndv x b cap] w (NA D w B ts Fin r g)
abbrev sgO:Obj:=.cells ((opsL.map fun p=>Value.string ⟨p.1.toArray⟩).toArray) 9
abbrev opO:Obj:=.cells ((opsL.map fun p=>vi p.2.1).toArray) 2
abbrev lvO:Obj:=.cells ((opsL.map fun p=>vi (p.2.2:Nat)).toArray) 3
theorem c3o(w:World):Cl 150 #[] w fun e z=>e=.returned (.slice (some (Ad w.heap.size 0)) 11 11)/\z=w.alloc sgO:=by
 go_enter Tryz.func150,Tryz.ntmps150
 go_wp2
 go_ret
 exact⟨rfl,rfl⟩
theorem d2a(w:World):Cl 151 #[] w fun e z=>∃p q,e=.returned (.tuple #[.slice (some (Ad p 0)) 11 11,.slice (some (Ad q 0)) 11 11])/\z.heap[p]?=some opO/\z.heap[q]?=some lvO/\Bw w z:=by
 have y:=a0a w opO
 have h1:=a0a (w.alloc opO) lvO
 rw[World.size_alloc]at h1
 go_enter Tryz.func151,Tryz.ntmps151
 go_wp2
 go_ret2
 exact⟨_,_,rfl,q4z _ y,h1,q1z (q1z bz0 _) _⟩
def sgV (t:List UInt8):Value:=match opAt t with
 | some (o,k)=>.tuple #[vi o,vi (k:Nat)]
 | none=>.tuple #[vi 0,vi (-1)]
theorem c3p(h:∀(j:Nat) (p:List UInt8×Int×Nat),opsL[j]?=some p->¬p.1=t):opAt t=none:=by
 unfold opAt
 rw[List.find?_eq_none.2]
 ·rfl
 intro p z
 obtain⟨j,y⟩:=List.getElem?_of_mem z
 simpa using h j p y
theorem c3q:∀i,i<11->∀j,j<11->(opsL.getD i ([],0,0)).1=(opsL.getD j ([],0,0)).1->i=j:=by decide
theorem c3r{p:List UInt8×Int×Nat}(hj:opsL[j]?=some p)(ht:p.1=t):opAt t=some p.2:=by
 unfold opAt
 cases hf:opsL.find? (fun p=>p.1 == t) with
 | none =>
  have:=List.find?_eq_none.1 hf p (List.mem_of_getElem? hj)
  simp[ht]at this
 | some q =>
  have hq:q.1=t:=by simpa using List.find?_some hf
  obtain⟨i,z⟩:=List.getElem?_of_mem (List.mem_of_find?_eq_some hf)
  have x:opsL.getD i ([],0,0)=q:=by simp[List.getD,z]
  have y:opsL.getD j ([],0,0)=p:=by simp[List.getD,hj]
  have:=c3q i (List.getElem?_eq_some_iff.1 z).1 j (List.getElem?_eq_some_iff.1 hj).1 (by rw[x,y,hq,ht])
  subst this
  rw[hj]at z
  cases z
  rfl
theorem d2b(t:List UInt8)(w:World):Cl 134 #[sk t] w fun e w'=>e=.returned (sgV t)/\Bw w w':=by
 obtain⟨V,hV⟩:=exq (sgV t)
 rw[hV]
 replace hV:Hid _:=hV
 have hS:=c3o w
 have hb0:=q1z (Below.refl w.heap.size w) sgO
 have g0:=a0a w sgO
 obtain⟨W,hW⟩:=exq (w.alloc sgO)
 rw[hW]at hS hb0 g0
 clear hW
 have hO:=d2a W
 go_enter Tryz.func134,Tryz.ntmps134
 go_wp2_with (first|(go_at_call 150;refine hS.mono ?_;rintro e w1 ⟨rfl,hw'⟩;rw[hw'];clear hw')|(go_at_call 151;refine hO.mono ?_;rintro e w2 ⟨p,q,rfl,g1,g2,hb2⟩;have g0':=q0z hb2 g0;have hbw:=q3z hb0 hb2))
 clear hO hS hb0 hb2 g0
 go_loop [7] (fun i=>∃j:Nat,j<=11/\i=vi j/\∀(k:Nat) (p:List UInt8×Int×Nat),k<j->opsL[k]?=some p->¬p.1=t) (fun i=>11-(intOf i).toNat)
 case atStart=>exact⟨0,by omega,rfl,fun i d h=>by omega⟩
 case round =>
  obtain⟨j,hj,rfl,hno⟩:=hrel
  replace hno:Hid _:=hno
  by_cases hlt:j<11
  ·have hlt':(j:Int)<11:=by omega
   obtain⟨x,hx⟩:∃x,opsL[j]?=some x:=⟨_,List.getElem?_eq_getElem (show j<opsL.length from hlt)⟩
   have d0:w2.cell? (Ad w.heap.size j)=some (sk x.1):=q2z g0' (by simp[hx])
   have d1:w2.cell? (Ad p j)=some (vi x.2.1):=q2z g1 (by simp[hx])
   have d2:w2.cell? (Ad q j)=some (vi (x.2.2:Nat)):=q2z g2 (by simp[hx])
   by_cases hxt:x.1=t
   ·have hV0:V=.tuple #[vi x.2.1,vi (x.2.2:Nat)]:=by rw[<- hV.out];unfold sgV;rw[c3r hx hxt]
    subst hV0
    rw[hxt]at d0
    clear hx hxt
    go_wp2
    go_quiet (fail)
    go_wp2
    go_ret2
    exact⟨rfl,q9z hbw⟩
   ·have hp:Hid (∀(k:Nat) (p:List UInt8×Int×Nat),k<j+1->opsL[k]?=some p->¬p.1=t):=by
     intro k y hk hy
     by_cases e:k=j
     ·subst e;rw[hx]at hy;cases hy;exact hxt
     ·exact hno.out k y (by omega) hy
    have hneb:(x.1 == t)=false:=by simpa using hxt
    obtain⟨x1,x2⟩:=x
    simp only at d0 hneb
    clear hx hxt d1 d2
    go_wp2
    go_round
    case rel=>exact⟨j+1,by omega,by go_num,hp.out⟩
    case measure=>simp[intOf];omega
  ·have hge:¬(j:Int)<11:=by omega
   have hV1:V=.tuple #[vi 0,vi (-1)]:=by
    rw[<- hV.out];unfold sgV
    rw[c3p (fun k p hk=>hno.out k p (by have:k<11:=(List.getElem?_eq_some_iff.1 hk).1;omega) hk)]
   subst hV1
   go_wp2
   go_ret2
   exact⟨rfl,hbw⟩
structure EX (D:Nat->Prop) (w:World) (B:Nat) (ts:List Tok) (Fin:Nat->Prop) (r:PRes) (g:Nd->List PT->PR) (ks:List Nd) (v:Value) (e:Ending) (w':World):Prop where
 out:∃ks' b' cap' j bad,e=.returned (.slice b' ks'.length cap')/\Row (fun q=>D q\/w.heap.size<=q) w' (.slice b' ks'.length cap') ks'/\Dr w' B ts j bad/\ks'.length<=ks.length+1/\(∀q,Value.ownBlock (.slice b' ks'.length cap')=some q->some q=v.ownBlock\/w.heap.size<=q)/\((bad=true/\Fin j)\/(bad=false/\∃x,ks'=ks++[x]/\g x (rest ts j)=some r))
 K:a0b (fun q=>q=B\/some q=v.ownBlock) w w'
theorem c3s(B:Nat)(ts:List Tok)(i:Nat)(b:Option Addr)(n cap:Nat)(w:World)(hR:Dr w B ts i true):Cl 96 #[Po B 0,.slice b n cap] w fun e z=>e=.returned (.slice b n cap)/\Bw w z:=by
 obtain⟨b',cap',c0,c1,c2,f1,f2⟩:=hR.cells
 go_enter Tryz.func96,Tryz.ntmps96
 go_wp2
 go_ret
 exact⟨rfl,bz0⟩
theorem c7u(f:Nat)(hE:DRow f)(ks:List Nd)(b:Option Addr)(cap:Nat)(D:Nat->Prop)(r:PRes)(Fin:Nat->Prop)(g:Nd->List PT->PR)(B:Nat)(ts:List Tok)(i:Nat)(w:World)(hF:a1y ts Fin r)(hR:Dr w B ts i false)(hRow:Row D w (.slice b ks.length cap) ks)(hD:∀q,D q->q≠B)(hO:∀q,Value.ownBlock (.slice b ks.length cap)=some q->B<q)(hk:ks.length<=100000)(hP:(P f 0 nil0 0 (rest ts i)).on g=some r):Cl 96 #[Po B 0,.slice b ks.length cap] w (EX D w B ts Fin r g ks (.slice b ks.length cap)):=by
 obtain⟨i0,z0,z2,z3,z4⟩:=info_parts a5w
 have hc:=hE 0 r Fin g B ts i w (by omega) hF hR hP
 have y3:=hR.lt
 obtain⟨b',cap',c0,c1,c2,f1,f2⟩:=hR.cells
 have z1:ks.length+1<=maxLen:=by unfold maxLen;omega
 have y9:(ks.length+1)*56<=140737488355328:=by omega
 clear hE hP
 go_enter Tryz.func96,Tryz.ntmps96
 go_wp2_with (first|(go_at_call 117;refine hc.mono ?_;rintro e w1 ⟨x,bx,p,j,y6,rfl,hN,z6,c,y7⟩)|(at_builtin;refine Hid.out ?_))
 have s:Row (fun q=>D q\/w.heap.size<=q) w1 (.slice b ks.length cap) ks:=(hRow.keep c (fun q hq _ e=>hD q hq e)).weak (fun q hq _=>.inl hq)
 have u:=q1z (q1z (Below.refl w1.heap.size w1) (nbx x bx p)) (nbx x bx p)
 have y:=a0a (w1.alloc (nbx x bx p)) (nbx x bx p)
 rw[World.size_alloc]at y
 have z:=s.below u
 have z7:=z6.below u
 have a:=hN.below u
 have d:=c.trans (a0b.of_below u)
 obtain⟨W,hW⟩:=exq ((w1.alloc (nbx x bx p)).alloc (nbx x bx p))
 rw[hW]at y z z7 a d
 obtain⟨_,_,_,z9⟩:=hRow.form
 obtain⟨xs,ho,hs,hn⟩:=z.own
 have hy:NdV (fun q=>(D q\/w.heap.size<=q)/\some q≠Value.ownBlock (.slice b ks.length cap)) W x (ndv x bx p):=a.weak (fun q hq _=>⟨.inr (hq.resolve_left id),fun e=>by have:=(z9 q e.symm).2;have:=hq.resolve_left id;omega⟩)
 have y4:w.heap.size<=W.heap.size:=d.size
 replace hW:(w1.alloc (.cells #[vi x.k,.string ⟨x.t.toArray⟩,vi x.n,.slice bx x.kids.length p] 34)).alloc (.cells #[vi x.k,.string ⟨x.t.toArray⟩,vi x.n,.slice bx x.kids.length p] 34)=W:=hW
 rw[hW]
 clear hW s u hc hN z6 c c0 c1 c2 f1 f2 hRow z a
 refine Lib.hid ?_
 go_wp2_with (at_builtin;refine wpList_append_lies _ (by rfl) _ _ _ (by rfl) 0 34 i0 _ 4 56 Tryz.underlying32 z0 z2 z3 z4 rfl (by omega) (.slice b ks.length cap) ks.length _ (by rfl) ho (Ad (w1.heap.size+1) 0) 1 1 _ (by rfl) (by rfl) (a2c x bx p y) (by simp[Value.oneCell']) (by omega) z1 y9 (Nat.zero_le _) _ rfl ?_;intro g3 z5 w5 l v o y5)
 have y8:=Row.snoc ho hs hn hy l v o (fun q hq=>.inr (by omega))
 have z8:=a0b.grown v
 go_ret
 refine⟨⟨ks++[x],some (Ad g3 0),z5,j,y6,by simp,by simpa using y8,z7.keep z8 (fun q hq e=>by have:=hO q e.symm;omega),by simp,fun q e=>?_,?_⟩,(d.mono (fun q _ e=>.inl e)).then z8 (fun q _ e=>.inr e)⟩
 ·have e3:g3=q:=by simpa[Value.ownBlock]using e
  subst e3
  rcases o with e|e
  ·exact .inl e.symm
  ·exact .inr (by omega)
 ·rcases y7 with h|⟨h1,h2⟩
  ·exact .inl h
  ·exact .inr ⟨h1,x,rfl,h2⟩
theorem a5j(f:Nat)(hE:DRow f)(ks:List Nd)(b:Option Addr)(cap:Nat)(D:Nat->Prop)(r:PRes)(Fin:Nat->Prop)(g:Nd->List PT->PR)(B:Nat)(ts:List Tok)(i:Nat)(bad:Bool)(w:World)(hF:a1y ts Fin r)(hR:Dr w B ts i bad)(hRow:Row D w (.slice b ks.length cap) ks)(hD:∀q,D q->q≠B)(hO:∀q,Value.ownBlock (.slice b ks.length cap)=some q->B<q)(hk:ks.length<=100000)(y:Fl ts Fin r i bad (fun l=>(P f 0 nil0 0 l).on g)):Cl 96 #[Po B 0,.slice b ks.length cap] w (EX D w B ts Fin r g ks (.slice b ks.length cap)):=by
 rcases y with⟨rfl,x⟩|⟨rfl,y⟩
 ·refine(c3s B ts i b ks.length cap w hR).mono ?_
  rintro e w1 ⟨rfl,z⟩
  exact⟨⟨ks,b,cap,i,true,rfl,(hRow.below z).weak (fun q hq _=>.inl hq),hR.below z,by omega,fun q e=>.inl e.symm,.inl ⟨rfl,x⟩⟩,a0b.of_below z⟩
 ·exact c7u f hE ks b cap D r Fin g B ts i w hF hR hRow hD hO hk y
theorem a4h{x:PR}{h g:Nd->List PT->PR} : (x.on h).on g=x.on (fun n l=>(h n l).on g):=by
 unfold PR.on
 match x with
 | none=>rfl
 | some (.inl l)=>rfl
 | some (.inr (n,l))=>rfl
theorem a3c{l:List PT}{h:List PT->PR}{g:Nd->List PT->PR} : (need s l h).on g=need s l (fun l=>(h l).on g):=by
 unfold need
 split
 ·rfl
 ·rfl
theorem a2f{c:Prop}[Decidable c]{x y:PR}{g:Nd->List PT->PR} : (if c then x else y).on g=if c then x.on g else y.on g:=by
 split
 ·rfl
 ·rfl
theorem b4d{tm:Array Value}{a b c d:Value}(h:tm[4]?.getD undef=Po B 0)(hx:W.heap[B]?=some (.cells #[a,b,c,d] 34)):(results Tryz.f117 tm).run Tryz.prog W=.ok (.agg #[a,b,c,d]) W:=by
 obtain⟨c0,c1,c2,c3,_,_,_,_⟩:=in4 hx
 simp[results,Tryz.results117,go_sem,h,c0,c1,c2,c3]
theorem a1a{w:World}{g:Nd->List PT->PR}{x:Nd}{t:Nat}{D:Nat->Prop}(hN:NdV (fun q=>(D q\/w.heap.size<=q)/\q≠t) W x (ndv x b cap))(hR:Dr W B ts j bad)(hk:a0b (fun k=>k=B) w W)(ht:w.heap.size<=t)(hB:B<w.heap.size)(hFl:Fl ts Fin r j bad (g x)) :
  NA D w B ts Fin r g (.returned (ndv x b cap)) (put4 W t (vi x.k) (sk x.t) (vi x.n) (.slice b x.kids.length cap)) :=
 ⟨x,b,cap,j,bad,rfl,(hN.put4 _ _ _ _ _ (fun q hq=>hq.2)).weak (fun q hq _=>hq.1),hR.put4 _ _ _ _ _ (by omega),a1f hk _ _ _ _ _ ht,hFl⟩
theorem c7v(f:Nat)(hU:DUn f)(r:PRes)(Fin:Nat->Prop)(g:Nd->List PT->PR)(B:Nat)(ts:List Tok)(i:Nat)(w:World)(hF:a1y ts Fin r)(hR:Dr w B ts i false)(hP:(P f 1 nil0 0 (rest ts i)).on g=some r):Cl 117 #[Po B 0,vi 6] w (NA no w B ts Fin r g):=by
 have y:Bw w (w.alloc zbx):=q1z bz0 _
 have h2:=a0a w zbx
 have t:=hR.lt
 have s:=hU r Fin g B ts i _ hF (hR.below y) hP
 go_enter Tryz.func117,Tryz.ntmps117
 go_wp2_with (go_at_call 133;refine s.mono ?_;rintro e w1 ⟨x,b,cap,j,o,rfl,p,v,z,u⟩;have g2:=z.box h2 (by omega);obtain⟨c0,c1,c2,c3,f0,f1,f2,f3⟩:=in4 g2)
 refine bodyPost_ret (b4d rfl (a0c _ _ _ _ g2)) rfl ?_
 exact a1a (p.weak (fun q hq _=>by simp at hq;exact⟨.inr (by omega),by omega⟩)) v ((a0b.of_below y).trans z) (Nat.le_refl _) t u
def BndI (f t a:Nat) (w:World) (B:Nat) (ts:List Tok) (Fin:Nat->Prop) (r:PRes) (g:Nd->List PT->PR) (k:Nat) (wr:World):Prop :=
 ∃(x:Nd) (b:Option Addr) (cap j:Nat) (bad:Bool),wr.heap[t]?=some (nbx x b cap)/\wr.heap[w.heap.size]?=some zbx/\NdV (fun q=>w.heap.size<q/\q≠t) wr x (ndv x b cap)/\Dr wr B ts j bad/\a0b (fun k=>k=B) w wr/\k<=f/\Fl ts Fin r j bad (fun l=>(P k 2 x a l).on g)
theorem c3t(f:Nat)(hG:∀k,k<=f->DRow k)(a:Nat)(ha:a<=5)(r:PRes)(Fin:Nat->Prop)(g:Nd->List PT->PR)(B:Nat)(ts:List Tok)(i:Nat)(w:World)(hF:a1y ts Fin r)(hR:Dr w B ts i false)(hP:(P f 0 nil0 (a+1) (rest ts i)).on (fun n l=>(P f 2 n a l).on g)=some r):Cl 117 #[Po B 0,vi (a:Nat)] w (NA no w B ts Fin r g):=by
 have hb0:Bw w (w.alloc zbx):=q1z bz0 _
 have h2:=a0a w zbx
 have hBw:=hR.lt
 have hc:=hG f (Nat.le_refl _) (a+1) r Fin _ B ts i _ (by omega) hF (hR.below hb0) hP
 rw[show((a+1:Nat):Int)=(a:Int)+1 by omega]at hc
 have ha':¬(5:Int)<(a:Int):=by omega
 go_enter Tryz.func117,Tryz.ntmps117
 go_wp2_with (go_at_call 117;refine hc.mono ?_;rintro e w1 ⟨x,b,cap,j,bad,rfl,hN,hR1,hk1,hFl⟩;refine Hid.out ?_)
 have g2:=hk1.box h2 (by omega)
 have hz1:=q5z g2
 have hb1:=q1z (Below.refl w1.heap.size w1) (nbx x b cap)
 have gt:=a0a w1 (nbx x b cap)
 have hI:BndI f w1.heap.size a w B ts Fin r g f (w1.alloc (nbx x b cap)):=⟨x,b,cap,j,bad,gt,q0z hb1 g2,(hN.weak (fun q hq hlt=>by simp at hq;exact⟨by omega,by omega⟩)).below hb1,hR1.below hb1,((a0b.of_below hb0).trans hk1).trans (a0b.of_below hb1),Nat.le_refl _,hFl⟩
 obtain⟨t,ht⟩:=exq (w1.heap.size)
 rw[ht]at hI hz1
 clear hc hP h2 hN hR1 hk1 hFl g2 hb1 gt hb0
 refine Lib.hid ?_
 go_wp2
 clear ht
 go_loopg [6] f (fun k _ wr=>BndI f t a w B ts Fin r g k wr)
 case atStart=>exact hI
 case round =>
  obtain⟨x,b,cap,j,bad,p3,p2,hN,hR1,hk,hgf,hFl⟩:=hrel
  clear hI
  have hz3:=q5z p3
  have hz2:=q5z p2
  obtain⟨c0,c1,c2,c3,f0,f1,f2,f3⟩:=in4 p3
  obtain⟨d0,d1,d2,d3,e0,e1,e2,e3⟩:=in4 p2
  obtain⟨b',cap',s0,s1,s2,v1,v2⟩:=hR1.cells
  have hNw:NdV (fun q=>(no q\/w.heap.size<=q)/\q≠w.heap.size) wr x (ndv x b cap):=hN.weak (fun q hq _=>⟨.inr (by omega),by omega⟩)
  rcases hFl with⟨rfl,hFi⟩|⟨rfl,hP⟩
  ·go_wp2
   refine bodyPost_ret (b4d rfl (a0c _ _ _ _ p2)) rfl ?_
   exact a1a hNw hR1 hk (Nat.le_refl _) hBw (.inl ⟨rfl,hFi⟩)
  have hT:=a4g B ts j false wr hR1
  have hSg:=fun u=>d2b (tx (rest ts j)) u
  rw[show txd ts j false=tx (rest ts j) from rfl]at hT
  unfold sgV at hSg
  cases gk with
  | zero=>cases hP
  | succ k =>
  dsimp only at hP
  rw[P]at hP
  cases hop:opAt (tx (rest ts j)) with
  | none =>
   rw[hop]at hP
   simp only[hop]at hSg
   have hq:((-1:Int) == (a:Int))=false:=by simp <;> omega
   obtain⟨tt,htt⟩:=exq (tx (rest ts j))
   rw[htt]at hT hSg
   clear hop htt
   go_wp2_with (first|(go_at_call 44;refine hT.mono ?_;rintro e w2 ⟨rfl,hb2⟩)|(go_at_call 134;refine(hSg _).mono ?_;rintro e w3 ⟨rfl,hb3⟩;have hb:=q3z hb2 hb3;have q3:=q0z hb p3;have q2:=q0z hb p2;obtain⟨c0,c1,c2,c3,f0,f1,f2,f3⟩:=in4 q3;obtain⟨d0,d1,d2,d3,e0,e1,e2,e3⟩:=in4 q2))
   refine bodyPost_ret (b4d rfl (a0c _ _ _ _ q2)) rfl ?_
   exact a1a (hNw.below hb) (hR1.below hb) (hk.trans (a0b.of_below hb)) (Nat.le_refl _) hBw (.inr ⟨rfl,hP⟩)
  | some ok =>
   obtain⟨o,lv⟩:=ok
   rw[hop]at hP
   simp only[hop]at hSg
   simp only at hP
   by_cases hlv:lv=a
   ·subst hlv
    rw[if_pos rfl,a4h]at hP
    have hne:tx (rest ts j)≠[]:=fun e=>by rw[e,show opAt []=none by decide]at hop;cases hop
    have hjl:=a5a rfl hne
    have hsh:=hR1.short
    obtain⟨tt,htt⟩:=exq (tx (rest ts j))
    rw[a0g]at hP
    rw[htt]at hT hSg
    have hcall:=fun u (h:Dr u B ts (j+1) false)=>hG k (by omega) (lv+1) r Fin _ B ts (j+1) u (by omega) hF h hP
    rw[show((lv+1:Nat):Int)=(lv:Int)+1 by omega]at hcall
    clear hop htt hne hP c0 c1 c2 c3 f0 f1 f2 f3 d0 d1 d2 d3 e0 e1 e2 e3
    go_wp2_with (first|(go_at_call 44;refine hT.mono ?_;rintro e w2 ⟨rfl,hb2⟩)|(go_at_call 134;refine(hSg _).mono ?_;rintro e w3 ⟨rfl,hb3⟩;have hb:=q3z hb2 hb3;have hR3:=hR1.below hb;have hR4:=hR3.go (j:=j+1) hjl;obtain⟨b',cap',s0,s1,s2,v1,v2⟩:=hR3.cells)|(go_at_call 117;refine(hcall _ hR4).mono ?_;rintro e w5 ⟨y,by',cy,j2,bad2,rfl,hNy,hR5,hk5,hFl2⟩;refine Hid.out ?_))
    have hk4:a0b (fun q=>q=B) wr (w3.setCell (Ad B 1) (vi ((j+1:Nat):Int))):=(a0b.of_below hb).set B 1 _ (fun _=>rfl)
    have hk5':=hk4.trans hk5
    have q3:=hk5'.box p3 (by omega)
    have q2:=hk5'.box p2 (by omega)
    have hNx5:=hN.keep hk5' (fun q hq _ e=>by omega)
    have hz4:=hk5'.size
    have hz6:=hk5.size
    have hNy5:NdV (fun q=>w.heap.size<q/\q≠t) w5 y (ndv y by' cy):=hNy.weak (fun q hq _=>by have h1:=hk4.size;have h2:=hq.resolve_left id;exact⟨by omega,by omega⟩)
    have hb6:=q1z (Below.refl w5.heap.size w5) (nbx y by' cy)
    have gy:=a0a w5 (nbx y by' cy)
    have hNx6:=(hNx5.weak (S':=fun q=>(w.heap.size<q/\q≠t)) (fun q hq _=>hq)).below hb6
    have hNy6:=hNy5.below hb6
    have hR6:=hR5.below hb6
    have hkw6:=(hk.trans hk5').trans (a0b.of_below hb6)
    have q36:=q0z hb6 q3
    have q26:=q0z hb6 q2
    clear hk4 hk5 hNx5 hNy5 hNy hR5 hT hSg hcall hR4 hR3 s0 s1 s2 v1 v2 hb2 hb3 hb hN hNw
    obtain⟨w6,hw6⟩:=exq (w5.alloc (nbx y by' cy))
    rw[hw6]at gy hNx6 hNy6 hR6 hkw6 q36 q26
    have hz7:w5.heap.size<w6.heap.size:=q5z gy
    obtain⟨W7,hW7⟩:=exq (put4 (w6.alloc (.cells #[vi x.k,sk x.t,vi x.n,.slice b x.kids.length cap,vi y.k,sk y.t,vi y.n,.slice by' y.kids.length cy] 34)) t (vi 22) (sk []) (vi o) (.slice (some (Ad w6.heap.size 0)) 2 2))
    obtain⟨hN7,g7,hk7⟩:=a9f 22 o hNx6 hNy6 (fun q hq=>hq.2) ⟨by omega,by omega⟩ q36 hW7
    have g27:=hk7.box q26 (by omega)
    have hR7:=hR6.keep hk7 (fun q hq e=>by omega)
    have hkw7:=hkw6.then hk7 (fun q hq e=>by omega)
    replace hw6:w5.alloc (.cells #[vi y.k,.string ⟨y.t.toArray⟩,vi y.n,.slice by' y.kids.length cy] 34)=w6:=hw6
    replace hW7:((((w6.alloc (.cells #[vi x.k,.string ⟨x.t.toArray⟩,vi x.n,.slice b x.kids.length cap,vi y.k,.string ⟨y.t.toArray⟩,vi y.n,.slice by' y.kids.length cy] 34)).setCell (Ad t 0) (vi 22)).setCell (Ad t 1) (.string ⟨#[]⟩)).setCell (Ad t 2) (vi o)).setCell (Ad t 3) (.slice (some (Ad w6.heap.size 0)) 2 2)=W7:=hW7
    obtain⟨c0,c1,c2,c3,f0,f1,f2,f3⟩:=in4 q36
    obtain⟨x0,x1,x2,x3,y0,y1,y2,y3⟩:=in4a q36
    obtain⟨a0,a1,a2,a3,_,_,_,_⟩:=in4 gy
    have n1:¬t=w6.heap.size:=by omega
    have n2:¬w6.heap.size=t:=by omega
    have hNw7:NdV (fun q=>(no q\/w.heap.size<=q)/\q≠w.heap.size) W7 ⟨22,[],o,[x,y]⟩ (ndv ⟨22,[],o,[x,y]⟩ (some (Ad w6.heap.size 0)) 2):=hN7.weak (fun q hq _=>⟨.inr (by omega),by omega⟩)
    clear q3 q2 hb6 hNx6 hNy6 hR6 hkw6 q26 hk7 p3 p2 hR1 hk hk5' hG hF q36 gy hz4 hz6 hz2 hz3 hz1
    replace hN7:Hid _:=hN7
    replace hFl2:Hid _:=hFl2
    replace hNw7:Hid _:=hNw7
    replace hR7:Hid _:=hR7
    replace hkw7:Hid _:=hkw7
    obtain⟨r0,r1,r2,r3,t0,t1,t2,t3⟩:=in4 g7
    obtain⟨d0,d1,d2,d3,e0,e1,e2,e3⟩:=in4 g27
    refine Lib.hid ?_
    by_cases h2:lv=2
    ·subst h2
     have hFl3:Hid (Fl ts Fin r j2 bad2 (g ⟨22,[],o,[x,y]⟩)):=by
      rcases hFl2.out with h|⟨h1,h2⟩
      ·exact .inl h
      ·exact .inr ⟨h1,h2⟩
     clear hFl2
     go_wp2
     refine bodyPost_ret (b4d rfl (a0c _ _ _ _ g27)) rfl ?_
     exact a1a (x:=⟨22,[],o,[x,y]⟩) hNw7.out hR7.out hkw7.out (Nat.le_refl _) hBw hFl3.out
    ·have hq2:((lv:Int) == 2)=false:=by simp;omega
     have hFl3:Hid (Fl ts Fin r j2 bad2 (fun l=>(P k 2 ⟨22,[],o,[x,y]⟩ lv l).on g)):=by
      rcases hFl2.out with h|⟨h1,h3⟩
      ·exact .inl h
      ·refine .inr ⟨h1,?_⟩
       dsimp only at h3
       rw[if_neg h2]at h3
       exact h3
     clear hFl2
     go_wp2
     go_roundg k
     case measure=>omega
     case rel=>exact⟨⟨22,[],o,[x,y]⟩,_,2,j2,bad2,g7,g27,hN7.out,hR7.out,hkw7.out,by omega,hFl3.out⟩
   ·have hq:(((lv:Nat):Int) == (a:Int))=false:=by simp;omega
    rw[if_neg hlv]at hP
    obtain⟨tt,htt⟩:=exq (tx (rest ts j))
    rw[htt]at hT hSg
    clear hop htt
    go_wp2_with (first|(go_at_call 44;refine hT.mono ?_;rintro e w2 ⟨rfl,hb2⟩)|(go_at_call 134;refine(hSg _).mono ?_;rintro e w3 ⟨rfl,hb3⟩;have hb:=q3z hb2 hb3;have q3:=q0z hb p3;have q2:=q0z hb p2;obtain⟨c0,c1,c2,c3,f0,f1,f2,f3⟩:=in4 q3;obtain⟨d0,d1,d2,d3,e0,e1,e2,e3⟩:=in4 q2))
    refine bodyPost_ret (b4d rfl (a0c _ _ _ _ q2)) rfl ?_
    exact a1a (hNw.below hb) (hR1.below hb) (hk.trans (a0b.of_below hb)) (Nat.le_refl _) hBw (.inr ⟨rfl,hP⟩)
theorem c7w(f:Nat)(hG:∀k,k<=f->DRow k)(hU:DUn f):DRow (f+1):=by
 intro a r y g B ts i w u v x z
 rw[P,a2f]at z
 split at z
 ·have:a=6:=by omega
  subst this
  exact c7v f hU r y g B ts i w v x z
 ·rw[a4h]at z
  exact c3t f hG a (by omega) r y g B ts i w v x z
end Go.Proofs.YtomniogfpfbolaaGreatDoor
