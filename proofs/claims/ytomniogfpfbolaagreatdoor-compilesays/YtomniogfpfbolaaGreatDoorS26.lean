import Derived.Test.YtomniogfpfbolaaGreatDoorS11
namespace Go.Proofs.YtomniogfpfbolaaGreatDoor
open Go.RowKit Go
set_option maxRecDepth 100000
set_option maxHeartbeats 8000000
set_option linter.all false
variable {tm:Array Value} {W:World} {B:Nat} {a:Int} {c:UInt8} {r:List UInt8}
theorem b4e{k:Int}{t:ByteArray}{n e:Int}(h:tm[4]?.getD undef=Po B 0)(h3:tm[5]?.getD undef=vi n)(h4:tm[6]?.getD undef=vi e)(hx:W.heap[B]?=some (tbx k t a)):(results Tryz.f41 tm).run Tryz.prog W=.ok (.tuple #[tokv k t a,vi n,vi e]) W:=by
 obtain⟨c0,c1,c2,_,_,_⟩:=in3 hx
 simp[results,Tryz.results41,go_sem,h,h3,h4,c0,c1,c2]
def RT (a:Nat) (R:TokR) (k:Int) (t:ByteArray) (p:Int) (n:Int) (e:Int):Prop :=
 match R with
 | .inl x=>e=x
 | .inr (k1,t1,n1)=>k=k1/\t=⟨t1.toArray⟩/\p=(a:Nat)/\n=(n1:Nat)/\e=0
theorem b7v(s:ByteArray)(a n:Nat):s.extract a (a+n)=⟨((s.data.toList.drop a).take n).toArray⟩:=by
 have h:=a6p s a (a+n)
 rw[Nat.add_sub_cancel_left]at h
 rw[<- h,a9r]
theorem a6i(s:ByteArray)(hs:s.size<=4000)(a:Nat)(ha:a<s.size)(w:World) :
  Cl 41 #[.string s,vi a] w fun e q=>(∃k t p n c,e=.returned (.tuple #[tokv k t p,vi n,vi c])/\RT a (tokR (s.data.toList.drop a)) k t p n c)/\Bw w q:=by
 obtain⟨T,hT⟩:=exq (tokR (s.data.toList.drop a))
 rw[hT]
 have hr:=a0a w a2r
 have z9:Bw w (w.alloc a2r):=q1z bz0 _
 have y7:(a:Int)<(s.size:Int):=by omega
 have v:=fun u=>d0u s hs a (by omega) u
 have r:=fun u=>a8l s[a] u
 have o:=fun u=>a7t s[a] u
 have hd:s.data.toList.drop a=s[a]::s.data.toList.drop (a+1):=by
  rw[List.drop_eq_getElem_cons (by simpa using ha)];rfl
 have z4:=a3s rowB (s.data.toList.drop a)
 have l:runN rowB (s.data.toList.drop a)<=s.size-a:=by simpa using z4
 have y:=b7v s a (runN rowB (s.data.toList.drop a))
 have z:=hT
 rw[hd]at z
 unfold tokR at z
 simp only at z
 rw[<- hd]at z
 clear z4
 cases hl:letB s[a]
 ·rw[hl]at r
  cases hg:digB s[a]
  ·rw[hg]at o
   by_cases h34:s[a].toNat=34
   ·have z2:((s[a].toNat:Int) == 34)=true:=by simp[h34]
    have b:=fun u=>b5s s hs (a+1) (by omega) u
    rw[if_neg (by simp[hl]),if_neg (by simp[hg]),if_pos h34]at z
    have f:(((a+1:Nat)):Int)=(a:Int)+1:=by omega
    rw[f]at b
    clear f y
    obtain⟨m,hm⟩:=exq (runN txtB (s.data.toList.drop (a+1)))
    have z5:=a3s txtB (s.data.toList.drop (a+1))
    have y8:m<=s.size-(a+1):=by rw[<- hm];simpa using z5
    have y:=b7v s (a+1) m
    unfold rqV at b
    rw[hm]at b z
    obtain⟨n,hn⟩:=exq (runN rowB (s.data.toList.drop a))
    rw[hn]at v l
    clear hn hT hd hm z5 hl hg h34
    by_cases hq:(s.data.toList.drop (a+1))[m]?=some 34
    ·rw[if_pos hq]at b z
     clear hq
     by_cases h3:300<m
     ·have z0:(300:Int)<(m:Int):=by omega
      rw[if_pos h3]at z
      replace z:Hid _:=z
      replace y:Hid _:=y
      go_enter Tryz.func41,Tryz.ntmps41
      go_wp2_with (first|(go_at_call 66;refine(v _).mono ?_;rintro e q ⟨rfl,rfl⟩)|(go_at_call 67;refine(r _).mono ?_;rintro e q ⟨rfl,rfl⟩)|(go_at_call 68;refine(o _).mono ?_;rintro e q ⟨rfl,rfl⟩)|(go_at_call 70;refine(b _).mono ?_;rintro e q ⟨rfl,rfl⟩))
      exact bodyPost_ret (b4e rfl rfl rfl (a0a _ _)) rfl ⟨⟨_,_,_,_,_,rfl,by rw[<- z.out];rfl⟩,q1z bz0 _⟩
     ·have z0:¬(300:Int)<(m:Int):=by omega
      rw[if_neg h3]at z
      replace z:Hid _:=z
      replace y:Hid _:=y
      go_enter Tryz.func41,Tryz.ntmps41
      go_wp2_with (first|(go_at_call 66;refine(v _).mono ?_;rintro e q ⟨rfl,rfl⟩)|(go_at_call 67;refine(r _).mono ?_;rintro e q ⟨rfl,rfl⟩)|(go_at_call 68;refine(o _).mono ?_;rintro e q ⟨rfl,rfl⟩)|(go_at_call 70;refine(b _).mono ?_;rintro e q ⟨rfl,rfl⟩))
      exact bodyPost_ret (b4e rfl rfl rfl (a0a _ _)) rfl ⟨⟨_,_,_,_,_,rfl,by rw[<- z.out];exact⟨rfl,y.out,rfl,by simp,rfl⟩⟩,q1z bz0 _⟩
    ·rw[if_neg hq]at b z
     clear hq
     replace z:Hid _:=z
     replace y:Hid _:=y
     go_enter Tryz.func41,Tryz.ntmps41
     go_wp2_with (first|(go_at_call 66;refine(v _).mono ?_;rintro e q ⟨rfl,rfl⟩)|(go_at_call 67;refine(r _).mono ?_;rintro e q ⟨rfl,rfl⟩)|(go_at_call 68;refine(o _).mono ?_;rintro e q ⟨rfl,rfl⟩)|(go_at_call 70;refine(b _).mono ?_;rintro e q ⟨rfl,rfl⟩))
     exact bodyPost_ret (b4e rfl rfl rfl (a0a _ _)) rfl ⟨⟨_,_,_,_,_,rfl,by rw[<- z.out];rfl⟩,q1z bz0 _⟩
   ·have z2:((s[a].toNat:Int) == 34)=false:=by simp;omega
    have hS:=fun u=>c1u s hs a ha u
    rw[if_neg (by simp[hl]),if_neg (by simp[hg]),if_neg h34]at z
    have z3:a7u (s.data.toList.drop a)=(s.data.toList.drop a).take (a3i (s.data.toList.drop a)):=by rw[hd];exact c1r _ _
    rw[z3,<- b7v]at hS
    have z7:=b7b (s.data.toList.drop a)
    have z8:a3i (s.data.toList.drop a)<=s.size-a:=by simpa using z7
    clear y
    have y:=b7v s a (a3i (s.data.toList.drop a))
    obtain⟨m,hm⟩:=exq (a3i (s.data.toList.drop a))
    rw[hm]at hS z z8 y
    obtain⟨n,hn⟩:=exq (runN rowB (s.data.toList.drop a))
    rw[hn]at v l
    clear hn hT hd hm z7 hl hg h34 z3
    have i:(s.extract a (a+m)).size=m:=by simp;omega
    obtain⟨E,hE⟩:=exq (s.extract a (a+m))
    rw[hE]at hS y i
    clear hE
    by_cases h0:m=0
    ·have he:(E.toList == [])=true:=by
      rw[ByteArray.toList_eq]
      have:E.data.toList.length=0:=by rw[Array.length_toList];show E.size=0;omega
      rw[List.eq_nil_of_length_eq_zero this];rfl
     rw[if_pos h0]at z
     clear h0
     replace z:Hid _:=z
     replace y:Hid _:=y
     replace i:Hid _:=i
     go_enter Tryz.func41,Tryz.ntmps41
     go_wp2_with (first|(go_at_call 66;refine(v _).mono ?_;rintro e q ⟨rfl,rfl⟩)|(go_at_call 67;refine(r _).mono ?_;rintro e q ⟨rfl,rfl⟩)|(go_at_call 68;refine(o _).mono ?_;rintro e q ⟨rfl,rfl⟩)|(go_at_call 71;refine(hS _).mono ?_;rintro e w2 ⟨rfl,d⟩;have g:=q0z d hr;obtain⟨c0,c1,c2,f0,f1,f2⟩:=in3 g))
     exact bodyPost_ret (b4e rfl rfl rfl (put3_same _ _ _ g)) rfl ⟨⟨_,_,_,_,_,rfl,by rw[<- z.out];rfl⟩,put3_below _ _ _ (q3z z9 d) (Nat.le_refl _)⟩
    ·have he:(E.toList == [])=false:=by
      rw[ByteArray.toList_eq]
      cases h:E.data.toList with
      | nil =>
       have:=congrArg List.length h
       rw[Array.length_toList]at this
       have h2:E.size=0:=this
       omega
      | cons=>rfl
     rw[if_neg h0]at z
     clear h0
     replace z:Hid _:=z
     replace y:Hid _:=y
     have y9:E.size<=4000:=by omega
     replace i:Hid _:=i
     go_enter Tryz.func41,Tryz.ntmps41
     go_wp2_with (first|(go_at_call 66;refine(v _).mono ?_;rintro e q ⟨rfl,rfl⟩)|(go_at_call 67;refine(r _).mono ?_;rintro e q ⟨rfl,rfl⟩)|(go_at_call 68;refine(o _).mono ?_;rintro e q ⟨rfl,rfl⟩)|(go_at_call 71;refine(hS _).mono ?_;rintro e w2 ⟨rfl,d⟩;have g:=q0z d hr;obtain⟨c0,c1,c2,f0,f1,f2⟩:=in3 g))
     exact bodyPost_ret (b4e rfl rfl rfl (put3_same _ _ _ g)) rfl ⟨⟨_,_,_,_,_,rfl,by rw[<- z.out];exact⟨rfl,y.out,rfl,by rw[i.out],rfl⟩⟩,put3_below _ _ _ (q3z z9 d) (Nat.le_refl _)⟩
  ·rw[hg]at o
   rw[if_neg (by simp[hl]),if_pos hg]at z
   have z6:0<runN rowB (s.data.toList.drop a):=by rw[hd];simp[runN,rowB,hg]
   have hN:=fun u=>b5r (s.extract a (a+runN rowB (s.data.toList.drop a))) (by simp;omega) (by simp;omega) u
   rw[a6p,Nat.add_sub_cancel_left]at hN
   obtain⟨n,hn⟩:=exq (runN rowB (s.data.toList.drop a))
   rw[hn]at v z y l hN z6
   clear hn hT hd hl hg
   obtain⟨x,hx⟩:=exq (numE ((s.data.toList.drop a).take n))
   rw[hx]at hN z
   clear hx
   replace z:Hid _:=z
   replace y:Hid _:=y
   go_enter Tryz.func41,Tryz.ntmps41
   go_wp2_with (first|(go_at_call 66;refine(v _).mono ?_;rintro e q ⟨rfl,rfl⟩)|(go_at_call 67;refine(r _).mono ?_;rintro e q ⟨rfl,rfl⟩)|(go_at_call 68;refine(o _).mono ?_;rintro e q ⟨rfl,rfl⟩)|(go_at_call 69;refine(hN _).mono ?_;rintro e q ⟨rfl,rfl⟩))
   refine bodyPost_ret (b4e rfl rfl rfl (a0a _ _)) rfl ⟨⟨_,_,_,_,_,rfl,?_⟩,q1z bz0 _⟩
   rw[<- z.out]
   by_cases h0:x=0
   ·rw[if_pos h0];exact⟨rfl,y.out,rfl,rfl,h0⟩
   ·rw[if_neg h0];rfl
 ·rw[if_pos hl]at z
  obtain⟨n,hn⟩:=exq (runN rowB (s.data.toList.drop a))
  rw[hn]at v z y l
  clear hn hT hd
  by_cases h16:16<n
  ·have z1:(16:Int)<(n:Int):=by omega
   rw[if_pos h16]at z
   replace z:Hid _:=z
   replace y:Hid _:=y
   rw[hl]at r
   go_enter Tryz.func41,Tryz.ntmps41
   go_wp2_with (first|(go_at_call 66;refine(v _).mono ?_;rintro e q ⟨rfl,rfl⟩)|(go_at_call 67;refine(r _).mono ?_;rintro e q ⟨rfl,rfl⟩))
   exact bodyPost_ret (b4e rfl rfl rfl (a0a _ _)) rfl ⟨⟨_,_,_,_,_,rfl,by rw[<- z.out];rfl⟩,z9⟩
  ·have z1:¬(16:Int)<(n:Int):=by omega
   rw[if_neg h16]at z
   replace z:Hid _:=z
   replace y:Hid _:=y
   rw[hl]at r
   go_enter Tryz.func41,Tryz.ntmps41
   go_wp2_with (first|(go_at_call 66;refine(v _).mono ?_;rintro e q ⟨rfl,rfl⟩)|(go_at_call 67;refine(r _).mono ?_;rintro e q ⟨rfl,rfl⟩))
   exact bodyPost_ret (b4e rfl rfl rfl (a0a _ _)) rfl ⟨⟨_,_,_,_,_,rfl,by rw[<- z.out];exact⟨rfl,y.out,rfl,rfl,rfl⟩⟩,q1z bz0 _⟩
theorem c3u{v:Value}{c:Int}(h:tm[3]?.getD undef=Po B 0)(h2:tm[2]?.getD undef=v)(hx:W.heap[B]?=some (.cells #[vi c,vi a] 27)):(results Tryz.f29 tm).run Tryz.prog W=.ok (.tuple #[v,.agg #[vi c,vi a]]) W:=by
 have c0:W.cell? (Ad B 0)=some (vi c):=q2z hx rfl
 have c1:W.cell? (Ad B 1)=some (vi a):=q2z hx rfl
 simp[results,Tryz.results29,go_sem,h,h2,c0,c1]
theorem c3v(s:ByteArray)(hs:4000<s.size)(w:World):Cl 29 #[.string s] w (Out w (.bad 1 0)):=by
 have z:(4000:Int)<(s.size:Int):=by omega
 go_enter Tryz.func29,Tryz.ntmps29
 go_wp2
 exact bodyPost_ret (c3u rfl rfl (a0a _ _)) rfl ⟨⟨none,0,0,rfl,World.ownsRow_nil _ _ _ _⟩,q1z bz0 _⟩
theorem b1k(h:c.toNat=32\/c.toNat=10):gap1 (c::r)=1:=by simp[gap1,h]
theorem c3w(h:c.toNat=45)(hr:r.head?=some 45):gap1 (c::r)=runN a3r (c::r):=by
 simp only[gap1]
 rw[if_neg (by omega),if_pos ⟨h,hr⟩]
theorem b0h(h1:¬(c.toNat=32\/c.toNat=10))(h2:¬(c.toNat=45/\r.head?=some 45)):gap1 (c::r)=0:=by
 simp only[gap1]
 rw[if_neg h1,if_neg h2]
theorem c7x(s:ByteArray)(hs:s.size<=4000)(w:World):Cl 29 #[.string s] w (Out w (a3j 0 s.data.toList)):=by
 obtain⟨i0,hi0,hz0,hz1,hz2⟩:=info_parts c9s
 have hs':¬(4000:Int)<(s.size:Int):=by omega
 obtain⟨R,hR⟩:=exq (a3j 0 s.data.toList)
 rw[hR]
 have hlen:s.data.toList.length=s.size:=by simp
 have hS0:SI w (.slice none 0 0) [] (w.alloc d0r):=⟨World.ownsRow_nil _ _ _ _,a0a _ _,q1z bz0 _⟩
 replace hlen:Hid _:=hlen
 replace hR:Hid _:=hR
 go_enter Tryz.func29,Tryz.ntmps29
 go_wp2
 go_loopw [4,5] (fun v i wr=>∃(k:Nat) (b:Option Addr) (n d:Nat) (ts:List Tok),k<=s.size/\i=vi k/\v=.slice b n d/\SI w v ts wr/\R=a1k.pre ts (a3j k (s.data.toList.drop k))/\ts.length<=k) (fun _ i _=>s.size-(intOf i).toNat)
 case atStart=>exact⟨0,none,0,0,[],Nat.zero_le _,rfl,rfl,hS0,by rw[a1k.pre_nil,<- hR.out];simp,Nat.zero_le _⟩
 case round =>
  clear hS0
  obtain⟨k,b,n,d,ts,hk,rfl,rfl,hS,hRk,htl⟩:=hrel
  obtain⟨c0,c1,f0,f1⟩:=in2 hS.r
  by_cases hlt:k<s.size
  ·have hne:s.data.toList.drop k≠[]:=by
    intro e
    have:=congrArg List.length e
    simp at this
    omega
   have hd:s.data.toList.drop k=s[k]::s.data.toList.drop (k+1):=by
    rw[List.drop_eq_getElem_cons (by simpa using hlt)];rfl
   have hk':(k:Int)<(s.size:Int):=by omega
   by_cases h32:s[k].toNat=32
   ·have h32':((s[k].toNat:Int) == 32)=true:=by simp[h32]
    have hg1:gap1 (s.data.toList.drop k)=1:=by rw[hd];exact b1k (.inl h32)
    have hR1:Hid (R=a1k.pre ts (a3j (k+1) (s.data.toList.drop (k+1)))):=by
     show R=_
     rw[hRk,a4m (by rw[hg1];omega),hg1,List.drop_drop]
    clear hRk hg1 hd hne h32
    go_wp2
    go_roundw
    case rel=>exact⟨k+1,_,_,_,ts,by omega,by go_num,rfl,hS,hR1.out,by omega⟩
    case measure=>simp[intOf];omega
   have h32':((s[k].toNat:Int) == 32)=false:=by simp;omega
   by_cases h10:s[k].toNat=10
   ·have h10':((s[k].toNat:Int) == 10)=true:=by simp[h10]
    have hg1:gap1 (s.data.toList.drop k)=1:=by rw[hd];exact b1k (.inr h10)
    have hR1:Hid (R=a1k.pre ts (a3j (k+1) (s.data.toList.drop (k+1)))):=by
     show R=_
     rw[hRk,a4m (by rw[hg1];omega),hg1,List.drop_drop]
    clear hRk hg1 hd hne h32 h10
    go_wp2
    go_roundw
    case rel=>exact⟨k+1,_,_,_,ts,by omega,by go_num,rfl,hS,hR1.out,by omega⟩
    case measure=>simp[intOf];omega
   have h10':((s[k].toNat:Int) == 10)=false:=by simp;omega
   have hn12:¬(s[k].toNat=32\/s[k].toNat=10):=by omega
   clear h32 h10
   by_cases h45:s[k].toNat=45
   ·have h45':((s[k].toNat:Int) == 45)=true:=by simp[h45]
    by_cases hk1:k+1<s.size
    ·have hk1':(k:Int)+1<(s.size:Int):=by omega
     have hhead:(s.data.toList.drop (k+1)).head?=some s[k+1]:=by
      rw[List.drop_eq_getElem_cons (by simpa using hk1)];rfl
     by_cases h45b:s[k+1].toNat=45
     ·have h45b':((s[k+1].toNat:Int) == 45)=true:=by simp[h45b]
      have hg1:gap1 (s.data.toList.drop k)=runN a3r (s.data.toList.drop k):=by
       rw[hd];exact c3w h45 (by rw[hhead,UInt8.toNat_inj.1 (show s[k+1].toNat=(45:UInt8).toNat from h45b)])
      have hpos:0<runN a3r (s.data.toList.drop k):=by rw[hd];simp[runN,a3r,h45]
      have hR1:Hid (R=a1k.pre ts (a3j (k+runN a3r (s.data.toList.drop k)) (s.data.toList.drop (k+runN a3r (s.data.toList.drop k))))):=by
       show R=_
       rw[hRk,a4m (by rw[hg1];omega),hg1,List.drop_drop]
      clear hRk hg1 hd hne h45 h45b hhead
      obtain⟨m,hm⟩:=exq (runN a3r (s.data.toList.drop k))
      rw[hm]at hR1 hpos
      replace hm:Hid _:=hm
      go_wp2
      go_loop [5] (fun i=>∃q:Nat,k<=q/\q<=s.size/\i=vi q/\∀i d,i<q-k->(s.data.toList.drop k)[i]?=some d->a3r d=true) (fun i=>s.size-(intOf i).toNat)
      case atStart=>exact⟨k,by omega,by omega,by simp,fun i d h=>by omega⟩
      case round =>
       obtain⟨q,hq1,hq2,rfl,hno⟩:=hrel
       by_cases hq:q<s.size
       ·have hq':(q:Int)<(s.size:Int):=by omega
        have hc:(s.data.toList.drop k)[q-k]?=some s[q]:=by
         rw[a6r,show k+(q-k)=q by omega];exact a7f hq
        have hT:=a6n a3r (s.data.toList.drop k) (q-k) s[q] hc hno
        rw[hm.out]at hT
        by_cases hx:s[q].toNat=10
        ·have hx':((s[q].toNat:Int) == 10)=true:=by simp[hx]
         have hmm:m=q-k:=hT.2 (by simp[a3r,hx])
         have hR2:Hid (R=a1k.pre ts (a3j q (s.data.toList.drop q))):=by
          have:=hR1.out
          rw[hmm,show k+(q-k)=q by omega]at this
          exact this
         have hkq:k<q:=by omega
         clear hT hc hno hR1 hx hmm
         go_wp2
         go_roundw
         case rel=>exact⟨q,_,_,_,ts,by omega,rfl,rfl,hS,hR2.out,by omega⟩
         case measure=>simp[intOf];omega
        ·have hx':((s[q].toNat:Int) == 10)=false:=by simp;omega
         have hp:Hid (∀i d,i<q+1-k->(s.data.toList.drop k)[i]?=some d->a3r d=true):=fun i d hi hd=>hT.1 (by simp[a3r,hx]) i d (by omega) hd
         clear hT hc hno hx
         go_wp2
         go_round
         case rel=>exact⟨q+1,by omega,by omega,by go_num,hp.out⟩
         case measure=>simp[intOf];omega
       ·have hq':¬(q:Int)<(s.size:Int):=by omega
        have hmm:m=q-k:=by
         rw[<- hm.out]
         exact a5l a3r _ _ (by simp;omega) hno (fun c hc=>by rw[a6r,List.getElem?_eq_none (by simp;omega)]at hc;cases hc)
        have hR2:Hid (R=a1k.pre ts (a3j q (s.data.toList.drop q))):=by
         have:=hR1.out
         rw[hmm,show k+(q-k)=q by omega]at this
         exact this
        have hkq:k<q:=by omega
        clear hno hR1 hmm
        go_wp2
        go_roundw
        case rel=>exact⟨q,_,_,_,ts,by omega,rfl,rfl,hS,hR2.out,by omega⟩
        case measure=>simp[intOf];omega
     ·have h45b':((s[k+1].toNat:Int) == 45)=false:=by simp;omega
      have hgap:gap1 (s.data.toList.drop k)=0:=by
       rw[hd];exact b0h hn12 (fun h=>h45b (by have:=h.2;rw[hhead]at this;injection this with this;rw[this];rfl))
      clear hd h45 h45b hhead hn12
      have hC:=fun u=>a6i s hs k hlt u
      cases ht:tokR (s.data.toList.drop k)using TokR.byCases with
      | bad e =>
       have hRb:Hid (R=.bad e k):=hRk.trans (by rw[a4n hne hgap ht];rfl)
       obtain⟨hne0,_,_⟩:=b3h ht
       have hCb:∀u,Cl 41 #[.string s,vi k] u fun x w'=>(∃k1 t p n,x=.returned (.tuple #[tokv k1 t p,vi n,vi e]))/\Bw u w':=fun u=>(hC u).mono fun x w' ⟨⟨k1,t,p,n,c,h1,h2⟩,h3⟩=>by
        rw[ht]at h2
        have h4:c=e:=h2
        subst h4
        exact⟨⟨k1,t,p,n,h1⟩,h3⟩
       clear ht hRk hgap hne htl hC
       go_wp2_with (go_at_call 41;refine(hCb _).mono ?_;rintro e w2 ⟨⟨k1,t1,p1,n1,rfl⟩,hb2⟩;have hr2:=q0z hb2 hS.r;have hlt2:=q5z hr2;obtain⟨c0,c1,f0,f1⟩:=in2 hr2)
       refine bodyPost_ret (c3u rfl rfl (q4z _ (a5g hr2))) rfl ?_
       rw[hRb.out]
       exact⟨⟨none,0,0,rfl,World.ownsRow_nil _ _ _ _⟩,q1z (a4j _ _ (q3z hS.bl hb2) (Nat.le_refl _)) _⟩
      | tok k1 t1 n1 =>
       have hsz:=a3a ht
       have hl1:(s.data.toList.drop k).length=s.size-k:=by simp
       rw[hl1]at hsz
       have hRt:=a4o hne hgap ht k
       rw[List.drop_drop]at hRt
       rw[hRt,a1k.pre_pre]at hRk
       have hCt:∀u,Cl 41 #[.string s,vi k] u fun x w'=>x=.returned (.tuple #[tokv k1 ⟨t1.toArray⟩ k,vi n1,vi 0])/\Bw u w':=fun u=>(hC u).mono fun x w' ⟨⟨k1,t,p,n,c,h1,h2⟩,h3⟩=>by
        rw[ht]at h2
        obtain⟨rfl,rfl,rfl,rfl,rfl⟩:=h2
        exact⟨h1,h3⟩
       have hn1:ts.length+1<=maxLen:=by unfold maxLen;omega
       have hb1:(ts.length+1)*32<=140737488355328:=by omega
       replace hRk:Hid _:=hRk
       clear ht hgap hne hRt hl1 hC
       go_wp2_with (first|(go_at_call 41;refine(hCt _).mono ?_;rintro e w2 ⟨rfl,hb2⟩;have hr2:=q0z hb2 hS.r;obtain⟨c0,c1,f0,f1⟩:=in2 hr2)|(at_builtin;refine Hid.out ?_))
       clear c0 c1 f0 f1 hr2 hCt
       obtain⟨y,hy⟩:∃y:Tok,y=⟨k1,t1,k⟩:=⟨_,rfl⟩
       obtain⟨W,hW⟩:=exq ((w2.alloc (tbx k1 ⟨t1.toArray⟩ k)).alloc (tbx k1 ⟨t1.toArray⟩ k))
       have hnew:W.heap[w2.heap.size+1]?=some (tbx y.k y.b (y.a:Nat)):=by
        subst hW hy
        have:=a0a (w2.alloc (tbx k1 ⟨t1.toArray⟩ k)) (tbx k1 ⟨t1.toArray⟩ k)
        simp only[World.size_alloc]at this
        exact this
       have hSW:SI w (.slice b n d) ts W:=by
        subst hW
        exact((hS.on hb2).on (q1z bz0 _)).on (q1z bz0 _)
       have hszW:w.heap.size+1<=W.heap.size:=q5z hSW.r
       rw[hW]
       rw[<- hy]at hRk
       clear hW hb2 hS hy
       refine Lib.hid ?_
       go_wp2_with (at_builtin;refine wpList_append_lies _ (by rfl) _ _ _ (by rfl) (w.heap.size+1) 85 i0 _ 3 32 Tryz.underlying77 hi0 hz0 hz1 hz2 rfl (by omega) (.slice b n d) ts.length (a6y ts) (by rfl) hSW.own (Ad (w2.heap.size+1) 0) 1 1 (a9s y) (by rfl) (by rfl) (c6p hnew) (by simp[Value.oneCell']) (by omega) hn1 hb1 hszW _ rfl ?_;intro g cap w5 hown1 hgrow hat1 hlt1;have hS5:=hSW.step hown1 hgrow;clear hown1 hgrow hat1 hlt1)
       go_roundw
       case rel=>exact⟨k+n1,_,_,_,ts++[y],by omega,by go_num,rfl,hS5,hRk.out,by simp;omega⟩
       case measure=>simp[intOf];omega
    ·have hk1':¬(k:Int)+1<(s.size:Int):=by omega
     have hgap:gap1 (s.data.toList.drop k)=0:=by
      rw[hd];exact b0h hn12 (fun h=>by have:=h.2;rw[List.drop_eq_nil_of_le (by rw[hlen.out];omega)]at this;cases this)
     clear hd h45 hn12
     have hC:=fun u=>a6i s hs k hlt u
     cases ht:tokR (s.data.toList.drop k)using TokR.byCases with
     | bad e =>
      have hRb:Hid (R=.bad e k):=hRk.trans (by rw[a4n hne hgap ht];rfl)
      obtain⟨hne0,_,_⟩:=b3h ht
      have hCb:∀u,Cl 41 #[.string s,vi k] u fun x w'=>(∃k1 t p n,x=.returned (.tuple #[tokv k1 t p,vi n,vi e]))/\Bw u w':=fun u=>(hC u).mono fun x w' ⟨⟨k1,t,p,n,c,h1,h2⟩,h3⟩=>by
       rw[ht]at h2
       have h4:c=e:=h2
       subst h4
       exact⟨⟨k1,t,p,n,h1⟩,h3⟩
      clear ht hRk hgap hne htl hC
      go_wp2_with (go_at_call 41;refine(hCb _).mono ?_;rintro e w2 ⟨⟨k1,t1,p1,n1,rfl⟩,hb2⟩;have hr2:=q0z hb2 hS.r;have hlt2:=q5z hr2;obtain⟨c0,c1,f0,f1⟩:=in2 hr2)
      refine bodyPost_ret (c3u rfl rfl (q4z _ (a5g hr2))) rfl ?_
      rw[hRb.out]
      exact⟨⟨none,0,0,rfl,World.ownsRow_nil _ _ _ _⟩,q1z (a4j _ _ (q3z hS.bl hb2) (Nat.le_refl _)) _⟩
     | tok k1 t1 n1 =>
      have hsz:=a3a ht
      have hl1:(s.data.toList.drop k).length=s.size-k:=by simp
      rw[hl1]at hsz
      have hRt:=a4o hne hgap ht k
      rw[List.drop_drop]at hRt
      rw[hRt,a1k.pre_pre]at hRk
      have hCt:∀u,Cl 41 #[.string s,vi k] u fun x w'=>x=.returned (.tuple #[tokv k1 ⟨t1.toArray⟩ k,vi n1,vi 0])/\Bw u w':=fun u=>(hC u).mono fun x w' ⟨⟨k1,t,p,n,c,h1,h2⟩,h3⟩=>by
       rw[ht]at h2
       obtain⟨rfl,rfl,rfl,rfl,rfl⟩:=h2
       exact⟨h1,h3⟩
      have hn1:ts.length+1<=maxLen:=by unfold maxLen;omega
      have hb1:(ts.length+1)*32<=140737488355328:=by omega
      replace hRk:Hid _:=hRk
      clear ht hgap hne hRt hl1 hC
      go_wp2_with (first|(go_at_call 41;refine(hCt _).mono ?_;rintro e w2 ⟨rfl,hb2⟩;have hr2:=q0z hb2 hS.r;obtain⟨c0,c1,f0,f1⟩:=in2 hr2)|(at_builtin;refine Hid.out ?_))
      clear c0 c1 f0 f1 hr2 hCt
      obtain⟨y,hy⟩:∃y:Tok,y=⟨k1,t1,k⟩:=⟨_,rfl⟩
      obtain⟨W,hW⟩:=exq ((w2.alloc (tbx k1 ⟨t1.toArray⟩ k)).alloc (tbx k1 ⟨t1.toArray⟩ k))
      have hnew:W.heap[w2.heap.size+1]?=some (tbx y.k y.b (y.a:Nat)):=by
       subst hW hy
       have:=a0a (w2.alloc (tbx k1 ⟨t1.toArray⟩ k)) (tbx k1 ⟨t1.toArray⟩ k)
       simp only[World.size_alloc]at this
       exact this
      have hSW:SI w (.slice b n d) ts W:=by
       subst hW
       exact((hS.on hb2).on (q1z bz0 _)).on (q1z bz0 _)
      have hszW:w.heap.size+1<=W.heap.size:=q5z hSW.r
      rw[hW]
      rw[<- hy]at hRk
      clear hW hb2 hS hy
      refine Lib.hid ?_
      go_wp2_with (at_builtin;refine wpList_append_lies _ (by rfl) _ _ _ (by rfl) (w.heap.size+1) 85 i0 _ 3 32 Tryz.underlying77 hi0 hz0 hz1 hz2 rfl (by omega) (.slice b n d) ts.length (a6y ts) (by rfl) hSW.own (Ad (w2.heap.size+1) 0) 1 1 (a9s y) (by rfl) (by rfl) (c6p hnew) (by simp[Value.oneCell']) (by omega) hn1 hb1 hszW _ rfl ?_;intro g cap w5 hown1 hgrow hat1 hlt1;have hS5:=hSW.step hown1 hgrow;clear hown1 hgrow hat1 hlt1)
      go_roundw
      case rel=>exact⟨k+n1,_,_,_,ts++[y],by omega,by go_num,rfl,hS5,hRk.out,by simp;omega⟩
      case measure=>simp[intOf];omega
   ·have h45':((s[k].toNat:Int) == 45)=false:=by simp;omega
    have hgap:gap1 (s.data.toList.drop k)=0:=by
     rw[hd];exact b0h hn12 (fun h=>h45 h.1)
    clear hd h45 hn12
    have hC:=fun u=>a6i s hs k hlt u
    cases ht:tokR (s.data.toList.drop k)using TokR.byCases with
    | bad e =>
     have hRb:Hid (R=.bad e k):=hRk.trans (by rw[a4n hne hgap ht];rfl)
     obtain⟨hne0,_,_⟩:=b3h ht
     have hCb:∀u,Cl 41 #[.string s,vi k] u fun x w'=>(∃k1 t p n,x=.returned (.tuple #[tokv k1 t p,vi n,vi e]))/\Bw u w':=fun u=>(hC u).mono fun x w' ⟨⟨k1,t,p,n,c,h1,h2⟩,h3⟩=>by
      rw[ht]at h2
      have h4:c=e:=h2
      subst h4
      exact⟨⟨k1,t,p,n,h1⟩,h3⟩
     clear ht hRk hgap hne htl hC
     go_wp2_with (go_at_call 41;refine(hCb _).mono ?_;rintro e w2 ⟨⟨k1,t1,p1,n1,rfl⟩,hb2⟩;have hr2:=q0z hb2 hS.r;have hlt2:=q5z hr2;obtain⟨c0,c1,f0,f1⟩:=in2 hr2)
     refine bodyPost_ret (c3u rfl rfl (q4z _ (a5g hr2))) rfl ?_
     rw[hRb.out]
     exact⟨⟨none,0,0,rfl,World.ownsRow_nil _ _ _ _⟩,q1z (a4j _ _ (q3z hS.bl hb2) (Nat.le_refl _)) _⟩
    | tok k1 t1 n1 =>
     have hsz:=a3a ht
     have hl1:(s.data.toList.drop k).length=s.size-k:=by simp
     rw[hl1]at hsz
     have hRt:=a4o hne hgap ht k
     rw[List.drop_drop]at hRt
     rw[hRt,a1k.pre_pre]at hRk
     have hCt:∀u,Cl 41 #[.string s,vi k] u fun x w'=>x=.returned (.tuple #[tokv k1 ⟨t1.toArray⟩ k,vi n1,vi 0])/\Bw u w':=fun u=>(hC u).mono fun x w' ⟨⟨k1,t,p,n,c,h1,h2⟩,h3⟩=>by
      rw[ht]at h2
      obtain⟨rfl,rfl,rfl,rfl,rfl⟩:=h2
      exact⟨h1,h3⟩
     have hn1:ts.length+1<=maxLen:=by unfold maxLen;omega
     have hb1:(ts.length+1)*32<=140737488355328:=by omega
     replace hRk:Hid _:=hRk
     clear ht hgap hne hRt hl1 hC
     go_wp2_with (first|(go_at_call 41;refine(hCt _).mono ?_;rintro e w2 ⟨rfl,hb2⟩;have hr2:=q0z hb2 hS.r;obtain⟨c0,c1,f0,f1⟩:=in2 hr2)|(at_builtin;refine Hid.out ?_))
     clear c0 c1 f0 f1 hr2 hCt
     obtain⟨y,hy⟩:∃y:Tok,y=⟨k1,t1,k⟩:=⟨_,rfl⟩
     obtain⟨W,hW⟩:=exq ((w2.alloc (tbx k1 ⟨t1.toArray⟩ k)).alloc (tbx k1 ⟨t1.toArray⟩ k))
     have hnew:W.heap[w2.heap.size+1]?=some (tbx y.k y.b (y.a:Nat)):=by
      subst hW hy
      have:=a0a (w2.alloc (tbx k1 ⟨t1.toArray⟩ k)) (tbx k1 ⟨t1.toArray⟩ k)
      simp only[World.size_alloc]at this
      exact this
     have hSW:SI w (.slice b n d) ts W:=by
      subst hW
      exact((hS.on hb2).on (q1z bz0 _)).on (q1z bz0 _)
     have hszW:w.heap.size+1<=W.heap.size:=q5z hSW.r
     rw[hW]
     rw[<- hy]at hRk
     clear hW hb2 hS hy
     refine Lib.hid ?_
     go_wp2_with (at_builtin;refine wpList_append_lies _ (by rfl) _ _ _ (by rfl) (w.heap.size+1) 85 i0 _ 3 32 Tryz.underlying77 hi0 hz0 hz1 hz2 rfl (by omega) (.slice b n d) ts.length (a6y ts) (by rfl) hSW.own (Ad (w2.heap.size+1) 0) 1 1 (a9s y) (by rfl) (by rfl) (c6p hnew) (by simp[Value.oneCell']) (by omega) hn1 hb1 hszW _ rfl ?_;intro g cap w5 hown1 hgrow hat1 hlt1;have hS5:=hSW.step hown1 hgrow;clear hown1 hgrow hat1 hlt1)
     go_roundw
     case rel=>exact⟨k+n1,_,_,_,ts++[y],by omega,by go_num,rfl,hS5,hRk.out,by simp;omega⟩
     case measure=>simp[intOf];omega
  ·have hk':¬(k:Int)<(s.size:Int):=by omega
   have hRe:Hid (R=.toks ts):=hRk.trans (by rw[List.drop_eq_nil_of_le (by rw[hlen.out];omega),a3w];simp[a1k.pre,a1k.toks])
   clear hRk
   go_wp2
   refine bodyPost_ret (c3u rfl rfl (a5g hS.r)) rfl ?_
   rw[hRe.out]
   exact⟨⟨b,n,d,rfl,hS.out _ _⟩,a4j _ _ hS.bl (Nat.le_refl _)⟩
end Go.Proofs.YtomniogfpfbolaaGreatDoor
