/- machine.May's questions of frames, of tables, of what was told, of the end. -/
import Derived.Test.YthpgbienakcbeaaGreatDoorS39
import Derived.Test.YthpgbienakcbeaaGreatDoorS30
namespace Go.Proofs.YthpgbienakcbeaaGreatDoor
open Go.RowKit Go
set_option maxRecDepth 100000
set_option maxHeartbeats 8000000
set_option linter.all false
variable {W V w1 w : World} {a : Act} {fs : List Fd} {M cc nt nf fc tc oc B b off : Nat} {ca fa ta oa : Option Addr} {mn : Int} {fv tv ov p5 : Value} {s : St} {v : Vl} {rest R : Bool} {K : Exit → Act → World → Prop}
section
variable [DecidableEq Vl]
structure MIn (W : World) (M : Nat) (ca : Option Addr) (cc : Nat) (fs : List Fd) (mn : Int) (fv tv ov : Value) (s : St) : Prop where
 box : W.heap[M]? = some (.cells #[.slice ca fs.length cc, .int .i64 mn, fv, tv, ov, .int .i64 s.st, .int .i64 s.en, .int .i64 s.er, .int .i64 s.la.k, .int .i64 s.la.n, .string s.la.s] 46)
 si : StIn W.heap.size W fv tv ov s
 rf : RowF W.heap.size W ca fs
theorem RowF.at {a : Option Addr} (h : RowF W.heap.size W a fs) (hb : Below W.heap.size W V) : RowF V.heap.size V a fs := (h.below hb).mono hb.size
theorem MIn.on (h : MIn W M ca cc fs mn fv tv ov s) (hb : Below W.heap.size W V) : MIn V M ca cc fs mn fv tv ov s :=
 ⟨a0j hb h.box, h.si.at hb, h.rf.at hb⟩
theorem MIn.mat (h : MIn W M ca cc fs mn fv tv ov s) : ∃ ta tc, tv = .slice ta s.tb.length tc ∧ MAt W M ca fs.length cc ta s.tb.length tc := by
 obtain ⟨ta, tc, e, _⟩ := h.si.t
 subst e
 exact ⟨ta, tc, rfl, a0a h.box rfl, a0a h.box rfl⟩
def frsB (fs : List Fd) (nt : Nat) : Int → List Frm → Bool
 | _, [] => true
 | d, x :: l => belB x.d d && fmB fs nt x && frsB fs nt x.rs.length l
theorem b4q (h : MIn W M ca cc fs mn fv tv ov s) :
  Calls Tryz.prog 16 #[.pointer (some ⟨M, 0, none⟩)] W fun r w' => r = .returned (.bool (frB 1 s.fr.length 40 && frsB fs s.tb.length 1 s.fr)) ∧ Below W.heap.size W w' := by
 obtain ⟨ta, tc, rfl, hA⟩ := h.mat
 obtain ⟨fa, fc, rfl, hlen, hrow⟩ := h.si.f
 replace hlen := a3f hlen
 have hfr : ∀ u, Below W.heap.size W u → ∀ (x : Frm) (rv : Value), Row u.heap.size u rv x.rs → Calls Tryz.prog 42 #[.pointer (some ⟨M, 0, none⟩), .agg #[.int .i64 x.f, .int .i64 x.pc, .int .i64 x.d, rv]] u _ := fun u hu x rv hr => b7g x rv M fs cc s.tb.length tc ca ta u (hA.on hu) (h.rf.at hu) hr
 have c2 : W.cell? ⟨M, 2, none⟩ = some (.slice fa s.fr.length fc) := a0a h.box rfl
 obtain ⟨xs, hxs⟩ := exq (s.fr)
 obtain ⟨nt, hnt⟩ := exq (s.tb.length)
 rw [hxs] at hrow hlen c2 ⊢
 rw [hnt] at hfr ⊢
 clear h hA hxs hnt
 have hq := fun w => a8c 1 xs.length 40 w
 cases h1 : frB 1 xs.length 40
 ·rw [h1] at hq
  replace hq : Hid _ := hq
  go_enter Tryz.func16, Tryz.ntmps16
  go_wp2_with (go_at_call 29; refine (hq.out _).mono ?_; rintro e w' ⟨rfl, hw'⟩; subst w')
  go_ret
  exact ⟨rfl, Below.refl _ _⟩
 ·rw [h1] at hq
  rw [Bool.true_and]
  replace hq : Hid _ := hq
  replace hfr : Hid _ := hfr
  obtain ⟨ans, hans⟩ := exq (frsB fs nt 1 xs)
  rw [hans]
  replace hans : Hid _ := hans
  go_enter Tryz.func16, Tryz.ntmps16
  go_wp2_with (go_at_call 29; refine (hq.out _).mono ?_; rintro e w' ⟨rfl, hw'⟩; subst w')
  go_loopw [3, 20] (fun d i wr => ∃ (m : Nat) (D : Int), m ≤ xs.length ∧ i = .int .i64 m ∧ d = .int .i64 D ∧ Hid (frsB fs nt D (xs.drop m) = ans) ∧ Below W.heap.size W wr) (fun _ i _ => xs.length - (intOf i).toNat)
  case atStart => exact ⟨0, 1, Nat.zero_le _, rfl, rfl, hans, Below.refl _ _⟩
  case round =>
   obtain ⟨m, D, hm, rfl, rfl, hG, hb⟩ := hrel
   by_cases hlt : m < xs.length
   ·obtain ⟨x, hx⟩ : ∃ x, xs[m]? = some x := ⟨xs[m], by simp [hlt]⟩
    obtain ⟨b, off, rfl, hbl, hel⟩ := hrow (by intro e; subst e; simp at hlt)
    obtain ⟨t0, t1, t2, rv, t3, hR⟩ := (hel m x hx).below hb hbl
    have hd : xs.drop m = x :: xs.drop (m + 1) := by rw [List.drop_eq_getElem_cons hlt]; congr 1; rw [List.getElem?_eq_getElem hlt] at hx; exact Option.some.inj hx
    have hR' : Row wr.heap.size wr rv x.rs := a1k hb.size hR
    obtain ⟨ra, rc, rfl, _, _⟩ := hR
    have hk : ∀ u, Below wr.heap.size wr u → Calls Tryz.prog 42 #[.pointer (some ⟨M, 0, none⟩), .agg #[.int .i64 x.f, .int .i64 x.pc, .int .i64 x.d, .slice ra x.rs.length rc]] u _ := fun u hu => hfr.out u (a0b hb hu) x _ (hR'.at hu)
    have hz := fun w => a6i x.d D w
    rw [hd, frsB] at hG
    obtain ⟨nr, hnr⟩ := exq (x.rs.length)
    rw [hnr] at hk hG t3
    clear hx hrow hel hd hR' hnr
    obtain ⟨w1, hw1⟩ := exq (wr.alloc (.cells #[.int .i64 x.f, .int .i64 x.pc, .int .i64 x.d, .slice ra nr rc] 50))
    have E1 : Below wr.heap.size wr w1 := by rw [← hw1]; exact a0c (Below.refl _ _) _
    have g1 : w1.heap[wr.heap.size]? = some (.cells #[.int .i64 x.f, .int .i64 x.pc, .int .i64 x.d, .slice ra nr rc] 50) := by rw [← hw1]; exact a0h _ _
    obtain ⟨a0, a1, a2, a3⟩ := four g1
    replace hk := hk w1 E1
    cases e1 : belB x.d D
    ·rw [e1] at hz hG
     replace hz : Hid _ := hz
     clear hk
     go_wp2_with (go_at_call 41; refine (hz.out _).mono ?_; rintro e w' ⟨rfl, hw'⟩; subst w')
     go_ret
     exact ⟨by rw [← hG.out]; rfl, a0b hb E1⟩
    ·rw [e1] at hz hG
     replace hz : Hid _ := hz
     cases e2 : fmB fs nt x
     ·rw [e2] at hk hG
      go_wp2_with (first | (go_at_call 41; refine (hz.out _).mono ?_; rintro e w' ⟨rfl, hw'⟩; subst w') | (go_at_call 42; refine hk.mono ?_; rintro e w3 ⟨rfl, hb3⟩))
      go_ret
      exact ⟨by rw [← hG.out]; rfl, a0b hb (a0b E1 hb3)⟩
     ·rw [e2] at hk hG
      go_wp2_with (first | (go_at_call 41; refine (hz.out _).mono ?_; rintro e w' ⟨rfl, hw'⟩; subst w') | (go_at_call 42; refine hk.mono ?_; rintro e w3 ⟨rfl, hb3⟩; have a3 := a0l hb3 a3))
      go_roundw
      case rel => exact ⟨m + 1, _, hlt, by simp, rfl, hG.out, a0b hb (a0b E1 hb3)⟩
      case measure => simp [intOf]; omega
   ·obtain rfl : m = xs.length := by omega
    rw [List.drop_length, frsB] at hG
    go_wp2
    go_ret
    exact ⟨by rw [← hG.out]; rfl, hb⟩
def tB (nt nf : Nat) (t : Tb) : Bool := mayT t.ks t.vs && allB (fun _ => vB nt nf) t.ks && allB (fun _ => vB nt nf) t.vs
theorem b4r (h : MIn W M ca cc fs mn fv tv ov s) :
  Calls Tryz.prog 17 #[.pointer (some ⟨M, 0, none⟩)] W fun r w' => r = .returned (.bool (decide ((s.tb.length : Int) ≤ 200) && allB (fun _ => tB s.tb.length fs.length) s.tb)) ∧ Below W.heap.size W w' := by
 obtain ⟨ta, tc, rfl, hA⟩ := h.mat
 obtain ⟨ta', tc', e, hlen, hrow⟩ := h.si.t
 obtain ⟨rfl, rfl⟩ : ta = ta' ∧ tc = tc' := by simpa using e
 clear e
 replace hlen := a3f hlen
 have hal : ∀ u, Below W.heap.size W u → ∀ (sv : Value) (ys : List Vl), Row u.heap.size u sv ys → Calls Tryz.prog 44 #[.pointer (some ⟨M, 0, none⟩), sv] u _ := fun u hu sv ys hr => b5z sv ys M fs.length cc s.tb.length tc ca ta u (hA.on hu) hr
 have c3 : W.cell? ⟨M, 3, none⟩ = some (.slice ta s.tb.length tc) := a0a h.box rfl
 obtain ⟨xs, hxs⟩ := exq (s.tb)
 obtain ⟨nf, hnf⟩ := exq (fs.length)
 rw [hxs] at hrow hlen c3 hal ⊢
 rw [hnf] at hal ⊢
 clear h hA hxs hnf
 cases h1 : decide ((200 : Int) < xs.length)
 ·rw [show decide ((xs.length : Int) ≤ 200) = true by simp at h1 ⊢; omega, Bool.true_and]
  replace hal : Hid _ := hal
  obtain ⟨ans, hans⟩ := exq (allB (fun _ => tB xs.length nf) xs)
  rw [hans]
  replace hans : Hid _ := hans
  go_enter Tryz.func17, Tryz.ntmps17
  go_wp2
  go_loopw [18] (fun i wr => ∃ m : Nat, m ≤ xs.length ∧ i = .int .i64 m ∧ Hid (a1w (fun _ => tB xs.length nf) xs m) ∧ Below W.heap.size W wr) (fun i _ => xs.length - (intOf i).toNat)
  case atStart => exact ⟨0, Nat.zero_le _, rfl, a1w.zero, Below.refl _ _⟩
  case round =>
   obtain ⟨m, hm, rfl, hG, hb⟩ := hrel
   by_cases hlt : m < xs.length
   ·obtain ⟨x, hx⟩ : ∃ x, xs[m]? = some x := ⟨xs[m], by simp [hlt]⟩
    obtain ⟨b, off, rfl, hbl, hel⟩ := hrow (by intro e; subst e; simp at hlt)
    obtain ⟨kv, vv, t0, t1, hK, hV⟩ := (hel m x hx).below hb hbl
    have hbad : tB xs.length nf x = false → Hid (allB (fun _ => tB xs.length nf) xs = false) := fun h => a2c hx h
    have hnext : tB xs.length nf x = true → Hid (a1w (fun _ => tB xs.length nf) xs (m + 1)) := fun h => a1w.next hx h hG.out
    replace hbad : Hid _ := hbad
    replace hnext : Hid _ := hnext
    have hK' : Row wr.heap.size wr kv x.ks := a1k hb.size hK
    have hV' : Row wr.heap.size wr vv x.vs := a1k hb.size hV
    obtain ⟨ka, kc, rfl, _, _⟩ := hK
    obtain ⟨va, vc, rfl, _, _⟩ := hV
    have q1 : ∀ u, Below wr.heap.size wr u → Calls Tryz.prog 43 #[.agg #[.slice ka x.ks.length kc, .slice va x.vs.length vc]] u _ := fun u hu => b1i _ _ x.ks x.vs u ⟨hK'.at hu, hV'.at hu⟩
    have q2 : ∀ u, Below wr.heap.size wr u → Calls Tryz.prog 44 #[.pointer (some ⟨M, 0, none⟩), .slice ka x.ks.length kc] u _ := fun u hu => hal.out u (a0b hb hu) _ _ (hK'.at hu)
    have q3 : ∀ u, Below wr.heap.size wr u → Calls Tryz.prog 44 #[.pointer (some ⟨M, 0, none⟩), .slice va x.vs.length vc] u _ := fun u hu => hal.out u (a0b hb hu) _ _ (hV'.at hu)
    obtain ⟨kn, hkn⟩ := exq (x.ks.length)
    obtain ⟨vn, hvn⟩ := exq (x.vs.length)
    rw [hkn] at q1 q2 t0
    rw [hvn] at q1 q3 t1
    clear hx hG hrow hel hK' hV' hkn hvn
    obtain ⟨w1, hw1⟩ := exq (wr.alloc (.cells #[.slice ka kn kc, .slice va vn vc] 57))
    have E1 : Below wr.heap.size wr w1 := by rw [← hw1]; exact a0c (Below.refl _ _) _
    have g1 : w1.heap[wr.heap.size]? = some (.cells #[.slice ka kn kc, .slice va vn vc] 57) := by rw [← hw1]; exact a0h _ _
    have a0 : w1.cell? ⟨wr.heap.size, 0, none⟩ = some (.slice ka kn kc) := a0a g1 rfl
    have a1 : w1.cell? ⟨wr.heap.size, 1, none⟩ = some (.slice va vn vc) := a0a g1 rfl
    cases e1 : mayT x.ks x.vs
    ·rw [e1] at q1
     replace q1 : Hid _ := q1
     replace e1 : Hid _ := e1
     clear q2 q3
     go_wp2_with (go_at_call 43; refine (q1.out _ E1).mono ?_; rintro e w2 ⟨rfl, hb2⟩)
     go_ret
     exact ⟨by rw [← hans.out, (hbad.out (by simp [tB, e1.out])).out]; rfl, a0b hb (a0b E1 hb2)⟩
    ·rw [e1] at q1
     replace q1 : Hid _ := q1
     replace e1 : Hid _ := e1
     cases e2 : allB (fun _ => vB xs.length nf) x.ks
     ·rw [e2] at q2
      replace q2 : Hid _ := q2
      replace e2 : Hid _ := e2
      clear q3
      go_wp2_with (first | (go_at_call 43; refine (q1.out _ E1).mono ?_; rintro e w2 ⟨rfl, hb2⟩; have b0 := a0l hb2 a0) | (go_at_call 44; refine (q2.out _ (a0b E1 hb2)).mono ?_; rintro e w3 ⟨rfl, hb3⟩))
      go_ret
      exact ⟨by rw [← hans.out, (hbad.out (by simp [tB, e1.out, e2.out])).out]; rfl, a0b hb (a0b E1 (a0b hb2 hb3))⟩
     ·rw [e2] at q2
      replace q2 : Hid _ := q2
      replace e2 : Hid _ := e2
      cases e3 : allB (fun _ => vB xs.length nf) x.vs
      ·rw [e3] at q3
       replace q3 : Hid _ := q3
       replace e3 : Hid _ := e3
       go_wp2_with (first | (go_at_call 43; refine (q1.out _ E1).mono ?_; rintro e w2 ⟨rfl, hb2⟩; have b0 := a0l hb2 a0; have b1 := a0l hb2 a1) | (go_at_call_of 44 ka; refine (q2.out w2 (a0b E1 hb2)).mono ?_; rintro e w3 ⟨rfl, hb3⟩; have b1 := a0l hb3 b1) | (go_at_call_of 44 va; refine (q3.out _ (a0b E1 (a0b hb2 hb3))).mono ?_; rintro e w4 ⟨rfl, hb4⟩))
       go_ret
       exact ⟨by rw [← hans.out, (hbad.out (by simp [tB, e1.out, e2.out, e3.out])).out]; rfl, a0b hb (a0b E1 (a0b hb2 (a0b hb3 hb4)))⟩
      ·rw [e3] at q3
       replace q3 : Hid _ := q3
       replace e3 : Hid _ := e3
       go_wp2_with (first | (go_at_call 43; refine (q1.out _ E1).mono ?_; rintro e w2 ⟨rfl, hb2⟩; have b0 := a0l hb2 a0; have b1 := a0l hb2 a1) | (go_at_call_of 44 ka; refine (q2.out w2 (a0b E1 hb2)).mono ?_; rintro e w3 ⟨rfl, hb3⟩; have b1 := a0l hb3 b1) | (go_at_call_of 44 va; refine (q3.out _ (a0b E1 (a0b hb2 hb3))).mono ?_; rintro e w4 ⟨rfl, hb4⟩))
       go_roundw
       case rel => exact ⟨m + 1, hlt, by simp, hnext.out (by simp [tB, e1.out, e2.out, e3.out]), a0b hb (a0b E1 (a0b hb2 (a0b hb3 hb4)))⟩
       case measure => simp [intOf]; omega
   ·obtain rfl : m = xs.length := by omega
    go_wp2
    go_ret
    exact ⟨by rw [← hans.out, a2l hG.out]; rfl, hb⟩
 ·rw [show decide ((xs.length : Int) ≤ 200) = false by simp at h1 ⊢; omega, Bool.false_and]
  go_enter Tryz.func17, Tryz.ntmps17
  go_wp2
  go_ret
  exact ⟨rfl, Below.refl _ _⟩
def b3h (s : St) : Bool := frB 0 s.st 60000 && decide ((s.out.length : Int) ≤ s.st) && allB (fun _ t => decide ((t.size : Int) ≤ 300)) s.out
theorem c1l (h : MIn W M ca cc fs mn fv tv ov s) :
  Calls Tryz.prog 18 #[.pointer (some ⟨M, 0, none⟩)] W fun r w' => r = .returned (.bool (b3h s)) ∧ Below W.heap.size W w' := by
 obtain ⟨oa, oc, rfl, hlen, hrow⟩ := h.si.o
 replace hlen := a3f hlen
 have hC : ∀ u, Below W.heap.size W u → u.cell? ⟨M, 4, none⟩ = some (.slice oa s.out.length oc) ∧ u.cell? ⟨M, 5, none⟩ = some (.int .i64 s.st) := fun u hu => ⟨a0l hu (a0a h.box rfl), a0l hu (a0a h.box rfl)⟩
 obtain ⟨xs, hxs⟩ := exq (s.out)
 obtain ⟨st, hst⟩ := exq (s.st)
 unfold b3h
 rw [hxs] at hrow hlen hC ⊢
 rw [hst] at hC ⊢
 clear h hxs hst
 have hq := fun w => a8c 0 st 60000 w
 replace hC : Hid _ := hC
 cases h1 : frB 0 st 60000
 ·rw [h1] at hq
  replace hq : Hid _ := hq
  go_enter Tryz.func18, Tryz.ntmps18
  go_wp2
  refine a1e (Below W.heap.size W) (by kernel_rfl) (by kernel_rfl) (Below.refl _ _).drew ?_
  repeat (first
   | go_big_quiet_skip
   | (
    apply a0t
    ·kernel_rfl
    ·intro u hu
     obtain ⟨_, _⟩ := hC.out u hu
     go_simp
     first | (go_at_call 29; refine (hq.out u).mono ?_; rintro e w2 ⟨rfl, rfl⟩; exact ⟨rfl, hu⟩) | with_reducible rfl | skip
    simp only [Act.put, List.setIfInBounds_toArray, List.set_cons_zero, List.set_cons_succ]))
  refine wpQuiet_nil (fun w2 hb2 => ?_)
  go_wp2
  go_ret
  exact ⟨rfl, hb2⟩
 ·rw [h1] at hq
  replace hq : Hid _ := hq
  cases h2 : decide (st < (xs.length : Int))
  ·rw [show decide ((xs.length : Int) ≤ st) = true by simp at h2 ⊢; omega, Bool.true_and, Bool.true_and]
   obtain ⟨ans, hans⟩ := exq (allB (fun _ (t : ByteArray) => decide ((t.size : Int) ≤ 300)) xs)
   rw [hans]
   replace hans : Hid _ := hans
   go_enter Tryz.func18, Tryz.ntmps18
   go_wp2
   refine a1e (Below W.heap.size W) (by kernel_rfl) (by kernel_rfl) (Below.refl _ _).drew ?_
   repeat (first
    | go_big_quiet_skip
    | (
     apply a0t
     ·kernel_rfl
     ·intro u hu
      obtain ⟨_, _⟩ := hC.out u hu
      go_simp
      first | (go_at_call 29; refine (hq.out u).mono ?_; rintro e w2 ⟨rfl, rfl⟩; exact ⟨rfl, hu⟩) | with_reducible rfl | skip
     simp only [Act.put, List.setIfInBounds_toArray, List.set_cons_zero, List.set_cons_succ]))
   refine wpQuiet_nil (fun w2 hb2 => ?_)
   obtain ⟨_, _⟩ := hC.out w2 hb2
   go_wp2
   go_loopw [32] (fun i wr => ∃ m : Nat, m ≤ xs.length ∧ i = .int .i64 m ∧ Hid (a1w (fun _ (t : ByteArray) => decide ((t.size : Int) ≤ 300)) xs m) ∧ Below W.heap.size W wr) (fun i _ => xs.length - (intOf i).toNat)
   case atStart => exact ⟨0, Nat.zero_le _, rfl, a1w.zero, hb2⟩
   case round =>
    obtain ⟨m, hm, rfl, hG, hb⟩ := hrel
    by_cases hlt : m < xs.length
    ·obtain ⟨x, hx⟩ : ∃ x, xs[m]? = some x := ⟨xs[m], by simp [hlt]⟩
     obtain ⟨b, off, rfl, hbl, hel⟩ := hrow (by intro e; subst e; simp at hlt)
     have t0 : wr.cell? ⟨b, off + m, none⟩ = some (.string x) := (hb.cell (p := ⟨b, off + m, none⟩) hbl).trans (hel m x hx)
     have hbad : decide ((x.size : Int) ≤ 300) = false → Hid (allB (fun _ (t : ByteArray) => decide ((t.size : Int) ≤ 300)) xs = false) := fun h => a2c hx h
     have hnext : decide ((x.size : Int) ≤ 300) = true → Hid (a1w (fun _ (t : ByteArray) => decide ((t.size : Int) ≤ 300)) xs (m + 1)) := fun h => a1w.next (p := fun _ (t : ByteArray) => decide ((t.size : Int) ≤ 300)) hx h hG.out
     replace hbad : Hid _ := hbad
     replace hnext : Hid _ := hnext
     clear hx hG hrow hel
     by_cases h3 : (300 : Int) < x.size
     ·go_wp2
      go_ret
      exact ⟨by rw [← hans.out, (hbad.out (by simp; omega)).out]; rfl, hb⟩
     ·go_wp2
      go_roundw
      case rel => exact ⟨m + 1, hlt, by simp, hnext.out (by simp; omega), hb⟩
      case measure => simp [intOf]; omega
    ·obtain rfl : m = xs.length := by omega
     go_wp2
     go_ret
     exact ⟨by rw [← hans.out, a2l hG.out]; rfl, hb⟩
  ·rw [show decide ((xs.length : Int) ≤ st) = false by simp at h2 ⊢; omega, Bool.and_false, Bool.false_and]
   go_enter Tryz.func18, Tryz.ntmps18
   go_wp2
   refine a1e (Below W.heap.size W) (by kernel_rfl) (by kernel_rfl) (Below.refl _ _).drew ?_
   repeat (first
    | go_big_quiet_skip
    | (
     apply a0t
     ·kernel_rfl
     ·intro u hu
      obtain ⟨_, _⟩ := hC.out u hu
      go_simp
      first | (go_at_call 29; refine (hq.out u).mono ?_; rintro e w2 ⟨rfl, rfl⟩; exact ⟨rfl, hu⟩) | with_reducible rfl | skip
     simp only [Act.put, List.setIfInBounds_toArray, List.set_cons_zero, List.set_cons_succ]))
   refine wpQuiet_nil (fun w2 hb2 => ?_)
   go_wp2
   go_ret
   exact ⟨rfl, hb2⟩
def nzB (v : Vl) : Bool := v.k == 0 && (v.n == 0 && v.s.toList == [])
theorem b4s : nzB v = true ↔ v = nilV := by
 constructor
 ·intro h
  simp only [nzB, Bool.and_eq_true, beq_iff_eq] at h
  obtain ⟨h1, h2, h3⟩ := h
  cases v
  simp only at h1 h2 h3
  subst h1 h2
  have := a3w (a := _) (b := (⟨#[]⟩ : ByteArray)) (by rw [h3]; simp [ByteArray.toList_eq])
  subst this
  rfl
 ·rintro rfl
  simp [nzB, nilV, ByteArray.toList_eq]
theorem d4v (v : Vl) (w : World) : (binOp .eql 30 (.agg #[.int .i64 v.k, .int .i64 v.n, .string v.s]) (.agg #[.int .i64 0, .int .i64 0, .string ⟨#[]⟩])).run Tryz.prog w = .ok (.bool (nzB v)) w := by
 simp [go_sem]
 unfold nzB
 by_cases h1 : v.k = 0
 ·by_cases h2 : v.n = 0
  ·by_cases h3 : v.s.toList = []
   ·simp [h1, h2, h3]
   ·simp [h1, h2, h3]
  ·simp [h1, h2]
 ·simp [h1]
def endB (nt nf : Nat) (s : St) : Bool := if s.en = 0 then s.er == 0 && nzB s.la else if s.en = 1 then s.er == 0 && vB nt nf s.la else if s.en = 2 then b4i s.er && nzB s.la else false
theorem c5x (h : MIn W M ca cc fs mn fv tv ov s) :
  Calls Tryz.prog 19 #[.pointer (some ⟨M, 0, none⟩)] W fun r w' => r = .returned (.bool (endB s.tb.length fs.length s)) ∧ Below W.heap.size W w' := by
 obtain ⟨ta, tc, rfl, hA⟩ := h.mat
 have hv := fun u hu => b5y s.la M fs.length cc s.tb.length tc ca ta u (hA.on hu)
 have hf := fun w => c0v s.er w
 have c6 : W.cell? ⟨M, 6, none⟩ = some (.int .i64 s.en) := a0a h.box rfl
 have c7 : W.cell? ⟨M, 7, none⟩ = some (.int .i64 s.er) := a0a h.box rfl
 have c8 : W.cell? ⟨M, 8, none⟩ = some (.int .i64 s.la.k) := a0a h.box rfl
 have c9 : W.cell? ⟨M, 9, none⟩ = some (.int .i64 s.la.n) := a0a h.box rfl
 have c10 : W.cell? ⟨M, 10, none⟩ = some (.string s.la.s) := a0a h.box rfl
 have heq := d4v s.la
 unfold endB
 obtain ⟨en, hen⟩ := exq (s.en)
 obtain ⟨er, her⟩ := exq (s.er)
 obtain ⟨B1, hB1⟩ := exq (vB s.tb.length fs.length s.la)
 obtain ⟨B2, hB2⟩ := exq (nzB s.la)
 obtain ⟨B3, hB3⟩ := exq (b4i s.er)
 rw [hB1] at hv ⊢
 rw [hB2] at heq ⊢
 rw [hB3] at hf ⊢
 rw [hen] at c6 ⊢
 rw [her] at c7 hf ⊢
 clear h hA hen her hB1 hB2 hB3
 replace hv : Hid _ := hv
 replace hf : Hid _ := hf
 cases h0 : (en == 0)
 ·have e0 : ¬ en = 0 := by simpa using h0
  rw [if_neg e0]
  clear e0
  cases h1 : (en == 1)
  ·have e1 : ¬ en = 1 := by simpa using h1
   rw [if_neg e1]
   clear e1
   cases h2 : (en == 2)
   ·have e2 : ¬ en = 2 := by simpa using h2
    rw [if_neg e2]
    clear e2
    go_enter Tryz.func19, Tryz.ntmps19
    go_wp2
    go_ret
    exact ⟨rfl, Below.refl _ _⟩
   ·have e2 : en = 2 := by simpa using h2
    rw [if_pos e2]
    clear e2
    cases B3
    all_goals
     go_enter Tryz.func19, Tryz.ntmps19
     go_wp2_with (go_at_call 46; refine (hf.out _).mono ?_; rintro e w' ⟨rfl, hw'⟩; subst w')
     go_ret
     exact ⟨rfl, Below.refl _ _⟩
  ·have e1 : en = 1 := by simpa using h1
   rw [if_pos e1]
   clear e1
   cases hr : (er == 0)
   ·go_enter Tryz.func19, Tryz.ntmps19
    go_wp2
    go_ret
    exact ⟨rfl, Below.refl _ _⟩
   ·go_enter Tryz.func19, Tryz.ntmps19
    go_wp2_with (go_at_call 45; refine (hv.out _ (Below.refl _ _)).mono ?_; rintro e w2 ⟨rfl, hb2⟩)
    go_ret
    exact ⟨rfl, hb2⟩
 ·have e0 : en = 0 := by simpa using h0
  rw [if_pos e0]
  clear e0
  cases hr : (er == 0)
  all_goals
   go_enter Tryz.func19, Tryz.ntmps19
   go_wp2
   go_ret
   exact ⟨rfl, Below.refl _ _⟩
def stB1 (fs : List Fd) (mn : Int) (s : St) : Bool := a2i fs mn && (frB 1 s.fr.length 40 && frsB fs s.tb.length 1 s.fr) && (decide ((s.tb.length : Int) ≤ 200) && allB (fun _ => tB s.tb.length fs.length) s.tb) && b3h s && endB s.tb.length fs.length s
theorem a9e (W : World) (hF : RowF W.heap.size W ca fs) (hS : StIn W.heap.size W fv tv ov s) :
  Calls Tryz.prog 6 #[PV ca fs.length cc mn, stv fv tv ov s] W fun r w' => r = .returned (.bool (stB1 fs mn s)) ∧ Below W.heap.size W w' := by
 obtain ⟨w1, hw1⟩ := exq (((W.alloc (.cells #[.slice ca fs.length cc, .int .i64 mn] 24)).alloc (stb fv tv ov s)).alloc (.cells #[.slice ca fs.length cc, .int .i64 mn, fv, tv, ov, .int .i64 s.st, .int .i64 s.en, .int .i64 s.er, .int .i64 s.la.k, .int .i64 s.la.n, .string s.la.s] 46))
 have E1 : Below W.heap.size W w1 := by rw [← hw1]; exact a0c (a0c (a0c (Below.refl _ _) _) _) _
 have g0 : w1.heap[W.heap.size]? = some (.cells #[.slice ca fs.length cc, .int .i64 mn] 24) := by
  rw [← hw1]; exact a0j (a0c (a0c (Below.refl _ _) _) _) (a0h _ _)
 have g2 : MIn w1 (W.heap.size + 1 + 1) ca cc fs mn fv tv ov s := ⟨by rw [← hw1]; simpa using a0h ((W.alloc _).alloc _) _, hS.at E1, hF.at E1⟩
 have q1 : ∀ u, Below w1.heap.size w1 u → Calls Tryz.prog 15 #[PV ca fs.length cc mn] u _ := fun u hu => b5x ca cc fs mn u ((hF.at E1).at hu)
 have q2 : ∀ u, Below w1.heap.size w1 u → _ := fun u hu => b4q (g2.on hu)
 have q3 : ∀ u, Below w1.heap.size w1 u → _ := fun u hu => b4r (g2.on hu)
 have q4 : ∀ u, Below w1.heap.size w1 u → _ := fun u hu => c1l (g2.on hu)
 have q5 : ∀ u, Below w1.heap.size w1 u → _ := fun u hu => c5x (g2.on hu)
 have a0 : w1.cell? ⟨W.heap.size, 0, none⟩ = some (.slice ca fs.length cc) := a0a g0 rfl
 have a1 : w1.cell? ⟨W.heap.size, 1, none⟩ = some (.int .i64 mn) := a0a g0 rfl
 obtain ⟨fa, fc, rfl, _, _⟩ := hS.f
 obtain ⟨ta, tc, rfl, _, _⟩ := hS.t
 obtain ⟨oa, oc, rfl, _, _⟩ := hS.o
 unfold stB1
 obtain ⟨B1, hB1⟩ := exq (a2i fs mn)
 obtain ⟨B2, hB2⟩ := exq ((frB 1 s.fr.length 40 && frsB fs s.tb.length 1 s.fr))
 obtain ⟨B3, hB3⟩ := exq ((decide ((s.tb.length : Int) ≤ 200) && allB (fun _ => tB s.tb.length fs.length) s.tb))
 obtain ⟨B4, hB4⟩ := exq (b3h s)
 obtain ⟨B5, hB5⟩ := exq (endB s.tb.length fs.length s)
 rw [hB1] at q1 ⊢
 rw [hB2] at q2 ⊢
 rw [hB3] at q3 ⊢
 rw [hB4] at q4 ⊢
 rw [hB5] at q5 ⊢
 obtain ⟨nf, hnf⟩ := exq (fs.length)
 obtain ⟨n1, hn1⟩ := exq (s.fr.length)
 obtain ⟨n2, hn2⟩ := exq (s.tb.length)
 obtain ⟨n3, hn3⟩ := exq (s.out.length)
 rw [hnf] at q1 a0 hw1 ⊢
 rw [hn1, hn2, hn3] at hw1 ⊢
 clear hF hS g0 g2 hB1 hB2 hB3 hB4 hB5 hnf hn1 hn2 hn3
 replace q1 : Hid _ := q1
 replace q2 : Hid _ := q2
 replace q3 : Hid _ := q3
 replace q4 : Hid _ := q4
 replace q5 : Hid _ := q5
 cases B1
 ·go_enter Tryz.func6, Tryz.ntmps6
  go_wp2_with (go_at_call 15; refine (q1.out _ (Below.refl _ _)).mono ?_; rintro e u1 ⟨rfl, hb1⟩)
  go_ret
  exact ⟨rfl, a0b E1 hb1⟩
 cases B2
 ·go_enter Tryz.func6, Tryz.ntmps6
  go_wp2_with (first | (go_at_call 15; refine (q1.out _ (Below.refl _ _)).mono ?_; rintro e u1 ⟨rfl, hb1⟩) | (go_at_call 16; refine (q2.out _ hb1).mono ?_; rintro e u2 ⟨rfl, hb2⟩))
  go_ret
  exact ⟨rfl, a0b E1 (a0b hb1 hb2)⟩
 cases B3
 ·go_enter Tryz.func6, Tryz.ntmps6
  go_wp2_with (first | (go_at_call 15; refine (q1.out _ (Below.refl _ _)).mono ?_; rintro e u1 ⟨rfl, hb1⟩) | (go_at_call 16; refine (q2.out _ hb1).mono ?_; rintro e u2 ⟨rfl, hb2⟩) | (go_at_call 17; refine (q3.out _ (a0b hb1 hb2)).mono ?_; rintro e u3 ⟨rfl, hb3⟩))
  go_ret
  exact ⟨rfl, a0b E1 (a0b hb1 (a0b hb2 hb3))⟩
 cases B4
 ·go_enter Tryz.func6, Tryz.ntmps6
  go_wp2_with (first | (go_at_call 15; refine (q1.out _ (Below.refl _ _)).mono ?_; rintro e u1 ⟨rfl, hb1⟩) | (go_at_call 16; refine (q2.out _ hb1).mono ?_; rintro e u2 ⟨rfl, hb2⟩) | (go_at_call 17; refine (q3.out _ (a0b hb1 hb2)).mono ?_; rintro e u3 ⟨rfl, hb3⟩) | (go_at_call 18; refine (q4.out _ (a0b (a0b hb1 hb2) hb3)).mono ?_; rintro e u4 ⟨rfl, hb4⟩))
  go_ret
  exact ⟨rfl, a0b E1 (a0b hb1 (a0b hb2 (a0b hb3 hb4)))⟩
 ·go_enter Tryz.func6, Tryz.ntmps6
  go_wp2_with (first | (go_at_call 15; refine (q1.out _ (Below.refl _ _)).mono ?_; rintro e u1 ⟨rfl, hb1⟩) | (go_at_call 16; refine (q2.out _ hb1).mono ?_; rintro e u2 ⟨rfl, hb2⟩) | (go_at_call 17; refine (q3.out _ (a0b hb1 hb2)).mono ?_; rintro e u3 ⟨rfl, hb3⟩) | (go_at_call 18; refine (q4.out _ (a0b (a0b hb1 hb2) hb3)).mono ?_; rintro e u4 ⟨rfl, hb4⟩) | (go_at_call 19; refine (q5.out _ (a0b (a0b (a0b hb1 hb2) hb3) hb4)).mono ?_; rintro e u5 ⟨rfl, hb5⟩))
  go_ret
  exact ⟨rfl, a0b E1 (a0b hb1 (a0b hb2 (a0b hb3 (a0b hb4 hb5))))⟩
theorem b0c : vB nt nf v = true ↔ VG nt nf v := by
 unfold vB
 constructor
 ·intro h
  split at h
  ·rename_i h4
   simp at h
   exact ⟨h.1, fun _ => h.2, fun h5 => by omega⟩
  ·rename_i h4
   split at h
   ·simp at h
    exact ⟨h.1, fun h => absurd h h4, fun _ => h.2⟩
   ·rename_i h5
    exact ⟨h, fun h => absurd h h4, fun h => absurd h h5⟩
 ·intro h
  split
  ·rename_i h4
   simp [h.m, h.t h4]
  ·split
   ·rename_i h5
    simp [h.m, h.f h5]
   ·exact h.m
theorem a9f {α : Type} {p : α → Bool} {xs : List α} : allB (fun _ => p) xs = true ↔ ∀ x ∈ xs, p x = true := by
 constructor
 ·intro h x hx
  obtain ⟨j, hj⟩ := List.mem_iff_getElem?.1 hx
  exact a9c h hj
 ·intro h
  exact a2l fun j x _ hx => h x (List.mem_of_getElem? hx)
theorem d0g {x : Frm} : fmB fs nt x = true ↔ FG fs nt x := by
 unfold fmB FG
 constructor
 ·intro h
  rw [Bool.and_eq_true] at h
  obtain ⟨h1, h2⟩ := h
  cases e : fs[x.f.toNat]? with
  | none => rw [e] at h2; cases h2
  | some f =>
   rw [e] at h2
   simp only [Bool.and_eq_true, belB, decide_eq_true_eq, beq_iff_eq] at h1 h2
   exact ⟨f, rfl, h1.1, h2.1.1.1, h2.1.1.2, h2.1.2, fun v hv => b0c.1 (a9f.1 h2.2 v hv)⟩
 ·rintro ⟨f, h1, h2, h3, h4, h5, h6⟩
  have := (List.getElem?_eq_some_iff.1 h1).1
  rw [h1]
  simp only [Bool.and_eq_true, belB, decide_eq_true_eq, beq_iff_eq]
  exact ⟨⟨h2, by omega⟩, ⟨⟨h3, h4⟩, h5⟩, a9f.2 fun v hv => b0c.2 (h6 v hv)⟩
theorem b6e {fs : List Fd} {nt : Nat} : ∀ {l : List Frm} {d : Int}, frsB fs nt d l = true ↔ DG d l ∧ ∀ x ∈ l, FG fs nt x
 | [], d => by simp [frsB, DG]
 | x :: l, d => by
  have ih := b6e (fs := fs) (nt := nt) (l := l) (d := x.rs.length)
  simp only [frsB, Bool.and_eq_true, DG, belB, decide_eq_true_eq, ih, d0g, List.mem_cons, forall_eq_or_imp]
  constructor
  ·rintro ⟨⟨⟨h1, h2⟩, h3⟩, h4, h5⟩
   exact ⟨⟨h1, h2, h4⟩, h3, h5⟩
  ·rintro ⟨⟨h1, h2, h4⟩, h3, h5⟩
   exact ⟨⟨⟨h1, h2⟩, h3⟩, h4, h5⟩
theorem d2t {t : Tb} : tB nt nf t = true ↔ TG nt nf t := by
 simp only [tB, Bool.and_eq_true, a9f]
 constructor
 ·rintro ⟨⟨h1, h2⟩, h3⟩
  exact ⟨h1, fun v hv => b0c.1 (h2 v hv), fun v hv => b0c.1 (h3 v hv)⟩
 ·rintro ⟨h1, h2, h3⟩
  exact ⟨⟨h1, fun v hv => b0c.2 (h2 v hv)⟩, fun v hv => b0c.2 (h3 v hv)⟩
theorem c1m {c : Int} : b4i c = true ↔ c = 1 ∨ c = 3 ∨ c = 4 ∨ c = 7 := by
 simp [b4i, or_assoc]
theorem c5y : endB nt nf s = true ↔ (s.en = 0 ∧ s.er = 0 ∧ s.la = nilV) ∨ (s.en = 1 ∧ s.er = 0 ∧ VG nt nf s.la) ∨ (s.en = 2 ∧ (s.er = 1 ∨ s.er = 3 ∨ s.er = 4 ∨ s.er = 7) ∧ s.la = nilV) := by
 unfold endB
 by_cases h0 : s.en = 0
 ·rw [if_pos h0, Bool.and_eq_true, beq_iff_eq, b4s]
  constructor
  ·rintro ⟨a, b⟩
   exact .inl ⟨h0, a, b⟩
  ·rintro (⟨_, a, b⟩ | ⟨a, _⟩ | ⟨a, _⟩)
   ·exact ⟨a, b⟩
   ·omega
   ·omega
 rw [if_neg h0]
 by_cases h1 : s.en = 1
 ·rw [if_pos h1, Bool.and_eq_true, beq_iff_eq, b0c]
  constructor
  ·rintro ⟨a, b⟩
   exact .inr (.inl ⟨h1, a, b⟩)
  ·rintro (⟨a, _⟩ | ⟨_, a, b⟩ | ⟨a, _⟩)
   ·omega
   ·exact ⟨a, b⟩
   ·omega
 rw [if_neg h1]
 by_cases h2 : s.en = 2
 ·rw [if_pos h2, Bool.and_eq_true, c1m, b4s]
  constructor
  ·rintro ⟨a, b⟩
   exact .inr (.inr ⟨h2, a, b⟩)
  ·rintro (⟨a, _⟩ | ⟨a, _⟩ | ⟨_, a, b⟩)
   ·omega
   ·omega
   ·exact ⟨a, b⟩
 ·rw [if_neg h2]
  constructor
  ·intro h; cases h
  ·rintro (⟨a, _⟩ | ⟨a, _⟩ | ⟨a, _⟩)
   ·omega
   ·omega
   ·omega
theorem b6f : stB1 fs mn s = true ↔ a2i fs mn = true ∧ Good fs s := by
 unfold stB1 b3h
 simp only [Bool.and_eq_true, frB, decide_eq_true_eq, a9f, b6e, d2t, c5y]
 constructor
 ·rintro ⟨⟨⟨⟨h1, ⟨a1, a2⟩, a3, a4⟩, b1, b2⟩, ⟨⟨c1, c2⟩, c3⟩, c4⟩, d⟩
  exact ⟨h1, by omega, by omega, a3, a4, by omega, b2, c1, c2, c3, fun t ht => by have := c4 t ht; omega, d⟩
 ·rintro ⟨h1, h⟩
  have n1 := h.n1
  have n2 := h.n2
  have t2 := h.t2
  exact ⟨⟨⟨⟨h1, ⟨by omega, by omega⟩, h.dg, h.fg⟩, by omega, h.tg⟩, ⟨⟨h.s1, h.s2⟩, h.o1⟩, fun t ht => by have := h.o2 t ht; omega⟩, h.e⟩
theorem b0y (v : Vl) (ca : Option Addr) (nf cc : Nat) (mn : Int) (fa ta oa : Option Addr) (n1 fc nt tc n3 oc : Nat) (s : St) (W : World) :
  Calls Tryz.prog 24 #[PV ca nf cc mn, stv (.slice fa n1 fc) (.slice ta nt tc) (.slice oa n3 oc) s, v.v] W fun r w' => r = .returned (.bool (vB nt nf v)) ∧ Below W.heap.size W w' := by
 obtain ⟨w1, hw1⟩ := exq (((W.alloc (.cells #[.slice ca nf cc, .int .i64 mn] 24)).alloc (stb (.slice fa n1 fc) (.slice ta nt tc) (.slice oa n3 oc) s)).alloc (bx v))
 have E1 : Below W.heap.size W w1 := by rw [← hw1]; exact a0c (a0c (a0c (Below.refl _ _) _) _) _
 have g0 : w1.heap[W.heap.size]? = some (.cells #[.slice ca nf cc, .int .i64 mn] 24) := by
  rw [← hw1]; exact a0j (a0c (a0c (Below.refl _ _) _) _) (a0h _ _)
 have g1 : w1.heap[W.heap.size + 1]? = some (stb (.slice fa n1 fc) (.slice ta nt tc) (.slice oa n3 oc) s) := by
  rw [← hw1]; exact a0j (a0c (Below.refl _ _) _) (a6w W _ _)
 have g2 : w1.heap[W.heap.size + 1 + 1]? = some (bx v) := by rw [← hw1]; simpa using a0h ((W.alloc _).alloc _) _
 obtain ⟨c0, c1, c2, _, _, _⟩ := in3 g2
 obtain ⟨R, hR⟩ := exq (vB nt nf v)
 rw [hR]
 unfold vB at hR
 cases hb : mayB v.k v.n v.s
 ·have hm : Hid (∀ u : World, Calls Tryz.prog 47 #[v.v] u fun e w' => e = .returned (.bool false) ∧ Below u.heap.size u w') := fun u => c0r v u hb
  obtain rfl : R = false := by rw [← hR, hb]; split <;> simp
  clear hR hb
  go_enter Tryz.func24, Tryz.ntmps24
  go_wp2_with (go_at_call 47; refine (hm.out _).mono ?_; rintro e w2 ⟨rfl, hb2⟩)
  go_ret
  exact ⟨rfl, a0b E1 hb2⟩
 ·have hm : Hid (∀ u : World, Calls Tryz.prog 47 #[v.v] u fun e w' => e = .returned (.bool true) ∧ Below u.heap.size u w') := fun u => c0q v u hb
  rw [hb, Bool.true_and, Bool.true_and] at hR
  have hC : ∀ u, Below w1.heap.size w1 u → (u.cell? ⟨W.heap.size + 1 + 1, 0, none⟩ = some (.int .i64 v.k) ∧ u.cell? ⟨W.heap.size + 1 + 1, 1, none⟩ = some (.int .i64 v.n)) ∧ u.cell? ⟨W.heap.size, 0, none⟩ = some (.slice ca nf cc) ∧ u.cell? ⟨W.heap.size + 1, 1, none⟩ = some (.slice ta nt tc) := fun u hu => ⟨⟨a0l hu c0, a0l hu c1⟩, a0l hu (a0a g0 rfl), a0l hu (a0a g1 rfl)⟩
  replace hC : Hid _ := hC
  clear hb g0 g1 g2
  cases h4 : (v.k == 4)
  ·have e4 : ¬ v.k = 4 := by simpa using h4
   rw [if_neg e4] at hR
   cases h5 : (v.k == 5)
   ·have e5 : ¬ v.k = 5 := by simpa using h5
    have e5' : (v.k != 5) = true := by simp [e5]
    rw [if_neg e5] at hR
    subst hR
    clear e4 e5
    go_enter Tryz.func24, Tryz.ntmps24
    go_wp2_with (go_at_call 47; refine (hm.out _).mono ?_; rintro e w2 ⟨rfl, hb2⟩; obtain ⟨⟨_, _⟩, _, _⟩ := hC.out w2 hb2)
    go_ret
    exact ⟨rfl, a0b E1 hb2⟩
   ·have e5 : v.k = 5 := by simpa using h5
    have e5' : (v.k != 5) = false := by simp [e5]
    rw [if_pos e5] at hR
    replace hR : Hid _ := hR
    clear e4 e5
    go_enter Tryz.func24, Tryz.ntmps24
    go_wp2_with (go_at_call 47; refine (hm.out _).mono ?_; rintro e w2 ⟨rfl, hb2⟩; obtain ⟨⟨_, _⟩, _, _⟩ := hC.out w2 hb2)
    go_ret
    exact ⟨by rw [← hR.out]; rfl, a0b E1 hb2⟩
  ·have e4 : v.k = 4 := by simpa using h4
   rw [if_pos e4] at hR
   replace hR : Hid _ := hR
   clear e4
   go_enter Tryz.func24, Tryz.ntmps24
   go_wp2_with (go_at_call 47; refine (hm.out _).mono ?_; rintro e w2 ⟨rfl, hb2⟩; obtain ⟨⟨_, _⟩, _, _⟩ := hC.out w2 hb2)
   go_ret
   exact ⟨by rw [← hR.out]; rfl, a0b E1 hb2⟩
theorem b1w (sv : Value) (xs : List Vl) (ca : Option Addr) (nf cc : Nat) (mn : Int) (fa ta oa : Option Addr) (n1 fc nt tc n3 oc : Nat) (s : St) (W : World) (hr : Row W.heap.size W sv xs) :
  Calls Tryz.prog 21 #[PV ca nf cc mn, stv (.slice fa n1 fc) (.slice ta nt tc) (.slice oa n3 oc) s, sv] W fun r w' => r = .returned (.bool (allB (fun _ => vB nt nf) xs)) ∧ Below W.heap.size W w' := by
 obtain ⟨a, cap, rfl, hlen, hrow⟩ := hr
 replace hlen := a3f hlen
 obtain ⟨w1, hw1⟩ := exq ((W.alloc (.cells #[.slice ca nf cc, .int .i64 mn] 24)).alloc (stb (.slice fa n1 fc) (.slice ta nt tc) (.slice oa n3 oc) s))
 have E1 : Below W.heap.size W w1 := by rw [← hw1]; exact a0c (a0c (Below.refl _ _) _) _
 have g0 : w1.heap[W.heap.size]? = some (.cells #[.slice ca nf cc, .int .i64 mn] 24) := by
  rw [← hw1]; exact a0j (a0c (Below.refl _ _) _) (a0h _ _)
 have g1 : w1.heap[W.heap.size + 1]? = some (stb (.slice fa n1 fc) (.slice ta nt tc) (.slice oa n3 oc) s) := by
  rw [← hw1]; exact a6w W _ _
 have hC : ∀ u, Below w1.heap.size w1 u → (u.cell? ⟨W.heap.size, 0, none⟩ = some (.slice ca nf cc) ∧ u.cell? ⟨W.heap.size, 1, none⟩ = some (.int .i64 mn)) ∧ u.heap[W.heap.size + 1]? = some (stb (.slice fa n1 fc) (.slice ta nt tc) (.slice oa n3 oc) s) := fun u hu => ⟨⟨a0l hu (a0a g0 rfl), a0l hu (a0a g0 rfl)⟩, a0j hu g1⟩
 have hK : ∀ (u : World) (v : Vl), Calls Tryz.prog 24 #[PV ca nf cc mn, stv (.slice fa n1 fc) (.slice ta nt tc) (.slice oa n3 oc) s, v.v] u _ := fun u v => b0y v ca nf cc mn fa ta oa n1 fc nt tc n3 oc s u
 replace hC : Hid _ := hC
 replace hK : Hid _ := hK
 clear g0 g1
 obtain ⟨ans, hans⟩ := exq (allB (fun _ => vB nt nf) xs)
 rw [hans]
 replace hans : Hid _ := hans
 go_enter Tryz.func21, Tryz.ntmps21
 go_wp2
 go_loopw [7] (fun i wr => ∃ m : Nat, m ≤ xs.length ∧ i = .int .i64 m ∧ Hid (a1w (fun _ => vB nt nf) xs m) ∧ Below w1.heap.size w1 wr) (fun i _ => xs.length - (intOf i).toNat)
 case atStart => exact ⟨0, Nat.zero_le _, rfl, a1w.zero, Below.refl _ _⟩
 case round =>
  obtain ⟨m, hm, rfl, hG, hb⟩ := hrel
  by_cases hlt : m < xs.length
  ·obtain ⟨x, hx⟩ : ∃ x, xs[m]? = some x := ⟨xs[m], by simp [hlt]⟩
   obtain ⟨b, off, rfl, hbl, hel⟩ := hrow (by intro e; subst e; simp at hlt)
   have hT : ∀ u, Below w1.heap.size w1 u → a1m u b (off + m * 3) x := fun u hu => (hel m x hx).below (a0b E1 hu) hbl
   have hbad : vB nt nf x = false → Hid (allB (fun _ => vB nt nf) xs = false) := fun h => a2c hx h
   have hnext : vB nt nf x = true → Hid (a1w (fun _ => vB nt nf) xs (m + 1)) := fun h => a1w.next hx h hG.out
   replace hbad : Hid _ := hbad
   replace hnext : Hid _ := hnext
   replace hT : Hid _ := hT
   clear hx hG hrow hel
   have hc := fun u => hK.out u x
   cases e1 : vB nt nf x
   all_goals
    rw [e1] at hc
    replace hc : Hid _ := hc
    replace e1 : Hid _ := e1
    go_wp2
    refine a1e (Below w1.heap.size w1) (by kernel_rfl) (by kernel_rfl) (a0i hb) ?_
    repeat (first
     | go_big_quiet_skip
     | (
      apply a0t
      ·kernel_rfl
      ·intro u hu
       obtain ⟨_, _, _⟩ := hT.out u hu
       obtain ⟨⟨_, _⟩, h9⟩ := hC.out u hu
       obtain ⟨_, _, _, _, _, _, _, _, _⟩ := nine h9
       go_simp
       first | (go_at_call 24; refine (hc.out u).mono ?_; rintro e w2 ⟨rfl, hb2⟩; exact ⟨rfl, a0b hu hb2⟩) | with_reducible rfl | skip
      simp only [Act.put, List.setIfInBounds_toArray, List.set_cons_zero, List.set_cons_succ]))
    refine wpQuiet_nil (fun w2 hb2 => ?_)
   ·go_wp2
    go_ret
    exact ⟨by rw [← hans.out, (hbad.out e1.out).out]; rfl, a0b E1 hb2⟩
   ·go_wp2
    go_roundw
    case rel => exact ⟨m + 1, hlt, by simp, (hnext.out e1.out), hb2⟩
    case measure => simp [intOf]; omega
  ·obtain rfl : m = xs.length := by omega
   go_wp2
   go_ret
   exact ⟨by rw [← hans.out, a2l hG.out]; rfl, a0b E1 hb⟩
def hdB (pb : Bool) (n nt no : Nat) (st : Int) : Bool := pb && decide (1 ≤ n) && decide (n ≤ 40) && decide (nt ≤ 200) && decide ((no : Int) ≤ st) && decide (0 ≤ st) && decide (st ≤ 60000)
theorem c5z {cn n no : Nat} {pb : Bool} (W : World) (q9 : ∀ u, Below W.heap.size W u → Calls Tryz.prog 9 #[PV ca cn cc mn] u fun e w' => e = .returned (.bool pb) ∧ Below u.heap.size u w') (hb : hdB pb n nt no s.st = false) :
  Calls Tryz.prog 7 #[PV ca cn cc mn, stv (.slice fa n fc) (.slice ta nt tc) (.slice oa no oc) s] W fun r w' => r = .returned (.bool false) ∧ Below W.heap.size W w' := by
 obtain ⟨w1, hw1⟩ := exq ((W.alloc (.cells #[.slice ca cn cc, .int .i64 mn] 24)).alloc (stb (.slice fa n fc) (.slice ta nt tc) (.slice oa no oc) s))
 have E1 : Below W.heap.size W w1 := by rw [← hw1]; exact a0c (a0c (Below.refl _ _) _) _
 have g0 : w1.heap[W.heap.size]? = some (.cells #[.slice ca cn cc, .int .i64 mn] 24) := by rw [← hw1]; exact a0g _ (a0h _ _)
 have g1 : w1.heap[W.heap.size + 1]? = some (stb (.slice fa n fc) (.slice ta nt tc) (.slice oa no oc) s) := by rw [← hw1]; exact a6w W _ _
 have q9' := q9 w1 E1
 clear q9
 obtain ⟨st, hst⟩ := exq (s.st)
 have a0 := a0a (i := 0) g0 rfl
 have a1 := a0a (i := 1) g0 rfl
 obtain ⟨b0, _⟩ := nine g1
 have hC : ∀ u, Below w1.heap.size w1 u → u.cell? ⟨W.heap.size + 1, 1, none⟩ = some (.slice ta nt tc) ∧ u.cell? ⟨W.heap.size + 1, 2, none⟩ = some (.slice oa no oc) ∧ u.cell? ⟨W.heap.size + 1, 3, none⟩ = some (.int .i64 st) := fun u hu => by
  obtain ⟨_, h1, h2, h3, _⟩ := nine (a0j hu g1)
  rw [hst] at h3
  exact ⟨h1, h2, h3⟩
 replace hC : Hid _ := hC
 rw [hst] at hb
 have hd : pb = false ∨ (pb = true ∧ ((n : Int) < 1 ∨ (¬ (n : Int) < 1 ∧ ((40 : Int) < n ∨ (¬ (40 : Int) < n ∧ ((200 : Int) < nt ∨ (¬ (200 : Int) < nt ∧ (decide (st < no) = true ∨ (decide (st < no) = false ∧ (decide (st < 0) = true ∨ (decide (st < 0) = false ∧ decide (60000 < st) = true))))))))))) := by
  unfold hdB at hb
  cases pb
  ·exact .inl rfl
  ·right
   refine ⟨rfl, ?_⟩
   simp only [Bool.true_and, Bool.and_eq_false_iff, decide_eq_false_iff_not, decide_eq_true_eq] at hb ⊢
   omega
 clear hb hst
 rcases hd with rfl | ⟨rfl, h1 | ⟨h1, h2 | ⟨h2, h3 | ⟨h3, h4 | ⟨h4, h5 | ⟨h5, h6⟩⟩⟩⟩⟩⟩
 all_goals
  go_enter Tryz.func7, Tryz.ntmps7
  go_wp2_with (go_at_call 9; refine q9'.mono ?_; rintro e u0 ⟨rfl, hb0⟩; obtain ⟨B1, B2, B3⟩ := hC.out u0 hb0)
  go_ret
  exact ⟨rfl, a0b E1 hb0⟩
structure Env7 (w1 : World) (B b off : Nat) (fs : List Fd) (cc : Nat) (mn : Int) (fa : Option Addr) (fc : Nat) (ta : Option Addr) (tc : Nat) (oa : Option Addr) (oc : Nat) (s : St) : Prop where
 s7 : ∀ u, Below w1.heap.size w1 u → S7 u B (some ⟨b, off, none⟩) fs.length cc mn fa s.fr.length fc ta s.tb.length tc oa s.out.length oc s.st s.en s.er s.la.k s.la.n s.la.s
 fun_ : ∀ u, Below w1.heap.size w1 u → ∀ j f, fs[j]? = some f → FAt u b (off + j * 4) f
 st : StIn w1.heap.size w1 (.slice fa s.fr.length fc) (.slice ta s.tb.length tc) (.slice oa s.out.length oc) s
theorem c6a (hE : Env7 w1 B b off fs cc mn fa fc ta tc oa oc s) (x : Frm) (ra : Option Addr) (rc : Nat) (wr v1 : World) (p5 p6 : Value) (hw : Below w1.heap.size w1 wr) (hRr : Row wr.heap.size wr (.slice ra x.rs.length rc) x.rs) (hv1 : wr.alloc (.cells #[.int .i64 x.f, .int .i64 x.pc, .int .i64 x.d, .slice ra x.rs.length rc] 50) = v1) :
  Reg8 B wr.heap.size p5 p6 v1 (!fmB fs s.tb.length x) := by
 have Ev : Below wr.heap.size wr v1 := by rw [← hv1]; exact a0c (Below.refl _ _) _
 have gv : v1.heap[wr.heap.size]? = some (.cells #[.int .i64 x.f, .int .i64 x.pc, .int .i64 x.d, .slice ra x.rs.length rc] 50) := by rw [← hv1]; exact a0h _ _
 have hC : ∀ u, Below v1.heap.size v1 u → S7 u B (some ⟨b, off, none⟩) fs.length cc mn fa s.fr.length fc ta s.tb.length tc oa s.out.length oc s.st s.en s.er s.la.k s.la.n s.la.s ∧ F7 u wr.heap.size x.f x.pc x.d ra x.rs.length rc := fun u hu => by
  obtain ⟨h0, h1, h2, h3⟩ := four (a0j hu gv)
  exact ⟨hE.s7 u (a0b hw (a0b Ev hu)), h0, h1, h2, h3⟩
 by_cases hf1 : x.f < 0
 ·have e : fmB fs s.tb.length x = false := by simp [fmB, belB, show ¬ 0 ≤ x.f by omega]
  rw [e]
  exact d0x hC (by simpa using hf1)
 by_cases hf2 : (fs.length : Int) ≤ x.f
 ·have e : fmB fs s.tb.length x = false := by simp [fmB, belB, show ¬ x.f < (fs.length : Int) by omega]
  rw [e]
  exact c7l hC (by simpa using hf1) (by simpa using hf2)
 obtain ⟨j, hj⟩ : ∃ j : Nat, x.f = j := ⟨x.f.toNat, by omega⟩
 have hjl : j < fs.length := by omega
 obtain ⟨f, hf⟩ : ∃ f, fs[j]? = some f := ⟨fs[j], List.getElem?_eq_getElem hjl⟩
 have hFA : ∀ u, Below v1.heap.size v1 u → F7b u b (off + j * 4) f.p f.r f.ca f.cs.length f.cc f.ia f.is.length f.ic := fun u hu => by
  have := hE.fun_ u (a0b hw (a0b Ev hu)) j f hf
  exact ⟨this.p, this.r, this.c, this.i⟩
 have hfm : fmB fs s.tb.length x = (belB x.pc f.is.length && ((x.rs.length : Int) == f.r) && allB (fun _ => vB s.tb.length fs.length) x.rs) := by
  unfold fmB
  rw [show x.f.toNat = j by omega, hf, show belB x.f fs.length = true by simp [belB]; omega]
  rfl
 rw [hfm]
 rw [hj] at hC
 have h20 : ∀ u, Below v1.heap.size v1 u → Calls Tryz.prog 20 #[.agg #[.int .i64 f.p, .int .i64 f.r, .slice f.ca f.cs.length f.cc, .slice f.ia f.is.length f.ic], .int .i64 x.pc] u fun e w' => e = .returned (.bool (belB x.pc f.is.length)) ∧ Below u.heap.size u w' := fun u _ => (a4b f x.pc u).mono fun e w' ⟨h1, h2⟩ => ⟨h1, by rw [h2]; exact a0c (Below.refl _ _) _⟩
 have h21 := fun u (hu : Below v1.heap.size v1 u) => b1w (.slice ra x.rs.length rc) x.rs (some ⟨b, off, none⟩) fs.length cc mn fa ta oa s.fr.length fc s.tb.length tc s.out.length oc s u (hRr.at (a0b Ev hu))
 have d1 : decide ((j : Int) < 0) = false := by simp
 have d2 : decide (fs.length ≤ j) = false := by simpa using hjl
 exact d3h hC hFA hjl d1 d2 h20 h21
theorem c1n : (Tryz.f7.body.bind (a3l 0)).getD .skip = .loop (a5u ((Tryz.f7.body.bind (a3l 0)).getD .skip)) := by kernel_rfl
theorem c1o : (Tryz.f7.body.bind (a3l 2)).getD .skip = .loop (a5u ((Tryz.f7.body.bind (a3l 2)).getD .skip)) := by kernel_rfl
theorem c1p : (Tryz.f7.body.bind (a3l 4)).getD .skip = .loop (a5u ((Tryz.f7.body.bind (a3l 4)).getD .skip)) := by kernel_rfl
theorem b3i (d D : Int) : decide (d < 0) = true ∧ (!belB d D) = true ∨ decide (d < 0) = false ∧ (decide (D ≤ d) = true ∧ (!belB d D) = true ∨ decide (D ≤ d) = false ∧ (!belB d D) = false) := by
 unfold belB
 by_cases h1 : d < 0
 ·exact .inl ⟨by simpa using h1, by simp; omega⟩
 ·by_cases h2 : D ≤ d
  ·exact .inr ⟨by simpa using h1, .inl ⟨by simpa using h2, by simp; omega⟩⟩
  ·exact .inr ⟨by simpa using h1, .inr ⟨by simpa using h2, by simp; omega⟩⟩
theorem c1q (hE : Env7 w1 B b off fs cc mn fa fc ta tc oa oc s) (hn : s.fr.length ≤ 40) (hret : R = false → ∀ a' w', a'.defers = [] → a'.tmps.getD 4 undef = .bool false → Below w1.heap.size w1 w' → K .ret a' w') (hexit : rest = R → ∀ a' w', Fr7 a' (.pointer (some ⟨B, 0, none⟩)) (.pointer (some ⟨B + 1, 0, none⟩)) (.int .i64 s.fr.length) → Below w1.heap.size w1 w' → K (.exit 0) a' w') (hfr : Fr7 a (.pointer (some ⟨B, 0, none⟩)) (.pointer (some ⟨B + 1, 0, none⟩)) (.int .i64 s.fr.length)) (h6 : a.tmps.getD 6 undef = .int .i64 0) (hw : Below w1.heap.size w1 w) (hR : (frsB fs s.tb.length 1 s.fr && rest) = R) :
  Code.wp Tryz.prog ((Tryz.f7.body.bind (a3l 0)).getD .skip) K a w := by
 rw [c1n]
 refine wp_loop (fun a w => ∃ (m : Nat) (D : Int), m ≤ s.fr.length ∧ Fr7 a (.pointer (some ⟨B, 0, none⟩)) (.pointer (some ⟨B + 1, 0, none⟩)) (.int .i64 s.fr.length) ∧ a.tmps.getD 6 undef = .int .i64 m ∧ (m = 0 → D = 1) ∧ (∀ x, 0 < m → s.fr[m - 1]? = some x → D = x.rs.length) ∧ (frsB fs s.tb.length D (s.fr.drop m) && rest) = R ∧ Below w1.heap.size w1 w) (fun a _ => s.fr.length - (intOf (a.tmps.getD 6 undef)).toNat) ⟨0, 1, Nat.zero_le _, hfr, h6, fun _ => rfl, fun _ h => absurd h (by omega), by simpa using hR, hw⟩ ?_
 rintro a w ⟨m, D, hm, hfr, h6, hD0, hD1, hG, hw⟩
 by_cases hlt : m < s.fr.length
 ·obtain ⟨x, hx⟩ : ∃ x, s.fr[m]? = some x := ⟨s.fr[m], List.getElem?_eq_getElem _⟩
  obtain ⟨_, _, hfe, _, hrow⟩ := hE.st.f
  obtain ⟨fb, foff, hfa, hbl, helf⟩ := hrow (by intro e; rw [e] at hx; simp at hx)
  cases hfe
  subst hfa
  obtain ⟨t0, t1, t2, rv, t3, hRr⟩ := (helf m x hx).below hw hbl
  obtain ⟨ra, rc, rfl, _, _⟩ := id hRr
  have hd : s.fr.drop m = x :: s.fr.drop (m + 1) := by
   rw [List.drop_eq_getElem_cons hlt]
   congr 1
   rw [List.getElem?_eq_getElem hlt] at hx
   exact Option.some.inj hx
  rw [hd, frsB] at hG
  have hRow : Row w.heap.size w (.slice ra x.rs.length rc) x.rs := a1k hw.size hRr
  obtain ⟨v1, hv1⟩ := exq (w.alloc (.cells #[.int .i64 x.f, .int .i64 x.pc, .int .i64 x.d, .slice ra x.rs.length rc] 50))
  have Ev : Below w1.heap.size w1 v1 := by rw [← hv1]; exact a0c hw _
  have h8 : ∀ p6, Reg8 B w.heap.size (.int .i64 s.fr.length) p6 v1 (!fmB fs s.tb.length x) := fun p6 => c6a hE x ra rc w v1 _ p6 hw hRow hv1
  have hS := fun u (hu : Below w.heap.size w u) => hE.s7 u (a0b hw hu)
  have hF : F7b4 w fb (foff + m * 4) x.f x.pc x.d ra x.rs.length rc := ⟨t0, t1, t2, t3⟩
  cases hfm : fmB fs s.tb.length x
  ·rw [hfm] at h8 hG
   have hf : R = false := by rw [← hG]; simp
   exact d0y hfr h6 hlt (hS _ (Below.refl _ _)) hF hv1 (h8 _) fun a' w' h1 h2 hb => hret hf a' w' h1 h2 (a0b Ev hb)
  ·rw [hfm] at h8 hG
   rw [Bool.and_true] at hG
   rcases Nat.eq_zero_or_pos m with rfl | hpos
   ·obtain rfl := hD0 rfl
    rw [show foff + 0 * 4 = foff by omega] at hF
    refine r1_0 hfr h6 hlt hn hS hF hv1 (h8 _) (R := !belB x.d 1) (b3i _ _) (fun hf a' w' h1 h2 hb => hret (by rw [← hG]; simp at hf; simp [hf]) a' w' h1 h2 (a0b Ev hb)) fun hf a' w' h1 h2 hb => ⟨⟨1, x.rs.length, hlt, h1, h2, fun h => absurd h (by omega), fun y _ hy => ?_, ?_, a0b Ev hb⟩, ?_⟩
    ·rw [hx] at hy; cases hy; rfl
    ·rw [← hG]; simp at hf; simp [hf]
    ·rw [h2, h6]; simp [intOf]; omega
   ·obtain ⟨m, rfl⟩ : ∃ k, m = k + 1 := ⟨m - 1, by omega⟩
    obtain ⟨y, hy⟩ : ∃ y, s.fr[m]? = some y := ⟨s.fr[m], List.getElem?_eq_getElem _⟩
    obtain rfl := hD1 y (by omega) hy
    obtain ⟨_, _, _, rv, u3, hRy⟩ := (helf m y hy).below hw hbl
    obtain ⟨ra1, rc1, rfl, _, _⟩ := id hRy
    have hP : ∀ u, Below w.heap.size w u → u.cell? ⟨fb, foff + m * 4 + 3, none⟩ = some (.slice ra1 y.rs.length rc1) := fun u hu => a0l hu u3
    have h6' : a.tmps.getD 6 undef = .int .i64 ((m : Int) + 1) := h6
    refine r1_S hfr h6' hlt hn hS hF hP hv1 (h8 _) (R := !belB x.d y.rs.length) (b3i _ _) (fun hf a' w' h1 h2 hb => hret (by rw [← hG]; simp at hf; simp [hf]) a' w' h1 h2 (a0b Ev hb)) fun hf a' w' h1 h2 hb => ⟨⟨m + 1 + 1, x.rs.length, hlt, h1, h2, fun h => absurd h (by omega), fun z _ hz => ?_, ?_, a0b Ev hb⟩, ?_⟩
    ·rw [show m + 1 + 1 - 1 = m + 1 by omega, hx] at hz; cases hz; rfl
    ·rw [← hG]; simp at hf; simp [hf]
    ·rw [h2, h6']; simp [intOf]; omega
 ·obtain rfl : m = s.fr.length := by omega
  rw [List.drop_length, frsB, Bool.true_and] at hG
  exact d0z hfr h6 fun a' h => hexit hG a' w h hw
theorem c1r (hE : Env7 w1 B b off fs cc mn fa fc ta tc oa oc s) (hn : s.tb.length ≤ 200) (hret : R = false → ∀ a' w', a'.defers = [] → a'.tmps.getD 4 undef = .bool false → Below w1.heap.size w1 w' → K .ret a' w') (hexit : rest = R → ∀ a' w', Fr7 a' (.pointer (some ⟨B, 0, none⟩)) (.pointer (some ⟨B + 1, 0, none⟩)) p5 → Below w1.heap.size w1 w' → K (.exit 2) a' w') (hfr : Fr7 a (.pointer (some ⟨B, 0, none⟩)) (.pointer (some ⟨B + 1, 0, none⟩)) p5) (h9 : a.tmps.getD 9 undef = .int .i64 0) (hw : Below w1.heap.size w1 w) (hR : (allB (fun _ => tB s.tb.length fs.length) s.tb && rest) = R) :
  Code.wp Tryz.prog ((Tryz.f7.body.bind (a3l 2)).getD .skip) K a w := by
 rw [c1o]
 refine wp_loop (fun a w => ∃ (m : Nat), m ≤ s.tb.length ∧ Fr7 a (.pointer (some ⟨B, 0, none⟩)) (.pointer (some ⟨B + 1, 0, none⟩)) p5 ∧ a.tmps.getD 9 undef = .int .i64 m ∧ a1w (fun _ => tB s.tb.length fs.length) s.tb m ∧ Below w1.heap.size w1 w) (fun a _ => s.tb.length - (intOf (a.tmps.getD 9 undef)).toNat) ⟨0, Nat.zero_le _, hfr, h9, a1w.zero, hw⟩ ?_
 rintro a w ⟨m, hm, hfr, h9, hG, hw⟩
 have hS := fun u (hu : Below w.heap.size w u) => hE.s7 u (a0b hw hu)
 by_cases hlt : m < s.tb.length
 ·obtain ⟨x, hx⟩ : ∃ x, s.tb[m]? = some x := ⟨s.tb[m], List.getElem?_eq_getElem _⟩
  obtain ⟨_, _, hfe, _, hrow⟩ := hE.st.t
  obtain ⟨fb, foff, hfa, hbl, helf⟩ := hrow (by intro e; rw [e] at hx; simp at hx)
  cases hfe
  subst hfa
  obtain ⟨kv, vv, t0, t1, hk, hv⟩ := (helf m x hx).below hw hbl
  obtain ⟨ka, kc, rfl, _, _⟩ := id hk
  obtain ⟨va, vc, rfl, _, _⟩ := id hv
  obtain ⟨v1, hv1⟩ := exq (w.alloc (.cells #[.slice ka x.ks.length kc, .slice va x.vs.length vc] 57))
  have Ev : Below w.heap.size w v1 := by rw [← hv1]; exact a0c (Below.refl _ _) _
  have hk' : Row w.heap.size w _ _ := a1k hw.size hk
  have hv' : Row w.heap.size w _ _ := a1k hw.size hv
  have q22 := fun u (hu : Below v1.heap.size v1 u) => a9k _ _ x.ks x.vs u ⟨hk'.at (a0b Ev hu), hv'.at (a0b Ev hu)⟩
  have qks := fun u (hu : Below v1.heap.size v1 u) => b1w _ x.ks (some ⟨b, off, none⟩) fs.length cc mn fa (some ⟨fb, foff, none⟩) oa s.fr.length fc s.tb.length tc s.out.length oc s u (hk'.at (a0b Ev hu))
  have qvs := fun u (hu : Below v1.heap.size v1 u) => b1w _ x.vs (some ⟨b, off, none⟩) fs.length cc mn fa (some ⟨fb, foff, none⟩) oa s.fr.length fc s.tb.length tc s.out.length oc s u (hv'.at (a0b Ev hu))
  have hbad : tB s.tb.length fs.length x = false → R = false := fun h => by rw [← hR, a2c (p := fun _ => tB s.tb.length fs.length) hx h]; rfl
  have hback : tB s.tb.length fs.length x = false → ∀ a' w', a'.defers = [] → a'.tmps.getD 4 undef = .bool false → Below w.heap.size w w' → K .ret a' w' := fun h a' w' h1 h2 hb => hret (hbad h) a' w' h1 h2 (a0b hw hb)
  have hT : tB s.tb.length fs.length x = (mayT x.ks x.vs && allB (fun _ => vB s.tb.length fs.length) x.ks && allB (fun _ => vB s.tb.length fs.length) x.vs) := rfl
  refine d1a hfr h9 hlt hn hS t0 t1 hv1 q22 qks qvs (fun h => hback (hT.trans h)) fun h a' w' h1 h2 hb => ⟨⟨m + 1, hlt, h1, h2, a1w.next hx (hT.trans h) hG, a0b hw hb⟩, ?_⟩
  rw [h2, h9]; simp [intOf]; omega
 ·obtain rfl : m = s.tb.length := by omega
  rw [a2l hG, Bool.true_and] at hR
  exact d1b (m := 0) (v1 := w) hfr h9 (hS _ (Below.refl _ _)) fun a' h => hexit hR a' w h hw
theorem c1s (hE : Env7 w1 B b off fs cc mn fa fc ta tc oa oc s) (hn : s.out.length ≤ 60000) (hret : R = false → ∀ a' w', a'.defers = [] → a'.tmps.getD 4 undef = .bool false → Below w1.heap.size w1 w' → K .ret a' w') (hexit : rest = R → ∀ a' w', Fr7 a' (.pointer (some ⟨B, 0, none⟩)) (.pointer (some ⟨B + 1, 0, none⟩)) p5 → Below w1.heap.size w1 w' → K (.exit 4) a' w') (hfr : Fr7 a (.pointer (some ⟨B, 0, none⟩)) (.pointer (some ⟨B + 1, 0, none⟩)) p5) (h9 : a.tmps.getD 11 undef = .int .i64 0) (hw : Below w1.heap.size w1 w) (hR : (allB (fun _ t => decide ((t.size : Int) ≤ 300)) s.out && rest) = R) :
  Code.wp Tryz.prog ((Tryz.f7.body.bind (a3l 4)).getD .skip) K a w := by
 rw [c1p]
 refine wp_loop (fun a w => ∃ (m : Nat), m ≤ s.out.length ∧ Fr7 a (.pointer (some ⟨B, 0, none⟩)) (.pointer (some ⟨B + 1, 0, none⟩)) p5 ∧ a.tmps.getD 11 undef = .int .i64 m ∧ a1w (fun _ (t : ByteArray) => decide ((t.size : Int) ≤ 300)) s.out m ∧ Below w1.heap.size w1 w) (fun a _ => s.out.length - (intOf (a.tmps.getD 11 undef)).toNat) ⟨0, Nat.zero_le _, hfr, h9, a1w.zero, hw⟩ ?_
 rintro a w ⟨m, hm, hfr, h9, hG, hw⟩
 have hS := hE.s7 w hw
 by_cases hlt : m < s.out.length
 ·obtain ⟨x, hx⟩ : ∃ x, s.out[m]? = some x := ⟨s.out[m], List.getElem?_eq_getElem _⟩
  obtain ⟨_, _, hfe, _, hrow⟩ := hE.st.o
  obtain ⟨fb, foff, hfa, hbl, helf⟩ := hrow (by intro e; rw [e] at hx; simp at hx)
  cases hfe
  subst hfa
  have t0 := (hw.cell (p := ⟨fb, foff + m, none⟩) hbl).trans (helf m x hx)
  by_cases hl : x.size ≤ 300
  ·refine d3g (v1 := w) hfr h9 hlt hn hS t0 hl fun a' w' h1 h2 hb => ⟨⟨m + 1, hlt, h1, h2, a1w.next hx (by simp only [decide_eq_true_eq]; omega) hG, a0b hw hb⟩, ?_⟩
   rw [h2, h9]; simp [intOf]; omega
  ·have hf : R = false := by rw [← hR, a2c (p := fun _ (t : ByteArray) => decide ((t.size : Int) ≤ 300)) hx (by simp only [decide_eq_false_iff_not]; omega)]; rfl
   exact c7m (v1 := w) hfr h9 hlt hn hS t0 hl fun a' w' h1 h2 hb => hret hf a' w' h1 h2 (a0b hw hb)
 ·obtain rfl : m = s.out.length := by omega
  rw [a2l hG, Bool.true_and] at hR
  exact d1c (m := 0) (v1 := w) hfr h9 hS fun a' h => hexit hR a' w h hw
theorem c6b (hE : Env7 w1 B b off fs cc mn fa fc ta tc oa oc s) (hret : ∀ a' w', a'.defers = [] → a'.tmps.getD 4 undef = .bool R → Below w1.heap.size w1 w' → K .ret a' w') (hfr : Fr7 a (.pointer (some ⟨B, 0, none⟩)) (.pointer (some ⟨B + 1, 0, none⟩)) p5) (hw : Below w1.heap.size w1 w) (hR : endB s.tb.length fs.length s = R) :
  Code.wp Tryz.prog ((Tryz.f7.body.bind (a6n 26)).getD .skip) K a w := by
 have hS := fun u (hu : Below w.heap.size w u) => hE.s7 u (a0b hw hu)
 have q23 : ∀ u, Below w.heap.size w u → Calls Tryz.prog 23 #[.agg #[.int .i64 s.la.k, .int .i64 s.la.n, .string s.la.s], .agg #[.int .i64 0, .int .i64 0, .string ⟨#[]⟩]] u fun e w' => e = .returned (.bool (nzB s.la)) ∧ Below u.heap.size u w' := fun u _ => (a5g s.la nilV u).mono fun e w' ⟨h1, h2⟩ => ⟨by
   rw [h1]
   congr 2
   rw [Bool.eq_iff_iff, b4s, decide_eq_true_iff], by rw [h2]; exact a0c (a0c (Below.refl _ _) _) _⟩
 have q24 := fun u (hu : Below w.heap.size w u) => b0y s.la (some ⟨b, off, none⟩) fs.length cc mn fa ta oa s.fr.length fc s.tb.length tc s.out.length oc s u
 have hret' : ∀ a' w', a'.defers = [] → a'.tmps.getD 4 undef = .bool R → Below w.heap.size w w' → K .ret a' w' := fun a' w' h1 h2 hb => hret a' w' h1 h2 (a0b hw hb)
 clear hret
 by_cases e1 : s.en = 1 ∧ s.er = 0
 ·have : endB s.tb.length fs.length s = vB s.tb.length fs.length s.la := by simp [endB, e1.1, e1.2]
  rw [this] at hR
  rw [e1.1, e1.2] at hS
  simp only [stv, e1.1, e1.2] at q24
  rw [hR] at q24
  exact te_1 q23 q24 hfr hS hret'
 ·refine d1d (R := R) q23 ?_ hfr hS hret'
  rw [← hR]
  unfold endB b4i
  by_cases h0 : s.en = 0
  ·by_cases r : s.er = 0 <;> simp [h0, r]
  by_cases h1 : s.en = 1
  ·have : ¬ s.er = 0 := fun h => e1 ⟨h1, h⟩
   simp [h1, this]
  by_cases h2 : s.en = 2
  ·cases nzB s.la
   ·simp [h2]
   ·by_cases r1 : s.er = 1
    ·simp [h2, r1]
    by_cases r3 : s.er = 3
    ·simp [h2, r3]
    by_cases r4 : s.er = 4
    ·simp [h2, r4]
    by_cases r7 : s.er = 7
    ·simp [h2, r7]
    ·simp [h2, r1, r3, r4, r7]
  ·simp [h0, h1, h2]
theorem ret7 {w' : World} {a' : Act} (h1 : a'.defers = []) (h2 : a'.tmps.getD 4 undef = .bool R) (hb : Below W.heap.size W w') : bodyPost Tryz.prog Tryz.f7 (fun r w' => r = .returned (.bool R) ∧ Below W.heap.size W w') .ret a' w' :=
 bodyPost_ret (v := .bool R) (by rw [← h2]; simp [results, Tryz.results7, go_sem]) h1 ⟨rfl, hb⟩
theorem c6c (W : World) (q9 : ∀ u, Below W.heap.size W u → Calls Tryz.prog 9 #[PV (some ⟨b, off, none⟩) fs.length cc mn] u fun e w' => e = .returned (.bool true) ∧ Below u.heap.size u w') (hb : hdB true s.fr.length s.tb.length s.out.length s.st = true) (hel : ∀ u, Below W.heap.size W u → ∀ j f, fs[j]? = some f → FAt u b (off + j * 4) f) (hS : StIn W.heap.size W (.slice fa s.fr.length fc) (.slice ta s.tb.length tc) (.slice oa s.out.length oc) s) (hR : (frsB fs s.tb.length 1 s.fr && (allB (fun _ => tB s.tb.length fs.length) s.tb && (allB (fun _ t => decide ((t.size : Int) ≤ 300)) s.out && endB s.tb.length fs.length s))) = R) : Calls Tryz.prog 7 #[PV (some ⟨b, off, none⟩) fs.length cc mn, stv (.slice fa s.fr.length fc) (.slice ta s.tb.length tc) (.slice oa s.out.length oc) s] W fun r w' => r = .returned (.bool R) ∧ Below W.heap.size W w' := by
 obtain ⟨w1, hw1⟩ := exq ((W.alloc (.cells #[.slice (some ⟨b, off, none⟩) fs.length cc, .int .i64 mn] 24)).alloc (stb (.slice fa s.fr.length fc) (.slice ta s.tb.length tc) (.slice oa s.out.length oc) s))
 have E1 : Below W.heap.size W w1 := by rw [← hw1]; exact a0c (a0c (Below.refl _ _) _) _
 have g0 : w1.heap[W.heap.size]? = some (.cells #[.slice (some ⟨b, off, none⟩) fs.length cc, .int .i64 mn] 24) := by rw [← hw1]; exact a0g _ (a0h _ _)
 have g1 : w1.heap[W.heap.size + 1]? = some (stb (.slice fa s.fr.length fc) (.slice ta s.tb.length tc) (.slice oa s.out.length oc) s) := by rw [← hw1]; exact a6w W _ _
 have hE : Env7 w1 W.heap.size b off fs cc mn fa fc ta tc oa oc s := ⟨fun u hu => by
  obtain ⟨h0, h1, h2, h3, h4, h5, h6, h7, h8⟩ := nine (a0j hu g1)
  exact ⟨a0a (a0j hu g0) rfl, a0a (a0j hu g0) rfl, h0, h1, h2, h3, h4, h5, h6, h7, h8⟩, fun u hu => hel u (a0b E1 hu), hS.at E1⟩
 have q9' := q9 w1 E1
 clear q9
 obtain ⟨h1, h2, h3, h4, h5, h6⟩ : 1 ≤ s.fr.length ∧ s.fr.length ≤ 40 ∧ s.tb.length ≤ 200 ∧ (s.out.length : Int) ≤ s.st ∧ 0 ≤ s.st ∧ s.st ≤ 60000 := by
  unfold hdB at hb
  simp only [Bool.true_and, Bool.and_eq_true, decide_eq_true_eq] at hb
  omega
 have h7 : s.out.length ≤ 60000 := by omega
 obtain ⟨a0, a1, b0, b1, b2, b3, _⟩ := hE.s7 _ (Below.refl _ _)
 have hC : ∀ u, Below w1.heap.size w1 u → u.cell? ⟨W.heap.size + 1, 1, none⟩ = some (.slice ta s.tb.length tc) ∧ u.cell? ⟨W.heap.size + 1, 2, none⟩ = some (.slice oa s.out.length oc) ∧ u.cell? ⟨W.heap.size + 1, 3, none⟩ = some (.int .i64 s.st) := fun u hu => by
  obtain ⟨_, _, _, h1, h2, h3, _⟩ := hE.s7 u hu
  exact ⟨h1, h2, h3⟩
 have d1 : ¬ (s.fr.length : Int) < 1 := by omega
 have d2 : ¬ (40 : Int) < s.fr.length := by omega
 have d3 : ¬ (200 : Int) < s.tb.length := by omega
 have d4 : decide (s.st < s.out.length) = false := by simpa using h4
 have d5 : decide (s.st < 0) = false := by simpa using h5
 have d6 : decide (60000 < s.st) = false := by simpa using h6
 replace hC : Hid _ := hC
 replace hE : Hid _ := hE
 replace hR : Hid _ := hR
 replace E1 : Hid _ := E1
 replace h2 : Hid _ := h2
 replace h3 : Hid _ := h3
 replace h7 : Hid _ := h7
 clear hb g0 g1 hS hel h1 h4 h5 h6
 have hret : ∀ {R' : Bool}, R' = R → ∀ a' w', a'.defers = [] → a'.tmps.getD 4 undef = .bool R' → Below w1.heap.size w1 w' → bodyPost Tryz.prog Tryz.f7 (fun r w' => r = .returned (.bool R) ∧ Below W.heap.size W w') .ret a' w' := fun h a' w' h1 h2 hb => by subst h; exact ret7 h1 h2 (a0b E1.out hb)
 replace hret : Hid _ := @hret
 go_enter Tryz.func7, Tryz.ntmps7
 go_wp2_with (go_at_call 9; refine q9'.mono ?_; rintro e u0 ⟨rfl, hb0⟩; obtain ⟨B1, B2, B3⟩ := hC.out u0 hb0)
 clear q9' a0 a1 b0 b1 b2 b3 B1 B2 B3 d1 d2 d3 d4 d5 d6 hw1
 change Code.wp Tryz.prog ((Tryz.f7.body.bind (a3l 0)).getD .skip) _ _ _
 refine c1q hE.out h2.out (R := R) ?_ ?_ ?_ ?_ hb0 hR.out
 ·exact fun hf => hret.out hf.symm
 rotate_left
 ·exact ⟨rfl, rfl, rfl, rfl, rfl⟩
 ·rfl
 intro he a1 w2 hf hb
 obtain ⟨x, hx, hk⟩ := hf.lit
 clear hk hf
 subst hx
 replace he : Hid _ := he
 go_wp2
 change Code.wp Tryz.prog ((Tryz.f7.body.bind (a3l 2)).getD .skip) _ _ _
 refine c1r (p5 := .int .i64 s.fr.length) hE.out h3.out (R := R) ?_ ?_ ?_ ?_ hb he.out
 ·exact fun hf => hret.out hf.symm
 rotate_left
 ·exact ⟨rfl, rfl, rfl, rfl, rfl⟩
 ·rfl
 intro he2 a1 w3 hf hb3
 obtain ⟨x, hx, hk⟩ := hf.lit
 clear hk hf
 subst hx
 replace he2 : Hid _ := he2
 go_wp2
 change Code.wp Tryz.prog ((Tryz.f7.body.bind (a3l 4)).getD .skip) _ _ _
 refine c1s (p5 := .int .i64 s.fr.length) hE.out h7.out (R := R) ?_ ?_ ?_ ?_ hb3 he2.out
 ·exact fun hf => hret.out hf.symm
 rotate_left
 ·exact ⟨rfl, rfl, rfl, rfl, rfl⟩
 ·rfl
 intro he3 a1 w4 hf hb4
 rename_i K3 hK3
 show K3 a1 w4
 refine hK3 _ _ ?_
 change Code.wp Tryz.prog ((Tryz.f7.body.bind (a6n 26)).getD .skip) _ _ _
 exact c6b hE.out (R := R) (hret.out rfl) hf hb4 he3
theorem d0h (W : World) (hF : RowF W.heap.size W ca fs) (hS : StIn W.heap.size W fv tv ov s) :
  Calls Tryz.prog 7 #[PV ca fs.length cc mn, stv fv tv ov s] W fun r w' => r = .returned (.bool (stB1 fs mn s)) ∧ Below W.heap.size W w' := by
 have q9 : ∀ u, Below W.heap.size W u → Calls Tryz.prog 9 #[PV ca fs.length cc mn] u _ := fun u hu => b3a ca cc fs mn u (hF.at hu)
 obtain ⟨fa, fc, rfl, _, _⟩ := id hS.f
 obtain ⟨ta, tc, rfl, _, _⟩ := id hS.t
 obtain ⟨oa, oc, rfl, _, _⟩ := id hS.o
 cases hh : hdB (a2i fs mn) s.fr.length s.tb.length s.out.length s.st
 ·have e : stB1 fs mn s = false := by
   cases he : stB1 fs mn s
   ·rfl
   ·exfalso
    unfold stB1 b3h at he
    unfold hdB at hh
    simp only [Bool.and_eq_true, frB, decide_eq_true_eq, Bool.and_eq_false_iff, decide_eq_false_iff_not] at he hh
    obtain ⟨⟨⟨⟨a1, a2, _⟩, a3, _⟩, ⟨⟨a4, a5⟩, a6⟩, _⟩, _⟩ := he
    rcases hh with (((((h | h) | h) | h) | h) | h) | h
    ·rw [a1] at h; cases h
    all_goals omega
  rw [e]
  exact c5z W q9 hh
 ·have hp : a2i fs mn = true := by
   unfold hdB at hh
   simp only [Bool.and_eq_true] at hh
   exact hh.1.1.1.1.1.1
  rw [hp] at q9 hh
  have hne : fs ≠ [] := by rintro rfl; simp [a2i] at hp
  obtain ⟨b, off, rfl, hbl, hel⟩ := hF.2 hne
  refine c6c W q9 hh (fun u hu j f hf => ((hel j f hf).1.below hu hbl)) hS ?_
  unfold hdB at hh
  simp only [Bool.true_and, Bool.and_eq_true, decide_eq_true_eq] at hh
  obtain ⟨⟨⟨⟨⟨h1, h2⟩, h3⟩, h4⟩, h5⟩, h6⟩ := hh
  unfold stB1 b3h frB
  rw [hp, decide_eq_true (show (1 : Int) ≤ s.fr.length by omega), decide_eq_true (show (s.fr.length : Int) ≤ 40 by omega), decide_eq_true (show (s.tb.length : Int) ≤ 200 by omega), decide_eq_true h4, decide_eq_true h5, decide_eq_true h6]
  simp only [Bool.true_and, Bool.and_assoc]
theorem b7m (sv sv' : Value) (xs : List Vl) (W : World) (h : Row W.heap.size W sv xs) (h' : Row W.heap.size W sv' xs) :
  Calls Tryz.prog 27 #[sv, sv'] W fun r w' => r = .returned (.bool true) ∧ Below W.heap.size W w' := by
 obtain ⟨a, cap, rfl, hlen, hrow⟩ := h
 obtain ⟨a', cap', rfl, _, hrow'⟩ := h'
 replace hlen := a3f hlen
 obtain ⟨n, hn⟩ := exq (xs.length)
 have hx : ∀ m, m < n → ∃ b off b' off' x, a = some ⟨b, off, none⟩ ∧ a' = some ⟨b', off', none⟩ ∧ ∀ u, Below W.heap.size W u → a1m u b (off + m * 3) x ∧ a1m u b' (off' + m * 3) x := fun m hm => by
  have hne : xs ≠ [] := by intro e; subst e; simp at hn; omega
  obtain ⟨b, off, e, hb, hc⟩ := hrow hne
  obtain ⟨b', off', e', hb', hc'⟩ := hrow' hne
  have hxm : xs[m]? = some (xs[m]'(by omega)) := by simp
  exact ⟨b, off, b', off', _, e, e', fun u hu => ⟨(hc m _ hxm).below hu hb, (hc' m _ hxm).below hu hb'⟩⟩
 rw [hn] at hlen ⊢
 clear hrow hrow' hn
 replace hx : Hid _ := hx
 go_enter Tryz.func27, Tryz.ntmps27
 go_wp2
 go_loopw [5] (fun i wr => ∃ m : Nat, m ≤ n ∧ i = .int .i64 m ∧ Below W.heap.size W wr) (fun i _ => n - (intOf i).toNat)
 case atStart => exact ⟨0, Nat.zero_le _, rfl, Below.refl _ _⟩
 case round =>
  obtain ⟨m, hm, rfl, hb⟩ := hrel
  by_cases hlt : m < n
  ·obtain ⟨b, off, b', off', x, rfl, rfl, hT⟩ := hx.out m hlt
   replace hT : Hid _ := hT
   have hq : Hid (∀ u : World, Calls Tryz.prog 23 #[x.v, x.v] u fun e w' => e = .returned (.bool true) ∧ Below u.heap.size u w') := fun u => (a5g x x u).mono (fun e w' ⟨h1, h2⟩ => ⟨by rw [h1, decide_eq_true rfl], by rw [h2]; exact a0c (a0c (Below.refl _ _) _) _⟩)
   go_wp2
   refine a1e (Below W.heap.size W) (by kernel_rfl) (by kernel_rfl) (a0i hb) ?_
   repeat (first
    | go_big_quiet_skip
    | (
     apply a0t
     ·kernel_rfl
     ·intro u hu
      obtain ⟨⟨_, _, _⟩, ⟨_, _, _⟩⟩ := hT.out u hu
      go_simp
      first | (go_at_call 23; refine (hq.out u).mono ?_; rintro e w2 ⟨rfl, hb2⟩; exact ⟨rfl, a0b hu hb2⟩) | with_reducible rfl | skip
     simp only [Act.put, List.setIfInBounds_toArray, List.set_cons_zero, List.set_cons_succ]))
   refine wpQuiet_nil (fun w2 hb2 => ?_)
   go_wp2
   go_roundw
   case rel => exact ⟨m + 1, hlt, by simp, hb2⟩
   case measure => simp [intOf]; omega
  ·obtain rfl : m = n := by omega
   go_wp2
   go_ret
   exact ⟨rfl, hb⟩
theorem a6y (fv tv ov fv' tv' ov' : Value) (s : St) (W : World) (h : StIn W.heap.size W fv tv ov s) (h' : StIn W.heap.size W fv' tv' ov' s) (hcap : ∀ t ∈ s.tb, t.ks.length ≤ 1000 ∧ t.vs.length ≤ 1000) :
  Calls Tryz.prog 10 #[stv fv tv ov s, stv fv' tv' ov' s] W fun r w' => r = .returned (.bool true) ∧ Below W.heap.size W w' := by
 obtain ⟨w1, hw1⟩ := exq ((W.alloc (stb fv tv ov s)).alloc (stb fv' tv' ov' s))
 have E1 : Below W.heap.size W w1 := by rw [← hw1]; exact a0c (a0c (Below.refl _ _) _) _
 have g0 : w1.heap[W.heap.size]? = some (stb fv tv ov s) := by rw [← hw1]; exact a0j (a0c (Below.refl _ _) _) (a0h _ _)
 have g1 : w1.heap[W.heap.size + 1]? = some (stb fv' tv' ov' s) := by rw [← hw1]; simpa using a0h (W.alloc _) _
 have q1 : ∀ u : World, Calls Tryz.prog 23 #[s.la.v, s.la.v] u fun e w' => e = .returned (.bool true) ∧ Below u.heap.size u w' := fun u => (a5g s.la s.la u).mono (fun e w' ⟨h1, h2⟩ => ⟨by rw [h1, decide_eq_true rfl], by rw [h2]; exact a0c (a0c (Below.refl _ _) _) _⟩)
 have hf := h.f
 have hf' := h'.f
 have ht := h.t
 have ht' := h'.t
 have ho := h.o
 have ho' := h'.o
 obtain ⟨oa, oc, rfl, hol, hor⟩ := ho
 obtain ⟨oa', oc', rfl, _, hor'⟩ := ho'
 replace hol := a3f hol
 obtain ⟨fa, fc, rfl, hfl, hfr⟩ := hf
 obtain ⟨fa', fc', rfl, _, hfr'⟩ := hf'
 obtain ⟨ta, tc, rfl, htl, htr⟩ := ht
 obtain ⟨ta', tc', rfl, _, htr'⟩ := ht'
 replace hfl := a3f hfl
 replace htl := a3f htl
 obtain ⟨n1, hn1⟩ := exq (s.fr.length)
 obtain ⟨n2, hn2⟩ := exq (s.tb.length)
 obtain ⟨n3, hn3⟩ := exq (s.out.length)
 have hx : ∀ m, m < n1 → ∃ (b off b' off' : Nat) (x : Frm) (ra ra' : Option Addr) (rn rc rc' : Nat), fa = some ⟨b, off, none⟩ ∧ fa' = some ⟨b', off', none⟩ ∧ ∀ u, Below W.heap.size W u →
   (u.cell? ⟨b, off + m * 4, none⟩ = some (.int .i64 x.f) ∧ u.cell? ⟨b, off + m * 4 + 1, none⟩ = some (.int .i64 x.pc) ∧ u.cell? ⟨b, off + m * 4 + 2, none⟩ = some (.int .i64 x.d) ∧ u.cell? ⟨b, off + m * 4 + 3, none⟩ = some (.slice ra rn rc)) ∧
   (u.cell? ⟨b', off' + m * 4, none⟩ = some (.int .i64 x.f) ∧ u.cell? ⟨b', off' + m * 4 + 1, none⟩ = some (.int .i64 x.pc) ∧ u.cell? ⟨b', off' + m * 4 + 2, none⟩ = some (.int .i64 x.d) ∧ u.cell? ⟨b', off' + m * 4 + 3, none⟩ = some (.slice ra' rn rc')) ∧
   Calls Tryz.prog 27 #[.slice ra rn rc, .slice ra' rn rc'] u fun r w' => r = .returned (.bool true) ∧ Below u.heap.size u w' := fun m hm => by
  have hne : s.fr ≠ [] := by intro e; rw [e] at hn1; simp at hn1; omega
  obtain ⟨b, off, e, hb, hc⟩ := hfr hne
  obtain ⟨b', off', e', hb', hc'⟩ := hfr' hne
  have hxm : s.fr[m]? = some (s.fr[m]'(by omega)) := by simp
  obtain ⟨t0, t1, t2, rv, t3, hr⟩ := hc m _ hxm
  obtain ⟨t0', t1', t2', rv', t3', hr'⟩ := hc' m _ hxm
  have hv : ∀ u, Below W.heap.size W u → Calls Tryz.prog 27 #[rv, rv'] u _ := fun u hu => b7m rv rv' _ u (hr.at hu) (hr'.at hu)
  obtain ⟨ra, rc, rfl, _⟩ := hr
  obtain ⟨ra', rc', rfl, _⟩ := hr'
  exact ⟨b, off, b', off', _, ra, ra', _, rc, rc', e, e', fun u hu => ⟨⟨a0l hu t0, a0l hu t1, a0l hu t2, a0l hu t3⟩, ⟨a0l hu t0', a0l hu t1', a0l hu t2', a0l hu t3'⟩, hv u hu⟩⟩
 have hy : ∀ m, m < n2 → ∃ (b off b' off' : Nat) (ka ka' va va' : Option Addr) (kn kc kc' vn vc vc' : Nat), ta = some ⟨b, off, none⟩ ∧ ta' = some ⟨b', off', none⟩ ∧ (∀ u, Below W.heap.size W u →
   (u.cell? ⟨b, off + m * 2, none⟩ = some (.slice ka kn kc) ∧ u.cell? ⟨b, off + m * 2 + 1, none⟩ = some (.slice va vn vc)) ∧
   (u.cell? ⟨b', off' + m * 2, none⟩ = some (.slice ka' kn kc') ∧ u.cell? ⟨b', off' + m * 2 + 1, none⟩ = some (.slice va' vn vc'))) ∧
   (∀ u, Below W.heap.size W u → Calls Tryz.prog 28 #[.agg #[.slice ka kn kc, .slice va vn vc], .agg #[.slice ka' kn kc', .slice va' vn vc']] u fun r w' => r = .returned (.bool true) ∧ Below u.heap.size u w') := fun m hm => by
  have hne : s.tb ≠ [] := by intro e; rw [e] at hn2; simp at hn2; omega
  obtain ⟨b, off, e, hb, hc⟩ := htr hne
  obtain ⟨b', off', e', hb', hc'⟩ := htr' hne
  have hxm : s.tb[m]? = some (s.tb[m]'(by omega)) := by simp
  obtain ⟨kv, vv, t0, t1, hk, hv⟩ := hc m _ hxm
  obtain ⟨kv', vv', t0', t1', hk', hv'⟩ := hc' m _ hxm
  have hcp := hcap _ (List.mem_of_getElem? hxm)
  have hkk : ∀ u, Below W.heap.size W u → Calls Tryz.prog 28 #[.agg #[kv, vv], .agg #[kv', vv']] u _ := fun u hu => c0s kv vv kv' vv' _ _ u ⟨hk.at hu, hv.at hu⟩ ⟨hk'.at hu, hv'.at hu⟩ hcp.1 hcp.2
  obtain ⟨ka, kc, rfl, _⟩ := hk
  obtain ⟨ka', kc', rfl, _⟩ := hk'
  obtain ⟨va, vc, rfl, _⟩ := hv
  obtain ⟨va', vc', rfl, _⟩ := hv'
  exact ⟨b, off, b', off', ka, ka', va, va', _, kc, kc', _, vc, vc', e, e', fun u hu => ⟨⟨a0l hu t0, a0l hu t1⟩, ⟨a0l hu t0', a0l hu t1'⟩⟩, hkk⟩
 have hz : ∀ m, m < n3 → ∃ b off b' off' x, oa = some ⟨b, off, none⟩ ∧ oa' = some ⟨b', off', none⟩ ∧ ∀ u, Below W.heap.size W u → u.cell? ⟨b, off + m, none⟩ = some (.string x) ∧ u.cell? ⟨b', off' + m, none⟩ = some (.string x) := fun m hm => by
  have hne : s.out ≠ [] := by intro e; rw [e] at hn3; simp at hn3; omega
  obtain ⟨b, off, e, hb, hc⟩ := hor hne
  obtain ⟨b', off', e', hb', hc'⟩ := hor' hne
  have hxm : s.out[m]? = some (s.out[m]'(by omega)) := by simp
  exact ⟨b, off, b', off', _, e, e', fun u hu => ⟨(hu.cell (p := ⟨b, off + m, none⟩) hb).trans (hc m _ hxm), (hu.cell (p := ⟨b', off' + m, none⟩) hb').trans (hc' m _ hxm)⟩⟩
 rw [hn1] at hfl
 rw [hn2] at htl
 rw [hn3] at hol
 rw [hn1, hn2, hn3] at hw1 g0 g1 ⊢
 clear h h' hfr hfr' htr htr' hor hor' hn1 hn2 hn3 hcap
 have hC : ∀ u, Below w1.heap.size w1 u → u.cell? ⟨W.heap.size, 0, none⟩ = some (.slice fa n1 fc) ∧ u.cell? ⟨W.heap.size, 1, none⟩ = some (.slice ta n2 tc) ∧ u.cell? ⟨W.heap.size + 1, 0, none⟩ = some (.slice fa' n1 fc') ∧ u.cell? ⟨W.heap.size + 1, 1, none⟩ = some (.slice ta' n2 tc') := fun u hu => ⟨a0l hu (a0a g0 rfl), a0l hu (a0a g0 rfl), a0l hu (a0a g1 rfl), a0l hu (a0a g1 rfl)⟩
 have hO : ∀ u, Below w1.heap.size w1 u → u.cell? ⟨W.heap.size, 2, none⟩ = some (.slice oa n3 oc) ∧ u.cell? ⟨W.heap.size + 1, 2, none⟩ = some (.slice oa' n3 oc') := fun u hu => ⟨a0l hu (a0a g0 rfl), a0l hu (a0a g1 rfl)⟩
 obtain ⟨a0, a1, a2, a3, a4, a5, a6, a7, a8⟩ := nine g0
 obtain ⟨b0, b1, b2, b3, b4, b5, b6, b7, b8⟩ := nine g1
 replace q1 : Hid _ := q1
 replace hz : Hid _ := hz
 replace hx : Hid _ := hx
 replace hy : Hid _ := hy
 replace hC : Hid _ := hC
 replace hO : Hid _ := hO
 clear g0 g1
 go_enter Tryz.func10, Tryz.ntmps10
 go_wp2_with (go_at_call 23; refine (q1.out _).mono ?_; rintro e u2 ⟨rfl, hb2⟩; refine Hid.out ?_)
 refine Lib.hid ?_
 have hB0 := hb2
 clear a0 a1 a2 a3 a4 a5 a6 a7 a8 b0 b1 b2 b3 b4 b5 b6 b7 b8 hw1
 obtain ⟨e0, e1⟩ := hO.out u2 hB0
 obtain ⟨e2, e3, e4, e5⟩ := hC.out u2 hB0
 go_wp2
 go_loopw [5] (fun i wr => ∃ m : Nat, m ≤ n1 ∧ i = .int .i64 m ∧ Below w1.heap.size w1 wr) (fun i _ => n1 - (intOf i).toNat)
 case atStart => exact ⟨0, Nat.zero_le _, rfl, hB0⟩
 case round =>
  clear hb2 hB0 e0 e1 e2 e3 e4 e5
  obtain ⟨m, hm, rfl, hb⟩ := hrel
  obtain ⟨c0, c1, c2, c3⟩ := hC.out wr hb
  by_cases hlt : m < n1
  ·obtain ⟨b, off, b', off', x, ra, ra', rn, rc, rc', rfl, rfl, hT⟩ := hx.out m hlt
   obtain ⟨v1, hv1⟩ := exq (wr.alloc (.cells #[.int .i64 x.f, .int .i64 x.pc, .int .i64 x.d, .slice ra rn rc] 50))
   have F1 : Below w1.heap.size w1 v1 := by rw [← hv1]; exact a0c hb _
   have k1 : v1.heap[wr.heap.size]? = some (.cells #[.int .i64 x.f, .int .i64 x.pc, .int .i64 x.d, .slice ra rn rc] 50) := by rw [← hv1]; exact a0h _ _
   obtain ⟨v2, hv2⟩ := exq (v1.alloc (.cells #[.int .i64 x.f, .int .i64 x.pc, .int .i64 x.d, .slice ra' rn rc'] 50))
   have F2 : Below w1.heap.size w1 v2 := by rw [← hv2]; exact a0c F1 _
   have k2 : v2.heap[v1.heap.size]? = some (.cells #[.int .i64 x.f, .int .i64 x.pc, .int .i64 x.d, .slice ra' rn rc'] 50) := by rw [← hv2]; exact a0h _ _
   have k1' : v2.heap[wr.heap.size]? = some (.cells #[.int .i64 x.f, .int .i64 x.pc, .int .i64 x.d, .slice ra rn rc] 50) := by rw [← hv2]; exact a0j (a0c (Below.refl _ _) _) k1
   obtain ⟨⟨t0, t1, t2, t3⟩, _, _⟩ := hT wr (a0b E1 hb)
   obtain ⟨_, ⟨t0', t1', t2', t3'⟩, _⟩ := hT v1 (a0b E1 F1)
   obtain ⟨_, _, hcall⟩ := hT v2 (a0b E1 F2)
   obtain ⟨d0, d1, d2, d3⟩ := hC.out v1 F1
   obtain ⟨f0, f1, f2, f3⟩ := four k1'
   obtain ⟨h0, h1, h2, h3⟩ := four k2
   clear hT k1 k2 k1'
   go_wp2_with (go_at_call 27; refine hcall.mono ?_; rintro e v3 ⟨rfl, hb3⟩)
   go_roundw
   case rel => exact ⟨m + 1, hlt, by simp, a0b F2 hb3⟩
   case measure => simp [intOf]; omega
  ·obtain rfl : m = n1 := by omega
   go_wp2
   clear c0 c1 c2 c3
   go_loopw [8] (fun i wr => ∃ m : Nat, m ≤ n2 ∧ i = .int .i64 m ∧ Below w1.heap.size w1 wr) (fun i _ => n2 - (intOf i).toNat)
   case atStart => exact ⟨0, Nat.zero_le _, rfl, hb⟩
   case round =>
    clear hb
    obtain ⟨m, hm, rfl, hb⟩ := hrel
    obtain ⟨c0, c1, c2, c3⟩ := hC.out wr hb
    by_cases hlt : m < n2
    ·obtain ⟨b, off, b', off', ka, ka', va, va', kn, kc, kc', vn, vc, vc', rfl, rfl, hT, hK⟩ := hy.out m hlt
     replace hT : Hid _ := hT
     replace hK : Hid _ := hK
     go_wp2
     refine a1e (Below w1.heap.size w1) (by kernel_rfl) (by kernel_rfl) (a0i hb) ?_
     repeat (first
      | go_big_quiet_skip
      | (
       apply a0t
       ·kernel_rfl
       ·intro u hu
        obtain ⟨⟨_, _⟩, _, _⟩ := hT.out u (a0b E1 hu)
        obtain ⟨_, _, _, _⟩ := hC.out u hu
        go_simp
        first | (go_at_call 28; refine (hK.out u (a0b E1 hu)).mono ?_; rintro e w2 ⟨rfl, hb2⟩; exact ⟨rfl, a0b hu hb2⟩) | with_reducible rfl | skip
       simp only [Act.put, List.setIfInBounds_toArray, List.set_cons_zero, List.set_cons_succ]))
     refine wpQuiet_nil (fun w2 hb2 => ?_)
     go_wp2
     go_roundw
     case rel => exact ⟨m + 1, hlt, by simp, hb2⟩
     case measure => simp [intOf]; omega
    ·obtain rfl : m = n2 := by omega
     go_wp2
     clear c0 c1 c2 c3
     go_loopw [9] (fun i wr => ∃ m : Nat, m ≤ n3 ∧ i = .int .i64 m ∧ Below w1.heap.size w1 wr) (fun i _ => n3 - (intOf i).toNat)
     case atStart => exact ⟨0, Nat.zero_le _, rfl, hb⟩
     case round =>
      clear hb
      obtain ⟨m, hm, rfl, hb⟩ := hrel
      obtain ⟨c0, c1⟩ := hO.out wr hb
      by_cases hlt : m < n3
      ·obtain ⟨b, off, b', off', x, rfl, rfl, hT⟩ := hz.out m hlt
       replace hT : Hid _ := hT
       go_wp2
       refine a1e (Below w1.heap.size w1) (by kernel_rfl) (by kernel_rfl) (a0i hb) ?_
       repeat (first
        | go_big_quiet_skip
        | (
         apply a0t
         ·kernel_rfl
         ·intro u hu
          obtain ⟨_, _⟩ := hT.out u (a0b E1 hu)
          obtain ⟨_, _⟩ := hO.out u hu
          go_simp
          first | with_reducible rfl | skip
         simp only [Act.put, List.setIfInBounds_toArray, List.set_cons_zero, List.set_cons_succ]))
       refine wpQuiet_nil (fun w2 hb2 => ?_)
       go_wp2
       go_roundw
       case rel => exact ⟨m + 1, hlt, by simp, hb2⟩
       case measure => simp [intOf]; omega
      ·obtain rfl : m = n3 := by omega
       go_wp2
       go_ret
       exact ⟨rfl, a0b E1 hb⟩
end
end Go.Proofs.YthpgbienakcbeaaGreatDoor
