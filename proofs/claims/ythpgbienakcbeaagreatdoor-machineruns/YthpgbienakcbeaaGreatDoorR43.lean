/- machine.May's questions of frames, of tables, of what was told, of the end. -/
import Derived.Test.YthpgbienakcbeaaGreatDoorR38
import Derived.Test.YthpgbienakcbeaaGreatDoorR28
namespace Go.Proofs.YthpgbienakcbeaaGreatDoor
open Go.RowKit Go
set_option maxRecDepth 100000
set_option maxHeartbeats 8000000
set_option linter.all false
section
variable [DecidableEq Vl]
structure MIn (W : World) (M : Nat) (ca : Option Addr) (cc : Nat) (fs : List Fd) (mn : Int) (fv tv ov : Value) (s : St) : Prop where
 box : W.heap[M]? = some (.cells #[.slice ca fs.length cc, .int .i64 mn, fv, tv, ov, .int .i64 s.st, .int .i64 s.en, .int .i64 s.er, .int .i64 s.la.k, .int .i64 s.la.n, .string s.la.s] 46)
 si : StIn W.heap.size W fv tv ov s
 rf : RowF W.heap.size W ca fs
theorem RowF.at {W V : World} {a : Option Addr} {fs : List Fd} (h : RowF W.heap.size W a fs) (hb : Below W.heap.size W V) : RowF V.heap.size V a fs := (h.below hb).mono hb.size
theorem MIn.on {W V : World} {M : Nat} {ca : Option Addr} {cc : Nat} {fs : List Fd} {mn : Int} {fv tv ov : Value} {s : St} (h : MIn W M ca cc fs mn fv tv ov s) (hb : Below W.heap.size W V) : MIn V M ca cc fs mn fv tv ov s :=
 ⟨blk_below hb h.box, h.si.at hb, h.rf.at hb⟩
theorem MIn.mat {W : World} {M : Nat} {ca : Option Addr} {cc : Nat} {fs : List Fd} {mn : Int} {fv tv ov : Value} {s : St} (h : MIn W M ca cc fs mn fv tv ov s) : ∃ ta tc, tv = .slice ta s.tb.length tc ∧ MAt W M ca fs.length cc ta s.tb.length tc := by
 obtain ⟨ta, tc, e, _⟩ := h.si.t
 subst e
 exact ⟨ta, tc, rfl, cell_block h.box rfl, cell_block h.box rfl⟩
def frsB (fs : List Fd) (nt : Nat) : Int → List Frm → Bool
 | _, [] => true
 | d, x :: l => belB x.d d && fmB fs nt x && frsB fs nt x.rs.length l
theorem mframes_any {W : World} {M : Nat} {ca : Option Addr} {cc : Nat} {fs : List Fd} {mn : Int} {fv tv ov : Value} {s : St} (h : MIn W M ca cc fs mn fv tv ov s) :
  Calls Tryz.prog 16 #[.pointer (some ⟨M, 0, none⟩)] W fun r w' => r = .returned (.bool (frB 1 s.fr.length 40 && frsB fs s.tb.length 1 s.fr)) ∧ Below W.heap.size W w' := by
 obtain ⟨ta, tc, rfl, hA⟩ := h.mat
 obtain ⟨fa, fc, rfl, hlen, hrow⟩ := h.si.f
 replace hlen := le_lit hlen
 have hfr : ∀ u, Below W.heap.size W u → ∀ (x : Frm) (rv : Value), Row u.heap.size u rv x.rs → Calls Tryz.prog 42 #[.pointer (some ⟨M, 0, none⟩), .agg #[.int .i64 x.f, .int .i64 x.pc, .int .i64 x.d, rv]] u _ := fun u hu x rv hr => mframe_any x rv M fs cc s.tb.length tc ca ta u (hA.on hu) (h.rf.at hu) hr
 have c2 : W.cell? ⟨M, 2, none⟩ = some (.slice fa s.fr.length fc) := cell_block h.box rfl
 obtain ⟨xs, hxs⟩ : ∃ xs, s.fr = xs := ⟨_, rfl⟩
 obtain ⟨nt, hnt⟩ : ∃ nt, s.tb.length = nt := ⟨_, rfl⟩
 rw [hxs] at hrow hlen c2 ⊢
 rw [hnt] at hfr ⊢
 clear h hA hxs hnt
 have hq := fun w => mfrom_any 1 xs.length 40 w
 cases h1 : frB 1 xs.length 40
 ·rw [h1] at hq
  replace hq : Hid _ := hq
  go_enter Tryz.func16, Tryz.ntmps16
  go_wp2_with (go_at_call 29; refine (hq.out _).mono ?_; rintro e w' ⟨rfl, hw'⟩; subst w')
  go_ret
  exact ⟨rfl, Below.refl _ _⟩
 ·rw [h1] at hq
  rw [Bool.true_and]
  replace hq : Hid _ := hq
  replace hfr : Hid _ := hfr
  obtain ⟨ans, hans⟩ : ∃ ans, frsB fs nt 1 xs = ans := ⟨_, rfl⟩
  rw [hans]
  replace hans : Hid _ := hans
  go_enter Tryz.func16, Tryz.ntmps16
  go_wp2_with (go_at_call 29; refine (hq.out _).mono ?_; rintro e w' ⟨rfl, hw'⟩; subst w')
  go_loopw [3, 20] (fun d i wr => ∃ (m : Nat) (D : Int), m ≤ xs.length ∧ i = .int .i64 m ∧ d = .int .i64 D ∧ Hid (frsB fs nt D (xs.drop m) = ans) ∧ Below W.heap.size W wr) (fun _ i _ => xs.length - (intOf i).toNat)
  case atStart => exact ⟨0, 1, Nat.zero_le _, rfl, rfl, hans, Below.refl _ _⟩
  case round =>
   obtain ⟨m, D, hm, rfl, rfl, hG, hb⟩ := hrel
   by_cases hlt : m < xs.length
   ·obtain ⟨x, hx⟩ : ∃ x, xs[m]? = some x := ⟨xs[m], by simp [hlt]⟩
    obtain ⟨b, off, rfl, hbl, hel⟩ := hrow (by intro e; subst e; simp at hlt)
    obtain ⟨t0, t1, t2, rv, t3, hR⟩ := (hel m x hx).below hb hbl
    have hd : xs.drop m = x :: xs.drop (m + 1) := by rw [List.drop_eq_getElem_cons hlt]; congr 1; rw [List.getElem?_eq_getElem hlt] at hx; exact Option.some.inj hx
    have hR' : Row wr.heap.size wr rv x.rs := row_mono hb.size hR
    obtain ⟨ra, rc, rfl, _, _⟩ := hR
    have hk : ∀ u, Below wr.heap.size wr u → Calls Tryz.prog 42 #[.pointer (some ⟨M, 0, none⟩), .agg #[.int .i64 x.f, .int .i64 x.pc, .int .i64 x.d, .slice ra x.rs.length rc]] u _ := fun u hu => hfr.out u (ext_trans hb hu) x _ (hR'.at hu)
    have hz := fun w => mbelow_any x.d D w
    rw [hd, frsB] at hG
    obtain ⟨nr, hnr⟩ : ∃ n, x.rs.length = n := ⟨_, rfl⟩
    rw [hnr] at hk hG t3
    clear hx hrow hel hd hR' hnr
    obtain ⟨w1, hw1⟩ : ∃ w1, wr.alloc (.cells #[.int .i64 x.f, .int .i64 x.pc, .int .i64 x.d, .slice ra nr rc] 50) = w1 := ⟨_, rfl⟩
    have E1 : Below wr.heap.size wr w1 := by rw [← hw1]; exact ext_alloc (Below.refl _ _) _
    have g1 : w1.heap[wr.heap.size]? = some (.cells #[.int .i64 x.f, .int .i64 x.pc, .int .i64 x.d, .slice ra nr rc] 50) := by rw [← hw1]; exact heap_new _ _
    obtain ⟨a0, a1, a2, a3⟩ := four g1
    replace hk := hk w1 E1
    cases e1 : belB x.d D
    ·rw [e1] at hz hG
     replace hz : Hid _ := hz
     clear hk
     go_wp2_with (go_at_call 41; refine (hz.out _).mono ?_; rintro e w' ⟨rfl, hw'⟩; subst w')
     go_ret
     exact ⟨by rw [← hG.out]; rfl, ext_trans hb E1⟩
    ·rw [e1] at hz hG
     replace hz : Hid _ := hz
     cases e2 : fmB fs nt x
     ·rw [e2] at hk hG
      go_wp2_with (first | (go_at_call 41; refine (hz.out _).mono ?_; rintro e w' ⟨rfl, hw'⟩; subst w') | (go_at_call 42; refine hk.mono ?_; rintro e w3 ⟨rfl, hb3⟩))
      go_ret
      exact ⟨by rw [← hG.out]; rfl, ext_trans hb (ext_trans E1 hb3)⟩
     ·rw [e2] at hk hG
      go_wp2_with (first | (go_at_call 41; refine (hz.out _).mono ?_; rintro e w' ⟨rfl, hw'⟩; subst w') | (go_at_call 42; refine hk.mono ?_; rintro e w3 ⟨rfl, hb3⟩; have a3 := cellB hb3 a3))
      go_roundw
      case rel => exact ⟨m + 1, _, hlt, by simp, rfl, hG.out, ext_trans hb (ext_trans E1 hb3)⟩
      case measure => simp [intOf]; omega
   ·obtain rfl : m = xs.length := by omega
    rw [List.drop_length, frsB] at hG
    go_wp2
    go_ret
    exact ⟨by rw [← hG.out]; rfl, hb⟩
def tB (nt nf : Nat) (t : Tb) : Bool := mayT t.ks t.vs && allB (fun _ => vB nt nf) t.ks && allB (fun _ => vB nt nf) t.vs
theorem mtables_any {W : World} {M : Nat} {ca : Option Addr} {cc : Nat} {fs : List Fd} {mn : Int} {fv tv ov : Value} {s : St} (h : MIn W M ca cc fs mn fv tv ov s) :
  Calls Tryz.prog 17 #[.pointer (some ⟨M, 0, none⟩)] W fun r w' => r = .returned (.bool (decide ((s.tb.length : Int) ≤ 200) && allB (fun _ => tB s.tb.length fs.length) s.tb)) ∧ Below W.heap.size W w' := by
 obtain ⟨ta, tc, rfl, hA⟩ := h.mat
 obtain ⟨ta', tc', e, hlen, hrow⟩ := h.si.t
 obtain ⟨rfl, rfl⟩ : ta = ta' ∧ tc = tc' := by simpa using e
 clear e
 replace hlen := le_lit hlen
 have hal : ∀ u, Below W.heap.size W u → ∀ (sv : Value) (ys : List Vl), Row u.heap.size u sv ys → Calls Tryz.prog 44 #[.pointer (some ⟨M, 0, none⟩), sv] u _ := fun u hu sv ys hr => mall_any sv ys M fs.length cc s.tb.length tc ca ta u (hA.on hu) hr
 have c3 : W.cell? ⟨M, 3, none⟩ = some (.slice ta s.tb.length tc) := cell_block h.box rfl
 obtain ⟨xs, hxs⟩ : ∃ xs, s.tb = xs := ⟨_, rfl⟩
 obtain ⟨nf, hnf⟩ : ∃ nf, fs.length = nf := ⟨_, rfl⟩
 rw [hxs] at hrow hlen c3 hal ⊢
 rw [hnf] at hal ⊢
 clear h hA hxs hnf
 cases h1 : decide ((200 : Int) < xs.length)
 ·rw [show decide ((xs.length : Int) ≤ 200) = true by simp at h1 ⊢; omega, Bool.true_and]
  replace hal : Hid _ := hal
  obtain ⟨ans, hans⟩ : ∃ ans, allB (fun _ => tB xs.length nf) xs = ans := ⟨_, rfl⟩
  rw [hans]
  replace hans : Hid _ := hans
  go_enter Tryz.func17, Tryz.ntmps17
  go_wp2
  go_loopw [18] (fun i wr => ∃ m : Nat, m ≤ xs.length ∧ i = .int .i64 m ∧ Hid (AllTo (fun _ => tB xs.length nf) xs m) ∧ Below W.heap.size W wr) (fun i _ => xs.length - (intOf i).toNat)
  case atStart => exact ⟨0, Nat.zero_le _, rfl, AllTo.zero, Below.refl _ _⟩
  case round =>
   obtain ⟨m, hm, rfl, hG, hb⟩ := hrel
   by_cases hlt : m < xs.length
   ·obtain ⟨x, hx⟩ : ∃ x, xs[m]? = some x := ⟨xs[m], by simp [hlt]⟩
    obtain ⟨b, off, rfl, hbl, hel⟩ := hrow (by intro e; subst e; simp at hlt)
    obtain ⟨kv, vv, t0, t1, hK, hV⟩ := (hel m x hx).below hb hbl
    have hbad : tB xs.length nf x = false → Hid (allB (fun _ => tB xs.length nf) xs = false) := fun h => allB_false hx h
    have hnext : tB xs.length nf x = true → Hid (AllTo (fun _ => tB xs.length nf) xs (m + 1)) := fun h => AllTo.next hx h hG.out
    replace hbad : Hid _ := hbad
    replace hnext : Hid _ := hnext
    have hK' : Row wr.heap.size wr kv x.ks := row_mono hb.size hK
    have hV' : Row wr.heap.size wr vv x.vs := row_mono hb.size hV
    obtain ⟨ka, kc, rfl, _, _⟩ := hK
    obtain ⟨va, vc, rfl, _, _⟩ := hV
    have q1 : ∀ u, Below wr.heap.size wr u → Calls Tryz.prog 43 #[.agg #[.slice ka x.ks.length kc, .slice va x.vs.length vc]] u _ := fun u hu => tmay_any _ _ x.ks x.vs u ⟨hK'.at hu, hV'.at hu⟩
    have q2 : ∀ u, Below wr.heap.size wr u → Calls Tryz.prog 44 #[.pointer (some ⟨M, 0, none⟩), .slice ka x.ks.length kc] u _ := fun u hu => hal.out u (ext_trans hb hu) _ _ (hK'.at hu)
    have q3 : ∀ u, Below wr.heap.size wr u → Calls Tryz.prog 44 #[.pointer (some ⟨M, 0, none⟩), .slice va x.vs.length vc] u _ := fun u hu => hal.out u (ext_trans hb hu) _ _ (hV'.at hu)
    obtain ⟨kn, hkn⟩ : ∃ n, x.ks.length = n := ⟨_, rfl⟩
    obtain ⟨vn, hvn⟩ : ∃ n, x.vs.length = n := ⟨_, rfl⟩
    rw [hkn] at q1 q2 t0
    rw [hvn] at q1 q3 t1
    clear hx hG hrow hel hK' hV' hkn hvn
    obtain ⟨w1, hw1⟩ : ∃ w1, wr.alloc (.cells #[.slice ka kn kc, .slice va vn vc] 57) = w1 := ⟨_, rfl⟩
    have E1 : Below wr.heap.size wr w1 := by rw [← hw1]; exact ext_alloc (Below.refl _ _) _
    have g1 : w1.heap[wr.heap.size]? = some (.cells #[.slice ka kn kc, .slice va vn vc] 57) := by rw [← hw1]; exact heap_new _ _
    have a0 : w1.cell? ⟨wr.heap.size, 0, none⟩ = some (.slice ka kn kc) := cell_block g1 rfl
    have a1 : w1.cell? ⟨wr.heap.size, 1, none⟩ = some (.slice va vn vc) := cell_block g1 rfl
    cases e1 : mayT x.ks x.vs
    ·rw [e1] at q1
     replace q1 : Hid _ := q1
     replace e1 : Hid _ := e1
     clear q2 q3
     go_wp2_with (go_at_call 43; refine (q1.out _ E1).mono ?_; rintro e w2 ⟨rfl, hb2⟩)
     go_ret
     exact ⟨by rw [← hans.out, (hbad.out (by simp [tB, e1.out])).out]; rfl, ext_trans hb (ext_trans E1 hb2)⟩
    ·rw [e1] at q1
     replace q1 : Hid _ := q1
     replace e1 : Hid _ := e1
     cases e2 : allB (fun _ => vB xs.length nf) x.ks
     ·rw [e2] at q2
      replace q2 : Hid _ := q2
      replace e2 : Hid _ := e2
      clear q3
      go_wp2_with (first | (go_at_call 43; refine (q1.out _ E1).mono ?_; rintro e w2 ⟨rfl, hb2⟩; have b0 := cellB hb2 a0) | (go_at_call 44; refine (q2.out _ (ext_trans E1 hb2)).mono ?_; rintro e w3 ⟨rfl, hb3⟩))
      go_ret
      exact ⟨by rw [← hans.out, (hbad.out (by simp [tB, e1.out, e2.out])).out]; rfl, ext_trans hb (ext_trans E1 (ext_trans hb2 hb3))⟩
     ·rw [e2] at q2
      replace q2 : Hid _ := q2
      replace e2 : Hid _ := e2
      cases e3 : allB (fun _ => vB xs.length nf) x.vs
      ·rw [e3] at q3
       replace q3 : Hid _ := q3
       replace e3 : Hid _ := e3
       go_wp2_with (first | (go_at_call 43; refine (q1.out _ E1).mono ?_; rintro e w2 ⟨rfl, hb2⟩; have b0 := cellB hb2 a0; have b1 := cellB hb2 a1) | (go_at_call_of 44 ka; refine (q2.out w2 (ext_trans E1 hb2)).mono ?_; rintro e w3 ⟨rfl, hb3⟩; have b1 := cellB hb3 b1) | (go_at_call_of 44 va; refine (q3.out _ (ext_trans E1 (ext_trans hb2 hb3))).mono ?_; rintro e w4 ⟨rfl, hb4⟩))
       go_ret
       exact ⟨by rw [← hans.out, (hbad.out (by simp [tB, e1.out, e2.out, e3.out])).out]; rfl, ext_trans hb (ext_trans E1 (ext_trans hb2 (ext_trans hb3 hb4)))⟩
      ·rw [e3] at q3
       replace q3 : Hid _ := q3
       replace e3 : Hid _ := e3
       go_wp2_with (first | (go_at_call 43; refine (q1.out _ E1).mono ?_; rintro e w2 ⟨rfl, hb2⟩; have b0 := cellB hb2 a0; have b1 := cellB hb2 a1) | (go_at_call_of 44 ka; refine (q2.out w2 (ext_trans E1 hb2)).mono ?_; rintro e w3 ⟨rfl, hb3⟩; have b1 := cellB hb3 b1) | (go_at_call_of 44 va; refine (q3.out _ (ext_trans E1 (ext_trans hb2 hb3))).mono ?_; rintro e w4 ⟨rfl, hb4⟩))
       go_roundw
       case rel => exact ⟨m + 1, hlt, by simp, hnext.out (by simp [tB, e1.out, e2.out, e3.out]), ext_trans hb (ext_trans E1 (ext_trans hb2 (ext_trans hb3 hb4)))⟩
       case measure => simp [intOf]; omega
   ·obtain rfl : m = xs.length := by omega
    go_wp2
    go_ret
    exact ⟨by rw [← hans.out, allB_true hG.out]; rfl, hb⟩
 ·rw [show decide ((xs.length : Int) ≤ 200) = false by simp at h1 ⊢; omega, Bool.false_and]
  go_enter Tryz.func17, Tryz.ntmps17
  go_wp2
  go_ret
  exact ⟨rfl, Below.refl _ _⟩
def toldB (s : St) : Bool := frB 0 s.st 60000 && decide ((s.out.length : Int) ≤ s.st) && allB (fun _ t => decide ((t.size : Int) ≤ 300)) s.out
theorem mtold_any {W : World} {M : Nat} {ca : Option Addr} {cc : Nat} {fs : List Fd} {mn : Int} {fv tv ov : Value} {s : St} (h : MIn W M ca cc fs mn fv tv ov s) :
  Calls Tryz.prog 18 #[.pointer (some ⟨M, 0, none⟩)] W fun r w' => r = .returned (.bool (toldB s)) ∧ Below W.heap.size W w' := by
 obtain ⟨oa, oc, rfl, hlen, hrow⟩ := h.si.o
 replace hlen := le_lit hlen
 have hC : ∀ u, Below W.heap.size W u → u.cell? ⟨M, 4, none⟩ = some (.slice oa s.out.length oc) ∧ u.cell? ⟨M, 5, none⟩ = some (.int .i64 s.st) := fun u hu => ⟨cellB hu (cell_block h.box rfl), cellB hu (cell_block h.box rfl)⟩
 obtain ⟨xs, hxs⟩ : ∃ xs, s.out = xs := ⟨_, rfl⟩
 obtain ⟨st, hst⟩ : ∃ st, s.st = st := ⟨_, rfl⟩
 unfold toldB
 rw [hxs] at hrow hlen hC ⊢
 rw [hst] at hC ⊢
 clear h hxs hst
 have hq := fun w => mfrom_any 0 st 60000 w
 replace hC : Hid _ := hC
 cases h1 : frB 0 st 60000
 ·rw [h1] at hq
  replace hq : Hid _ := hq
  go_enter Tryz.func18, Tryz.ntmps18
  go_wp2
  refine wp_quiet (Below W.heap.size W) (by kernel_rfl) (by kernel_rfl) (Below.refl _ _).drew ?_
  repeat (first
   | go_big_quiet_skip
   | (
    apply quiet_want
    ·kernel_rfl
    ·intro u hu
     obtain ⟨_, _⟩ := hC.out u hu
     go_simp
     first | (go_at_call 29; refine (hq.out u).mono ?_; rintro e w2 ⟨rfl, rfl⟩; exact ⟨rfl, hu⟩) | with_reducible rfl | skip
    simp only [Act.put, List.setIfInBounds_toArray, List.set_cons_zero, List.set_cons_succ]))
  refine wpQuiet_nil (fun w2 hb2 => ?_)
  go_wp2
  go_ret
  exact ⟨rfl, hb2⟩
 ·rw [h1] at hq
  replace hq : Hid _ := hq
  cases h2 : decide (st < (xs.length : Int))
  ·rw [show decide ((xs.length : Int) ≤ st) = true by simp at h2 ⊢; omega, Bool.true_and, Bool.true_and]
   obtain ⟨ans, hans⟩ : ∃ ans, allB (fun _ (t : ByteArray) => decide ((t.size : Int) ≤ 300)) xs = ans := ⟨_, rfl⟩
   rw [hans]
   replace hans : Hid _ := hans
   go_enter Tryz.func18, Tryz.ntmps18
   go_wp2
   refine wp_quiet (Below W.heap.size W) (by kernel_rfl) (by kernel_rfl) (Below.refl _ _).drew ?_
   repeat (first
    | go_big_quiet_skip
    | (
     apply quiet_want
     ·kernel_rfl
     ·intro u hu
      obtain ⟨_, _⟩ := hC.out u hu
      go_simp
      first | (go_at_call 29; refine (hq.out u).mono ?_; rintro e w2 ⟨rfl, rfl⟩; exact ⟨rfl, hu⟩) | with_reducible rfl | skip
     simp only [Act.put, List.setIfInBounds_toArray, List.set_cons_zero, List.set_cons_succ]))
   refine wpQuiet_nil (fun w2 hb2 => ?_)
   obtain ⟨_, _⟩ := hC.out w2 hb2
   go_wp2
   go_loopw [32] (fun i wr => ∃ m : Nat, m ≤ xs.length ∧ i = .int .i64 m ∧ Hid (AllTo (fun _ (t : ByteArray) => decide ((t.size : Int) ≤ 300)) xs m) ∧ Below W.heap.size W wr) (fun i _ => xs.length - (intOf i).toNat)
   case atStart => exact ⟨0, Nat.zero_le _, rfl, AllTo.zero, hb2⟩
   case round =>
    obtain ⟨m, hm, rfl, hG, hb⟩ := hrel
    by_cases hlt : m < xs.length
    ·obtain ⟨x, hx⟩ : ∃ x, xs[m]? = some x := ⟨xs[m], by simp [hlt]⟩
     obtain ⟨b, off, rfl, hbl, hel⟩ := hrow (by intro e; subst e; simp at hlt)
     have t0 : wr.cell? ⟨b, off + m, none⟩ = some (.string x) := (hb.cell (p := ⟨b, off + m, none⟩) hbl).trans (hel m x hx)
     have hbad : decide ((x.size : Int) ≤ 300) = false → Hid (allB (fun _ (t : ByteArray) => decide ((t.size : Int) ≤ 300)) xs = false) := fun h => allB_false hx h
     have hnext : decide ((x.size : Int) ≤ 300) = true → Hid (AllTo (fun _ (t : ByteArray) => decide ((t.size : Int) ≤ 300)) xs (m + 1)) := fun h => AllTo.next (p := fun _ (t : ByteArray) => decide ((t.size : Int) ≤ 300)) hx h hG.out
     replace hbad : Hid _ := hbad
     replace hnext : Hid _ := hnext
     clear hx hG hrow hel
     by_cases h3 : (300 : Int) < x.size
     ·go_wp2
      go_ret
      exact ⟨by rw [← hans.out, (hbad.out (by simp; omega)).out]; rfl, hb⟩
     ·go_wp2
      go_roundw
      case rel => exact ⟨m + 1, hlt, by simp, hnext.out (by simp; omega), hb⟩
      case measure => simp [intOf]; omega
    ·obtain rfl : m = xs.length := by omega
     go_wp2
     go_ret
     exact ⟨by rw [← hans.out, allB_true hG.out]; rfl, hb⟩
  ·rw [show decide ((xs.length : Int) ≤ st) = false by simp at h2 ⊢; omega, Bool.and_false, Bool.false_and]
   go_enter Tryz.func18, Tryz.ntmps18
   go_wp2
   refine wp_quiet (Below W.heap.size W) (by kernel_rfl) (by kernel_rfl) (Below.refl _ _).drew ?_
   repeat (first
    | go_big_quiet_skip
    | (
     apply quiet_want
     ·kernel_rfl
     ·intro u hu
      obtain ⟨_, _⟩ := hC.out u hu
      go_simp
      first | (go_at_call 29; refine (hq.out u).mono ?_; rintro e w2 ⟨rfl, rfl⟩; exact ⟨rfl, hu⟩) | with_reducible rfl | skip
     simp only [Act.put, List.setIfInBounds_toArray, List.set_cons_zero, List.set_cons_succ]))
   refine wpQuiet_nil (fun w2 hb2 => ?_)
   go_wp2
   go_ret
   exact ⟨rfl, hb2⟩
def nzB (v : Vl) : Bool := v.k == 0 && (v.n == 0 && v.s.toList == [])
theorem nzB_iff {v : Vl} : nzB v = true ↔ v = nilV := by
 constructor
 ·intro h
  simp only [nzB, Bool.and_eq_true, beq_iff_eq] at h
  obtain ⟨h1, h2, h3⟩ := h
  cases v
  simp only at h1 h2 h3
  subst h1 h2
  have := ext_bytes (a := _) (b := (⟨#[]⟩ : ByteArray)) (by rw [h3]; simp [ByteArray.toList_eq])
  subst this
  rfl
 ·rintro rfl
  simp [nzB, nilV, ByteArray.toList_eq]
theorem eqnil (v : Vl) (w : World) : (binOp .eql 30 (.agg #[.int .i64 v.k, .int .i64 v.n, .string v.s]) (.agg #[.int .i64 0, .int .i64 0, .string ⟨#[]⟩])).run Tryz.prog w = .ok (.bool (nzB v)) w := by
 simp [go_sem]
 unfold nzB
 by_cases h1 : v.k = 0
 ·by_cases h2 : v.n = 0
  ·by_cases h3 : v.s.toList = []
   ·simp [h1, h2, h3]
   ·simp [h1, h2, h3]
  ·simp [h1, h2]
 ·simp [h1]
def endB (nt nf : Nat) (s : St) : Bool := if s.en = 0 then s.er == 0 && nzB s.la else if s.en = 1 then s.er == 0 && vB nt nf s.la else if s.en = 2 then failB s.er && nzB s.la else false
theorem mend_any {W : World} {M : Nat} {ca : Option Addr} {cc : Nat} {fs : List Fd} {mn : Int} {fv tv ov : Value} {s : St} (h : MIn W M ca cc fs mn fv tv ov s) :
  Calls Tryz.prog 19 #[.pointer (some ⟨M, 0, none⟩)] W fun r w' => r = .returned (.bool (endB s.tb.length fs.length s)) ∧ Below W.heap.size W w' := by
 obtain ⟨ta, tc, rfl, hA⟩ := h.mat
 have hv := fun u hu => mval_any s.la M fs.length cc s.tb.length tc ca ta u (hA.on hu)
 have hf := fun w => mfail_any s.er w
 have c6 : W.cell? ⟨M, 6, none⟩ = some (.int .i64 s.en) := cell_block h.box rfl
 have c7 : W.cell? ⟨M, 7, none⟩ = some (.int .i64 s.er) := cell_block h.box rfl
 have c8 : W.cell? ⟨M, 8, none⟩ = some (.int .i64 s.la.k) := cell_block h.box rfl
 have c9 : W.cell? ⟨M, 9, none⟩ = some (.int .i64 s.la.n) := cell_block h.box rfl
 have c10 : W.cell? ⟨M, 10, none⟩ = some (.string s.la.s) := cell_block h.box rfl
 have heq := eqnil s.la
 unfold endB
 obtain ⟨en, hen⟩ : ∃ en, s.en = en := ⟨_, rfl⟩
 obtain ⟨er, her⟩ : ∃ er, s.er = er := ⟨_, rfl⟩
 obtain ⟨B1, hB1⟩ : ∃ B, vB s.tb.length fs.length s.la = B := ⟨_, rfl⟩
 obtain ⟨B2, hB2⟩ : ∃ B, nzB s.la = B := ⟨_, rfl⟩
 obtain ⟨B3, hB3⟩ : ∃ B, failB s.er = B := ⟨_, rfl⟩
 rw [hB1] at hv ⊢
 rw [hB2] at heq ⊢
 rw [hB3] at hf ⊢
 rw [hen] at c6 ⊢
 rw [her] at c7 hf ⊢
 clear h hA hen her hB1 hB2 hB3
 replace hv : Hid _ := hv
 replace hf : Hid _ := hf
 cases h0 : (en == 0)
 ·have e0 : ¬ en = 0 := by simpa using h0
  rw [if_neg e0]
  clear e0
  cases h1 : (en == 1)
  ·have e1 : ¬ en = 1 := by simpa using h1
   rw [if_neg e1]
   clear e1
   cases h2 : (en == 2)
   ·have e2 : ¬ en = 2 := by simpa using h2
    rw [if_neg e2]
    clear e2
    go_enter Tryz.func19, Tryz.ntmps19
    go_wp2
    go_ret
    exact ⟨rfl, Below.refl _ _⟩
   ·have e2 : en = 2 := by simpa using h2
    rw [if_pos e2]
    clear e2
    cases B3
    all_goals
     go_enter Tryz.func19, Tryz.ntmps19
     go_wp2_with (go_at_call 46; refine (hf.out _).mono ?_; rintro e w' ⟨rfl, hw'⟩; subst w')
     go_ret
     exact ⟨rfl, Below.refl _ _⟩
  ·have e1 : en = 1 := by simpa using h1
   rw [if_pos e1]
   clear e1
   cases hr : (er == 0)
   ·go_enter Tryz.func19, Tryz.ntmps19
    go_wp2
    go_ret
    exact ⟨rfl, Below.refl _ _⟩
   ·go_enter Tryz.func19, Tryz.ntmps19
    go_wp2_with (go_at_call 45; refine (hv.out _ (Below.refl _ _)).mono ?_; rintro e w2 ⟨rfl, hb2⟩)
    go_ret
    exact ⟨rfl, hb2⟩
 ·have e0 : en = 0 := by simpa using h0
  rw [if_pos e0]
  clear e0
  cases hr : (er == 0)
  all_goals
   go_enter Tryz.func19, Tryz.ntmps19
   go_wp2
   go_ret
   exact ⟨rfl, Below.refl _ _⟩
def stB1 (fs : List Fd) (mn : Int) (s : St) : Bool := progB fs mn && (frB 1 s.fr.length 40 && frsB fs s.tb.length 1 s.fr) && (decide ((s.tb.length : Int) ≤ 200) && allB (fun _ => tB s.tb.length fs.length) s.tb) && toldB s && endB s.tb.length fs.length s
theorem mmay_any {ca : Option Addr} {cc : Nat} {fs : List Fd} {mn : Int} {fv tv ov : Value} {s : St} (W : World) (hF : RowF W.heap.size W ca fs) (hS : StIn W.heap.size W fv tv ov s) :
  Calls Tryz.prog 6 #[PV ca fs.length cc mn, stv fv tv ov s] W fun r w' => r = .returned (.bool (stB1 fs mn s)) ∧ Below W.heap.size W w' := by
 obtain ⟨w1, hw1⟩ : ∃ w1, ((W.alloc (.cells #[.slice ca fs.length cc, .int .i64 mn] 24)).alloc (stb fv tv ov s)).alloc (.cells #[.slice ca fs.length cc, .int .i64 mn, fv, tv, ov, .int .i64 s.st, .int .i64 s.en, .int .i64 s.er, .int .i64 s.la.k, .int .i64 s.la.n, .string s.la.s] 46) = w1 := ⟨_, rfl⟩
 have E1 : Below W.heap.size W w1 := by rw [← hw1]; exact ext_alloc (ext_alloc (ext_alloc (Below.refl _ _) _) _) _
 have g0 : w1.heap[W.heap.size]? = some (.cells #[.slice ca fs.length cc, .int .i64 mn] 24) := by
  rw [← hw1]; exact blk_below (ext_alloc (ext_alloc (Below.refl _ _) _) _) (heap_new _ _)
 have g2 : MIn w1 (W.heap.size + 1 + 1) ca cc fs mn fv tv ov s := ⟨by rw [← hw1]; simpa using heap_new ((W.alloc _).alloc _) _, hS.at E1, hF.at E1⟩
 have q1 : ∀ u, Below w1.heap.size w1 u → Calls Tryz.prog 15 #[PV ca fs.length cc mn] u _ := fun u hu => may_prog ca cc fs mn u ((hF.at E1).at hu)
 have q2 : ∀ u, Below w1.heap.size w1 u → _ := fun u hu => mframes_any (g2.on hu)
 have q3 : ∀ u, Below w1.heap.size w1 u → _ := fun u hu => mtables_any (g2.on hu)
 have q4 : ∀ u, Below w1.heap.size w1 u → _ := fun u hu => mtold_any (g2.on hu)
 have q5 : ∀ u, Below w1.heap.size w1 u → _ := fun u hu => mend_any (g2.on hu)
 have a0 : w1.cell? ⟨W.heap.size, 0, none⟩ = some (.slice ca fs.length cc) := cell_block g0 rfl
 have a1 : w1.cell? ⟨W.heap.size, 1, none⟩ = some (.int .i64 mn) := cell_block g0 rfl
 obtain ⟨fa, fc, rfl, _, _⟩ := hS.f
 obtain ⟨ta, tc, rfl, _, _⟩ := hS.t
 obtain ⟨oa, oc, rfl, _, _⟩ := hS.o
 unfold stB1
 obtain ⟨B1, hB1⟩ : ∃ B, progB fs mn = B := ⟨_, rfl⟩
 obtain ⟨B2, hB2⟩ : ∃ B, (frB 1 s.fr.length 40 && frsB fs s.tb.length 1 s.fr) = B := ⟨_, rfl⟩
 obtain ⟨B3, hB3⟩ : ∃ B, (decide ((s.tb.length : Int) ≤ 200) && allB (fun _ => tB s.tb.length fs.length) s.tb) = B := ⟨_, rfl⟩
 obtain ⟨B4, hB4⟩ : ∃ B, toldB s = B := ⟨_, rfl⟩
 obtain ⟨B5, hB5⟩ : ∃ B, endB s.tb.length fs.length s = B := ⟨_, rfl⟩
 rw [hB1] at q1 ⊢
 rw [hB2] at q2 ⊢
 rw [hB3] at q3 ⊢
 rw [hB4] at q4 ⊢
 rw [hB5] at q5 ⊢
 obtain ⟨nf, hnf⟩ : ∃ n, fs.length = n := ⟨_, rfl⟩
 obtain ⟨n1, hn1⟩ : ∃ n, s.fr.length = n := ⟨_, rfl⟩
 obtain ⟨n2, hn2⟩ : ∃ n, s.tb.length = n := ⟨_, rfl⟩
 obtain ⟨n3, hn3⟩ : ∃ n, s.out.length = n := ⟨_, rfl⟩
 rw [hnf] at q1 a0 hw1 ⊢
 rw [hn1, hn2, hn3] at hw1 ⊢
 clear hF hS g0 g2 hB1 hB2 hB3 hB4 hB5 hnf hn1 hn2 hn3
 replace q1 : Hid _ := q1
 replace q2 : Hid _ := q2
 replace q3 : Hid _ := q3
 replace q4 : Hid _ := q4
 replace q5 : Hid _ := q5
 cases B1
 ·go_enter Tryz.func6, Tryz.ntmps6
  go_wp2_with (go_at_call 15; refine (q1.out _ (Below.refl _ _)).mono ?_; rintro e u1 ⟨rfl, hb1⟩)
  go_ret
  exact ⟨rfl, ext_trans E1 hb1⟩
 cases B2
 ·go_enter Tryz.func6, Tryz.ntmps6
  go_wp2_with (first | (go_at_call 15; refine (q1.out _ (Below.refl _ _)).mono ?_; rintro e u1 ⟨rfl, hb1⟩) | (go_at_call 16; refine (q2.out _ hb1).mono ?_; rintro e u2 ⟨rfl, hb2⟩))
  go_ret
  exact ⟨rfl, ext_trans E1 (ext_trans hb1 hb2)⟩
 cases B3
 ·go_enter Tryz.func6, Tryz.ntmps6
  go_wp2_with (first | (go_at_call 15; refine (q1.out _ (Below.refl _ _)).mono ?_; rintro e u1 ⟨rfl, hb1⟩) | (go_at_call 16; refine (q2.out _ hb1).mono ?_; rintro e u2 ⟨rfl, hb2⟩) | (go_at_call 17; refine (q3.out _ (ext_trans hb1 hb2)).mono ?_; rintro e u3 ⟨rfl, hb3⟩))
  go_ret
  exact ⟨rfl, ext_trans E1 (ext_trans hb1 (ext_trans hb2 hb3))⟩
 cases B4
 ·go_enter Tryz.func6, Tryz.ntmps6
  go_wp2_with (first | (go_at_call 15; refine (q1.out _ (Below.refl _ _)).mono ?_; rintro e u1 ⟨rfl, hb1⟩) | (go_at_call 16; refine (q2.out _ hb1).mono ?_; rintro e u2 ⟨rfl, hb2⟩) | (go_at_call 17; refine (q3.out _ (ext_trans hb1 hb2)).mono ?_; rintro e u3 ⟨rfl, hb3⟩) | (go_at_call 18; refine (q4.out _ (ext_trans (ext_trans hb1 hb2) hb3)).mono ?_; rintro e u4 ⟨rfl, hb4⟩))
  go_ret
  exact ⟨rfl, ext_trans E1 (ext_trans hb1 (ext_trans hb2 (ext_trans hb3 hb4)))⟩
 ·go_enter Tryz.func6, Tryz.ntmps6
  go_wp2_with (first | (go_at_call 15; refine (q1.out _ (Below.refl _ _)).mono ?_; rintro e u1 ⟨rfl, hb1⟩) | (go_at_call 16; refine (q2.out _ hb1).mono ?_; rintro e u2 ⟨rfl, hb2⟩) | (go_at_call 17; refine (q3.out _ (ext_trans hb1 hb2)).mono ?_; rintro e u3 ⟨rfl, hb3⟩) | (go_at_call 18; refine (q4.out _ (ext_trans (ext_trans hb1 hb2) hb3)).mono ?_; rintro e u4 ⟨rfl, hb4⟩) | (go_at_call 19; refine (q5.out _ (ext_trans (ext_trans (ext_trans hb1 hb2) hb3) hb4)).mono ?_; rintro e u5 ⟨rfl, hb5⟩))
  go_ret
  exact ⟨rfl, ext_trans E1 (ext_trans hb1 (ext_trans hb2 (ext_trans hb3 (ext_trans hb4 hb5))))⟩
theorem vB_iff {nt nf : Nat} {v : Vl} : vB nt nf v = true ↔ VG nt nf v := by
 unfold vB
 constructor
 ·intro h
  split at h
  ·rename_i h4
   simp at h
   exact ⟨h.1, fun _ => h.2, fun h5 => by omega⟩
  ·rename_i h4
   split at h
   ·simp at h
    exact ⟨h.1, fun h => absurd h h4, fun _ => h.2⟩
   ·rename_i h5
    exact ⟨h, fun h => absurd h h4, fun h => absurd h h5⟩
 ·intro h
  split
  ·rename_i h4
   simp [h.m, h.t h4]
  ·split
   ·rename_i h5
    simp [h.m, h.f h5]
   ·exact h.m
theorem allB_mem {α : Type} {p : α → Bool} {xs : List α} : allB (fun _ => p) xs = true ↔ ∀ x ∈ xs, p x = true := by
 constructor
 ·intro h x hx
  obtain ⟨j, hj⟩ := List.mem_iff_getElem?.1 hx
  exact allB_get h hj
 ·intro h
  exact allB_true fun j x _ hx => h x (List.mem_of_getElem? hx)
theorem fmB_iff {fs : List Fd} {nt : Nat} {x : Frm} : fmB fs nt x = true ↔ FG fs nt x := by
 unfold fmB FG
 constructor
 ·intro h
  rw [Bool.and_eq_true] at h
  obtain ⟨h1, h2⟩ := h
  cases e : fs[x.f.toNat]? with
  | none => rw [e] at h2; cases h2
  | some f =>
   rw [e] at h2
   simp only [Bool.and_eq_true, belB, decide_eq_true_eq, beq_iff_eq] at h1 h2
   exact ⟨f, rfl, h1.1, h2.1.1.1, h2.1.1.2, h2.1.2, fun v hv => vB_iff.1 (allB_mem.1 h2.2 v hv)⟩
 ·rintro ⟨f, h1, h2, h3, h4, h5, h6⟩
  have := (List.getElem?_eq_some_iff.1 h1).1
  rw [h1]
  simp only [Bool.and_eq_true, belB, decide_eq_true_eq, beq_iff_eq]
  exact ⟨⟨h2, by omega⟩, ⟨⟨h3, h4⟩, h5⟩, allB_mem.2 fun v hv => vB_iff.2 (h6 v hv)⟩
theorem frsB_iff {fs : List Fd} {nt : Nat} : ∀ {l : List Frm} {d : Int}, frsB fs nt d l = true ↔ DG d l ∧ ∀ x ∈ l, FG fs nt x
 | [], d => by simp [frsB, DG]
 | x :: l, d => by
  have ih := frsB_iff (fs := fs) (nt := nt) (l := l) (d := x.rs.length)
  simp only [frsB, Bool.and_eq_true, DG, belB, decide_eq_true_eq, ih, fmB_iff, List.mem_cons, forall_eq_or_imp]
  constructor
  ·rintro ⟨⟨⟨h1, h2⟩, h3⟩, h4, h5⟩
   exact ⟨⟨h1, h2, h4⟩, h3, h5⟩
  ·rintro ⟨⟨h1, h2, h4⟩, h3, h5⟩
   exact ⟨⟨⟨h1, h2⟩, h3⟩, h4, h5⟩
theorem tB_iff {nt nf : Nat} {t : Tb} : tB nt nf t = true ↔ TG nt nf t := by
 simp only [tB, Bool.and_eq_true, allB_mem]
 constructor
 ·rintro ⟨⟨h1, h2⟩, h3⟩
  exact ⟨h1, fun v hv => vB_iff.1 (h2 v hv), fun v hv => vB_iff.1 (h3 v hv)⟩
 ·rintro ⟨h1, h2, h3⟩
  exact ⟨⟨h1, fun v hv => vB_iff.2 (h2 v hv)⟩, fun v hv => vB_iff.2 (h3 v hv)⟩
theorem failB_iff {c : Int} : failB c = true ↔ c = 1 ∨ c = 3 ∨ c = 4 ∨ c = 7 := by
 simp [failB, or_assoc]
theorem endB_iff {nt nf : Nat} {s : St} : endB nt nf s = true ↔ (s.en = 0 ∧ s.er = 0 ∧ s.la = nilV) ∨ (s.en = 1 ∧ s.er = 0 ∧ VG nt nf s.la) ∨ (s.en = 2 ∧ (s.er = 1 ∨ s.er = 3 ∨ s.er = 4 ∨ s.er = 7) ∧ s.la = nilV) := by
 unfold endB
 by_cases h0 : s.en = 0
 ·rw [if_pos h0, Bool.and_eq_true, beq_iff_eq, nzB_iff]
  constructor
  ·rintro ⟨a, b⟩
   exact .inl ⟨h0, a, b⟩
  ·rintro (⟨_, a, b⟩ | ⟨a, _⟩ | ⟨a, _⟩)
   ·exact ⟨a, b⟩
   ·omega
   ·omega
 rw [if_neg h0]
 by_cases h1 : s.en = 1
 ·rw [if_pos h1, Bool.and_eq_true, beq_iff_eq, vB_iff]
  constructor
  ·rintro ⟨a, b⟩
   exact .inr (.inl ⟨h1, a, b⟩)
  ·rintro (⟨a, _⟩ | ⟨_, a, b⟩ | ⟨a, _⟩)
   ·omega
   ·exact ⟨a, b⟩
   ·omega
 rw [if_neg h1]
 by_cases h2 : s.en = 2
 ·rw [if_pos h2, Bool.and_eq_true, failB_iff, nzB_iff]
  constructor
  ·rintro ⟨a, b⟩
   exact .inr (.inr ⟨h2, a, b⟩)
  ·rintro (⟨a, _⟩ | ⟨a, _⟩ | ⟨_, a, b⟩)
   ·omega
   ·omega
   ·exact ⟨a, b⟩
 ·rw [if_neg h2]
  constructor
  ·intro h; cases h
  ·rintro (⟨a, _⟩ | ⟨a, _⟩ | ⟨a, _⟩)
   ·omega
   ·omega
   ·omega
theorem stB1_iff {fs : List Fd} {mn : Int} {s : St} : stB1 fs mn s = true ↔ progB fs mn = true ∧ Good fs s := by
 unfold stB1 toldB
 simp only [Bool.and_eq_true, frB, decide_eq_true_eq, allB_mem, frsB_iff, tB_iff, endB_iff]
 constructor
 ·rintro ⟨⟨⟨⟨h1, ⟨a1, a2⟩, a3, a4⟩, b1, b2⟩, ⟨⟨c1, c2⟩, c3⟩, c4⟩, d⟩
  exact ⟨h1, by omega, by omega, a3, a4, by omega, b2, c1, c2, c3, fun t ht => by have := c4 t ht; omega, d⟩
 ·rintro ⟨h1, h⟩
  have n1 := h.n1
  have n2 := h.n2
  have t2 := h.t2
  exact ⟨⟨⟨⟨h1, ⟨by omega, by omega⟩, h.dg, h.fg⟩, by omega, h.tg⟩, ⟨⟨h.s1, h.s2⟩, h.o1⟩, fun t ht => by have := h.o2 t ht; omega⟩, h.e⟩
theorem rvals_same (sv sv' : Value) (xs : List Vl) (W : World) (h : Row W.heap.size W sv xs) (h' : Row W.heap.size W sv' xs) :
  Calls Tryz.prog 27 #[sv, sv'] W fun r w' => r = .returned (.bool true) ∧ Below W.heap.size W w' := by
 obtain ⟨a, cap, rfl, hlen, hrow⟩ := h
 obtain ⟨a', cap', rfl, _, hrow'⟩ := h'
 replace hlen := le_lit hlen
 obtain ⟨n, hn⟩ : ∃ n, xs.length = n := ⟨_, rfl⟩
 have hx : ∀ m, m < n → ∃ b off b' off' x, a = some ⟨b, off, none⟩ ∧ a' = some ⟨b', off', none⟩ ∧ ∀ u, Below W.heap.size W u → Three u b (off + m * 3) x ∧ Three u b' (off' + m * 3) x := fun m hm => by
  have hne : xs ≠ [] := by intro e; subst e; simp at hn; omega
  obtain ⟨b, off, e, hb, hc⟩ := hrow hne
  obtain ⟨b', off', e', hb', hc'⟩ := hrow' hne
  have hxm : xs[m]? = some (xs[m]'(by omega)) := by simp
  exact ⟨b, off, b', off', _, e, e', fun u hu => ⟨(hc m _ hxm).below hu hb, (hc' m _ hxm).below hu hb'⟩⟩
 rw [hn] at hlen ⊢
 clear hrow hrow' hn
 replace hx : Hid _ := hx
 go_enter Tryz.func27, Tryz.ntmps27
 go_wp2
 go_loopw [5] (fun i wr => ∃ m : Nat, m ≤ n ∧ i = .int .i64 m ∧ Below W.heap.size W wr) (fun i _ => n - (intOf i).toNat)
 case atStart => exact ⟨0, Nat.zero_le _, rfl, Below.refl _ _⟩
 case round =>
  obtain ⟨m, hm, rfl, hb⟩ := hrel
  by_cases hlt : m < n
  ·obtain ⟨b, off, b', off', x, rfl, rfl, hT⟩ := hx.out m hlt
   replace hT : Hid _ := hT
   have hq : Hid (∀ u : World, Calls Tryz.prog 23 #[x.v, x.v] u fun e w' => e = .returned (.bool true) ∧ Below u.heap.size u w') := fun u => (rsame_any x x u).mono (fun e w' ⟨h1, h2⟩ => ⟨by rw [h1, decide_eq_true rfl], by rw [h2]; exact ext_alloc (ext_alloc (Below.refl _ _) _) _⟩)
   go_wp2
   refine wp_quiet (Below W.heap.size W) (by kernel_rfl) (by kernel_rfl) (ext_drew hb) ?_
   repeat (first
    | go_big_quiet_skip
    | (
     apply quiet_want
     ·kernel_rfl
     ·intro u hu
      obtain ⟨⟨_, _, _⟩, ⟨_, _, _⟩⟩ := hT.out u hu
      go_simp
      first | (go_at_call 23; refine (hq.out u).mono ?_; rintro e w2 ⟨rfl, hb2⟩; exact ⟨rfl, ext_trans hu hb2⟩) | with_reducible rfl | skip
     simp only [Act.put, List.setIfInBounds_toArray, List.set_cons_zero, List.set_cons_succ]))
   refine wpQuiet_nil (fun w2 hb2 => ?_)
   go_wp2
   go_roundw
   case rel => exact ⟨m + 1, hlt, by simp, hb2⟩
   case measure => simp [intOf]; omega
  ·obtain rfl : m = n := by omega
   go_wp2
   go_ret
   exact ⟨rfl, hb⟩
theorem rstate_same (fv tv ov fv' tv' ov' : Value) (s : St) (W : World) (h : StIn W.heap.size W fv tv ov s) (h' : StIn W.heap.size W fv' tv' ov' s) (hcap : ∀ t ∈ s.tb, t.ks.length ≤ 1000 ∧ t.vs.length ≤ 1000) :
  Calls Tryz.prog 10 #[stv fv tv ov s, stv fv' tv' ov' s] W fun r w' => r = .returned (.bool true) ∧ Below W.heap.size W w' := by
 obtain ⟨w1, hw1⟩ : ∃ w1, (W.alloc (stb fv tv ov s)).alloc (stb fv' tv' ov' s) = w1 := ⟨_, rfl⟩
 have E1 : Below W.heap.size W w1 := by rw [← hw1]; exact ext_alloc (ext_alloc (Below.refl _ _) _) _
 have g0 : w1.heap[W.heap.size]? = some (stb fv tv ov s) := by rw [← hw1]; exact blk_below (ext_alloc (Below.refl _ _) _) (heap_new _ _)
 have g1 : w1.heap[W.heap.size + 1]? = some (stb fv' tv' ov' s) := by rw [← hw1]; simpa using heap_new (W.alloc _) _
 have q1 : ∀ u : World, Calls Tryz.prog 23 #[s.la.v, s.la.v] u fun e w' => e = .returned (.bool true) ∧ Below u.heap.size u w' := fun u => (rsame_any s.la s.la u).mono (fun e w' ⟨h1, h2⟩ => ⟨by rw [h1, decide_eq_true rfl], by rw [h2]; exact ext_alloc (ext_alloc (Below.refl _ _) _) _⟩)
 have hf := h.f
 have hf' := h'.f
 have ht := h.t
 have ht' := h'.t
 have ho := h.o
 have ho' := h'.o
 obtain ⟨oa, oc, rfl, hol, hor⟩ := ho
 obtain ⟨oa', oc', rfl, _, hor'⟩ := ho'
 replace hol := le_lit hol
 obtain ⟨fa, fc, rfl, hfl, hfr⟩ := hf
 obtain ⟨fa', fc', rfl, _, hfr'⟩ := hf'
 obtain ⟨ta, tc, rfl, htl, htr⟩ := ht
 obtain ⟨ta', tc', rfl, _, htr'⟩ := ht'
 replace hfl := le_lit hfl
 replace htl := le_lit htl
 obtain ⟨n1, hn1⟩ : ∃ n, s.fr.length = n := ⟨_, rfl⟩
 obtain ⟨n2, hn2⟩ : ∃ n, s.tb.length = n := ⟨_, rfl⟩
 obtain ⟨n3, hn3⟩ : ∃ n, s.out.length = n := ⟨_, rfl⟩
 have hx : ∀ m, m < n1 → ∃ (b off b' off' : Nat) (x : Frm) (ra ra' : Option Addr) (rn rc rc' : Nat), fa = some ⟨b, off, none⟩ ∧ fa' = some ⟨b', off', none⟩ ∧ ∀ u, Below W.heap.size W u →
   (u.cell? ⟨b, off + m * 4, none⟩ = some (.int .i64 x.f) ∧ u.cell? ⟨b, off + m * 4 + 1, none⟩ = some (.int .i64 x.pc) ∧ u.cell? ⟨b, off + m * 4 + 2, none⟩ = some (.int .i64 x.d) ∧ u.cell? ⟨b, off + m * 4 + 3, none⟩ = some (.slice ra rn rc)) ∧
   (u.cell? ⟨b', off' + m * 4, none⟩ = some (.int .i64 x.f) ∧ u.cell? ⟨b', off' + m * 4 + 1, none⟩ = some (.int .i64 x.pc) ∧ u.cell? ⟨b', off' + m * 4 + 2, none⟩ = some (.int .i64 x.d) ∧ u.cell? ⟨b', off' + m * 4 + 3, none⟩ = some (.slice ra' rn rc')) ∧
   Calls Tryz.prog 27 #[.slice ra rn rc, .slice ra' rn rc'] u fun r w' => r = .returned (.bool true) ∧ Below u.heap.size u w' := fun m hm => by
  have hne : s.fr ≠ [] := by intro e; rw [e] at hn1; simp at hn1; omega
  obtain ⟨b, off, e, hb, hc⟩ := hfr hne
  obtain ⟨b', off', e', hb', hc'⟩ := hfr' hne
  have hxm : s.fr[m]? = some (s.fr[m]'(by omega)) := by simp
  obtain ⟨t0, t1, t2, rv, t3, hr⟩ := hc m _ hxm
  obtain ⟨t0', t1', t2', rv', t3', hr'⟩ := hc' m _ hxm
  have hv : ∀ u, Below W.heap.size W u → Calls Tryz.prog 27 #[rv, rv'] u _ := fun u hu => rvals_same rv rv' _ u (hr.at hu) (hr'.at hu)
  obtain ⟨ra, rc, rfl, _⟩ := hr
  obtain ⟨ra', rc', rfl, _⟩ := hr'
  exact ⟨b, off, b', off', _, ra, ra', _, rc, rc', e, e', fun u hu => ⟨⟨cellB hu t0, cellB hu t1, cellB hu t2, cellB hu t3⟩, ⟨cellB hu t0', cellB hu t1', cellB hu t2', cellB hu t3'⟩, hv u hu⟩⟩
 have hy : ∀ m, m < n2 → ∃ (b off b' off' : Nat) (ka ka' va va' : Option Addr) (kn kc kc' vn vc vc' : Nat), ta = some ⟨b, off, none⟩ ∧ ta' = some ⟨b', off', none⟩ ∧ (∀ u, Below W.heap.size W u →
   (u.cell? ⟨b, off + m * 2, none⟩ = some (.slice ka kn kc) ∧ u.cell? ⟨b, off + m * 2 + 1, none⟩ = some (.slice va vn vc)) ∧
   (u.cell? ⟨b', off' + m * 2, none⟩ = some (.slice ka' kn kc') ∧ u.cell? ⟨b', off' + m * 2 + 1, none⟩ = some (.slice va' vn vc'))) ∧
   (∀ u, Below W.heap.size W u → Calls Tryz.prog 28 #[.agg #[.slice ka kn kc, .slice va vn vc], .agg #[.slice ka' kn kc', .slice va' vn vc']] u fun r w' => r = .returned (.bool true) ∧ Below u.heap.size u w') := fun m hm => by
  have hne : s.tb ≠ [] := by intro e; rw [e] at hn2; simp at hn2; omega
  obtain ⟨b, off, e, hb, hc⟩ := htr hne
  obtain ⟨b', off', e', hb', hc'⟩ := htr' hne
  have hxm : s.tb[m]? = some (s.tb[m]'(by omega)) := by simp
  obtain ⟨kv, vv, t0, t1, hk, hv⟩ := hc m _ hxm
  obtain ⟨kv', vv', t0', t1', hk', hv'⟩ := hc' m _ hxm
  have hcp := hcap _ (List.mem_of_getElem? hxm)
  have hkk : ∀ u, Below W.heap.size W u → Calls Tryz.prog 28 #[.agg #[kv, vv], .agg #[kv', vv']] u _ := fun u hu => tsame_any kv vv kv' vv' _ _ u ⟨hk.at hu, hv.at hu⟩ ⟨hk'.at hu, hv'.at hu⟩ hcp.1 hcp.2
  obtain ⟨ka, kc, rfl, _⟩ := hk
  obtain ⟨ka', kc', rfl, _⟩ := hk'
  obtain ⟨va, vc, rfl, _⟩ := hv
  obtain ⟨va', vc', rfl, _⟩ := hv'
  exact ⟨b, off, b', off', ka, ka', va, va', _, kc, kc', _, vc, vc', e, e', fun u hu => ⟨⟨cellB hu t0, cellB hu t1⟩, ⟨cellB hu t0', cellB hu t1'⟩⟩, hkk⟩
 have hz : ∀ m, m < n3 → ∃ b off b' off' x, oa = some ⟨b, off, none⟩ ∧ oa' = some ⟨b', off', none⟩ ∧ ∀ u, Below W.heap.size W u → u.cell? ⟨b, off + m, none⟩ = some (.string x) ∧ u.cell? ⟨b', off' + m, none⟩ = some (.string x) := fun m hm => by
  have hne : s.out ≠ [] := by intro e; rw [e] at hn3; simp at hn3; omega
  obtain ⟨b, off, e, hb, hc⟩ := hor hne
  obtain ⟨b', off', e', hb', hc'⟩ := hor' hne
  have hxm : s.out[m]? = some (s.out[m]'(by omega)) := by simp
  exact ⟨b, off, b', off', _, e, e', fun u hu => ⟨(hu.cell (p := ⟨b, off + m, none⟩) hb).trans (hc m _ hxm), (hu.cell (p := ⟨b', off' + m, none⟩) hb').trans (hc' m _ hxm)⟩⟩
 rw [hn1] at hfl
 rw [hn2] at htl
 rw [hn3] at hol
 rw [hn1, hn2, hn3] at hw1 g0 g1 ⊢
 clear h h' hfr hfr' htr htr' hor hor' hn1 hn2 hn3 hcap
 have hC : ∀ u, Below w1.heap.size w1 u → u.cell? ⟨W.heap.size, 0, none⟩ = some (.slice fa n1 fc) ∧ u.cell? ⟨W.heap.size, 1, none⟩ = some (.slice ta n2 tc) ∧ u.cell? ⟨W.heap.size + 1, 0, none⟩ = some (.slice fa' n1 fc') ∧ u.cell? ⟨W.heap.size + 1, 1, none⟩ = some (.slice ta' n2 tc') := fun u hu => ⟨cellB hu (cell_block g0 rfl), cellB hu (cell_block g0 rfl), cellB hu (cell_block g1 rfl), cellB hu (cell_block g1 rfl)⟩
 have hO : ∀ u, Below w1.heap.size w1 u → u.cell? ⟨W.heap.size, 2, none⟩ = some (.slice oa n3 oc) ∧ u.cell? ⟨W.heap.size + 1, 2, none⟩ = some (.slice oa' n3 oc') := fun u hu => ⟨cellB hu (cell_block g0 rfl), cellB hu (cell_block g1 rfl)⟩
 obtain ⟨a0, a1, a2, a3, a4, a5, a6, a7, a8⟩ := nine g0
 obtain ⟨b0, b1, b2, b3, b4, b5, b6, b7, b8⟩ := nine g1
 replace q1 : Hid _ := q1
 replace hz : Hid _ := hz
 replace hx : Hid _ := hx
 replace hy : Hid _ := hy
 replace hC : Hid _ := hC
 replace hO : Hid _ := hO
 clear g0 g1
 go_enter Tryz.func10, Tryz.ntmps10
 go_wp2_with (go_at_call 23; refine (q1.out _).mono ?_; rintro e u2 ⟨rfl, hb2⟩; refine Hid.out ?_)
 refine Lib.hid ?_
 have hB0 := hb2
 clear a0 a1 a2 a3 a4 a5 a6 a7 a8 b0 b1 b2 b3 b4 b5 b6 b7 b8 hw1
 obtain ⟨e0, e1⟩ := hO.out u2 hB0
 obtain ⟨e2, e3, e4, e5⟩ := hC.out u2 hB0
 go_wp2
 go_loopw [5] (fun i wr => ∃ m : Nat, m ≤ n1 ∧ i = .int .i64 m ∧ Below w1.heap.size w1 wr) (fun i _ => n1 - (intOf i).toNat)
 case atStart => exact ⟨0, Nat.zero_le _, rfl, hB0⟩
 case round =>
  clear hb2 hB0 e0 e1 e2 e3 e4 e5
  obtain ⟨m, hm, rfl, hb⟩ := hrel
  obtain ⟨c0, c1, c2, c3⟩ := hC.out wr hb
  by_cases hlt : m < n1
  ·obtain ⟨b, off, b', off', x, ra, ra', rn, rc, rc', rfl, rfl, hT⟩ := hx.out m hlt
   obtain ⟨v1, hv1⟩ : ∃ v, wr.alloc (.cells #[.int .i64 x.f, .int .i64 x.pc, .int .i64 x.d, .slice ra rn rc] 50) = v := ⟨_, rfl⟩
   have F1 : Below w1.heap.size w1 v1 := by rw [← hv1]; exact ext_alloc hb _
   have k1 : v1.heap[wr.heap.size]? = some (.cells #[.int .i64 x.f, .int .i64 x.pc, .int .i64 x.d, .slice ra rn rc] 50) := by rw [← hv1]; exact heap_new _ _
   obtain ⟨v2, hv2⟩ : ∃ v, v1.alloc (.cells #[.int .i64 x.f, .int .i64 x.pc, .int .i64 x.d, .slice ra' rn rc'] 50) = v := ⟨_, rfl⟩
   have F2 : Below w1.heap.size w1 v2 := by rw [← hv2]; exact ext_alloc F1 _
   have k2 : v2.heap[v1.heap.size]? = some (.cells #[.int .i64 x.f, .int .i64 x.pc, .int .i64 x.d, .slice ra' rn rc'] 50) := by rw [← hv2]; exact heap_new _ _
   have k1' : v2.heap[wr.heap.size]? = some (.cells #[.int .i64 x.f, .int .i64 x.pc, .int .i64 x.d, .slice ra rn rc] 50) := by rw [← hv2]; exact blk_below (ext_alloc (Below.refl _ _) _) k1
   obtain ⟨⟨t0, t1, t2, t3⟩, _, _⟩ := hT wr (ext_trans E1 hb)
   obtain ⟨_, ⟨t0', t1', t2', t3'⟩, _⟩ := hT v1 (ext_trans E1 F1)
   obtain ⟨_, _, hcall⟩ := hT v2 (ext_trans E1 F2)
   obtain ⟨d0, d1, d2, d3⟩ := hC.out v1 F1
   obtain ⟨f0, f1, f2, f3⟩ := four k1'
   obtain ⟨h0, h1, h2, h3⟩ := four k2
   clear hT k1 k2 k1'
   go_wp2_with (go_at_call 27; refine hcall.mono ?_; rintro e v3 ⟨rfl, hb3⟩)
   go_roundw
   case rel => exact ⟨m + 1, hlt, by simp, ext_trans F2 hb3⟩
   case measure => simp [intOf]; omega
  ·obtain rfl : m = n1 := by omega
   go_wp2
   clear c0 c1 c2 c3
   go_loopw [8] (fun i wr => ∃ m : Nat, m ≤ n2 ∧ i = .int .i64 m ∧ Below w1.heap.size w1 wr) (fun i _ => n2 - (intOf i).toNat)
   case atStart => exact ⟨0, Nat.zero_le _, rfl, hb⟩
   case round =>
    clear hb
    obtain ⟨m, hm, rfl, hb⟩ := hrel
    obtain ⟨c0, c1, c2, c3⟩ := hC.out wr hb
    by_cases hlt : m < n2
    ·obtain ⟨b, off, b', off', ka, ka', va, va', kn, kc, kc', vn, vc, vc', rfl, rfl, hT, hK⟩ := hy.out m hlt
     replace hT : Hid _ := hT
     replace hK : Hid _ := hK
     go_wp2
     refine wp_quiet (Below w1.heap.size w1) (by kernel_rfl) (by kernel_rfl) (ext_drew hb) ?_
     repeat (first
      | go_big_quiet_skip
      | (
       apply quiet_want
       ·kernel_rfl
       ·intro u hu
        obtain ⟨⟨_, _⟩, _, _⟩ := hT.out u (ext_trans E1 hu)
        obtain ⟨_, _, _, _⟩ := hC.out u hu
        go_simp
        first | (go_at_call 28; refine (hK.out u (ext_trans E1 hu)).mono ?_; rintro e w2 ⟨rfl, hb2⟩; exact ⟨rfl, ext_trans hu hb2⟩) | with_reducible rfl | skip
       simp only [Act.put, List.setIfInBounds_toArray, List.set_cons_zero, List.set_cons_succ]))
     refine wpQuiet_nil (fun w2 hb2 => ?_)
     go_wp2
     go_roundw
     case rel => exact ⟨m + 1, hlt, by simp, hb2⟩
     case measure => simp [intOf]; omega
    ·obtain rfl : m = n2 := by omega
     go_wp2
     clear c0 c1 c2 c3
     go_loopw [9] (fun i wr => ∃ m : Nat, m ≤ n3 ∧ i = .int .i64 m ∧ Below w1.heap.size w1 wr) (fun i _ => n3 - (intOf i).toNat)
     case atStart => exact ⟨0, Nat.zero_le _, rfl, hb⟩
     case round =>
      clear hb
      obtain ⟨m, hm, rfl, hb⟩ := hrel
      obtain ⟨c0, c1⟩ := hO.out wr hb
      by_cases hlt : m < n3
      ·obtain ⟨b, off, b', off', x, rfl, rfl, hT⟩ := hz.out m hlt
       replace hT : Hid _ := hT
       go_wp2
       refine wp_quiet (Below w1.heap.size w1) (by kernel_rfl) (by kernel_rfl) (ext_drew hb) ?_
       repeat (first
        | go_big_quiet_skip
        | (
         apply quiet_want
         ·kernel_rfl
         ·intro u hu
          obtain ⟨_, _⟩ := hT.out u (ext_trans E1 hu)
          obtain ⟨_, _⟩ := hO.out u hu
          go_simp
          first | with_reducible rfl | skip
         simp only [Act.put, List.setIfInBounds_toArray, List.set_cons_zero, List.set_cons_succ]))
       refine wpQuiet_nil (fun w2 hb2 => ?_)
       go_wp2
       go_roundw
       case rel => exact ⟨m + 1, hlt, by simp, hb2⟩
       case measure => simp [intOf]; omega
      ·obtain rfl : m = n3 := by omega
       go_wp2
       go_ret
       exact ⟨rfl, ext_trans E1 hb⟩
end
end Go.Proofs.YthpgbienakcbeaaGreatDoor
