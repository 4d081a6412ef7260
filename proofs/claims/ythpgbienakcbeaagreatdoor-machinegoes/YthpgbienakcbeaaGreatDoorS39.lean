/- A state once more, in memory of its own. -/
import Derived.Test.YthpgbienakcbeaaGreatDoorS32
namespace Go.Proofs.YthpgbienakcbeaaGreatDoor
open Go.RowKit Go
set_option maxRecDepth 100000
set_option maxHeartbeats 8000000
set_option linter.all false
variable {n₀ m b g : Nat} {A B W C : World} {sv : Value} {xs : List Frm}
section
variable [DecidableEq Vl]
abbrev stv (fv tv ov : Value) (s : St) : Value := .agg #[fv, tv, ov, .int .i64 s.st, .int .i64 s.en, .int .i64 s.er, .int .i64 s.la.k, .int .i64 s.la.n, .string s.la.s]
abbrev stb (fv tv ov : Value) (s : St) : Obj := .cells #[fv, tv, ov, .int .i64 s.st, .int .i64 s.en, .int .i64 s.er, .int .i64 s.la.k, .int .i64 s.la.n, .string s.la.s] 32
abbrev zst : Obj := .cells #[.slice none 0 0, .slice none 0 0, .slice none 0 0, .int .i64 0, .int .i64 0, .int .i64 0, .int .i64 0, .int .i64 0, .string ⟨#[]⟩] 32
structure StIn (n₀ : Nat) (W : World) (fv tv ov : Value) (s : St) : Prop where
 f : b1v n₀ W fv s.fr
 t : b0a n₀ W tv s.tb
 o : RowS n₀ W ov s.out
structure Small (s : St) : Prop where
 f1 : s.fr.length ≤ 40
 f2 : ∀ x ∈ s.fr, x.rs.length ≤ 1000
 f3 : ∀ x ∈ s.fr, ∀ v ∈ x.rs, v.s.size ≤ 300
 t1 : s.tb.length ≤ 200
 t2 : ∀ x ∈ s.tb, x.ks.length ≤ 1000 ∧ x.vs.length ≤ 1000
 t3 : ∀ x ∈ s.tb, (∀ v ∈ x.ks, v.s.size ≤ 300) ∧ ∀ v ∈ x.vs, v.s.size ≤ 300
 o1 : s.out.length ≤ 60000
 o2 : ∀ t ∈ s.out, t.size ≤ 300
 l : s.la.s.size ≤ 300
structure FS (l0 : Nat) (W : World) (F fc T tc U uc : Nat) (fw : List Fw) (tw : List Tw) (s : St) : Prop where
 fo : OwnR W F 50 4 s.fr.length fc (a0p fw)
 to : OwnR W T 57 2 s.tb.length tc (a0m tw)
 uo : OwnR W U 9 1 s.out.length uc (s.out.map Value.string)
 hf : fw.map Fw.x = s.fr
 ht : tw.map Tw.t = s.tb
 rg : ∀ q ∈ fw, OwnR W q.g 30 3 q.x.rs.length q.c (flat q.x.rs)
 nd : (F :: T :: U :: fw.map Fw.g).Nodup
 lo : ∀ k ∈ F :: T :: U :: fw.map Fw.g, l0 ≤ k
 tr : ∀ A : List Nat, (∀ k ∈ A, k < l0) → ∀ q ∈ tw, Rw W ((F :: T :: U :: fw.map Fw.g) ++ A) q.a q.t.ks ∧ Rw W ((F :: T :: U :: fw.map Fw.g) ++ A) q.b q.t.vs
theorem b1v.below (h : Below n₀ A B) (r : b1v n₀ A sv xs) : b1v n₀ B sv xs := by
 obtain ⟨a, cap, e, hl, hx⟩ := r
 refine ⟨a, cap, e, hl, fun hne => ?_⟩
 obtain ⟨b, off, ea, hb, hc⟩ := hx hne
 exact ⟨b, off, ea, hb, fun j x hj => (hc j x hj).below h hb⟩
theorem b1v.mono (hm : n₀ ≤ m) (r : b1v n₀ A sv xs) : b1v m A sv xs := by
 obtain ⟨a, cap, e, hl, hx⟩ := r
 refine ⟨a, cap, e, hl, fun hne => ?_⟩
 obtain ⟨b, off, ea, hb, hc⟩ := hx hne
 refine ⟨b, off, ea, by omega, fun j x hj => ?_⟩
 obtain ⟨t0, t1, t2, rv, t3, hr⟩ := hc j x hj
 exact ⟨t0, t1, t2, rv, t3, a1k hm hr⟩
theorem b0a.below (h : Below n₀ A B) {xs : List Tb} (r : b0a n₀ A sv xs) : b0a n₀ B sv xs := by
 obtain ⟨a, cap, e, hl, hx⟩ := r
 refine ⟨a, cap, e, hl, fun hne => ?_⟩
 obtain ⟨b, off, ea, hb, hc⟩ := hx hne
 exact ⟨b, off, ea, hb, fun j x hj => (hc j x hj).below h hb⟩
theorem b0a.mono (hm : n₀ ≤ m) {xs : List Tb} (r : b0a n₀ A sv xs) : b0a m A sv xs := by
 obtain ⟨a, cap, e, hl, hx⟩ := r
 refine ⟨a, cap, e, hl, fun hne => ?_⟩
 obtain ⟨b, off, ea, hb, hc⟩ := hx hne
 refine ⟨b, off, ea, by omega, fun j x hj => ?_⟩
 obtain ⟨kv, vv, t0, t1, hr, hr'⟩ := hc j x hj
 exact ⟨kv, vv, t0, t1, a1k hm hr, a1k hm hr'⟩
theorem RowS.below (h : Below n₀ A B) {xs : List ByteArray} (r : RowS n₀ A sv xs) : RowS n₀ B sv xs := by
 obtain ⟨a, cap, e, hl, hx⟩ := r
 refine ⟨a, cap, e, hl, fun hne => ?_⟩
 obtain ⟨b, off, ea, hb, hc⟩ := hx hne
 exact ⟨b, off, ea, hb, fun j x hj => (h.cell (p := ⟨b, off + j, none⟩) hb).trans (hc j x hj)⟩
theorem RowS.mono (hm : n₀ ≤ m) {xs : List ByteArray} (r : RowS n₀ A sv xs) : RowS m A sv xs := by
 obtain ⟨a, cap, e, hl, hx⟩ := r
 refine ⟨a, cap, e, hl, fun hne => ?_⟩
 obtain ⟨b, off, ea, hb, hc⟩ := hx hne
 exact ⟨b, off, ea, by omega, hc⟩
theorem StIn.at {V : World} {fv tv ov : Value} {s : St} (h : StIn W.heap.size W fv tv ov s) (hb : Below W.heap.size W V) : StIn V.heap.size V fv tv ov s := ⟨(h.f.below hb).mono hb.size, (h.t.below hb).mono hb.size, (h.o.below hb).mono hb.size⟩
theorem d4u {tm : Array Value} {B : Nat} {a b c d e f g h i : Value} (hp : tm[2]?.getD undef = .pointer (some ⟨B, 0, none⟩)) (hx : W.heap[B]? = some (.cells #[a, b, c, d, e, f, g, h, i] 32)) : (results Tryz.f50 tm).run Tryz.prog W = .ok (.agg #[a, b, c, d, e, f, g, h, i]) W := by
 obtain ⟨d0, d1, d2, d3, d4, d5, d6, d7, d8⟩ := nine hx
 simp [results, Tryz.results50, go_sem, hp, d0, d1, d2, d3, d4, d5, d6, d7, d8]
structure Beh (b : Nat) (A C : World) : Prop where
 s : A.heap.size ≤ C.heap.size
 k : ∀ k, b < k → k < A.heap.size → C.heap[k]? = A.heap[k]?
theorem Beh.trans {D : World} (h : Beh b A C) (h' : Beh b C D) : Beh b A D := ⟨Nat.le_trans h.s h'.s, fun k h1 h2 => (h'.k k h1 (Nat.lt_of_lt_of_le h2 h.s)).trans (h.k k h1 h2)⟩
theorem Beh.below (h : Below A.heap.size A C) : Beh b A C := ⟨h.size, fun k _ h2 => h.block k h2⟩
theorem Beh.set (h : Beh b A C) {p : Nat} (hp : p ≤ b) (i : Nat) (v : Value) : Beh b A (C.setCell ⟨p, i, none⟩ v) := ⟨by rw [World.size_setCell]; exact h.s, fun k h1 h2 => (a0f _ _ (by omega)).trans (h.k k h1 h2)⟩
theorem Beh.refl (b : Nat) (A : World) : Beh b A A := ⟨Nat.le_refl _, fun _ _ _ => rfl⟩
theorem Beh.own (h : Beh b A C) {e : TypeId} {sz n cap : Nat} {xs : List Value} (ho : OwnR A g e sz n cap xs) (hg : b < g) : OwnR C g e sz n cap xs := ho.same (h.k g hg ho.lt)
theorem Beh.rw {lo : Nat} (h : Beh b A C) {O : List Nat} {xs : List Vl} (hr : RwG lo A g sv xs) (hb : b < lo) (hO : ∀ k, lo ≤ k → k ≠ g → k < A.heap.size → k ∉ O) : Rw C O sv xs := by
 obtain ⟨a, cap, e, hl, hx⟩ := hr
 refine ⟨a, cap, e, hl, fun hne => ?_⟩
 obtain ⟨c, off, ea, h1, h2, h3, hc⟩ := hx hne
 refine ⟨c, off, ea, hO c h1 h2 h3, Nat.lt_of_lt_of_le h3 h.s, fun j x hj => ?_⟩
 have hk := h.k c (by omega) h3
 have hcell : ∀ o, C.cell? ⟨c, o, none⟩ = A.cell? ⟨c, o, none⟩ := fun o => by simp only [World.cell?]; rw [hk]
 obtain ⟨t0, t1, t2⟩ := hc j x hj
 exact ⟨(hcell _).trans t0, (hcell _).trans t1, (hcell _).trans t2⟩
theorem b3e (fv tv ov : Value) (s : St) (W : World) (hI : StIn W.heap.size W fv tv ov s) (hS : Small s) :
  Calls Tryz.prog 50 #[stv fv tv ov s] W fun e W' => ∃ F fc T tc U uc fw tw, e = .returned (stv (.slice (some ⟨F, 0, none⟩) s.fr.length fc) (.slice (some ⟨T, 0, none⟩) s.tb.length tc) (.slice (some ⟨U, 0, none⟩) s.out.length uc) s) ∧ FS W.heap.size W' F fc T tc U uc fw tw s ∧ Below W.heap.size W W' := by
 obtain ⟨w1, hw1⟩ := exq ((W.alloc (stb fv tv ov s)).alloc zst)
 have E0 : Below W.heap.size W w1 := by rw [← hw1]; exact a0c (a0c (Below.refl W.heap.size W) _) _
 have g0 : w1.heap[W.heap.size]? = some (stb fv tv ov s) := by rw [← hw1]; exact a0g _ (a0h _ _)
 have g1 : w1.heap[W.heap.size + 1]? = some zst := by rw [← hw1]; exact a6w W _ _
 obtain ⟨nf, hnf⟩ := exq (s.fr.length)
 obtain ⟨nt, hnt⟩ := exq (s.tb.length)
 obtain ⟨no, hno⟩ := exq (s.out.length)
 have hF : ∀ w2, Below W.heap.size W w2 → Calls Tryz.prog 67 #[fv, .func (.func 68) #[] #[]] w2 _ := fun w2 hb => c0z fv s.fr w2 ((hI.f.below hb).mono hb.size) hS.f1 hS.f2 hS.f3
 have hT : ∀ w2, Below W.heap.size W w2 → Calls Tryz.prog 71 #[tv, .func (.func 72) #[] #[]] w2 _ := fun w2 hb => c1a tv s.tb w2 ((hI.t.below hb).mono hb.size) hS.t1 hS.t2 hS.t3
 have hO : ∀ w2, Below W.heap.size W w2 → Calls Tryz.prog 73 #[ov, .func (.func 74) #[] #[]] w2 _ := fun w2 hb => c0y ov s.out w2 ((hI.o.below hb).mono hb.size) hS.o1 hS.o2
 have hL : ∀ w2, Calls Tryz.prog 70 #[s.la.v] w2 fun e W' => e = .returned s.la.v ∧ Below w2.heap.size w2 W' := fun w2 => b0w s.la w2 hS.l
 rw [hnf] at hF ⊢
 rw [hnt] at hT ⊢
 rw [hno] at hO ⊢
 obtain ⟨fa, fp, hfv, _⟩ := hI.f
 obtain ⟨ta, tp, htv, _⟩ := hI.t
 obtain ⟨oa, op, hov, _⟩ := hI.o
 rw [hnf] at hfv
 rw [hnt] at htv
 rw [hno] at hov
 clear hI hS
 subst hfv
 subst htv
 subst hov
 replace hF : Hid _ := hF
 replace hT : Hid _ := hT
 replace hO : Hid _ := hO
 replace hL : Hid _ := hL
 have z0 : W.heap.size + 1 < w1.heap.size := a0n g1
 have p0 := a0a (i := 0) g0 rfl
 go_enter Tryz.func50, Tryz.ntmps50
 go_wp2_with (go_at_call 67; (try rw [hw1]); refine (hF.out w1 E0).mono ?_; rintro e w2 ⟨F, fc, fw, rfl, hFo, hfx, hFI, hFl, hb2⟩; refine Hid.out ?_)
 refine Lib.hid ?_
 have G0 := a0d hb2 g0
 have G1 := a0d hb2 g1
 have s0 := a0a (i := 0) G0 rfl
 have f0 := a0e (i := 0) G0
 obtain ⟨X1, hX1⟩ := exq (w2.setCell ⟨W.heap.size, 0, none⟩ (.slice (some ⟨F, 0, none⟩) nf fc))
 have E1 : Below W.heap.size W X1 := by rw [← hX1]; exact (a0b E0 hb2).setCell (p := ⟨W.heap.size, 0, none⟩) (Nat.le_refl _) _
 have H0 : X1.heap[W.heap.size]? = some (stb (.slice (some ⟨F, 0, none⟩) nf fc) (.slice ta nt tp) (.slice oa no op) s) := by rw [← hX1]; exact a0k _ G0
 have H1 : X1.heap[W.heap.size + 1]? = some zst := by rw [← hX1]; exact (a0f _ _ (by omega)).trans G1
 have B1 : Beh (W.heap.size + 1) w2 X1 := by rw [← hX1]; exact (Beh.refl _ _).set (by omega) _ _
 have a1 := a0a (i := 1) H0 rfl
 go_wp2_with (go_at_call 71; (try rw [hX1]); refine (hT.out X1 E1).mono ?_; rintro e w3 ⟨T, tc, tw, rfl, hTo, htx, hTI, hTl, hb3⟩; refine Hid.out ?_)
 refine Lib.hid ?_
 have I0 := a0d hb3 H0
 have I1 := a0d hb3 H1
 have s1 := a0a (i := 1) I0 rfl
 have f1 := a0e (i := 1) I0
 obtain ⟨X2, hX2⟩ := exq (w3.setCell ⟨W.heap.size, 1, none⟩ (.slice (some ⟨T, 0, none⟩) nt tc))
 have E2 : Below W.heap.size W X2 := by rw [← hX2]; exact (a0b E1 hb3).setCell (p := ⟨W.heap.size, 1, none⟩) (Nat.le_refl _) _
 have J0 : X2.heap[W.heap.size]? = some (stb (.slice (some ⟨F, 0, none⟩) nf fc) (.slice (some ⟨T, 0, none⟩) nt tc) (.slice oa no op) s) := by rw [← hX2]; exact a0k _ I0
 have J1 : X2.heap[W.heap.size + 1]? = some zst := by rw [← hX2]; exact (a0f _ _ (by omega)).trans I1
 have B2 : Beh (W.heap.size + 1) w3 X2 := by rw [← hX2]; exact (Beh.refl _ _).set (by omega) _ _
 have b2 := a0a (i := 2) J0 rfl
 go_wp2_with (go_at_call 73; (try rw [hX2]); refine (hO.out X2 E2).mono ?_; rintro e w4 ⟨U, uc, rfl, hUo, hUl, hb4⟩; refine Hid.out ?_)
 refine Lib.hid ?_
 have K0 := a0d hb4 J0
 have K1 := a0d hb4 J1
 have s2 := a0a (i := 2) K0 rfl
 have f2 := a0e (i := 2) K0
 obtain ⟨X3, hX3⟩ := exq (w4.setCell ⟨W.heap.size, 2, none⟩ (.slice (some ⟨U, 0, none⟩) no uc))
 have E3 : Below W.heap.size W X3 := by rw [← hX3]; exact (a0b E2 hb4).setCell (p := ⟨W.heap.size, 2, none⟩) (Nat.le_refl _) _
 have L0 : X3.heap[W.heap.size]? = some (.cells #[(.slice (some ⟨F, 0, none⟩) nf fc), (.slice (some ⟨T, 0, none⟩) nt tc), (.slice (some ⟨U, 0, none⟩) no uc), .int .i64 s.st, .int .i64 s.en, .int .i64 s.er, .int .i64 s.la.k, .int .i64 s.la.n, .string s.la.s] 32) := by rw [← hX3]; exact a0k _ K0
 have L1 : X3.heap[W.heap.size + 1]? = some zst := by rw [← hX3]; exact (a0f _ _ (by omega)).trans K1
 have B3 : Beh (W.heap.size + 1) w4 X3 := by rw [← hX3]; exact (Beh.refl _ _).set (by omega) _ _
 have c6 := a0a (i := 6) L0 rfl
 have c7 := a0a (i := 7) L0 rfl
 have c8 := a0a (i := 8) L0 rfl
 go_wp2_with (go_at_call 70; (try rw [hX3]); refine (hL.out X3).mono ?_; rintro e w5 ⟨rfl, hb5⟩; refine Hid.out ?_)
 refine Lib.hid ?_
 have M0 := a0d hb5 L0
 have M1 := a0d hb5 L1
 have s6 := a0a (i := 6) M0 rfl
 have s7 := a0a (i := 7) M0 rfl
 have s8 := a0a (i := 8) M0 rfl
 have f6 := a0e (i := 6) M0
 have f7 := a0e (i := 7) M0
 have f8 := a0e (i := 8) M0
 obtain ⟨X4, hX4⟩ := exq ((((w5.setCell ⟨W.heap.size, 6, none⟩ (.int .i64 s.la.k)).setCell ⟨W.heap.size, 7, none⟩ (.int .i64 s.la.n)).setCell ⟨W.heap.size, 8, none⟩ (.string s.la.s)))
 have E4 : Below W.heap.size W X4 := by rw [← hX4]; exact (((a0b E3 hb5).setCell (p := ⟨W.heap.size, 6, none⟩) (Nat.le_refl _) _).setCell (p := ⟨W.heap.size, 7, none⟩) (Nat.le_refl _) _).setCell (p := ⟨W.heap.size, 8, none⟩) (Nat.le_refl _) _
 have N0 : X4.heap[W.heap.size]? = some (stb (.slice (some ⟨F, 0, none⟩) nf fc) (.slice (some ⟨T, 0, none⟩) nt tc) (.slice (some ⟨U, 0, none⟩) no uc) s) := by rw [← hX4]; exact (a0k _ (a0k _ (a0k _ M0)))
 have N1 : X4.heap[W.heap.size + 1]? = some zst := by rw [← hX4]; exact ((a0f _ _ (by omega)).trans ((a0f _ _ (by omega)).trans ((a0f _ _ (by omega)).trans M1)))
 have B4 : Beh (W.heap.size + 1) w5 X4 := by rw [← hX4]; exact (((Beh.refl _ _).set (by omega) _ _).set (by omega) _ _).set (by omega) _ _
 have d0 := a0a (i := 0) N0 rfl
 have d1 := a0a (i := 1) N0 rfl
 have d2 := a0a (i := 2) N0 rfl
 have d3 := a0a (i := 3) N0 rfl
 have d4 := a0a (i := 4) N0 rfl
 have d5 := a0a (i := 5) N0 rfl
 have d6 := a0a (i := 6) N0 rfl
 have d7 := a0a (i := 7) N0 rfl
 have d8 := a0a (i := 8) N0 rfl
 have m0 := a0a (i := 0) N1 rfl
 have z00 := a0e (i := 0) N1
 have m1 := a0a (i := 1) N1 rfl
 have z1 := a0e (i := 1) N1
 have m2 := a0a (i := 2) N1 rfl
 have z2 := a0e (i := 2) N1
 have m3 := a0a (i := 3) N1 rfl
 have z3 := a0e (i := 3) N1
 have m4 := a0a (i := 4) N1 rfl
 have z4 := a0e (i := 4) N1
 have m5 := a0a (i := 5) N1 rfl
 have z5 := a0e (i := 5) N1
 have m6 := a0a (i := 6) N1 rfl
 have z6 := a0e (i := 6) N1
 have m7 := a0a (i := 7) N1 rfl
 have z7 := a0e (i := 7) N1
 have m8 := a0a (i := 8) N1 rfl
 have z8 := a0e (i := 8) N1
 obtain ⟨Y, hY⟩ := exq ((((((((((X4.setCell ⟨W.heap.size + 1, 0, none⟩ (.slice (some ⟨F, 0, none⟩) nf fc)).setCell ⟨W.heap.size + 1, 1, none⟩ (.slice (some ⟨T, 0, none⟩) nt tc)).setCell ⟨W.heap.size + 1, 2, none⟩ (.slice (some ⟨U, 0, none⟩) no uc)).setCell ⟨W.heap.size + 1, 3, none⟩ (.int .i64 s.st)).setCell ⟨W.heap.size + 1, 4, none⟩ (.int .i64 s.en)).setCell ⟨W.heap.size + 1, 5, none⟩ (.int .i64 s.er)).setCell ⟨W.heap.size + 1, 6, none⟩ (.int .i64 s.la.k)).setCell ⟨W.heap.size + 1, 7, none⟩ (.int .i64 s.la.n)).setCell ⟨W.heap.size + 1, 8, none⟩ (.string s.la.s)))
 have E5 : Below W.heap.size W Y := by
  rw [← hY]
  exact (((((((((E4.setCell (p := ⟨W.heap.size + 1, 0, none⟩) (Nat.le_succ _) _).setCell (p := ⟨W.heap.size + 1, 1, none⟩) (Nat.le_succ _) _).setCell (p := ⟨W.heap.size + 1, 2, none⟩) (Nat.le_succ _) _).setCell (p := ⟨W.heap.size + 1, 3, none⟩) (Nat.le_succ _) _).setCell (p := ⟨W.heap.size + 1, 4, none⟩) (Nat.le_succ _) _).setCell (p := ⟨W.heap.size + 1, 5, none⟩) (Nat.le_succ _) _).setCell (p := ⟨W.heap.size + 1, 6, none⟩) (Nat.le_succ _) _).setCell (p := ⟨W.heap.size + 1, 7, none⟩) (Nat.le_succ _) _).setCell (p := ⟨W.heap.size + 1, 8, none⟩) (Nat.le_succ _) _)
 have P1 : Y.heap[W.heap.size + 1]? = some (stb (.slice (some ⟨F, 0, none⟩) nf fc) (.slice (some ⟨T, 0, none⟩) nt tc) (.slice (some ⟨U, 0, none⟩) no uc) s) := by rw [← hY]; exact (a0k _ (a0k _ (a0k _ (a0k _ (a0k _ (a0k _ (a0k _ (a0k _ (a0k _ N1)))))))))
 have B5 : Beh (W.heap.size + 1) X4 Y := by rw [← hY]; exact ((((((((((Beh.refl _ _).set (Nat.le_refl _) _ _).set (Nat.le_refl _) _ _).set (Nat.le_refl _) _ _).set (Nat.le_refl _) _ _).set (Nat.le_refl _) _ _).set (Nat.le_refl _) _ _).set (Nat.le_refl _) _ _).set (Nat.le_refl _) _ _).set (Nat.le_refl _) _ _)
 go_wp2
 refine bodyPost_ret (d4u (B := W.heap.size + 1) rfl P1) rfl ⟨F, fc, T, tc, U, uc, fw, tw, rfl, ?_, E5⟩
 have C5 := (Beh.below (b := W.heap.size + 1) hb5).trans (B4.trans B5)
 have C4 := B3.trans C5
 have C3 := B2.trans ((Beh.below (b := W.heap.size + 1) hb4).trans C4)
 have C2 := B1.trans ((Beh.below (b := W.heap.size + 1) hb3).trans C3)
 have q1 : w1.heap.size ≤ F := hFl
 have q2 : X1.heap.size ≤ T := hTl
 have q3 : X2.heap.size ≤ U := hUl
 have q4 := hFo.lt
 have q5 := hTo.lt
 have q6 := B1.s
 have q7 := B2.s
 have q8 := hb3.size
 have hgs : ∀ k ∈ fw.map Fw.g, w1.heap.size ≤ k ∧ k ≠ F ∧ k < w2.heap.size := fun k hk => by
  obtain ⟨q, hq, rfl⟩ := List.mem_map.1 hk
  exact ⟨(hFI.lo q hq).1, (hFI.lo q hq).2, (hFI.rg q hq).lt⟩
 have q9 := E1.size
 have hnn : ∀ A : List Nat, (∀ k ∈ A, k < W.heap.size) → ∀ k, X1.heap.size ≤ k → k ≠ T → k < w3.heap.size → k ∉ (F :: T :: U :: fw.map Fw.g) ++ A := fun A hA k h1 h2 h3 h4 => by
  rcases List.mem_append.1 h4 with h4 | h4
  rotate_left
  ·have := hA k h4
   omega
  rcases List.mem_cons.1 h4 with rfl | h4
  ·omega
  rcases List.mem_cons.1 h4 with rfl | h4
  ·omega
  rcases List.mem_cons.1 h4 with rfl | h4
  ·omega
  have := (hgs k h4).2.2
  omega
 refine ⟨by rw [hnf]; exact C2.own hFo (by omega), by rw [hnt]; exact C3.own hTo (by omega), by rw [hno]; exact C4.own hUo (by omega), hfx, htx, fun q hq => C2.own (hFI.rg q hq) (by have := (hFI.lo q hq).1; omega), ?_, ?_, fun A hA q hq => ⟨C3.rw (hTI q hq).1 (by omega) (hnn A hA), C3.rw (hTI q hq).2 (by omega) (hnn A hA)⟩⟩
 ·refine List.nodup_cons.2 ⟨fun h => ?_, List.nodup_cons.2 ⟨fun h => ?_, List.nodup_cons.2 ⟨fun h => ?_, hFI.nd⟩⟩⟩
  ·rcases List.mem_cons.1 h with rfl | h
   ·omega
   rcases List.mem_cons.1 h with rfl | h
   ·omega
   exact (hgs _ h).2.1 rfl
  ·rcases List.mem_cons.1 h with rfl | h
   ·omega
   have := (hgs _ h).2.2
   omega
  ·have := (hgs _ h).2.2
   omega
 ·have h0 := E0.size
  intro k hk
  rcases List.mem_cons.1 hk with rfl | hk
  ·omega
  rcases List.mem_cons.1 hk with rfl | hk
  ·omega
  rcases List.mem_cons.1 hk with rfl | hk
  ·omega
  have := (hgs k hk).1
  omega
end
end Go.Proofs.YthpgbienakcbeaaGreatDoor
