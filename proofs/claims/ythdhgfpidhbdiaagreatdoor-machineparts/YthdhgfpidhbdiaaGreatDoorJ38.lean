/- A state once more, in memory of its own. machine.May's questions of frames, of tables, of what was told, of the end. machine.May: tables, what was told, the end. machine.May: the end; the whole. machine.May is what H1 says. -/
import Derived.Test.YthdhgfpidhbdiaaGreatDoorJ27
import Derived.Test.YthdhgfpidhbdiaaGreatDoorJ23
import Derived.Test.YthdhgfpidhbdiaaGreatDoorJ24
import Derived.Test.YthdhgfpidhbdiaaGreatDoorJ25
namespace Go.Proofs.YthdhgfpidhbdiaaGreatDoor
open Go.RowKit
open Go

set_option linter.unusedSectionVars false
variable [DecidableEq Vl]

/-- A state's value. -/
abbrev stv (fv tv ov : Value) (s : St) : Value := .agg #[fv, tv, ov, .int .i64 s.st, .int .i64 s.en, .int .i64 s.er, .int .i64 s.la.k, .int .i64 s.la.n, .string s.la.s]
abbrev stb (fv tv ov : Value) (s : St) : Obj := .cells #[fv, tv, ov, .int .i64 s.st, .int .i64 s.en, .int .i64 s.er, .int .i64 s.la.k, .int .i64 s.la.n, .string s.la.s] 32
abbrev zst : Obj := .cells #[.slice none 0 0, .slice none 0 0, .slice none 0 0, .int .i64 0, .int .i64 0, .int .i64 0, .int .i64 0, .int .i64 0, .string ⟨#[]⟩] 32
/-- A state that is handed in. -/
structure StIn (n₀ : Nat) (W : World) (fv tv ov : Value) (s : St) : Prop where
  f : RowFr n₀ W fv s.fr
  t : RowTb n₀ W tv s.tb
  o : RowS n₀ W ov s.out
/-- One that is small enough to be made anew. -/
structure Small (s : St) : Prop where
  f1 : s.fr.length ≤ 40
  f2 : ∀ x ∈ s.fr, x.rs.length ≤ 1000
  f3 : ∀ x ∈ s.fr, ∀ v ∈ x.rs, v.s.size ≤ 300
  t1 : s.tb.length ≤ 200
  t2 : ∀ x ∈ s.tb, x.ks.length ≤ 1000 ∧ x.vs.length ≤ 1000
  t3 : ∀ x ∈ s.tb, (∀ v ∈ x.ks, v.s.size ≤ 300) ∧ ∀ v ∈ x.vs, v.s.size ≤ 300
  o1 : s.out.length ≤ 60000
  o2 : ∀ t ∈ s.out, t.size ≤ 300
  l : s.la.s.size ≤ 300
/-- A state that was made anew: its blocks. -/
structure FS (l0 : Nat) (W : World) (F fc T tc U uc : Nat) (fw : List Fw) (tw : List Tw) (s : St) : Prop where
  fo : OwnR W F 50 4 s.fr.length fc (frCells fw)
  to : OwnR W T 57 2 s.tb.length tc (tbCells tw)
  uo : OwnR W U 9 1 s.out.length uc (s.out.map Value.string)
  hf : fw.map Fw.x = s.fr
  ht : tw.map Tw.t = s.tb
  rg : ∀ q ∈ fw, OwnR W q.g 30 3 q.x.rs.length q.c (flat q.x.rs)
  nd : (F :: T :: U :: fw.map Fw.g).Nodup
  lo : ∀ k ∈ F :: T :: U :: fw.map Fw.g, l0 ≤ k
  tr : ∀ A : List Nat, (∀ k ∈ A, k < l0) → ∀ q ∈ tw, Rw W ((F :: T :: U :: fw.map Fw.g) ++ A) q.a q.t.ks ∧ Rw W ((F :: T :: U :: fw.map Fw.g) ++ A) q.b q.t.vs
theorem RowFr.below {n₀ : Nat} {A B : World} (h : Below n₀ A B) {sv : Value} {xs : List Frm} (r : RowFr n₀ A sv xs) : RowFr n₀ B sv xs := by
  obtain ⟨a, cap, e, hl, hx⟩ := r
  refine ⟨a, cap, e, hl, fun hne => ?_⟩
  obtain ⟨b, off, ea, hb, hc⟩ := hx hne
  exact ⟨b, off, ea, hb, fun j x hj => (hc j x hj).below h hb⟩
theorem RowFr.mono {n₀ m : Nat} (hm : n₀ ≤ m) {A : World} {sv : Value} {xs : List Frm} (r : RowFr n₀ A sv xs) : RowFr m A sv xs := by
  obtain ⟨a, cap, e, hl, hx⟩ := r
  refine ⟨a, cap, e, hl, fun hne => ?_⟩
  obtain ⟨b, off, ea, hb, hc⟩ := hx hne
  refine ⟨b, off, ea, by omega, fun j x hj => ?_⟩
  obtain ⟨t0, t1, t2, rv, t3, hr⟩ := hc j x hj
  exact ⟨t0, t1, t2, rv, t3, row_mono hm hr⟩
theorem RowTb.below {n₀ : Nat} {A B : World} (h : Below n₀ A B) {sv : Value} {xs : List Tb} (r : RowTb n₀ A sv xs) : RowTb n₀ B sv xs := by
  obtain ⟨a, cap, e, hl, hx⟩ := r
  refine ⟨a, cap, e, hl, fun hne => ?_⟩
  obtain ⟨b, off, ea, hb, hc⟩ := hx hne
  exact ⟨b, off, ea, hb, fun j x hj => (hc j x hj).below h hb⟩
theorem RowTb.mono {n₀ m : Nat} (hm : n₀ ≤ m) {A : World} {sv : Value} {xs : List Tb} (r : RowTb n₀ A sv xs) : RowTb m A sv xs := by
  obtain ⟨a, cap, e, hl, hx⟩ := r
  refine ⟨a, cap, e, hl, fun hne => ?_⟩
  obtain ⟨b, off, ea, hb, hc⟩ := hx hne
  refine ⟨b, off, ea, by omega, fun j x hj => ?_⟩
  obtain ⟨kv, vv, t0, t1, hr, hr'⟩ := hc j x hj
  exact ⟨kv, vv, t0, t1, row_mono hm hr, row_mono hm hr'⟩
theorem RowS.below {n₀ : Nat} {A B : World} (h : Below n₀ A B) {sv : Value} {xs : List ByteArray} (r : RowS n₀ A sv xs) : RowS n₀ B sv xs := by
  obtain ⟨a, cap, e, hl, hx⟩ := r
  refine ⟨a, cap, e, hl, fun hne => ?_⟩
  obtain ⟨b, off, ea, hb, hc⟩ := hx hne
  exact ⟨b, off, ea, hb, fun j x hj => (h.cell (p := ⟨b, off + j, none⟩) hb).trans (hc j x hj)⟩
theorem RowS.mono {n₀ m : Nat} (hm : n₀ ≤ m) {A : World} {sv : Value} {xs : List ByteArray} (r : RowS n₀ A sv xs) : RowS m A sv xs := by
  obtain ⟨a, cap, e, hl, hx⟩ := r
  refine ⟨a, cap, e, hl, fun hne => ?_⟩
  obtain ⟨b, off, ea, hb, hc⟩ := hx hne
  exact ⟨b, off, ea, by omega, hc⟩
theorem StIn.at {W V : World} {fv tv ov : Value} {s : St} (h : StIn W.heap.size W fv tv ov s) (hb : Below W.heap.size W V) : StIn V.heap.size V fv tv ov s := ⟨(h.f.below hb).mono hb.size, (h.t.below hb).mono hb.size, (h.o.below hb).mono hb.size⟩
theorem res50 {tm : Array Value} {W : World} {B : Nat} {a b c d e f g h i : Value} (hp : tm[2]?.getD undef = .pointer (some ⟨B, 0, none⟩)) (hx : W.heap[B]? = some (.cells #[a, b, c, d, e, f, g, h, i] 32)) : (results Tryz.f50 tm).run Tryz.prog W = .ok (.agg #[a, b, c, d, e, f, g, h, i]) W := by
  obtain ⟨d0, d1, d2, d3, d4, d5, d6, d7, d8⟩ := nine hx
  simp [results, Tryz.results50, go_sem, hp, d0, d1, d2, d3, d4, d5, d6, d7, d8]
/-- What lies behind block b is as it was. -/
structure Beh (b : Nat) (A C : World) : Prop where
  s : A.heap.size ≤ C.heap.size
  k : ∀ k, b < k → k < A.heap.size → C.heap[k]? = A.heap[k]?
theorem Beh.trans {b : Nat} {A C D : World} (h : Beh b A C) (h' : Beh b C D) : Beh b A D := ⟨Nat.le_trans h.s h'.s, fun k h1 h2 => (h'.k k h1 (Nat.lt_of_lt_of_le h2 h.s)).trans (h.k k h1 h2)⟩
theorem Beh.below {b : Nat} {A C : World} (h : Below A.heap.size A C) : Beh b A C := ⟨h.size, fun k _ h2 => h.block k h2⟩
theorem Beh.set {b : Nat} {A C : World} (h : Beh b A C) {p : Nat} (hp : p ≤ b) (i : Nat) (v : Value) : Beh b A (C.setCell ⟨p, i, none⟩ v) := ⟨by rw [World.size_setCell]; exact h.s, fun k h1 h2 => (set1_other _ _ (by omega)).trans (h.k k h1 h2)⟩
theorem Beh.refl (b : Nat) (A : World) : Beh b A A := ⟨Nat.le_refl _, fun _ _ _ => rfl⟩
theorem Beh.own {b : Nat} {A C : World} (h : Beh b A C) {g : Nat} {e : TypeId} {sz n cap : Nat} {xs : List Value} (ho : OwnR A g e sz n cap xs) (hg : b < g) : OwnR C g e sz n cap xs := ho.same (h.k g hg ho.lt)
theorem Beh.rw {b lo : Nat} {A C : World} (h : Beh b A C) {g : Nat} {O : List Nat} {sv : Value} {xs : List Vl} (hr : RwG lo A g sv xs) (hb : b < lo) (hO : ∀ k, lo ≤ k → k ≠ g → k < A.heap.size → k ∉ O) : Rw C O sv xs := by
  obtain ⟨a, cap, e, hl, hx⟩ := hr
  refine ⟨a, cap, e, hl, fun hne => ?_⟩
  obtain ⟨c, off, ea, h1, h2, h3, hc⟩ := hx hne
  refine ⟨c, off, ea, hO c h1 h2 h3, Nat.lt_of_lt_of_le h3 h.s, fun j x hj => ?_⟩
  have hk := h.k c (by omega) h3
  have hcell : ∀ o, C.cell? ⟨c, o, none⟩ = A.cell? ⟨c, o, none⟩ := fun o => by simp only [World.cell?]; rw [hk]
  obtain ⟨t0, t1, t2⟩ := hc j x hj
  exact ⟨(hcell _).trans t0, (hcell _).trans t1, (hcell _).trans t2⟩
set_option maxRecDepth 20000 in
set_option maxHeartbeats 8000000 in
theorem fresh_any (fv tv ov : Value) (s : St) (W : World) (hI : StIn W.heap.size W fv tv ov s) (hS : Small s) :
    Calls Tryz.prog 50 #[stv fv tv ov s] W fun e W' => ∃ F fc T tc U uc fw tw, e = .returned (stv (.slice (some ⟨F, 0, none⟩) s.fr.length fc) (.slice (some ⟨T, 0, none⟩) s.tb.length tc) (.slice (some ⟨U, 0, none⟩) s.out.length uc) s) ∧ FS W.heap.size W' F fc T tc U uc fw tw s ∧ Below W.heap.size W W' := by
  obtain ⟨w1, hw1⟩ : ∃ w1, (W.alloc (stb fv tv ov s)).alloc zst = w1 := ⟨_, rfl⟩
  have E0 : Below W.heap.size W w1 := by rw [← hw1]; exact ext_alloc (ext_alloc (Below.refl W.heap.size W) _) _
  have g0 : w1.heap[W.heap.size]? = some (stb fv tv ov s) := by rw [← hw1]; exact block_alloc _ (heap_new _ _)
  have g1 : w1.heap[W.heap.size + 1]? = some zst := by rw [← hw1]; exact new2' W _ _
  obtain ⟨nf, hnf⟩ : ∃ n, s.fr.length = n := ⟨_, rfl⟩
  obtain ⟨nt, hnt⟩ : ∃ n, s.tb.length = n := ⟨_, rfl⟩
  obtain ⟨no, hno⟩ : ∃ n, s.out.length = n := ⟨_, rfl⟩
  have hF : ∀ w2, Below W.heap.size W w2 → Calls Tryz.prog 67 #[fv, .func (.func 68) #[] #[]] w2 _ := fun w2 hb => eachF_any fv s.fr w2 ((hI.f.below hb).mono hb.size) hS.f1 hS.f2 hS.f3
  have hT : ∀ w2, Below W.heap.size W w2 → Calls Tryz.prog 71 #[tv, .func (.func 72) #[] #[]] w2 _ := fun w2 hb => eachT_any tv s.tb w2 ((hI.t.below hb).mono hb.size) hS.t1 hS.t2 hS.t3
  have hO : ∀ w2, Below W.heap.size W w2 → Calls Tryz.prog 73 #[ov, .func (.func 74) #[] #[]] w2 _ := fun w2 hb => eachS_any ov s.out w2 ((hI.o.below hb).mono hb.size) hS.o1 hS.o2
  have hL : ∀ w2, Calls Tryz.prog 70 #[s.la.v] w2 fun e W' => e = .returned s.la.v ∧ Below w2.heap.size w2 W' := fun w2 => freshV_any s.la w2 hS.l
  rw [hnf] at hF ⊢
  rw [hnt] at hT ⊢
  rw [hno] at hO ⊢
  obtain ⟨fa, fp, hfv, _⟩ := hI.f
  obtain ⟨ta, tp, htv, _⟩ := hI.t
  obtain ⟨oa, op, hov, _⟩ := hI.o
  rw [hnf] at hfv
  rw [hnt] at htv
  rw [hno] at hov
  clear hI hS
  subst hfv
  subst htv
  subst hov
  replace hF : Hid _ := hF
  replace hT : Hid _ := hT
  replace hO : Hid _ := hO
  replace hL : Hid _ := hL
  have z0 : W.heap.size + 1 < w1.heap.size := block_lt g1
  have p0 := cell_block (i := 0) g0 rfl
  go_enter Tryz.func50, Tryz.ntmps50
  go_wp2_with (go_at_call 67; (try rw [hw1]); refine (hF.out w1 E0).mono ?_; rintro e w2 ⟨F, fc, fw, rfl, hFo, hfx, hFI, hFl, hb2⟩; refine Hid.out ?_)
  refine Lib.hid ?_
  have G0 := block_below hb2 g0
  have G1 := block_below hb2 g1
  have s0 := cell_block (i := 0) G0 rfl
  have f0 := frozen_block (i := 0) G0
  obtain ⟨X1, hX1⟩ : ∃ X, w2.setCell ⟨W.heap.size, 0, none⟩ (.slice (some ⟨F, 0, none⟩) nf fc) = X := ⟨_, rfl⟩
  have E1 : Below W.heap.size W X1 := by rw [← hX1]; exact (ext_trans E0 hb2).setCell (p := ⟨W.heap.size, 0, none⟩) (Nat.le_refl _) _
  have H0 : X1.heap[W.heap.size]? = some (stb (.slice (some ⟨F, 0, none⟩) nf fc) (.slice ta nt tp) (.slice oa no op) s) := by rw [← hX1]; exact set_block _ G0
  have H1 : X1.heap[W.heap.size + 1]? = some zst := by rw [← hX1]; exact (set1_other _ _ (by omega)).trans G1
  have B1 : Beh (W.heap.size + 1) w2 X1 := by rw [← hX1]; exact (Beh.refl _ _).set (by omega) _ _
  have a1 := cell_block (i := 1) H0 rfl
  go_wp2_with (go_at_call 71; (try rw [hX1]); refine (hT.out X1 E1).mono ?_; rintro e w3 ⟨T, tc, tw, rfl, hTo, htx, hTI, hTl, hb3⟩; refine Hid.out ?_)
  refine Lib.hid ?_
  have I0 := block_below hb3 H0
  have I1 := block_below hb3 H1
  have s1 := cell_block (i := 1) I0 rfl
  have f1 := frozen_block (i := 1) I0
  obtain ⟨X2, hX2⟩ : ∃ X, w3.setCell ⟨W.heap.size, 1, none⟩ (.slice (some ⟨T, 0, none⟩) nt tc) = X := ⟨_, rfl⟩
  have E2 : Below W.heap.size W X2 := by rw [← hX2]; exact (ext_trans E1 hb3).setCell (p := ⟨W.heap.size, 1, none⟩) (Nat.le_refl _) _
  have J0 : X2.heap[W.heap.size]? = some (stb (.slice (some ⟨F, 0, none⟩) nf fc) (.slice (some ⟨T, 0, none⟩) nt tc) (.slice oa no op) s) := by rw [← hX2]; exact set_block _ I0
  have J1 : X2.heap[W.heap.size + 1]? = some zst := by rw [← hX2]; exact (set1_other _ _ (by omega)).trans I1
  have B2 : Beh (W.heap.size + 1) w3 X2 := by rw [← hX2]; exact (Beh.refl _ _).set (by omega) _ _
  have b2 := cell_block (i := 2) J0 rfl
  go_wp2_with (go_at_call 73; (try rw [hX2]); refine (hO.out X2 E2).mono ?_; rintro e w4 ⟨U, uc, rfl, hUo, hUl, hb4⟩; refine Hid.out ?_)
  refine Lib.hid ?_
  have K0 := block_below hb4 J0
  have K1 := block_below hb4 J1
  have s2 := cell_block (i := 2) K0 rfl
  have f2 := frozen_block (i := 2) K0
  obtain ⟨X3, hX3⟩ : ∃ X, w4.setCell ⟨W.heap.size, 2, none⟩ (.slice (some ⟨U, 0, none⟩) no uc) = X := ⟨_, rfl⟩
  have E3 : Below W.heap.size W X3 := by rw [← hX3]; exact (ext_trans E2 hb4).setCell (p := ⟨W.heap.size, 2, none⟩) (Nat.le_refl _) _
  have L0 : X3.heap[W.heap.size]? = some (.cells #[(.slice (some ⟨F, 0, none⟩) nf fc), (.slice (some ⟨T, 0, none⟩) nt tc), (.slice (some ⟨U, 0, none⟩) no uc), .int .i64 s.st, .int .i64 s.en, .int .i64 s.er, .int .i64 s.la.k, .int .i64 s.la.n, .string s.la.s] 32) := by rw [← hX3]; exact set_block _ K0
  have L1 : X3.heap[W.heap.size + 1]? = some zst := by rw [← hX3]; exact (set1_other _ _ (by omega)).trans K1
  have B3 : Beh (W.heap.size + 1) w4 X3 := by rw [← hX3]; exact (Beh.refl _ _).set (by omega) _ _
  have c6 := cell_block (i := 6) L0 rfl
  have c7 := cell_block (i := 7) L0 rfl
  have c8 := cell_block (i := 8) L0 rfl
  go_wp2_with (go_at_call 70; (try rw [hX3]); refine (hL.out X3).mono ?_; rintro e w5 ⟨rfl, hb5⟩; refine Hid.out ?_)
  refine Lib.hid ?_
  have M0 := block_below hb5 L0
  have M1 := block_below hb5 L1
  have s6 := cell_block (i := 6) M0 rfl
  have s7 := cell_block (i := 7) M0 rfl
  have s8 := cell_block (i := 8) M0 rfl
  have f6 := frozen_block (i := 6) M0
  have f7 := frozen_block (i := 7) M0
  have f8 := frozen_block (i := 8) M0
  obtain ⟨X4, hX4⟩ : ∃ X, (((w5.setCell ⟨W.heap.size, 6, none⟩ (.int .i64 s.la.k)).setCell ⟨W.heap.size, 7, none⟩ (.int .i64 s.la.n)).setCell ⟨W.heap.size, 8, none⟩ (.string s.la.s)) = X := ⟨_, rfl⟩
  have E4 : Below W.heap.size W X4 := by rw [← hX4]; exact (((ext_trans E3 hb5).setCell (p := ⟨W.heap.size, 6, none⟩) (Nat.le_refl _) _).setCell (p := ⟨W.heap.size, 7, none⟩) (Nat.le_refl _) _).setCell (p := ⟨W.heap.size, 8, none⟩) (Nat.le_refl _) _
  have N0 : X4.heap[W.heap.size]? = some (stb (.slice (some ⟨F, 0, none⟩) nf fc) (.slice (some ⟨T, 0, none⟩) nt tc) (.slice (some ⟨U, 0, none⟩) no uc) s) := by rw [← hX4]; exact (set_block _ (set_block _ (set_block _ M0)))
  have N1 : X4.heap[W.heap.size + 1]? = some zst := by rw [← hX4]; exact ((set1_other _ _ (by omega)).trans ((set1_other _ _ (by omega)).trans ((set1_other _ _ (by omega)).trans M1)))
  have B4 : Beh (W.heap.size + 1) w5 X4 := by rw [← hX4]; exact (((Beh.refl _ _).set (by omega) _ _).set (by omega) _ _).set (by omega) _ _
  have d0 := cell_block (i := 0) N0 rfl
  have d1 := cell_block (i := 1) N0 rfl
  have d2 := cell_block (i := 2) N0 rfl
  have d3 := cell_block (i := 3) N0 rfl
  have d4 := cell_block (i := 4) N0 rfl
  have d5 := cell_block (i := 5) N0 rfl
  have d6 := cell_block (i := 6) N0 rfl
  have d7 := cell_block (i := 7) N0 rfl
  have d8 := cell_block (i := 8) N0 rfl
  have m0 := cell_block (i := 0) N1 rfl
  have z00 := frozen_block (i := 0) N1
  have m1 := cell_block (i := 1) N1 rfl
  have z1 := frozen_block (i := 1) N1
  have m2 := cell_block (i := 2) N1 rfl
  have z2 := frozen_block (i := 2) N1
  have m3 := cell_block (i := 3) N1 rfl
  have z3 := frozen_block (i := 3) N1
  have m4 := cell_block (i := 4) N1 rfl
  have z4 := frozen_block (i := 4) N1
  have m5 := cell_block (i := 5) N1 rfl
  have z5 := frozen_block (i := 5) N1
  have m6 := cell_block (i := 6) N1 rfl
  have z6 := frozen_block (i := 6) N1
  have m7 := cell_block (i := 7) N1 rfl
  have z7 := frozen_block (i := 7) N1
  have m8 := cell_block (i := 8) N1 rfl
  have z8 := frozen_block (i := 8) N1
  obtain ⟨Y, hY⟩ : ∃ X, (((((((((X4.setCell ⟨W.heap.size + 1, 0, none⟩ (.slice (some ⟨F, 0, none⟩) nf fc)).setCell ⟨W.heap.size + 1, 1, none⟩ (.slice (some ⟨T, 0, none⟩) nt tc)).setCell ⟨W.heap.size + 1, 2, none⟩ (.slice (some ⟨U, 0, none⟩) no uc)).setCell ⟨W.heap.size + 1, 3, none⟩ (.int .i64 s.st)).setCell ⟨W.heap.size + 1, 4, none⟩ (.int .i64 s.en)).setCell ⟨W.heap.size + 1, 5, none⟩ (.int .i64 s.er)).setCell ⟨W.heap.size + 1, 6, none⟩ (.int .i64 s.la.k)).setCell ⟨W.heap.size + 1, 7, none⟩ (.int .i64 s.la.n)).setCell ⟨W.heap.size + 1, 8, none⟩ (.string s.la.s)) = X := ⟨_, rfl⟩
  have E5 : Below W.heap.size W Y := by
    rw [← hY]
    exact (((((((((E4.setCell (p := ⟨W.heap.size + 1, 0, none⟩) (Nat.le_succ _) _).setCell (p := ⟨W.heap.size + 1, 1, none⟩) (Nat.le_succ _) _).setCell (p := ⟨W.heap.size + 1, 2, none⟩) (Nat.le_succ _) _).setCell (p := ⟨W.heap.size + 1, 3, none⟩) (Nat.le_succ _) _).setCell (p := ⟨W.heap.size + 1, 4, none⟩) (Nat.le_succ _) _).setCell (p := ⟨W.heap.size + 1, 5, none⟩) (Nat.le_succ _) _).setCell (p := ⟨W.heap.size + 1, 6, none⟩) (Nat.le_succ _) _).setCell (p := ⟨W.heap.size + 1, 7, none⟩) (Nat.le_succ _) _).setCell (p := ⟨W.heap.size + 1, 8, none⟩) (Nat.le_succ _) _)
  have P1 : Y.heap[W.heap.size + 1]? = some (stb (.slice (some ⟨F, 0, none⟩) nf fc) (.slice (some ⟨T, 0, none⟩) nt tc) (.slice (some ⟨U, 0, none⟩) no uc) s) := by rw [← hY]; exact (set_block _ (set_block _ (set_block _ (set_block _ (set_block _ (set_block _ (set_block _ (set_block _ (set_block _ N1)))))))))
  have B5 : Beh (W.heap.size + 1) X4 Y := by rw [← hY]; exact ((((((((((Beh.refl _ _).set (Nat.le_refl _) _ _).set (Nat.le_refl _) _ _).set (Nat.le_refl _) _ _).set (Nat.le_refl _) _ _).set (Nat.le_refl _) _ _).set (Nat.le_refl _) _ _).set (Nat.le_refl _) _ _).set (Nat.le_refl _) _ _).set (Nat.le_refl _) _ _)
  go_wp2
  refine bodyPost_ret (res50 (B := W.heap.size + 1) rfl P1) rfl ⟨F, fc, T, tc, U, uc, fw, tw, rfl, ?_, E5⟩
  have C5 := (Beh.below (b := W.heap.size + 1) hb5).trans (B4.trans B5)
  have C4 := B3.trans C5
  have C3 := B2.trans ((Beh.below (b := W.heap.size + 1) hb4).trans C4)
  have C2 := B1.trans ((Beh.below (b := W.heap.size + 1) hb3).trans C3)
  have q1 : w1.heap.size ≤ F := hFl
  have q2 : X1.heap.size ≤ T := hTl
  have q3 : X2.heap.size ≤ U := hUl
  have q4 := hFo.lt
  have q5 := hTo.lt
  have q6 := B1.s
  have q7 := B2.s
  have q8 := hb3.size
  have hgs : ∀ k ∈ fw.map Fw.g, w1.heap.size ≤ k ∧ k ≠ F ∧ k < w2.heap.size := fun k hk => by
    obtain ⟨q, hq, rfl⟩ := List.mem_map.1 hk
    exact ⟨(hFI.lo q hq).1, (hFI.lo q hq).2, (hFI.rg q hq).lt⟩
  have q9 := E1.size
  have hnn : ∀ A : List Nat, (∀ k ∈ A, k < W.heap.size) → ∀ k, X1.heap.size ≤ k → k ≠ T → k < w3.heap.size → k ∉ (F :: T :: U :: fw.map Fw.g) ++ A := fun A hA k h1 h2 h3 h4 => by
    rcases List.mem_append.1 h4 with h4 | h4
    rotate_left
    · have := hA k h4
      omega
    rcases List.mem_cons.1 h4 with rfl | h4
    · omega
    rcases List.mem_cons.1 h4 with rfl | h4
    · omega
    rcases List.mem_cons.1 h4 with rfl | h4
    · omega
    have := (hgs k h4).2.2
    omega
  refine ⟨by rw [hnf]; exact C2.own hFo (by omega), by rw [hnt]; exact C3.own hTo (by omega), by rw [hno]; exact C4.own hUo (by omega), hfx, htx, fun q hq => C2.own (hFI.rg q hq) (by have := (hFI.lo q hq).1; omega), ?_, ?_, fun A hA q hq => ⟨C3.rw (hTI q hq).1 (by omega) (hnn A hA), C3.rw (hTI q hq).2 (by omega) (hnn A hA)⟩⟩
  · refine List.nodup_cons.2 ⟨fun h => ?_, List.nodup_cons.2 ⟨fun h => ?_, List.nodup_cons.2 ⟨fun h => ?_, hFI.nd⟩⟩⟩
    · rcases List.mem_cons.1 h with rfl | h
      · omega
      rcases List.mem_cons.1 h with rfl | h
      · omega
      exact (hgs _ h).2.1 rfl
    · rcases List.mem_cons.1 h with rfl | h
      · omega
      have := (hgs _ h).2.2
      omega
    · have := (hgs _ h).2.2
      omega
  · have h0 := E0.size
    intro k hk
    rcases List.mem_cons.1 hk with rfl | hk
    · omega
    rcases List.mem_cons.1 hk with rfl | hk
    · omega
    rcases List.mem_cons.1 hk with rfl | hk
    · omega
    have := (hgs k hk).1
    omega
end Go.Proofs.YthdhgfpidhbdiaaGreatDoor
namespace Go.Proofs.YthdhgfpidhbdiaaGreatDoor
open Go.RowKit
open Go

set_option linter.unusedSectionVars false
variable [DecidableEq Vl]

/-- A machine that is asked. -/
structure MIn (W : World) (M : Nat) (ca : Option Addr) (cc : Nat) (fs : List Fd) (mn : Int) (fv tv ov : Value) (s : St) : Prop where
  box : W.heap[M]? = some (.cells #[.slice ca fs.length cc, .int .i64 mn, fv, tv, ov, .int .i64 s.st, .int .i64 s.en, .int .i64 s.er, .int .i64 s.la.k, .int .i64 s.la.n, .string s.la.s] 46)
  si : StIn W.heap.size W fv tv ov s
  rf : RowF W.heap.size W ca fs
theorem RowF.at {W V : World} {a : Option Addr} {fs : List Fd} (h : RowF W.heap.size W a fs) (hb : Below W.heap.size W V) : RowF V.heap.size V a fs := (h.below hb).mono hb.size
theorem MIn.on {W V : World} {M : Nat} {ca : Option Addr} {cc : Nat} {fs : List Fd} {mn : Int} {fv tv ov : Value} {s : St} (h : MIn W M ca cc fs mn fv tv ov s) (hb : Below W.heap.size W V) : MIn V M ca cc fs mn fv tv ov s :=
  ⟨blk_below hb h.box, h.si.at hb, h.rf.at hb⟩
theorem MIn.mat {W : World} {M : Nat} {ca : Option Addr} {cc : Nat} {fs : List Fd} {mn : Int} {fv tv ov : Value} {s : St} (h : MIn W M ca cc fs mn fv tv ov s) : ∃ ta tc, tv = .slice ta s.tb.length tc ∧ MAt W M ca fs.length cc ta s.tb.length tc := by
  obtain ⟨ta, tc, e, _⟩ := h.si.t
  subst e
  exact ⟨ta, tc, rfl, cell_block h.box rfl, cell_block h.box rfl⟩
/-- Frames from here on; the one below has so many registers. -/
def frsB (fs : List Fd) (nt : Nat) : Int → List Frm → Bool
  | _, [] => true
  | d, x :: l => belB x.d d && fmB fs nt x && frsB fs nt x.rs.length l
set_option maxRecDepth 100000 in
set_option maxHeartbeats 4000000 in
theorem mframes_any {W : World} {M : Nat} {ca : Option Addr} {cc : Nat} {fs : List Fd} {mn : Int} {fv tv ov : Value} {s : St} (h : MIn W M ca cc fs mn fv tv ov s) :
    Calls Tryz.prog 16 #[.pointer (some ⟨M, 0, none⟩)] W fun r w' => r = .returned (.bool (frB 1 s.fr.length 40 && frsB fs s.tb.length 1 s.fr)) ∧ Below W.heap.size W w' := by
  obtain ⟨ta, tc, rfl, hA⟩ := h.mat
  obtain ⟨fa, fc, rfl, hlen, hrow⟩ := h.si.f
  replace hlen := le_lit hlen
  have hfr : ∀ u, Below W.heap.size W u → ∀ (x : Frm) (rv : Value), Row u.heap.size u rv x.rs → Calls Tryz.prog 42 #[.pointer (some ⟨M, 0, none⟩), .agg #[.int .i64 x.f, .int .i64 x.pc, .int .i64 x.d, rv]] u _ := fun u hu x rv hr => mframe_any x rv M fs cc s.tb.length tc ca ta u (hA.on hu) (h.rf.at hu) hr
  have c2 : W.cell? ⟨M, 2, none⟩ = some (.slice fa s.fr.length fc) := cell_block h.box rfl
  obtain ⟨xs, hxs⟩ : ∃ xs, s.fr = xs := ⟨_, rfl⟩
  obtain ⟨nt, hnt⟩ : ∃ nt, s.tb.length = nt := ⟨_, rfl⟩
  rw [hxs] at hrow hlen c2 ⊢
  rw [hnt] at hfr ⊢
  clear h hA hxs hnt
  have hq := fun w => mfrom_any 1 xs.length 40 w
  cases h1 : frB 1 xs.length 40
  · rw [h1] at hq
    replace hq : Hid _ := hq
    go_enter Tryz.func16, Tryz.ntmps16
    go_wp2_with (go_at_call 29; refine (hq.out _).mono ?_; rintro e w' ⟨rfl, hw'⟩; subst w')
    go_ret
    exact ⟨rfl, Below.refl _ _⟩
  · rw [h1] at hq
    rw [Bool.true_and]
    replace hq : Hid _ := hq
    replace hfr : Hid _ := hfr
    obtain ⟨ans, hans⟩ : ∃ ans, frsB fs nt 1 xs = ans := ⟨_, rfl⟩
    rw [hans]
    replace hans : Hid _ := hans
    go_enter Tryz.func16, Tryz.ntmps16
    go_wp2_with (go_at_call 29; refine (hq.out _).mono ?_; rintro e w' ⟨rfl, hw'⟩; subst w')
    go_loopw [3, 20] (fun d i wr => ∃ (m : Nat) (D : Int), m ≤ xs.length ∧ i = .int .i64 m ∧ d = .int .i64 D ∧ Hid (frsB fs nt D (xs.drop m) = ans) ∧ Below W.heap.size W wr) (fun _ i _ => xs.length - (intOf i).toNat)
    case atStart => exact ⟨0, 1, Nat.zero_le _, rfl, rfl, hans, Below.refl _ _⟩
    case round =>
      obtain ⟨m, D, hm, rfl, rfl, hG, hb⟩ := hrel
      by_cases hlt : m < xs.length
      · obtain ⟨x, hx⟩ : ∃ x, xs[m]? = some x := ⟨xs[m], by simp [hlt]⟩
        obtain ⟨b, off, rfl, hbl, hel⟩ := hrow (by intro e; subst e; simp at hlt)
        obtain ⟨t0, t1, t2, rv, t3, hR⟩ := (hel m x hx).below hb hbl
        have hd : xs.drop m = x :: xs.drop (m + 1) := by rw [List.drop_eq_getElem_cons hlt]; congr 1; rw [List.getElem?_eq_getElem hlt] at hx; exact Option.some.inj hx
        have hR' : Row wr.heap.size wr rv x.rs := row_mono hb.size hR
        obtain ⟨ra, rc, rfl, _, _⟩ := hR
        have hk : ∀ u, Below wr.heap.size wr u → Calls Tryz.prog 42 #[.pointer (some ⟨M, 0, none⟩), .agg #[.int .i64 x.f, .int .i64 x.pc, .int .i64 x.d, .slice ra x.rs.length rc]] u _ := fun u hu => hfr.out u (ext_trans hb hu) x _ (hR'.at hu)
        have hz := fun w => mbelow_any x.d D w
        rw [hd, frsB] at hG
        obtain ⟨nr, hnr⟩ : ∃ n, x.rs.length = n := ⟨_, rfl⟩
        rw [hnr] at hk hG t3
        clear hx hrow hel hd hR' hnr
        obtain ⟨w1, hw1⟩ : ∃ w1, wr.alloc (.cells #[.int .i64 x.f, .int .i64 x.pc, .int .i64 x.d, .slice ra nr rc] 50) = w1 := ⟨_, rfl⟩
        have E1 : Below wr.heap.size wr w1 := by rw [← hw1]; exact ext_alloc (Below.refl _ _) _
        have g1 : w1.heap[wr.heap.size]? = some (.cells #[.int .i64 x.f, .int .i64 x.pc, .int .i64 x.d, .slice ra nr rc] 50) := by rw [← hw1]; exact heap_new _ _
        obtain ⟨a0, a1, a2, a3⟩ := four g1
        replace hk := hk w1 E1
        cases e1 : belB x.d D
        · rw [e1] at hz hG
          replace hz : Hid _ := hz
          clear hk
          go_wp2_with (go_at_call 41; refine (hz.out _).mono ?_; rintro e w' ⟨rfl, hw'⟩; subst w')
          go_ret
          exact ⟨by rw [← hG.out]; rfl, ext_trans hb E1⟩
        · rw [e1] at hz hG
          replace hz : Hid _ := hz
          cases e2 : fmB fs nt x
          · rw [e2] at hk hG
            go_wp2_with (first | (go_at_call 41; refine (hz.out _).mono ?_; rintro e w' ⟨rfl, hw'⟩; subst w') | (go_at_call 42; refine hk.mono ?_; rintro e w3 ⟨rfl, hb3⟩))
            go_ret
            exact ⟨by rw [← hG.out]; rfl, ext_trans hb (ext_trans E1 hb3)⟩
          · rw [e2] at hk hG
            go_wp2_with (first | (go_at_call 41; refine (hz.out _).mono ?_; rintro e w' ⟨rfl, hw'⟩; subst w') | (go_at_call 42; refine hk.mono ?_; rintro e w3 ⟨rfl, hb3⟩; have a3 := cellB hb3 a3))
            go_roundw
            case rel => exact ⟨m + 1, _, hlt, by simp, rfl, hG.out, ext_trans hb (ext_trans E1 hb3)⟩
            case measure => simp [intOf]; omega
      · obtain rfl : m = xs.length := by omega
        rw [List.drop_length, frsB] at hG
        go_wp2
        go_ret
        exact ⟨by rw [← hG.out]; rfl, hb⟩
end Go.Proofs.YthdhgfpidhbdiaaGreatDoor
namespace Go.Proofs.YthdhgfpidhbdiaaGreatDoor
open Go.RowKit
open Go

set_option linter.unusedSectionVars false
variable [DecidableEq Vl]

def tB (nt nf : Nat) (t : Tb) : Bool := mayT t.ks t.vs && allB (fun _ => vB nt nf) t.ks && allB (fun _ => vB nt nf) t.vs
set_option maxRecDepth 100000 in
set_option maxHeartbeats 4000000 in
theorem mtables_any {W : World} {M : Nat} {ca : Option Addr} {cc : Nat} {fs : List Fd} {mn : Int} {fv tv ov : Value} {s : St} (h : MIn W M ca cc fs mn fv tv ov s) :
    Calls Tryz.prog 17 #[.pointer (some ⟨M, 0, none⟩)] W fun r w' => r = .returned (.bool (decide ((s.tb.length : Int) ≤ 200) && allB (fun _ => tB s.tb.length fs.length) s.tb)) ∧ Below W.heap.size W w' := by
  obtain ⟨ta, tc, rfl, hA⟩ := h.mat
  obtain ⟨ta', tc', e, hlen, hrow⟩ := h.si.t
  obtain ⟨rfl, rfl⟩ : ta = ta' ∧ tc = tc' := by simpa using e
  clear e
  replace hlen := le_lit hlen
  have hal : ∀ u, Below W.heap.size W u → ∀ (sv : Value) (ys : List Vl), Row u.heap.size u sv ys → Calls Tryz.prog 44 #[.pointer (some ⟨M, 0, none⟩), sv] u _ := fun u hu sv ys hr => mall_any sv ys M fs.length cc s.tb.length tc ca ta u (hA.on hu) hr
  have c3 : W.cell? ⟨M, 3, none⟩ = some (.slice ta s.tb.length tc) := cell_block h.box rfl
  obtain ⟨xs, hxs⟩ : ∃ xs, s.tb = xs := ⟨_, rfl⟩
  obtain ⟨nf, hnf⟩ : ∃ nf, fs.length = nf := ⟨_, rfl⟩
  rw [hxs] at hrow hlen c3 hal ⊢
  rw [hnf] at hal ⊢
  clear h hA hxs hnf
  cases h1 : decide ((200 : Int) < xs.length)
  · rw [show decide ((xs.length : Int) ≤ 200) = true by simp at h1 ⊢; omega, Bool.true_and]
    replace hal : Hid _ := hal
    obtain ⟨ans, hans⟩ : ∃ ans, allB (fun _ => tB xs.length nf) xs = ans := ⟨_, rfl⟩
    rw [hans]
    replace hans : Hid _ := hans
    go_enter Tryz.func17, Tryz.ntmps17
    go_wp2
    go_loopw [18] (fun i wr => ∃ m : Nat, m ≤ xs.length ∧ i = .int .i64 m ∧ Hid (AllTo (fun _ => tB xs.length nf) xs m) ∧ Below W.heap.size W wr) (fun i _ => xs.length - (intOf i).toNat)
    case atStart => exact ⟨0, Nat.zero_le _, rfl, AllTo.zero, Below.refl _ _⟩
    case round =>
      obtain ⟨m, hm, rfl, hG, hb⟩ := hrel
      by_cases hlt : m < xs.length
      · obtain ⟨x, hx⟩ : ∃ x, xs[m]? = some x := ⟨xs[m], by simp [hlt]⟩
        obtain ⟨b, off, rfl, hbl, hel⟩ := hrow (by intro e; subst e; simp at hlt)
        obtain ⟨kv, vv, t0, t1, hK, hV⟩ := (hel m x hx).below hb hbl
        have hbad : tB xs.length nf x = false → Hid (allB (fun _ => tB xs.length nf) xs = false) := fun h => allB_false hx h
        have hnext : tB xs.length nf x = true → Hid (AllTo (fun _ => tB xs.length nf) xs (m + 1)) := fun h => AllTo.next hx h hG.out
        replace hbad : Hid _ := hbad
        replace hnext : Hid _ := hnext
        have hK' : Row wr.heap.size wr kv x.ks := row_mono hb.size hK
        have hV' : Row wr.heap.size wr vv x.vs := row_mono hb.size hV
        obtain ⟨ka, kc, rfl, _, _⟩ := hK
        obtain ⟨va, vc, rfl, _, _⟩ := hV
        have q1 : ∀ u, Below wr.heap.size wr u → Calls Tryz.prog 43 #[.agg #[.slice ka x.ks.length kc, .slice va x.vs.length vc]] u _ := fun u hu => tmay_any _ _ x.ks x.vs u ⟨hK'.at hu, hV'.at hu⟩
        have q2 : ∀ u, Below wr.heap.size wr u → Calls Tryz.prog 44 #[.pointer (some ⟨M, 0, none⟩), .slice ka x.ks.length kc] u _ := fun u hu => hal.out u (ext_trans hb hu) _ _ (hK'.at hu)
        have q3 : ∀ u, Below wr.heap.size wr u → Calls Tryz.prog 44 #[.pointer (some ⟨M, 0, none⟩), .slice va x.vs.length vc] u _ := fun u hu => hal.out u (ext_trans hb hu) _ _ (hV'.at hu)
        obtain ⟨kn, hkn⟩ : ∃ n, x.ks.length = n := ⟨_, rfl⟩
        obtain ⟨vn, hvn⟩ : ∃ n, x.vs.length = n := ⟨_, rfl⟩
        rw [hkn] at q1 q2 t0
        rw [hvn] at q1 q3 t1
        clear hx hG hrow hel hK' hV' hkn hvn
        obtain ⟨w1, hw1⟩ : ∃ w1, wr.alloc (.cells #[.slice ka kn kc, .slice va vn vc] 57) = w1 := ⟨_, rfl⟩
        have E1 : Below wr.heap.size wr w1 := by rw [← hw1]; exact ext_alloc (Below.refl _ _) _
        have g1 : w1.heap[wr.heap.size]? = some (.cells #[.slice ka kn kc, .slice va vn vc] 57) := by rw [← hw1]; exact heap_new _ _
        have a0 : w1.cell? ⟨wr.heap.size, 0, none⟩ = some (.slice ka kn kc) := cell_block g1 rfl
        have a1 : w1.cell? ⟨wr.heap.size, 1, none⟩ = some (.slice va vn vc) := cell_block g1 rfl
        cases e1 : mayT x.ks x.vs
        · rw [e1] at q1
          replace q1 : Hid _ := q1
          replace e1 : Hid _ := e1
          clear q2 q3
          go_wp2_with (go_at_call 43; refine (q1.out _ E1).mono ?_; rintro e w2 ⟨rfl, hb2⟩)
          go_ret
          exact ⟨by rw [← hans.out, (hbad.out (by simp [tB, e1.out])).out]; rfl, ext_trans hb (ext_trans E1 hb2)⟩
        · rw [e1] at q1
          replace q1 : Hid _ := q1
          replace e1 : Hid _ := e1
          cases e2 : allB (fun _ => vB xs.length nf) x.ks
          · rw [e2] at q2
            replace q2 : Hid _ := q2
            replace e2 : Hid _ := e2
            clear q3
            go_wp2_with (first | (go_at_call 43; refine (q1.out _ E1).mono ?_; rintro e w2 ⟨rfl, hb2⟩; have b0 := cellB hb2 a0) | (go_at_call 44; refine (q2.out _ (ext_trans E1 hb2)).mono ?_; rintro e w3 ⟨rfl, hb3⟩))
            go_ret
            exact ⟨by rw [← hans.out, (hbad.out (by simp [tB, e1.out, e2.out])).out]; rfl, ext_trans hb (ext_trans E1 (ext_trans hb2 hb3))⟩
          · rw [e2] at q2
            replace q2 : Hid _ := q2
            replace e2 : Hid _ := e2
            cases e3 : allB (fun _ => vB xs.length nf) x.vs
            · rw [e3] at q3
              replace q3 : Hid _ := q3
              replace e3 : Hid _ := e3
              go_wp2_with (first | (go_at_call 43; refine (q1.out _ E1).mono ?_; rintro e w2 ⟨rfl, hb2⟩; have b0 := cellB hb2 a0; have b1 := cellB hb2 a1) | (go_at_call_of 44 ka; refine (q2.out w2 (ext_trans E1 hb2)).mono ?_; rintro e w3 ⟨rfl, hb3⟩; have b1 := cellB hb3 b1) | (go_at_call_of 44 va; refine (q3.out _ (ext_trans E1 (ext_trans hb2 hb3))).mono ?_; rintro e w4 ⟨rfl, hb4⟩))
              go_ret
              exact ⟨by rw [← hans.out, (hbad.out (by simp [tB, e1.out, e2.out, e3.out])).out]; rfl, ext_trans hb (ext_trans E1 (ext_trans hb2 (ext_trans hb3 hb4)))⟩
            · rw [e3] at q3
              replace q3 : Hid _ := q3
              replace e3 : Hid _ := e3
              go_wp2_with (first | (go_at_call 43; refine (q1.out _ E1).mono ?_; rintro e w2 ⟨rfl, hb2⟩; have b0 := cellB hb2 a0; have b1 := cellB hb2 a1) | (go_at_call_of 44 ka; refine (q2.out w2 (ext_trans E1 hb2)).mono ?_; rintro e w3 ⟨rfl, hb3⟩; have b1 := cellB hb3 b1) | (go_at_call_of 44 va; refine (q3.out _ (ext_trans E1 (ext_trans hb2 hb3))).mono ?_; rintro e w4 ⟨rfl, hb4⟩))
              go_roundw
              case rel => exact ⟨m + 1, hlt, by simp, hnext.out (by simp [tB, e1.out, e2.out, e3.out]), ext_trans hb (ext_trans E1 (ext_trans hb2 (ext_trans hb3 hb4)))⟩
              case measure => simp [intOf]; omega
      · obtain rfl : m = xs.length := by omega
        go_wp2
        go_ret
        exact ⟨by rw [← hans.out, allB_true hG.out]; rfl, hb⟩
  · rw [show decide ((xs.length : Int) ≤ 200) = false by simp at h1 ⊢; omega, Bool.false_and]
    go_enter Tryz.func17, Tryz.ntmps17
    go_wp2
    go_ret
    exact ⟨rfl, Below.refl _ _⟩
def toldB (s : St) : Bool := frB 0 s.st 60000 && decide ((s.out.length : Int) ≤ s.st) && allB (fun _ t => decide ((t.size : Int) ≤ 300)) s.out
set_option maxRecDepth 100000 in
set_option maxHeartbeats 4000000 in
theorem mtold_any {W : World} {M : Nat} {ca : Option Addr} {cc : Nat} {fs : List Fd} {mn : Int} {fv tv ov : Value} {s : St} (h : MIn W M ca cc fs mn fv tv ov s) :
    Calls Tryz.prog 18 #[.pointer (some ⟨M, 0, none⟩)] W fun r w' => r = .returned (.bool (toldB s)) ∧ Below W.heap.size W w' := by
  obtain ⟨oa, oc, rfl, hlen, hrow⟩ := h.si.o
  replace hlen := le_lit hlen
  have hC : ∀ u, Below W.heap.size W u → u.cell? ⟨M, 4, none⟩ = some (.slice oa s.out.length oc) ∧ u.cell? ⟨M, 5, none⟩ = some (.int .i64 s.st) := fun u hu => ⟨cellB hu (cell_block h.box rfl), cellB hu (cell_block h.box rfl)⟩
  obtain ⟨xs, hxs⟩ : ∃ xs, s.out = xs := ⟨_, rfl⟩
  obtain ⟨st, hst⟩ : ∃ st, s.st = st := ⟨_, rfl⟩
  unfold toldB
  rw [hxs] at hrow hlen hC ⊢
  rw [hst] at hC ⊢
  clear h hxs hst
  have hq := fun w => mfrom_any 0 st 60000 w
  replace hC : Hid _ := hC
  cases h1 : frB 0 st 60000
  · rw [h1] at hq
    replace hq : Hid _ := hq
    go_enter Tryz.func18, Tryz.ntmps18
    go_wp2
    refine wp_quiet (Below W.heap.size W) (by kernel_rfl) (by kernel_rfl) (Below.refl _ _).drew ?_
    repeat (first
     | go_big_quiet_skip
     | (apply quiet_want
        · kernel_rfl
        · intro u hu
          obtain ⟨_, _⟩ := hC.out u hu
          go_simp
          first | (go_at_call 29; refine (hq.out u).mono ?_; rintro e w2 ⟨rfl, rfl⟩; exact ⟨rfl, hu⟩) | with_reducible rfl | skip
        simp only [Act.put, List.setIfInBounds_toArray, List.set_cons_zero, List.set_cons_succ]))
    refine wpQuiet_nil (fun w2 hb2 => ?_)
    go_wp2
    go_ret
    exact ⟨rfl, hb2⟩
  · rw [h1] at hq
    replace hq : Hid _ := hq
    cases h2 : decide (st < (xs.length : Int))
    · rw [show decide ((xs.length : Int) ≤ st) = true by simp at h2 ⊢; omega, Bool.true_and, Bool.true_and]
      obtain ⟨ans, hans⟩ : ∃ ans, allB (fun _ (t : ByteArray) => decide ((t.size : Int) ≤ 300)) xs = ans := ⟨_, rfl⟩
      rw [hans]
      replace hans : Hid _ := hans
      go_enter Tryz.func18, Tryz.ntmps18
      go_wp2
      refine wp_quiet (Below W.heap.size W) (by kernel_rfl) (by kernel_rfl) (Below.refl _ _).drew ?_
      repeat (first
       | go_big_quiet_skip
       | (apply quiet_want
          · kernel_rfl
          · intro u hu
            obtain ⟨_, _⟩ := hC.out u hu
            go_simp
            first | (go_at_call 29; refine (hq.out u).mono ?_; rintro e w2 ⟨rfl, rfl⟩; exact ⟨rfl, hu⟩) | with_reducible rfl | skip
          simp only [Act.put, List.setIfInBounds_toArray, List.set_cons_zero, List.set_cons_succ]))
      refine wpQuiet_nil (fun w2 hb2 => ?_)
      obtain ⟨_, _⟩ := hC.out w2 hb2
      go_wp2
      go_loopw [32] (fun i wr => ∃ m : Nat, m ≤ xs.length ∧ i = .int .i64 m ∧ Hid (AllTo (fun _ (t : ByteArray) => decide ((t.size : Int) ≤ 300)) xs m) ∧ Below W.heap.size W wr) (fun i _ => xs.length - (intOf i).toNat)
      case atStart => exact ⟨0, Nat.zero_le _, rfl, AllTo.zero, hb2⟩
      case round =>
        obtain ⟨m, hm, rfl, hG, hb⟩ := hrel
        by_cases hlt : m < xs.length
        · obtain ⟨x, hx⟩ : ∃ x, xs[m]? = some x := ⟨xs[m], by simp [hlt]⟩
          obtain ⟨b, off, rfl, hbl, hel⟩ := hrow (by intro e; subst e; simp at hlt)
          have t0 : wr.cell? ⟨b, off + m, none⟩ = some (.string x) := (hb.cell (p := ⟨b, off + m, none⟩) hbl).trans (hel m x hx)
          have hbad : decide ((x.size : Int) ≤ 300) = false → Hid (allB (fun _ (t : ByteArray) => decide ((t.size : Int) ≤ 300)) xs = false) := fun h => allB_false hx h
          have hnext : decide ((x.size : Int) ≤ 300) = true → Hid (AllTo (fun _ (t : ByteArray) => decide ((t.size : Int) ≤ 300)) xs (m + 1)) := fun h => AllTo.next (p := fun _ (t : ByteArray) => decide ((t.size : Int) ≤ 300)) hx h hG.out
          replace hbad : Hid _ := hbad
          replace hnext : Hid _ := hnext
          clear hx hG hrow hel
          by_cases h3 : (300 : Int) < x.size
          · go_wp2
            go_ret
            exact ⟨by rw [← hans.out, (hbad.out (by simp; omega)).out]; rfl, hb⟩
          · go_wp2
            go_roundw
            case rel => exact ⟨m + 1, hlt, by simp, hnext.out (by simp; omega), hb⟩
            case measure => simp [intOf]; omega
        · obtain rfl : m = xs.length := by omega
          go_wp2
          go_ret
          exact ⟨by rw [← hans.out, allB_true hG.out]; rfl, hb⟩
    · rw [show decide ((xs.length : Int) ≤ st) = false by simp at h2 ⊢; omega, Bool.and_false, Bool.false_and]
      go_enter Tryz.func18, Tryz.ntmps18
      go_wp2
      refine wp_quiet (Below W.heap.size W) (by kernel_rfl) (by kernel_rfl) (Below.refl _ _).drew ?_
      repeat (first
       | go_big_quiet_skip
       | (apply quiet_want
          · kernel_rfl
          · intro u hu
            obtain ⟨_, _⟩ := hC.out u hu
            go_simp
            first | (go_at_call 29; refine (hq.out u).mono ?_; rintro e w2 ⟨rfl, rfl⟩; exact ⟨rfl, hu⟩) | with_reducible rfl | skip
          simp only [Act.put, List.setIfInBounds_toArray, List.set_cons_zero, List.set_cons_succ]))
      refine wpQuiet_nil (fun w2 hb2 => ?_)
      go_wp2
      go_ret
      exact ⟨rfl, hb2⟩
end Go.Proofs.YthdhgfpidhbdiaaGreatDoor
namespace Go.Proofs.YthdhgfpidhbdiaaGreatDoor
open Go.RowKit
open Go

set_option linter.unusedSectionVars false
variable [DecidableEq Vl]

def nzB (v : Vl) : Bool := v.k == 0 && (v.n == 0 && v.s.toList == [])
theorem nzB_iff {v : Vl} : nzB v = true ↔ v = nilV := by
  constructor
  · intro h
    simp only [nzB, Bool.and_eq_true, beq_iff_eq] at h
    obtain ⟨h1, h2, h3⟩ := h
    cases v
    simp only at h1 h2 h3
    subst h1 h2
    have := ext_bytes (a := _) (b := (⟨#[]⟩ : ByteArray)) (by rw [h3]; simp [ByteArray.toList_eq])
    subst this
    rfl
  · rintro rfl
    simp [nzB, nilV, ByteArray.toList_eq]
theorem eqnil (v : Vl) (w : World) : (binOp .eql 30 (.agg #[.int .i64 v.k, .int .i64 v.n, .string v.s]) (.agg #[.int .i64 0, .int .i64 0, .string ⟨#[]⟩])).run Tryz.prog w = .ok (.bool (nzB v)) w := by
  simp [go_sem]
  unfold nzB
  by_cases h1 : v.k = 0
  · by_cases h2 : v.n = 0
    · by_cases h3 : v.s.toList = []
      · simp [h1, h2, h3]
      · simp [h1, h2, h3]
    · simp [h1, h2]
  · simp [h1]
def endB (nt nf : Nat) (s : St) : Bool := if s.en = 0 then s.er == 0 && nzB s.la else if s.en = 1 then s.er == 0 && vB nt nf s.la else if s.en = 2 then failB s.er && nzB s.la else false
set_option maxRecDepth 100000 in
set_option maxHeartbeats 4000000 in
theorem mend_any {W : World} {M : Nat} {ca : Option Addr} {cc : Nat} {fs : List Fd} {mn : Int} {fv tv ov : Value} {s : St} (h : MIn W M ca cc fs mn fv tv ov s) :
    Calls Tryz.prog 19 #[.pointer (some ⟨M, 0, none⟩)] W fun r w' => r = .returned (.bool (endB s.tb.length fs.length s)) ∧ Below W.heap.size W w' := by
  obtain ⟨ta, tc, rfl, hA⟩ := h.mat
  have hv := fun u hu => mval_any s.la M fs.length cc s.tb.length tc ca ta u (hA.on hu)
  have hf := fun w => mfail_any s.er w
  have c6 : W.cell? ⟨M, 6, none⟩ = some (.int .i64 s.en) := cell_block h.box rfl
  have c7 : W.cell? ⟨M, 7, none⟩ = some (.int .i64 s.er) := cell_block h.box rfl
  have c8 : W.cell? ⟨M, 8, none⟩ = some (.int .i64 s.la.k) := cell_block h.box rfl
  have c9 : W.cell? ⟨M, 9, none⟩ = some (.int .i64 s.la.n) := cell_block h.box rfl
  have c10 : W.cell? ⟨M, 10, none⟩ = some (.string s.la.s) := cell_block h.box rfl
  have heq := eqnil s.la
  unfold endB
  obtain ⟨en, hen⟩ : ∃ en, s.en = en := ⟨_, rfl⟩
  obtain ⟨er, her⟩ : ∃ er, s.er = er := ⟨_, rfl⟩
  obtain ⟨B1, hB1⟩ : ∃ B, vB s.tb.length fs.length s.la = B := ⟨_, rfl⟩
  obtain ⟨B2, hB2⟩ : ∃ B, nzB s.la = B := ⟨_, rfl⟩
  obtain ⟨B3, hB3⟩ : ∃ B, failB s.er = B := ⟨_, rfl⟩
  rw [hB1] at hv ⊢
  rw [hB2] at heq ⊢
  rw [hB3] at hf ⊢
  rw [hen] at c6 ⊢
  rw [her] at c7 hf ⊢
  clear h hA hen her hB1 hB2 hB3
  replace hv : Hid _ := hv
  replace hf : Hid _ := hf
  cases h0 : (en == 0)
  · have e0 : ¬ en = 0 := by simpa using h0
    rw [if_neg e0]
    clear e0
    cases h1 : (en == 1)
    · have e1 : ¬ en = 1 := by simpa using h1
      rw [if_neg e1]
      clear e1
      cases h2 : (en == 2)
      · have e2 : ¬ en = 2 := by simpa using h2
        rw [if_neg e2]
        clear e2
        go_enter Tryz.func19, Tryz.ntmps19
        go_wp2
        go_ret
        exact ⟨rfl, Below.refl _ _⟩
      · have e2 : en = 2 := by simpa using h2
        rw [if_pos e2]
        clear e2
        cases B3
        all_goals
          go_enter Tryz.func19, Tryz.ntmps19
          go_wp2_with (go_at_call 46; refine (hf.out _).mono ?_; rintro e w' ⟨rfl, hw'⟩; subst w')
          go_ret
          exact ⟨rfl, Below.refl _ _⟩
    · have e1 : en = 1 := by simpa using h1
      rw [if_pos e1]
      clear e1
      cases hr : (er == 0)
      · go_enter Tryz.func19, Tryz.ntmps19
        go_wp2
        go_ret
        exact ⟨rfl, Below.refl _ _⟩
      · go_enter Tryz.func19, Tryz.ntmps19
        go_wp2_with (go_at_call 45; refine (hv.out _ (Below.refl _ _)).mono ?_; rintro e w2 ⟨rfl, hb2⟩)
        go_ret
        exact ⟨rfl, hb2⟩
  · have e0 : en = 0 := by simpa using h0
    rw [if_pos e0]
    clear e0
    cases hr : (er == 0)
    all_goals
      go_enter Tryz.func19, Tryz.ntmps19
      go_wp2
      go_ret
      exact ⟨rfl, Below.refl _ _⟩
/-- H1: may a program be, and a state of it? -/
def stB1 (fs : List Fd) (mn : Int) (s : St) : Bool := progB fs mn && (frB 1 s.fr.length 40 && frsB fs s.tb.length 1 s.fr) && (decide ((s.tb.length : Int) ≤ 200) && allB (fun _ => tB s.tb.length fs.length) s.tb) && toldB s && endB s.tb.length fs.length s
set_option maxRecDepth 100000 in
set_option maxHeartbeats 4000000 in
theorem mmay_any {ca : Option Addr} {cc : Nat} {fs : List Fd} {mn : Int} {fv tv ov : Value} {s : St} (W : World) (hF : RowF W.heap.size W ca fs) (hS : StIn W.heap.size W fv tv ov s) :
    Calls Tryz.prog 6 #[PV ca fs.length cc mn, stv fv tv ov s] W fun r w' => r = .returned (.bool (stB1 fs mn s)) ∧ Below W.heap.size W w' := by
  obtain ⟨w1, hw1⟩ : ∃ w1, ((W.alloc (.cells #[.slice ca fs.length cc, .int .i64 mn] 24)).alloc (stb fv tv ov s)).alloc (.cells #[.slice ca fs.length cc, .int .i64 mn, fv, tv, ov, .int .i64 s.st, .int .i64 s.en, .int .i64 s.er, .int .i64 s.la.k, .int .i64 s.la.n, .string s.la.s] 46) = w1 := ⟨_, rfl⟩
  have E1 : Below W.heap.size W w1 := by rw [← hw1]; exact ext_alloc (ext_alloc (ext_alloc (Below.refl _ _) _) _) _
  have g0 : w1.heap[W.heap.size]? = some (.cells #[.slice ca fs.length cc, .int .i64 mn] 24) := by
    rw [← hw1]; exact blk_below (ext_alloc (ext_alloc (Below.refl _ _) _) _) (heap_new _ _)
  have g2 : MIn w1 (W.heap.size + 1 + 1) ca cc fs mn fv tv ov s := ⟨by rw [← hw1]; simpa using heap_new ((W.alloc _).alloc _) _, hS.at E1, hF.at E1⟩
  have q1 : ∀ u, Below w1.heap.size w1 u → Calls Tryz.prog 15 #[PV ca fs.length cc mn] u _ := fun u hu => may_prog ca cc fs mn u ((hF.at E1).at hu)
  have q2 : ∀ u, Below w1.heap.size w1 u → _ := fun u hu => mframes_any (g2.on hu)
  have q3 : ∀ u, Below w1.heap.size w1 u → _ := fun u hu => mtables_any (g2.on hu)
  have q4 : ∀ u, Below w1.heap.size w1 u → _ := fun u hu => mtold_any (g2.on hu)
  have q5 : ∀ u, Below w1.heap.size w1 u → _ := fun u hu => mend_any (g2.on hu)
  have a0 : w1.cell? ⟨W.heap.size, 0, none⟩ = some (.slice ca fs.length cc) := cell_block g0 rfl
  have a1 : w1.cell? ⟨W.heap.size, 1, none⟩ = some (.int .i64 mn) := cell_block g0 rfl
  obtain ⟨fa, fc, rfl, _, _⟩ := hS.f
  obtain ⟨ta, tc, rfl, _, _⟩ := hS.t
  obtain ⟨oa, oc, rfl, _, _⟩ := hS.o
  unfold stB1
  obtain ⟨B1, hB1⟩ : ∃ B, progB fs mn = B := ⟨_, rfl⟩
  obtain ⟨B2, hB2⟩ : ∃ B, (frB 1 s.fr.length 40 && frsB fs s.tb.length 1 s.fr) = B := ⟨_, rfl⟩
  obtain ⟨B3, hB3⟩ : ∃ B, (decide ((s.tb.length : Int) ≤ 200) && allB (fun _ => tB s.tb.length fs.length) s.tb) = B := ⟨_, rfl⟩
  obtain ⟨B4, hB4⟩ : ∃ B, toldB s = B := ⟨_, rfl⟩
  obtain ⟨B5, hB5⟩ : ∃ B, endB s.tb.length fs.length s = B := ⟨_, rfl⟩
  rw [hB1] at q1 ⊢
  rw [hB2] at q2 ⊢
  rw [hB3] at q3 ⊢
  rw [hB4] at q4 ⊢
  rw [hB5] at q5 ⊢
  obtain ⟨nf, hnf⟩ : ∃ n, fs.length = n := ⟨_, rfl⟩
  obtain ⟨n1, hn1⟩ : ∃ n, s.fr.length = n := ⟨_, rfl⟩
  obtain ⟨n2, hn2⟩ : ∃ n, s.tb.length = n := ⟨_, rfl⟩
  obtain ⟨n3, hn3⟩ : ∃ n, s.out.length = n := ⟨_, rfl⟩
  rw [hnf] at q1 a0 hw1 ⊢
  rw [hn1, hn2, hn3] at hw1 ⊢
  clear hF hS g0 g2 hB1 hB2 hB3 hB4 hB5 hnf hn1 hn2 hn3
  replace q1 : Hid _ := q1
  replace q2 : Hid _ := q2
  replace q3 : Hid _ := q3
  replace q4 : Hid _ := q4
  replace q5 : Hid _ := q5
  cases B1
  · go_enter Tryz.func6, Tryz.ntmps6
    go_wp2_with (go_at_call 15; refine (q1.out _ (Below.refl _ _)).mono ?_; rintro e u1 ⟨rfl, hb1⟩)
    go_ret
    exact ⟨rfl, ext_trans E1 hb1⟩
  cases B2
  · go_enter Tryz.func6, Tryz.ntmps6
    go_wp2_with (first | (go_at_call 15; refine (q1.out _ (Below.refl _ _)).mono ?_; rintro e u1 ⟨rfl, hb1⟩) | (go_at_call 16; refine (q2.out _ hb1).mono ?_; rintro e u2 ⟨rfl, hb2⟩))
    go_ret
    exact ⟨rfl, ext_trans E1 (ext_trans hb1 hb2)⟩
  cases B3
  · go_enter Tryz.func6, Tryz.ntmps6
    go_wp2_with (first | (go_at_call 15; refine (q1.out _ (Below.refl _ _)).mono ?_; rintro e u1 ⟨rfl, hb1⟩) | (go_at_call 16; refine (q2.out _ hb1).mono ?_; rintro e u2 ⟨rfl, hb2⟩) | (go_at_call 17; refine (q3.out _ (ext_trans hb1 hb2)).mono ?_; rintro e u3 ⟨rfl, hb3⟩))
    go_ret
    exact ⟨rfl, ext_trans E1 (ext_trans hb1 (ext_trans hb2 hb3))⟩
  cases B4
  · go_enter Tryz.func6, Tryz.ntmps6
    go_wp2_with (first | (go_at_call 15; refine (q1.out _ (Below.refl _ _)).mono ?_; rintro e u1 ⟨rfl, hb1⟩) | (go_at_call 16; refine (q2.out _ hb1).mono ?_; rintro e u2 ⟨rfl, hb2⟩) | (go_at_call 17; refine (q3.out _ (ext_trans hb1 hb2)).mono ?_; rintro e u3 ⟨rfl, hb3⟩) | (go_at_call 18; refine (q4.out _ (ext_trans (ext_trans hb1 hb2) hb3)).mono ?_; rintro e u4 ⟨rfl, hb4⟩))
    go_ret
    exact ⟨rfl, ext_trans E1 (ext_trans hb1 (ext_trans hb2 (ext_trans hb3 hb4)))⟩
  · go_enter Tryz.func6, Tryz.ntmps6
    go_wp2_with (first | (go_at_call 15; refine (q1.out _ (Below.refl _ _)).mono ?_; rintro e u1 ⟨rfl, hb1⟩) | (go_at_call 16; refine (q2.out _ hb1).mono ?_; rintro e u2 ⟨rfl, hb2⟩) | (go_at_call 17; refine (q3.out _ (ext_trans hb1 hb2)).mono ?_; rintro e u3 ⟨rfl, hb3⟩) | (go_at_call 18; refine (q4.out _ (ext_trans (ext_trans hb1 hb2) hb3)).mono ?_; rintro e u4 ⟨rfl, hb4⟩) | (go_at_call 19; refine (q5.out _ (ext_trans (ext_trans (ext_trans hb1 hb2) hb3) hb4)).mono ?_; rintro e u5 ⟨rfl, hb5⟩))
    go_ret
    exact ⟨rfl, ext_trans E1 (ext_trans hb1 (ext_trans hb2 (ext_trans hb3 (ext_trans hb4 hb5))))⟩
end Go.Proofs.YthdhgfpidhbdiaaGreatDoor
namespace Go.Proofs.YthdhgfpidhbdiaaGreatDoor
open Go.RowKit
open Go

set_option linter.unusedSectionVars false
variable [DecidableEq Vl]

theorem vB_iff {nt nf : Nat} {v : Vl} : vB nt nf v = true ↔ VG nt nf v := by
  unfold vB
  constructor
  · intro h
    split at h
    · rename_i h4
      simp at h
      exact ⟨h.1, fun _ => h.2, fun h5 => by omega⟩
    · rename_i h4
      split at h
      · simp at h
        exact ⟨h.1, fun h => absurd h h4, fun _ => h.2⟩
      · rename_i h5
        exact ⟨h, fun h => absurd h h4, fun h => absurd h h5⟩
  · intro h
    split
    · rename_i h4
      simp [h.m, h.t h4]
    · split
      · rename_i h5
        simp [h.m, h.f h5]
      · exact h.m
theorem allB_mem {α : Type} {p : α → Bool} {xs : List α} : allB (fun _ => p) xs = true ↔ ∀ x ∈ xs, p x = true := by
  constructor
  · intro h x hx
    obtain ⟨j, hj⟩ := List.mem_iff_getElem?.1 hx
    exact allB_get h hj
  · intro h
    exact allB_true fun j x _ hx => h x (List.mem_of_getElem? hx)
theorem fmB_iff {fs : List Fd} {nt : Nat} {x : Frm} : fmB fs nt x = true ↔ FG fs nt x := by
  unfold fmB FG
  constructor
  · intro h
    rw [Bool.and_eq_true] at h
    obtain ⟨h1, h2⟩ := h
    cases e : fs[x.f.toNat]? with
    | none => rw [e] at h2; cases h2
    | some f =>
      rw [e] at h2
      simp only [Bool.and_eq_true, belB, decide_eq_true_eq, beq_iff_eq] at h1 h2
      exact ⟨f, rfl, h1.1, h2.1.1.1, h2.1.1.2, h2.1.2, fun v hv => vB_iff.1 (allB_mem.1 h2.2 v hv)⟩
  · rintro ⟨f, h1, h2, h3, h4, h5, h6⟩
    have := (List.getElem?_eq_some_iff.1 h1).1
    rw [h1]
    simp only [Bool.and_eq_true, belB, decide_eq_true_eq, beq_iff_eq]
    exact ⟨⟨h2, by omega⟩, ⟨⟨h3, h4⟩, h5⟩, allB_mem.2 fun v hv => vB_iff.2 (h6 v hv)⟩
theorem frsB_iff {fs : List Fd} {nt : Nat} : ∀ {l : List Frm} {d : Int}, frsB fs nt d l = true ↔ DG d l ∧ ∀ x ∈ l, FG fs nt x
  | [], d => by simp [frsB, DG]
  | x :: l, d => by
    have ih := frsB_iff (fs := fs) (nt := nt) (l := l) (d := x.rs.length)
    simp only [frsB, Bool.and_eq_true, DG, belB, decide_eq_true_eq, ih, fmB_iff, List.mem_cons, forall_eq_or_imp]
    constructor
    · rintro ⟨⟨⟨h1, h2⟩, h3⟩, h4, h5⟩
      exact ⟨⟨h1, h2, h4⟩, h3, h5⟩
    · rintro ⟨⟨h1, h2, h4⟩, h3, h5⟩
      exact ⟨⟨⟨h1, h2⟩, h3⟩, h4, h5⟩
theorem tB_iff {nt nf : Nat} {t : Tb} : tB nt nf t = true ↔ TG nt nf t := by
  simp only [tB, Bool.and_eq_true, allB_mem]
  constructor
  · rintro ⟨⟨h1, h2⟩, h3⟩
    exact ⟨h1, fun v hv => vB_iff.1 (h2 v hv), fun v hv => vB_iff.1 (h3 v hv)⟩
  · rintro ⟨h1, h2, h3⟩
    exact ⟨⟨h1, fun v hv => vB_iff.2 (h2 v hv)⟩, fun v hv => vB_iff.2 (h3 v hv)⟩
theorem failB_iff {c : Int} : failB c = true ↔ c = 1 ∨ c = 3 ∨ c = 4 ∨ c = 7 := by
  simp [failB, or_assoc]
theorem endB_iff {nt nf : Nat} {s : St} : endB nt nf s = true ↔ (s.en = 0 ∧ s.er = 0 ∧ s.la = nilV) ∨ (s.en = 1 ∧ s.er = 0 ∧ VG nt nf s.la) ∨ (s.en = 2 ∧ (s.er = 1 ∨ s.er = 3 ∨ s.er = 4 ∨ s.er = 7) ∧ s.la = nilV) := by
  unfold endB
  by_cases h0 : s.en = 0
  · rw [if_pos h0, Bool.and_eq_true, beq_iff_eq, nzB_iff]
    constructor
    · rintro ⟨a, b⟩
      exact .inl ⟨h0, a, b⟩
    · rintro (⟨_, a, b⟩ | ⟨a, _⟩ | ⟨a, _⟩)
      · exact ⟨a, b⟩
      · omega
      · omega
  rw [if_neg h0]
  by_cases h1 : s.en = 1
  · rw [if_pos h1, Bool.and_eq_true, beq_iff_eq, vB_iff]
    constructor
    · rintro ⟨a, b⟩
      exact .inr (.inl ⟨h1, a, b⟩)
    · rintro (⟨a, _⟩ | ⟨_, a, b⟩ | ⟨a, _⟩)
      · omega
      · exact ⟨a, b⟩
      · omega
  rw [if_neg h1]
  by_cases h2 : s.en = 2
  · rw [if_pos h2, Bool.and_eq_true, failB_iff, nzB_iff]
    constructor
    · rintro ⟨a, b⟩
      exact .inr (.inr ⟨h2, a, b⟩)
    · rintro (⟨a, _⟩ | ⟨a, _⟩ | ⟨_, a, b⟩)
      · omega
      · omega
      · exact ⟨a, b⟩
  · rw [if_neg h2]
    constructor
    · intro h; cases h
    · rintro (⟨a, _⟩ | ⟨a, _⟩ | ⟨a, _⟩)
      · omega
      · omega
      · omega
theorem stB1_iff {fs : List Fd} {mn : Int} {s : St} : stB1 fs mn s = true ↔ progB fs mn = true ∧ Good fs s := by
  unfold stB1 toldB
  simp only [Bool.and_eq_true, frB, decide_eq_true_eq, allB_mem, frsB_iff, tB_iff, endB_iff]
  constructor
  · rintro ⟨⟨⟨⟨h1, ⟨a1, a2⟩, a3, a4⟩, b1, b2⟩, ⟨⟨c1, c2⟩, c3⟩, c4⟩, d⟩
    exact ⟨h1, by omega, by omega, a3, a4, by omega, b2, c1, c2, c3, fun t ht => by have := c4 t ht; omega, d⟩
  · rintro ⟨h1, h⟩
    have n1 := h.n1
    have n2 := h.n2
    have t2 := h.t2
    exact ⟨⟨⟨⟨h1, ⟨by omega, by omega⟩, h.dg, h.fg⟩, by omega, h.tg⟩, ⟨⟨h.s1, h.s2⟩, h.o1⟩, fun t ht => by have := h.o2 t ht; omega⟩, h.e⟩
end Go.Proofs.YthdhgfpidhbdiaaGreatDoor
