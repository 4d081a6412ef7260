/- The machine's tables: Set; a text is told. -/
import Derived.Test.YthdhgfpidhbdiaaGreatDoorJ26
import Derived.Test.YthdhgfpidhbdiaaGreatDoorJ27
namespace Go.Proofs.YthdhgfpidhbdiaaGreatDoor
open Go.RowKit
open Go

set_option linter.unusedSectionVars false
variable [DecidableEq Vl]

/-- What a method leaves that changes the machine. -/
def DQ (w0 : World) (p : Mp) (fv : Value) (mn : Int) (s : St) (W : World) (R : Int ⊕ St) (e : Ending) (W' : World) : Prop :=
  match R with
  | .inl c => e = .panicked (pan (flr c)) ∧ ∃ p', p'.B = p.B ∧ p'.ap = p.ap ∧ Mc w0 p' fv mn s W' ∧ MK p.own W p'.own W'
  | .inr t => e = .returned (.tuple #[]) ∧ ∃ p', p'.B = p.B ∧ p'.ap = p.ap ∧ Mc w0 p' fv mn t W' ∧ MK p.own W p'.own W'
theorem k2 {w : World} {B c o : Nat} {p q : Value} (h : c ≠ B) : ((w.setCell ⟨B, 0, none⟩ p).setCell ⟨B, 1, none⟩ q).cell? ⟨c, o, none⟩ = w.cell? ⟨c, o, none⟩ := World.cell?_of_block (a := ⟨c, o, none⟩) ((set1_other _ _ h).trans (set1_other _ _ h))
section
variable {w0 : World} {p : Mp} {fv : Value} {mn : Int} {s : St} {W : World}
set_option maxRecDepth 20000 in
set_option maxHeartbeats 2000000 in
theorem mset_bad (pt : Value) (k n : Int) (t : ByteArray) (y z : Vl) (W : World) (hk : (k != 4) = true) :
    Calls Tryz.prog 100 #[pt, .agg #[.int .i64 k, .int .i64 n, .string t], y.v, z.v] W fun e W' => e = .panicked (pan (flr 3)) ∧ Below W.heap.size W W' := by
  go_enter Tryz.func100, Tryz.ntmps100
  go_wp2_with (go_at_call 116; refine (table_no _ _ _ _ _ hk).mono ?_; rintro e w2 ⟨rfl, rfl⟩)
  exact ⟨rfl, rfl, ext_alloc (below3 W _ _ _) _⟩
set_option maxRecDepth 20000 in
set_option maxHeartbeats 4000000 in
/-- Set of a table, as far as memory goes. -/
theorem mset_cells (B T tc nt i : Nat) (t : ByteArray) (y z : Vl) (er : Int) (ks vs : Value) (xs ys : List Vl) (W : World) (c3 : W.cell? ⟨B, 3, none⟩ = some (.slice (some ⟨T, 0, none⟩) nt tc)) (hi : i < nt) (hn : nt ≤ 1000)
    (d0 : W.cell? ⟨T, i * 2, none⟩ = some ks) (d1 : W.cell? ⟨T, i * 2 + 1, none⟩ = some vs) (f0 : W.frozen? ⟨T, i * 2, none⟩ = false) (f1 : W.frozen? ⟨T, i * 2 + 1, none⟩ = false)
    (hT : ∀ w2, Below W.heap.size W w2 → Calls Tryz.prog 117 #[.agg #[ks, vs], y.v, z.v] w2 fun e w' => ∃ a m c a' m' c', e = .returned (.tuple #[.agg #[.slice a m c, .slice a' m' c'], .int .i64 er]) ∧ Own2 w2.heap.size w' (.slice a m c) (.slice a' m' c') xs ys ∧ Below w2.heap.size w2 w') (he : er = 0) :
    Calls Tryz.prog 100 #[.pointer (some ⟨B, 0, none⟩), .agg #[.int .i64 4, .int .i64 (i : Nat), .string t], y.v, z.v] W fun e W' => ∃ V a b, e = .returned (.tuple #[]) ∧ Below W.heap.size W V ∧ Own2 W.heap.size V a b xs ys ∧ W' = (V.setCell ⟨T, i * 2, none⟩ a).setCell ⟨T, i * 2 + 1, none⟩ b := by
  have hB := World.block_lt_of_cell? _ _ c3
  have hTl := World.block_lt_of_cell? _ _ d0
  simp only at hB hTl
  obtain ⟨w1, hw1⟩ : ∃ w1, ((W.alloc (.cells #[.int .i64 4, .int .i64 (i : Nat), .string t] 30)).alloc (.cells #[.int .i64 y.k, .int .i64 y.n, .string y.s] 30)).alloc (.cells #[.int .i64 z.k, .int .i64 z.n, .string z.s] 30) = w1 := ⟨_, rfl⟩
  have E0 : Below W.heap.size W w1 := by rw [← hw1]; exact below3 W _ _ _
  have g0 : w1.heap[W.heap.size + 1 + 1]? = some (bx z) := by rw [← hw1]; exact new3 W _ _ _
  have g1 : w1.heap[W.heap.size + 1]? = some (bx y) := by rw [← hw1]; refine block_alloc _ ?_; have := heap_new (W.alloc (.cells #[.int .i64 4, .int .i64 (i : Nat), .string t] 30)) (bx y); simpa using this
  have g2 : w1.heap[W.heap.size]? = some (.cells #[.int .i64 4, .int .i64 (i : Nat), .string t] 30) := by rw [← hw1]; exact block_alloc _ (block_alloc _ (heap_new _ _))
  have p0 : w1.cell? ⟨W.heap.size, 0, none⟩ = some (.int .i64 4) := cell_block g2 rfl
  have p1 : w1.cell? ⟨W.heap.size, 1, none⟩ = some (.int .i64 (i : Nat)) := cell_block g2 rfl
  have p2 : w1.cell? ⟨W.heap.size, 2, none⟩ = some (.string t) := cell_block g2 rfl
  have hcl := table_yes B T tc nt i t w1 ((E0.cell (p := ⟨B, 3, none⟩) hB).trans c3) hi hn
  subst he
  replace hT : Hid _ := hT
  go_enter Tryz.func100, Tryz.ntmps100
  go_wp2_with (go_at_call 116; refine hcl.mono ?_; rintro e w2 ⟨rfl, hb2⟩; refine Hid.out ?_)
  refine Lib.hid ?_
  have E2 := ext_trans E0 hb2
  obtain ⟨b0, b1, b2, _, _, _⟩ := in3 (block_below hb2 g1)
  obtain ⟨a0, a1, a2, _, _, _⟩ := in3 (block_below hb2 g0)
  have hz2 : W.heap.size + 1 + 1 < w2.heap.size := block_lt (block_below hb2 g0)
  have k0 := (E2.cell (p := ⟨T, i * 2, none⟩) hTl).trans d0
  have k1 := (E2.cell (p := ⟨T, i * 2 + 1, none⟩) hTl).trans d1
  have hS : ∀ u, Below w2.heap.size w2 u → u.cell? ⟨T, i * 2, none⟩ = some ks ∧ u.cell? ⟨T, i * 2 + 1, none⟩ = some vs ∧ u.cell? ⟨W.heap.size + 1, 0, none⟩ = some (.int .i64 y.k) ∧ u.cell? ⟨W.heap.size + 1, 1, none⟩ = some (.int .i64 y.n) ∧ u.cell? ⟨W.heap.size + 1, 2, none⟩ = some (.string y.s) ∧ u.cell? ⟨W.heap.size + 1 + 1, 0, none⟩ = some (.int .i64 z.k) ∧ u.cell? ⟨W.heap.size + 1 + 1, 1, none⟩ = some (.int .i64 z.n) ∧ u.cell? ⟨W.heap.size + 1 + 1, 2, none⟩ = some (.string z.s) := fun u hb => ⟨cellB hb k0, cellB hb k1, cellB hb b0, cellB hb b1, cellB hb b2, cellB hb a0, cellB hb a1, cellB hb a2⟩
  replace hS : Hid _ := hS
  clear c3 hcl
  go_wp2
  have x1 : W.heap.size + 1 ≠ w2.heap.size := by omega
  have x2 : W.heap.size + 1 + 1 ≠ w2.heap.size := by omega
  have x3 : T ≠ w2.heap.size := by omega
  go_region_held3 (fun u => u.cell? ⟨T, i * 2, none⟩ = some ks ∧ u.cell? ⟨T, i * 2 + 1, none⟩ = some vs ∧ u.cell? ⟨W.heap.size + 1, 0, none⟩ = some (.int .i64 y.k) ∧ u.cell? ⟨W.heap.size + 1, 1, none⟩ = some (.int .i64 y.n) ∧ u.cell? ⟨W.heap.size + 1, 2, none⟩ = some (.string y.s) ∧ u.cell? ⟨W.heap.size + 1 + 1, 0, none⟩ = some (.int .i64 z.k) ∧ u.cell? ⟨W.heap.size + 1 + 1, 1, none⟩ = some (.int .i64 z.n) ∧ u.cell? ⟨W.heap.size + 1 + 1, 2, none⟩ = some (.string z.s)) (first | go_keep | with_reducible exact ⟨(k2 x3).trans s0, (k2 x3).trans s1, (k2 x1).trans s2, (k2 x1).trans s3, (k2 x1).trans s4, (k2 x2).trans s5, (k2 x2).trans s6, (k2 x2).trans s7⟩) (first | (go_at_call 117; refine (hT.out _ (by repeat (first | with_reducible exact E2 | with_reducible refine ext_drew ?_ | with_reducible refine ext_alloc ?_ _))).mono ?_; rintro e w3 ⟨a, m, c, a', m', c', rfl, ho, hb3⟩; have N3 := ext_trans (show Below w2.heap.size w2 _ from by repeat (first | with_reducible exact (Below.refl _ _) | with_reducible refine ext_drew ?_ | with_reducible refine ext_alloc ?_ _)) hb3; (try (have gC : w3.heap[w2.drew.heap.size]? = some (.cells #[.slice none 0 0, .slice none 0 0] 57) := (by with_reducible exact block_below hb3 (heap_new _ _)); replace gC : w3.heap[w2.heap.size]? = some (.cells #[.slice none 0 0, .slice none 0 0] 57) := gC; have m0 : w3.cell? ⟨w2.heap.size, 0, none⟩ = some (.slice none 0 0) := cell_block gC rfl; have m1 : w3.cell? ⟨w2.heap.size, 1, none⟩ = some (.slice none 0 0) := cell_block gC rfl; have n0 : w3.frozen? ⟨w2.heap.size, 0, none⟩ = false := frozen_block gC; have n1 : w3.frozen? ⟨w2.heap.size, 1, none⟩ = false := frozen_block gC)); obtain ⟨s0, s1, s2, s3, s4, s5, s6, s7⟩ := hS.out w3 N3))
  · obtain ⟨X, hX⟩ : ∃ X, w3.alloc (.cells #[.slice a m c, .slice a' m' c'] 57) = X := ⟨_, rfl⟩
    have EX : Below W.heap.size W X := by rw [← hX]; exact ext_alloc (ext_trans (ext_drew E2) hb3) _
    have gK : X.heap[w3.heap.size]? = some (.cells #[.slice a m c, .slice a' m' c'] 57) := by rw [← hX]; exact heap_new _ _
    have hO : Own2 W.heap.size X (.slice a m c) (.slice a' m' c') xs ys := by rw [← hX]; exact (Own2.weak ho (by show W.heap.size ≤ w2.heap.size; omega)).kept (fun b hb => Below.heap_alloc _ _ _ (hb.elim (fun e => (own_ge ho.k e).2.1) (fun e => (own_ge ho.v e).2.1)))
    rw [hX]
    clear hX
    have u0 : X.cell? ⟨w3.heap.size, 0, none⟩ = some (.slice a m c) := cell_block gK rfl
    have u1 : X.cell? ⟨w3.heap.size, 1, none⟩ = some (.slice a' m' c') := cell_block gK rfl
    have v0 := (EX.cell (p := ⟨T, i * 2, none⟩) hTl).trans d0
    have v1 := (EX.cell (p := ⟨T, i * 2 + 1, none⟩) hTl).trans d1
    have o0 := (EX.frozen (p := ⟨T, i * 2, none⟩) hTl).trans f0
    have o1 := (EX.frozen (p := ⟨T, i * 2 + 1, none⟩) hTl).trans f1
    go_wp2_with (go_at_call 114; refine (need_ok _).mono ?_; rintro e w' ⟨rfl, rfl⟩)
    go_end0
    exact ⟨_, _, _, rfl, EX, hO, rfl⟩
  · obtain ⟨X, hX⟩ : ∃ X, (w3.setCell ⟨w2.heap.size, 0, none⟩ (.slice a m c)).setCell ⟨w2.heap.size, 1, none⟩ (.slice a' m' c') = X := ⟨_, rfl⟩
    have EX : Below W.heap.size W X := by rw [← hX]; exact put2_below _ _ (ext_trans (ext_alloc (ext_drew E2) _) hb3) (by omega)
    have gK : X.heap[w2.heap.size]? = some (.cells #[.slice a m c, .slice a' m' c'] 57) := by rw [← hX]; exact put2_same gC
    have hO : Own2 W.heap.size X (.slice a m c) (.slice a' m' c') xs ys := by rw [← hX]; exact (Own2.weak ho (by show W.heap.size ≤ (w2.alloc _).heap.size; rw [World.size_alloc]; omega)).kept (fun b hb => put2_other _ _ _ (fun e => by have := hb.elim (fun e => (own_ge ho.k e).1) (fun e => (own_ge ho.v e).1); replace this : (w2.alloc (.cells #[.slice none 0 0, .slice none 0 0] 57)).heap.size ≤ b := this; rw [World.size_alloc] at this; omega))
    rw [hX]
    clear hX
    have u0 : X.cell? ⟨w2.heap.size, 0, none⟩ = some (.slice a m c) := cell_block gK rfl
    have u1 : X.cell? ⟨w2.heap.size, 1, none⟩ = some (.slice a' m' c') := cell_block gK rfl
    have v0 := (EX.cell (p := ⟨T, i * 2, none⟩) hTl).trans d0
    have v1 := (EX.cell (p := ⟨T, i * 2 + 1, none⟩) hTl).trans d1
    have o0 := (EX.frozen (p := ⟨T, i * 2, none⟩) hTl).trans f0
    have o1 := (EX.frozen (p := ⟨T, i * 2 + 1, none⟩) hTl).trans f1
    go_wp2_with (go_at_call 114; refine (need_ok _).mono ?_; rintro e w' ⟨rfl, rfl⟩)
    go_end0
    exact ⟨_, _, _, rfl, EX, hO, rfl⟩
set_option maxRecDepth 20000 in
set_option maxHeartbeats 4000000 in
/-- Set of a table, as far as memory goes. -/
theorem mset_no (B T tc nt i : Nat) (t : ByteArray) (y z : Vl) (er : Int) (ks vs : Value) (xs ys : List Vl) (W : World) (c3 : W.cell? ⟨B, 3, none⟩ = some (.slice (some ⟨T, 0, none⟩) nt tc)) (hi : i < nt) (hn : nt ≤ 1000)
    (d0 : W.cell? ⟨T, i * 2, none⟩ = some ks) (d1 : W.cell? ⟨T, i * 2 + 1, none⟩ = some vs) (f0 : W.frozen? ⟨T, i * 2, none⟩ = false) (f1 : W.frozen? ⟨T, i * 2 + 1, none⟩ = false)
    (hT : ∀ w2, Below W.heap.size W w2 → Calls Tryz.prog 117 #[.agg #[ks, vs], y.v, z.v] w2 fun e w' => ∃ a m c a' m' c', e = .returned (.tuple #[.agg #[.slice a m c, .slice a' m' c'], .int .i64 er]) ∧ Own2 w2.heap.size w' (.slice a m c) (.slice a' m' c') xs ys ∧ Below w2.heap.size w2 w') (he : (er != 0) = true) :
    Calls Tryz.prog 100 #[.pointer (some ⟨B, 0, none⟩), .agg #[.int .i64 4, .int .i64 (i : Nat), .string t], y.v, z.v] W fun e W' => e = .panicked (pan (flr er)) ∧ Below W.heap.size W W' := by
  have hB := World.block_lt_of_cell? _ _ c3
  have hTl := World.block_lt_of_cell? _ _ d0
  simp only at hB hTl
  obtain ⟨w1, hw1⟩ : ∃ w1, ((W.alloc (.cells #[.int .i64 4, .int .i64 (i : Nat), .string t] 30)).alloc (.cells #[.int .i64 y.k, .int .i64 y.n, .string y.s] 30)).alloc (.cells #[.int .i64 z.k, .int .i64 z.n, .string z.s] 30) = w1 := ⟨_, rfl⟩
  have E0 : Below W.heap.size W w1 := by rw [← hw1]; exact below3 W _ _ _
  have g0 : w1.heap[W.heap.size + 1 + 1]? = some (bx z) := by rw [← hw1]; exact new3 W _ _ _
  have g1 : w1.heap[W.heap.size + 1]? = some (bx y) := by rw [← hw1]; refine block_alloc _ ?_; have := heap_new (W.alloc (.cells #[.int .i64 4, .int .i64 (i : Nat), .string t] 30)) (bx y); simpa using this
  have g2 : w1.heap[W.heap.size]? = some (.cells #[.int .i64 4, .int .i64 (i : Nat), .string t] 30) := by rw [← hw1]; exact block_alloc _ (block_alloc _ (heap_new _ _))
  have p0 : w1.cell? ⟨W.heap.size, 0, none⟩ = some (.int .i64 4) := cell_block g2 rfl
  have p1 : w1.cell? ⟨W.heap.size, 1, none⟩ = some (.int .i64 (i : Nat)) := cell_block g2 rfl
  have p2 : w1.cell? ⟨W.heap.size, 2, none⟩ = some (.string t) := cell_block g2 rfl
  have hcl := table_yes B T tc nt i t w1 ((E0.cell (p := ⟨B, 3, none⟩) hB).trans c3) hi hn
  replace hT : Hid _ := hT
  go_enter Tryz.func100, Tryz.ntmps100
  go_wp2_with (go_at_call 116; refine hcl.mono ?_; rintro e w2 ⟨rfl, hb2⟩; refine Hid.out ?_)
  refine Lib.hid ?_
  have E2 := ext_trans E0 hb2
  obtain ⟨b0, b1, b2, _, _, _⟩ := in3 (block_below hb2 g1)
  obtain ⟨a0, a1, a2, _, _, _⟩ := in3 (block_below hb2 g0)
  have hz2 : W.heap.size + 1 + 1 < w2.heap.size := block_lt (block_below hb2 g0)
  have k0 := (E2.cell (p := ⟨T, i * 2, none⟩) hTl).trans d0
  have k1 := (E2.cell (p := ⟨T, i * 2 + 1, none⟩) hTl).trans d1
  have hS : ∀ u, Below w2.heap.size w2 u → u.cell? ⟨T, i * 2, none⟩ = some ks ∧ u.cell? ⟨T, i * 2 + 1, none⟩ = some vs ∧ u.cell? ⟨W.heap.size + 1, 0, none⟩ = some (.int .i64 y.k) ∧ u.cell? ⟨W.heap.size + 1, 1, none⟩ = some (.int .i64 y.n) ∧ u.cell? ⟨W.heap.size + 1, 2, none⟩ = some (.string y.s) ∧ u.cell? ⟨W.heap.size + 1 + 1, 0, none⟩ = some (.int .i64 z.k) ∧ u.cell? ⟨W.heap.size + 1 + 1, 1, none⟩ = some (.int .i64 z.n) ∧ u.cell? ⟨W.heap.size + 1 + 1, 2, none⟩ = some (.string z.s) := fun u hb => ⟨cellB hb k0, cellB hb k1, cellB hb b0, cellB hb b1, cellB hb b2, cellB hb a0, cellB hb a1, cellB hb a2⟩
  replace hS : Hid _ := hS
  clear c3 hcl
  go_wp2
  have x1 : W.heap.size + 1 ≠ w2.heap.size := by omega
  have x2 : W.heap.size + 1 + 1 ≠ w2.heap.size := by omega
  have x3 : T ≠ w2.heap.size := by omega
  go_region_held3 (fun u => u.cell? ⟨T, i * 2, none⟩ = some ks ∧ u.cell? ⟨T, i * 2 + 1, none⟩ = some vs ∧ u.cell? ⟨W.heap.size + 1, 0, none⟩ = some (.int .i64 y.k) ∧ u.cell? ⟨W.heap.size + 1, 1, none⟩ = some (.int .i64 y.n) ∧ u.cell? ⟨W.heap.size + 1, 2, none⟩ = some (.string y.s) ∧ u.cell? ⟨W.heap.size + 1 + 1, 0, none⟩ = some (.int .i64 z.k) ∧ u.cell? ⟨W.heap.size + 1 + 1, 1, none⟩ = some (.int .i64 z.n) ∧ u.cell? ⟨W.heap.size + 1 + 1, 2, none⟩ = some (.string z.s)) (first | go_keep | with_reducible exact ⟨(k2 x3).trans s0, (k2 x3).trans s1, (k2 x1).trans s2, (k2 x1).trans s3, (k2 x1).trans s4, (k2 x2).trans s5, (k2 x2).trans s6, (k2 x2).trans s7⟩) (first | (go_at_call 117; refine (hT.out _ (by repeat (first | with_reducible exact E2 | with_reducible refine ext_drew ?_ | with_reducible refine ext_alloc ?_ _))).mono ?_; rintro e w3 ⟨a, m, c, a', m', c', rfl, ho, hb3⟩; have N3 := ext_trans (show Below w2.heap.size w2 _ from by repeat (first | with_reducible exact (Below.refl _ _) | with_reducible refine ext_drew ?_ | with_reducible refine ext_alloc ?_ _)) hb3; (try (have gC : w3.heap[w2.drew.heap.size]? = some (.cells #[.slice none 0 0, .slice none 0 0] 57) := (by with_reducible exact block_below hb3 (heap_new _ _)); replace gC : w3.heap[w2.heap.size]? = some (.cells #[.slice none 0 0, .slice none 0 0] 57) := gC; have m0 : w3.cell? ⟨w2.heap.size, 0, none⟩ = some (.slice none 0 0) := cell_block gC rfl; have m1 : w3.cell? ⟨w2.heap.size, 1, none⟩ = some (.slice none 0 0) := cell_block gC rfl; have n0 : w3.frozen? ⟨w2.heap.size, 0, none⟩ = false := frozen_block gC; have n1 : w3.frozen? ⟨w2.heap.size, 1, none⟩ = false := frozen_block gC)); obtain ⟨s0, s1, s2, s3, s4, s5, s6, s7⟩ := hS.out w3 N3))
  · obtain ⟨X, hX⟩ : ∃ X, w3.alloc (.cells #[.slice a m c, .slice a' m' c'] 57) = X := ⟨_, rfl⟩
    have EX : Below W.heap.size W X := by rw [← hX]; exact ext_alloc (ext_trans (ext_drew E2) hb3) _
    have gK : X.heap[w3.heap.size]? = some (.cells #[.slice a m c, .slice a' m' c'] 57) := by rw [← hX]; exact heap_new _ _
    have hO : Own2 W.heap.size X (.slice a m c) (.slice a' m' c') xs ys := by rw [← hX]; exact (Own2.weak ho (by show W.heap.size ≤ w2.heap.size; omega)).kept (fun b hb => Below.heap_alloc _ _ _ (hb.elim (fun e => (own_ge ho.k e).2.1) (fun e => (own_ge ho.v e).2.1)))
    rw [hX]
    clear hX
    have u0 : X.cell? ⟨w3.heap.size, 0, none⟩ = some (.slice a m c) := cell_block gK rfl
    have u1 : X.cell? ⟨w3.heap.size, 1, none⟩ = some (.slice a' m' c') := cell_block gK rfl
    have v0 := (EX.cell (p := ⟨T, i * 2, none⟩) hTl).trans d0
    have v1 := (EX.cell (p := ⟨T, i * 2 + 1, none⟩) hTl).trans d1
    have o0 := (EX.frozen (p := ⟨T, i * 2, none⟩) hTl).trans f0
    have o1 := (EX.frozen (p := ⟨T, i * 2 + 1, none⟩) hTl).trans f1
    go_wp2_with (go_at_call 114; refine (need_no er _ he).mono ?_; rintro e w' ⟨rfl, rfl⟩)
    exact ⟨rfl, rfl, EX⟩
  · obtain ⟨X, hX⟩ : ∃ X, (w3.setCell ⟨w2.heap.size, 0, none⟩ (.slice a m c)).setCell ⟨w2.heap.size, 1, none⟩ (.slice a' m' c') = X := ⟨_, rfl⟩
    have EX : Below W.heap.size W X := by rw [← hX]; exact put2_below _ _ (ext_trans (ext_alloc (ext_drew E2) _) hb3) (by omega)
    have gK : X.heap[w2.heap.size]? = some (.cells #[.slice a m c, .slice a' m' c'] 57) := by rw [← hX]; exact put2_same gC
    have hO : Own2 W.heap.size X (.slice a m c) (.slice a' m' c') xs ys := by rw [← hX]; exact (Own2.weak ho (by show W.heap.size ≤ (w2.alloc _).heap.size; rw [World.size_alloc]; omega)).kept (fun b hb => put2_other _ _ _ (fun e => by have := hb.elim (fun e => (own_ge ho.k e).1) (fun e => (own_ge ho.v e).1); replace this : (w2.alloc (.cells #[.slice none 0 0, .slice none 0 0] 57)).heap.size ≤ b := this; rw [World.size_alloc] at this; omega))
    rw [hX]
    clear hX
    have u0 : X.cell? ⟨w2.heap.size, 0, none⟩ = some (.slice a m c) := cell_block gK rfl
    have u1 : X.cell? ⟨w2.heap.size, 1, none⟩ = some (.slice a' m' c') := cell_block gK rfl
    have v0 := (EX.cell (p := ⟨T, i * 2, none⟩) hTl).trans d0
    have v1 := (EX.cell (p := ⟨T, i * 2 + 1, none⟩) hTl).trans d1
    have o0 := (EX.frozen (p := ⟨T, i * 2, none⟩) hTl).trans f0
    have o1 := (EX.frozen (p := ⟨T, i * 2 + 1, none⟩) hTl).trans f1
    go_wp2_with (go_at_call 114; refine (need_no er _ he).mono ?_; rintro e w' ⟨rfl, rfl⟩)
    exact ⟨rfl, rfl, EX⟩
/-- Set, of a value that may be in the machine. -/
theorem mset_any {fs : List Fd} (h : Mc w0 p fv mn s W) (hg : Good fs s) (v y z : Vl) (hv : VG s.tb.length fs.length v) :
    Calls Tryz.prog 100 #[.pointer (some ⟨p.B, 0, none⟩), v.v, y.v, z.v] W fun e W' =>
      if v.k = 4 then (if (setT (tabOf s.tb v).ks (tabOf s.tb v).vs y z).2 = 0 then e = .returned (.tuple #[]) ∧ ∃ p', p'.B = p.B ∧ p'.ap = p.ap ∧ p'.fw = p.fw ∧ p'.F = p.F ∧ Mc w0 p' fv mn { s with tb := s.tb.set v.n.toNat ⟨keysOf (setT (tabOf s.tb v).ks (tabOf s.tb v).vs y z).1, valsOf (setT (tabOf s.tb v).ks (tabOf s.tb v).vs y z).1⟩ } W' ∧ MK p.own W p'.own W'
        else e = .panicked (pan (flr (setT (tabOf s.tb v).ks (tabOf s.tb v).vs y z).2)) ∧ Below W.heap.size W W')
      else e = .panicked (pan (flr 3)) ∧ Below W.heap.size W W' := by
  have h200 := hg.t2
  by_cases h4 : v.k = 4
  · simp only [if_pos h4]
    obtain ⟨g1, g2, g3, g4⟩ := TG.of hg.tg hv h4
    obtain ⟨q, hq, e1, d0, d1, f0, f1, r0, r1⟩ := h.tabCells g1
    have c3 := h.cells.2.2.2.1
    obtain ⟨k, n, t, _, _, _⟩ := v
    simp only at h4 g3 g4
    subst h4
    obtain ⟨i, rfl⟩ : ∃ i : Nat, n = i := ⟨n.toNat, by omega⟩
    simp only [Int.toNat_natCast] at *
    have hT : ∀ w2, Below W.heap.size W w2 → Calls Tryz.prog 117 #[.agg #[q.a, q.b], y.v, z.v] w2 _ := fun w2 hb => set_any q.a q.b _ _ y z w2 ⟨row_mono hb.size (r0.row.below hb), row_mono hb.size (r1.row.below hb)⟩
    split
    · rename_i h0
      refine (mset_cells p.B p.T p.tc s.tb.length i t y z _ q.a q.b _ _ W c3 g4 (by omega) d0 d1 f0 f1 hT h0).mono ?_
      rintro e W' ⟨V, a, b, rfl, hb, ho, rfl⟩
      obtain ⟨p', x1, x2, x3, x4, x5, x6⟩ := h.setTab hb i (t := ⟨keysOf (setT _ _ y z).1, valsOf (setT _ _ y z).1⟩) ho
      exact ⟨rfl, p', x1, x2, x3, x4, x5, x6⟩
    · rename_i h0
      exact mset_no p.B p.T p.tc s.tb.length i t y z _ q.a q.b _ _ W c3 g4 (by omega) d0 d1 f0 f1 hT (by simpa using h0)
  · simp only [if_neg h4]
    exact mset_bad _ v.k v.n v.s y z W (by simpa using h4)
end
end Go.Proofs.YthdhgfpidhbdiaaGreatDoor
