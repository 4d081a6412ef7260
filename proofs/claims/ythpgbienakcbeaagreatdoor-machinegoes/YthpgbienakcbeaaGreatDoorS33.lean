/- The machine's tables: Set; a text is told. -/
import Derived.Test.YthpgbienakcbeaaGreatDoorS32
namespace Go.Proofs.YthpgbienakcbeaaGreatDoor
open Go.RowKit Go
set_option maxRecDepth 100000
set_option maxHeartbeats 8000000
set_option linter.all false
variable {w W : World} {B c o : Nat} {tm : Array Value} {x : Vl}
section
variable [DecidableEq Vl]
def DQ (w0 : World) (p : Mp) (fv : Value) (mn : Int) (s : St) (W : World) (R : Int ⊕ St) (e : Ending) (W' : World) : Prop :=
 match R with
 | .inl c => e = .panicked (pan (flr c)) ∧ ∃ p', p'.B = p.B ∧ p'.ap = p.ap ∧ Mc w0 p' fv mn s W' ∧ MK p.own W p'.own W'
 | .inr t => e = .returned (.tuple #[]) ∧ ∃ p', p'.B = p.B ∧ p'.ap = p.ap ∧ Mc w0 p' fv mn t W' ∧ MK p.own W p'.own W'
theorem k2 {p q : Value} (h : c ≠ B) : ((w.setCell ⟨B, 0, none⟩ p).setCell ⟨B, 1, none⟩ q).cell? ⟨c, o, none⟩ = w.cell? ⟨c, o, none⟩ := World.cell?_of_block (a := ⟨c, o, none⟩) ((a0f _ _ h).trans (a0f _ _ h))
section
variable {w0 : World} {p : Mp} {fv : Value} {mn : Int} {s : St} {W : World}
theorem c5j (pt : Value) (k n : Int) (t : ByteArray) (y z : Vl) (W : World) (hk : (k != 4) = true) :
  Calls Tryz.prog 100 #[pt, .agg #[.int .i64 k, .int .i64 n, .string t], y.v, z.v] W fun e W' => e = .panicked (pan (flr 3)) ∧ Below W.heap.size W W' := by
 go_enter Tryz.func100, Tryz.ntmps100
 go_wp2_with (go_at_call 116; refine (b1u _ _ _ _ _ hk).mono ?_; rintro e w2 ⟨rfl, rfl⟩)
 exact ⟨rfl, rfl, a0c (a2p W _ _ _) _⟩
theorem b7j (B T tc nt i : Nat) (t : ByteArray) (y z : Vl) (er : Int) (ks vs : Value) (xs ys : List Vl) (W : World) (c3 : W.cell? ⟨B, 3, none⟩ = some (.slice (some ⟨T, 0, none⟩) nt tc)) (hi : i < nt) (hn : nt ≤ 1000) (d0 : W.cell? ⟨T, i * 2, none⟩ = some ks) (d1 : W.cell? ⟨T, i * 2 + 1, none⟩ = some vs) (f0 : W.frozen? ⟨T, i * 2, none⟩ = false) (f1 : W.frozen? ⟨T, i * 2 + 1, none⟩ = false) (hT : ∀ w2, Below W.heap.size W w2 → Calls Tryz.prog 117 #[.agg #[ks, vs], y.v, z.v] w2 fun e w' => ∃ a m c a' m' c', e = .returned (.tuple #[.agg #[.slice a m c, .slice a' m' c'], .int .i64 er]) ∧ Own2 w2.heap.size w' (.slice a m c) (.slice a' m' c') xs ys ∧ Below w2.heap.size w2 w') (he : er = 0) :
  Calls Tryz.prog 100 #[.pointer (some ⟨B, 0, none⟩), .agg #[.int .i64 4, .int .i64 (i : Nat), .string t], y.v, z.v] W fun e W' => ∃ V a b, e = .returned (.tuple #[]) ∧ Below W.heap.size W V ∧ Own2 W.heap.size V a b xs ys ∧ W' = (V.setCell ⟨T, i * 2, none⟩ a).setCell ⟨T, i * 2 + 1, none⟩ b := by
 have hB := World.block_lt_of_cell? _ _ c3
 have hTl := World.block_lt_of_cell? _ _ d0
 simp only at hB hTl
 obtain ⟨w1, hw1⟩ := exq (((W.alloc (.cells #[.int .i64 4, .int .i64 (i : Nat), .string t] 30)).alloc (.cells #[.int .i64 y.k, .int .i64 y.n, .string y.s] 30)).alloc (.cells #[.int .i64 z.k, .int .i64 z.n, .string z.s] 30))
 have E0 : Below W.heap.size W w1 := by rw [← hw1]; exact a2p W _ _ _
 have g0 : w1.heap[W.heap.size + 1 + 1]? = some (bx z) := by rw [← hw1]; exact new3 W _ _ _
 have g1 : w1.heap[W.heap.size + 1]? = some (bx y) := by rw [← hw1]; refine a0g _ ?_; have := a0h (W.alloc (.cells #[.int .i64 4, .int .i64 (i : Nat), .string t] 30)) (bx y); simpa using this
 have g2 : w1.heap[W.heap.size]? = some (.cells #[.int .i64 4, .int .i64 (i : Nat), .string t] 30) := by rw [← hw1]; exact a0g _ (a0g _ (a0h _ _))
 have p0 : w1.cell? ⟨W.heap.size, 0, none⟩ = some (.int .i64 4) := a0a g2 rfl
 have p1 : w1.cell? ⟨W.heap.size, 1, none⟩ = some (.int .i64 (i : Nat)) := a0a g2 rfl
 have p2 : w1.cell? ⟨W.heap.size, 2, none⟩ = some (.string t) := a0a g2 rfl
 have hcl := a5k B T tc nt i t w1 ((E0.cell (p := ⟨B, 3, none⟩) hB).trans c3) hi hn
 subst he
 replace hT : Hid _ := hT
 go_enter Tryz.func100, Tryz.ntmps100
 go_wp2_with (go_at_call 116; refine hcl.mono ?_; rintro e w2 ⟨rfl, hb2⟩; refine Hid.out ?_)
 refine Lib.hid ?_
 have E2 := a0b E0 hb2
 obtain ⟨b0, b1, b2, _, _, _⟩ := in3 (a0d hb2 g1)
 obtain ⟨a0, a1, a2, _, _, _⟩ := in3 (a0d hb2 g0)
 have hz2 : W.heap.size + 1 + 1 < w2.heap.size := a0n (a0d hb2 g0)
 have k0 := (E2.cell (p := ⟨T, i * 2, none⟩) hTl).trans d0
 have k1 := (E2.cell (p := ⟨T, i * 2 + 1, none⟩) hTl).trans d1
 have hS : ∀ u, Below w2.heap.size w2 u → u.cell? ⟨T, i * 2, none⟩ = some ks ∧ u.cell? ⟨T, i * 2 + 1, none⟩ = some vs ∧ u.cell? ⟨W.heap.size + 1, 0, none⟩ = some (.int .i64 y.k) ∧ u.cell? ⟨W.heap.size + 1, 1, none⟩ = some (.int .i64 y.n) ∧ u.cell? ⟨W.heap.size + 1, 2, none⟩ = some (.string y.s) ∧ u.cell? ⟨W.heap.size + 1 + 1, 0, none⟩ = some (.int .i64 z.k) ∧ u.cell? ⟨W.heap.size + 1 + 1, 1, none⟩ = some (.int .i64 z.n) ∧ u.cell? ⟨W.heap.size + 1 + 1, 2, none⟩ = some (.string z.s) := fun u hb => ⟨a0l hb k0, a0l hb k1, a0l hb b0, a0l hb b1, a0l hb b2, a0l hb a0, a0l hb a1, a0l hb a2⟩
 replace hS : Hid _ := hS
 clear c3 hcl
 go_wp2
 have x1 : W.heap.size + 1 ≠ w2.heap.size := by omega
 have x2 : W.heap.size + 1 + 1 ≠ w2.heap.size := by omega
 have x3 : T ≠ w2.heap.size := by omega
 go_region_held3 (fun u => u.cell? ⟨T, i * 2, none⟩ = some ks ∧ u.cell? ⟨T, i * 2 + 1, none⟩ = some vs ∧ u.cell? ⟨W.heap.size + 1, 0, none⟩ = some (.int .i64 y.k) ∧ u.cell? ⟨W.heap.size + 1, 1, none⟩ = some (.int .i64 y.n) ∧ u.cell? ⟨W.heap.size + 1, 2, none⟩ = some (.string y.s) ∧ u.cell? ⟨W.heap.size + 1 + 1, 0, none⟩ = some (.int .i64 z.k) ∧ u.cell? ⟨W.heap.size + 1 + 1, 1, none⟩ = some (.int .i64 z.n) ∧ u.cell? ⟨W.heap.size + 1 + 1, 2, none⟩ = some (.string z.s)) (first | go_keep | with_reducible exact ⟨(k2 x3).trans s0, (k2 x3).trans s1, (k2 x1).trans s2, (k2 x1).trans s3, (k2 x1).trans s4, (k2 x2).trans s5, (k2 x2).trans s6, (k2 x2).trans s7⟩) (first | (go_at_call 117; refine (hT.out _ (by repeat (first | with_reducible exact E2 | with_reducible refine a0i ?_ | with_reducible refine a0c ?_ _))).mono ?_; rintro e w3 ⟨a, m, c, a', m', c', rfl, ho, hb3⟩; have N3 := a0b (show Below w2.heap.size w2 _ from by repeat (first | with_reducible exact (Below.refl _ _) | with_reducible refine a0i ?_ | with_reducible refine a0c ?_ _)) hb3; (try (have gC : w3.heap[w2.drew.heap.size]? = some (.cells #[.slice none 0 0, .slice none 0 0] 57) := (by with_reducible exact a0d hb3 (a0h _ _)); replace gC : w3.heap[w2.heap.size]? = some (.cells #[.slice none 0 0, .slice none 0 0] 57) := gC; have m0 : w3.cell? ⟨w2.heap.size, 0, none⟩ = some (.slice none 0 0) := a0a gC rfl; have m1 : w3.cell? ⟨w2.heap.size, 1, none⟩ = some (.slice none 0 0) := a0a gC rfl; have n0 : w3.frozen? ⟨w2.heap.size, 0, none⟩ = false := a0e gC; have n1 : w3.frozen? ⟨w2.heap.size, 1, none⟩ = false := a0e gC)); obtain ⟨s0, s1, s2, s3, s4, s5, s6, s7⟩ := hS.out w3 N3))
 ·obtain ⟨X, hX⟩ := exq (w3.alloc (.cells #[.slice a m c, .slice a' m' c'] 57))
  have EX : Below W.heap.size W X := by rw [← hX]; exact a0c (a0b (a0i E2) hb3) _
  have gK : X.heap[w3.heap.size]? = some (.cells #[.slice a m c, .slice a' m' c'] 57) := by rw [← hX]; exact a0h _ _
  have hO : Own2 W.heap.size X (.slice a m c) (.slice a' m' c') xs ys := by rw [← hX]; exact (Own2.weak ho (by show W.heap.size ≤ w2.heap.size; omega)).kept (fun b hb => Below.heap_alloc _ _ _ (hb.elim (fun e => (a0z ho.k e).2.1) (fun e => (a0z ho.v e).2.1)))
  rw [hX]
  clear hX
  have u0 : X.cell? ⟨w3.heap.size, 0, none⟩ = some (.slice a m c) := a0a gK rfl
  have u1 : X.cell? ⟨w3.heap.size, 1, none⟩ = some (.slice a' m' c') := a0a gK rfl
  have v0 := (EX.cell (p := ⟨T, i * 2, none⟩) hTl).trans d0
  have v1 := (EX.cell (p := ⟨T, i * 2 + 1, none⟩) hTl).trans d1
  have o0 := (EX.frozen (p := ⟨T, i * 2, none⟩) hTl).trans f0
  have o1 := (EX.frozen (p := ⟨T, i * 2 + 1, none⟩) hTl).trans f1
  go_wp2_with (go_at_call 114; refine (a8m _).mono ?_; rintro e w' ⟨rfl, rfl⟩)
  go_end0
  exact ⟨_, _, _, rfl, EX, hO, rfl⟩
 ·obtain ⟨X, hX⟩ := exq ((w3.setCell ⟨w2.heap.size, 0, none⟩ (.slice a m c)).setCell ⟨w2.heap.size, 1, none⟩ (.slice a' m' c'))
  have EX : Below W.heap.size W X := by rw [← hX]; exact a1g _ _ (a0b (a0c (a0i E2) _) hb3) (by omega)
  have gK : X.heap[w2.heap.size]? = some (.cells #[.slice a m c, .slice a' m' c'] 57) := by rw [← hX]; exact a1t gC
  have hO : Own2 W.heap.size X (.slice a m c) (.slice a' m' c') xs ys := by rw [← hX]; exact (Own2.weak ho (by show W.heap.size ≤ (w2.alloc _).heap.size; rw [World.size_alloc]; omega)).kept (fun b hb => a2h _ _ _ (fun e => by have := hb.elim (fun e => (a0z ho.k e).1) (fun e => (a0z ho.v e).1); replace this : (w2.alloc (.cells #[.slice none 0 0, .slice none 0 0] 57)).heap.size ≤ b := this; rw [World.size_alloc] at this; omega))
  rw [hX]
  clear hX
  have u0 : X.cell? ⟨w2.heap.size, 0, none⟩ = some (.slice a m c) := a0a gK rfl
  have u1 : X.cell? ⟨w2.heap.size, 1, none⟩ = some (.slice a' m' c') := a0a gK rfl
  have v0 := (EX.cell (p := ⟨T, i * 2, none⟩) hTl).trans d0
  have v1 := (EX.cell (p := ⟨T, i * 2 + 1, none⟩) hTl).trans d1
  have o0 := (EX.frozen (p := ⟨T, i * 2, none⟩) hTl).trans f0
  have o1 := (EX.frozen (p := ⟨T, i * 2 + 1, none⟩) hTl).trans f1
  go_wp2_with (go_at_call 114; refine (a8m _).mono ?_; rintro e w' ⟨rfl, rfl⟩)
  go_end0
  exact ⟨_, _, _, rfl, EX, hO, rfl⟩
theorem c9v (B T tc nt i : Nat) (t : ByteArray) (y z : Vl) (er : Int) (ks vs : Value) (xs ys : List Vl) (W : World) (c3 : W.cell? ⟨B, 3, none⟩ = some (.slice (some ⟨T, 0, none⟩) nt tc)) (hi : i < nt) (hn : nt ≤ 1000) (d0 : W.cell? ⟨T, i * 2, none⟩ = some ks) (d1 : W.cell? ⟨T, i * 2 + 1, none⟩ = some vs) (f0 : W.frozen? ⟨T, i * 2, none⟩ = false) (f1 : W.frozen? ⟨T, i * 2 + 1, none⟩ = false) (hT : ∀ w2, Below W.heap.size W w2 → Calls Tryz.prog 117 #[.agg #[ks, vs], y.v, z.v] w2 fun e w' => ∃ a m c a' m' c', e = .returned (.tuple #[.agg #[.slice a m c, .slice a' m' c'], .int .i64 er]) ∧ Own2 w2.heap.size w' (.slice a m c) (.slice a' m' c') xs ys ∧ Below w2.heap.size w2 w') (he : (er != 0) = true) :
  Calls Tryz.prog 100 #[.pointer (some ⟨B, 0, none⟩), .agg #[.int .i64 4, .int .i64 (i : Nat), .string t], y.v, z.v] W fun e W' => e = .panicked (pan (flr er)) ∧ Below W.heap.size W W' := by
 have hB := World.block_lt_of_cell? _ _ c3
 have hTl := World.block_lt_of_cell? _ _ d0
 simp only at hB hTl
 obtain ⟨w1, hw1⟩ := exq (((W.alloc (.cells #[.int .i64 4, .int .i64 (i : Nat), .string t] 30)).alloc (.cells #[.int .i64 y.k, .int .i64 y.n, .string y.s] 30)).alloc (.cells #[.int .i64 z.k, .int .i64 z.n, .string z.s] 30))
 have E0 : Below W.heap.size W w1 := by rw [← hw1]; exact a2p W _ _ _
 have g0 : w1.heap[W.heap.size + 1 + 1]? = some (bx z) := by rw [← hw1]; exact new3 W _ _ _
 have g1 : w1.heap[W.heap.size + 1]? = some (bx y) := by rw [← hw1]; refine a0g _ ?_; have := a0h (W.alloc (.cells #[.int .i64 4, .int .i64 (i : Nat), .string t] 30)) (bx y); simpa using this
 have g2 : w1.heap[W.heap.size]? = some (.cells #[.int .i64 4, .int .i64 (i : Nat), .string t] 30) := by rw [← hw1]; exact a0g _ (a0g _ (a0h _ _))
 have p0 : w1.cell? ⟨W.heap.size, 0, none⟩ = some (.int .i64 4) := a0a g2 rfl
 have p1 : w1.cell? ⟨W.heap.size, 1, none⟩ = some (.int .i64 (i : Nat)) := a0a g2 rfl
 have p2 : w1.cell? ⟨W.heap.size, 2, none⟩ = some (.string t) := a0a g2 rfl
 have hcl := a5k B T tc nt i t w1 ((E0.cell (p := ⟨B, 3, none⟩) hB).trans c3) hi hn
 replace hT : Hid _ := hT
 go_enter Tryz.func100, Tryz.ntmps100
 go_wp2_with (go_at_call 116; refine hcl.mono ?_; rintro e w2 ⟨rfl, hb2⟩; refine Hid.out ?_)
 refine Lib.hid ?_
 have E2 := a0b E0 hb2
 obtain ⟨b0, b1, b2, _, _, _⟩ := in3 (a0d hb2 g1)
 obtain ⟨a0, a1, a2, _, _, _⟩ := in3 (a0d hb2 g0)
 have hz2 : W.heap.size + 1 + 1 < w2.heap.size := a0n (a0d hb2 g0)
 have k0 := (E2.cell (p := ⟨T, i * 2, none⟩) hTl).trans d0
 have k1 := (E2.cell (p := ⟨T, i * 2 + 1, none⟩) hTl).trans d1
 have hS : ∀ u, Below w2.heap.size w2 u → u.cell? ⟨T, i * 2, none⟩ = some ks ∧ u.cell? ⟨T, i * 2 + 1, none⟩ = some vs ∧ u.cell? ⟨W.heap.size + 1, 0, none⟩ = some (.int .i64 y.k) ∧ u.cell? ⟨W.heap.size + 1, 1, none⟩ = some (.int .i64 y.n) ∧ u.cell? ⟨W.heap.size + 1, 2, none⟩ = some (.string y.s) ∧ u.cell? ⟨W.heap.size + 1 + 1, 0, none⟩ = some (.int .i64 z.k) ∧ u.cell? ⟨W.heap.size + 1 + 1, 1, none⟩ = some (.int .i64 z.n) ∧ u.cell? ⟨W.heap.size + 1 + 1, 2, none⟩ = some (.string z.s) := fun u hb => ⟨a0l hb k0, a0l hb k1, a0l hb b0, a0l hb b1, a0l hb b2, a0l hb a0, a0l hb a1, a0l hb a2⟩
 replace hS : Hid _ := hS
 clear c3 hcl
 go_wp2
 have x1 : W.heap.size + 1 ≠ w2.heap.size := by omega
 have x2 : W.heap.size + 1 + 1 ≠ w2.heap.size := by omega
 have x3 : T ≠ w2.heap.size := by omega
 go_region_held3 (fun u => u.cell? ⟨T, i * 2, none⟩ = some ks ∧ u.cell? ⟨T, i * 2 + 1, none⟩ = some vs ∧ u.cell? ⟨W.heap.size + 1, 0, none⟩ = some (.int .i64 y.k) ∧ u.cell? ⟨W.heap.size + 1, 1, none⟩ = some (.int .i64 y.n) ∧ u.cell? ⟨W.heap.size + 1, 2, none⟩ = some (.string y.s) ∧ u.cell? ⟨W.heap.size + 1 + 1, 0, none⟩ = some (.int .i64 z.k) ∧ u.cell? ⟨W.heap.size + 1 + 1, 1, none⟩ = some (.int .i64 z.n) ∧ u.cell? ⟨W.heap.size + 1 + 1, 2, none⟩ = some (.string z.s)) (first | go_keep | with_reducible exact ⟨(k2 x3).trans s0, (k2 x3).trans s1, (k2 x1).trans s2, (k2 x1).trans s3, (k2 x1).trans s4, (k2 x2).trans s5, (k2 x2).trans s6, (k2 x2).trans s7⟩) (first | (go_at_call 117; refine (hT.out _ (by repeat (first | with_reducible exact E2 | with_reducible refine a0i ?_ | with_reducible refine a0c ?_ _))).mono ?_; rintro e w3 ⟨a, m, c, a', m', c', rfl, ho, hb3⟩; have N3 := a0b (show Below w2.heap.size w2 _ from by repeat (first | with_reducible exact (Below.refl _ _) | with_reducible refine a0i ?_ | with_reducible refine a0c ?_ _)) hb3; (try (have gC : w3.heap[w2.drew.heap.size]? = some (.cells #[.slice none 0 0, .slice none 0 0] 57) := (by with_reducible exact a0d hb3 (a0h _ _)); replace gC : w3.heap[w2.heap.size]? = some (.cells #[.slice none 0 0, .slice none 0 0] 57) := gC; have m0 : w3.cell? ⟨w2.heap.size, 0, none⟩ = some (.slice none 0 0) := a0a gC rfl; have m1 : w3.cell? ⟨w2.heap.size, 1, none⟩ = some (.slice none 0 0) := a0a gC rfl; have n0 : w3.frozen? ⟨w2.heap.size, 0, none⟩ = false := a0e gC; have n1 : w3.frozen? ⟨w2.heap.size, 1, none⟩ = false := a0e gC)); obtain ⟨s0, s1, s2, s3, s4, s5, s6, s7⟩ := hS.out w3 N3))
 ·obtain ⟨X, hX⟩ := exq (w3.alloc (.cells #[.slice a m c, .slice a' m' c'] 57))
  have EX : Below W.heap.size W X := by rw [← hX]; exact a0c (a0b (a0i E2) hb3) _
  have gK : X.heap[w3.heap.size]? = some (.cells #[.slice a m c, .slice a' m' c'] 57) := by rw [← hX]; exact a0h _ _
  have hO : Own2 W.heap.size X (.slice a m c) (.slice a' m' c') xs ys := by rw [← hX]; exact (Own2.weak ho (by show W.heap.size ≤ w2.heap.size; omega)).kept (fun b hb => Below.heap_alloc _ _ _ (hb.elim (fun e => (a0z ho.k e).2.1) (fun e => (a0z ho.v e).2.1)))
  rw [hX]
  clear hX
  have u0 : X.cell? ⟨w3.heap.size, 0, none⟩ = some (.slice a m c) := a0a gK rfl
  have u1 : X.cell? ⟨w3.heap.size, 1, none⟩ = some (.slice a' m' c') := a0a gK rfl
  have v0 := (EX.cell (p := ⟨T, i * 2, none⟩) hTl).trans d0
  have v1 := (EX.cell (p := ⟨T, i * 2 + 1, none⟩) hTl).trans d1
  have o0 := (EX.frozen (p := ⟨T, i * 2, none⟩) hTl).trans f0
  have o1 := (EX.frozen (p := ⟨T, i * 2 + 1, none⟩) hTl).trans f1
  go_wp2_with (go_at_call 114; refine (a6u er _ he).mono ?_; rintro e w' ⟨rfl, rfl⟩)
  exact ⟨rfl, rfl, EX⟩
 ·obtain ⟨X, hX⟩ := exq ((w3.setCell ⟨w2.heap.size, 0, none⟩ (.slice a m c)).setCell ⟨w2.heap.size, 1, none⟩ (.slice a' m' c'))
  have EX : Below W.heap.size W X := by rw [← hX]; exact a1g _ _ (a0b (a0c (a0i E2) _) hb3) (by omega)
  have gK : X.heap[w2.heap.size]? = some (.cells #[.slice a m c, .slice a' m' c'] 57) := by rw [← hX]; exact a1t gC
  have hO : Own2 W.heap.size X (.slice a m c) (.slice a' m' c') xs ys := by rw [← hX]; exact (Own2.weak ho (by show W.heap.size ≤ (w2.alloc _).heap.size; rw [World.size_alloc]; omega)).kept (fun b hb => a2h _ _ _ (fun e => by have := hb.elim (fun e => (a0z ho.k e).1) (fun e => (a0z ho.v e).1); replace this : (w2.alloc (.cells #[.slice none 0 0, .slice none 0 0] 57)).heap.size ≤ b := this; rw [World.size_alloc] at this; omega))
  rw [hX]
  clear hX
  have u0 : X.cell? ⟨w2.heap.size, 0, none⟩ = some (.slice a m c) := a0a gK rfl
  have u1 : X.cell? ⟨w2.heap.size, 1, none⟩ = some (.slice a' m' c') := a0a gK rfl
  have v0 := (EX.cell (p := ⟨T, i * 2, none⟩) hTl).trans d0
  have v1 := (EX.cell (p := ⟨T, i * 2 + 1, none⟩) hTl).trans d1
  have o0 := (EX.frozen (p := ⟨T, i * 2, none⟩) hTl).trans f0
  have o1 := (EX.frozen (p := ⟨T, i * 2 + 1, none⟩) hTl).trans f1
  go_wp2_with (go_at_call 114; refine (a6u er _ he).mono ?_; rintro e w' ⟨rfl, rfl⟩)
  exact ⟨rfl, rfl, EX⟩
theorem c5k {fs : List Fd} (h : Mc w0 p fv mn s W) (hg : Good fs s) (v y z : Vl) (hv : VG s.tb.length fs.length v) :
  Calls Tryz.prog 100 #[.pointer (some ⟨p.B, 0, none⟩), v.v, y.v, z.v] W fun e W' =>
   if v.k = 4 then (if (setT (a1a s.tb v).ks (a1a s.tb v).vs y z).2 = 0 then e = .returned (.tuple #[]) ∧ ∃ p', p'.B = p.B ∧ p'.ap = p.ap ∧ p'.fw = p.fw ∧ p'.F = p.F ∧ Mc w0 p' fv mn { s with tb := s.tb.set v.n.toNat ⟨keysOf (setT (a1a s.tb v).ks (a1a s.tb v).vs y z).1, a0q (setT (a1a s.tb v).ks (a1a s.tb v).vs y z).1⟩ } W' ∧ MK p.own W p'.own W'
    else e = .panicked (pan (flr (setT (a1a s.tb v).ks (a1a s.tb v).vs y z).2)) ∧ Below W.heap.size W W')
   else e = .panicked (pan (flr 3)) ∧ Below W.heap.size W W' := by
 have h200 := hg.t2
 by_cases h4 : v.k = 4
 ·simp only [if_pos h4]
  obtain ⟨g1, g2, g3, g4⟩ := TG.of hg.tg hv h4
  obtain ⟨q, hq, e1, d0, d1, f0, f1, r0, r1⟩ := h.tabCells g1
  have c3 := h.cells.2.2.2.1
  obtain ⟨k, n, t, _, _, _⟩ := v
  simp only at h4 g3 g4
  subst h4
  obtain ⟨i, rfl⟩ : ∃ i : Nat, n = i := ⟨n.toNat, by omega⟩
  simp only [Int.toNat_natCast] at *
  have hT : ∀ w2, Below W.heap.size W w2 → Calls Tryz.prog 117 #[.agg #[q.a, q.b], y.v, z.v] w2 _ := fun w2 hb => c8u q.a q.b _ _ y z w2 ⟨a1k hb.size (r0.row.below hb), a1k hb.size (r1.row.below hb)⟩
  split
  ·rename_i h0
   refine (b7j p.B p.T p.tc s.tb.length i t y z _ q.a q.b _ _ W c3 g4 (by omega) d0 d1 f0 f1 hT h0).mono ?_
   rintro e W' ⟨V, a, b, rfl, hb, ho, rfl⟩
   obtain ⟨p', x1, x2, x3, x4, x5, x6⟩ := h.setTab hb i (t := ⟨keysOf (setT _ _ y z).1, a0q (setT _ _ y z).1⟩) ho
   exact ⟨rfl, p', x1, x2, x3, x4, x5, x6⟩
  ·rename_i h0
   exact c9v p.B p.T p.tc s.tb.length i t y z _ q.a q.b _ _ W c3 g4 (by omega) d0 d1 f0 f1 hT (by simpa using h0)
 ·simp only [if_neg h4]
  exact c5j _ v.k v.n v.s y z W (by simpa using h4)
end
section
variable {w0 : World} {p : Mp} {fv : Value} {mn : Int} {s : St} {W : World}
theorem c5l (h : Mc w0 p fv mn s W) (v : Vl) {nu : Nat} (hnu : s.out.length = nu) (h2 : nu ≤ 60000) (ht : PTab W) :
  Calls Tryz.prog 103 #[.pointer (some ⟨p.B, 0, none⟩), v.v] W fun e W' => e = .returned (.tuple #[]) ∧ ∃ p', p'.B = p.B ∧ p'.ap = p.ap ∧ p'.fw = p.fw ∧ p'.F = p.F ∧ Mc w0 p' fv mn { s with out := s.out ++ [a3n v.k v.n v.s] } W' ∧ MK p.own W p'.own W' := by
 have hn64 := wf64 v.wn
 obtain ⟨tx, htx⟩ := exq (a3n v.k v.n v.s)
 have hb1 := a0c (Below.refl W.heap.size W) (.cells #[.int .i64 v.k, .int .i64 v.n, .string v.s] 30)
 have g1 : (W.alloc (.cells #[.int .i64 v.k, .int .i64 v.n, .string v.s] 30)).heap[W.heap.size]? = some (bx v) := a0h _ _
 obtain ⟨w1, hw1⟩ := exq (W.alloc (.cells #[.int .i64 v.k, .int .i64 v.n, .string v.s] 30))
 rw [hw1] at hb1 g1
 have htx' : ∀ w2, Below W.heap.size W w2 → Calls Tryz.prog 121 #[v.v] w2 fun e w' => e = .returned (.string tx) ∧ Below w2.heap.size w2 w' := fun w2 hb => by
  have := a5p v.k v.n v.s w2 hn64.1 hn64.2 (ht.on hb)
  rw [htx] at this
  exact this
 rw [htx]
 have h1 := h.on hb1
 have ap := a1f h.nd
 have hltW := h.lt
 obtain ⟨_, _, _, _, c4, _⟩ := h1.cells
 rw [hnu] at c4
 obtain ⟨p0, p1, p2, _, _, _⟩ := in3 g1
 obtain ⟨i0, hi0, hz0, hz1, hz2⟩ := a1h c0x
 have hneU : some p.B ≠ some p.U := fun e => ap.bu (Option.some.inj e)
 have h63 : nu + 1 ≤ maxLen := by unfold maxLen; omega
 have hby : (nu + 1) * 16 ≤ 140737488355328 := by omega
 have hZ : ∀ u : World, (u.alloc (.cells #[.string tx] 9)).heap[u.heap.size]? = some (.cells #[.string tx] 9) := fun u => a0h _ _
 have hnews : ∀ (u : World) (j : Nat) (x : Value), [Value.string tx][j]? = some x → (u.alloc (.cells #[.string tx] 9)).cell? ((⟨u.heap.size, 0, none⟩ : Addr).add j) = some x := fun u j x hx => by
  match j, hx with
  | 0, hx => cases hx; exact a0a (i := 0) (hZ u) rfl
  | j + 1, hx => simp at hx
 have hM : ∀ u, Below W.heap.size W u → Mc w0 p fv mn s u := fun u hb => h.on hb
 have hone : ∀ x ∈ [Value.string tx], x.oneCell' = true := fun x hx => by simp at hx; subst hx; rfl
 replace hnu : Hid _ := hnu
 replace htx' : Hid _ := htx'
 replace hM : Hid _ := hM
 clear htx h1 hZ
 go_enter Tryz.func103, Tryz.ntmps103
 go_wp2
 go_region_law (first
  | (refine step_append_lies _ (by rfl) _ _ _ (by rfl) w0.heap.size 9 i0 _ 1 16 Tryz.underlying27 hi0 hz0 hz1 hz2 rfl (by omega) (.slice (some ⟨p.U, 0, none⟩) nu p.uc) nu _ (by rfl) hown ⟨w2.heap.size, 0, none⟩ 1 1 [Value.string tx] (by rfl) (by rfl) (hnews w2) hone (by omega) h63 hby hsz _ rfl ?_; intro g3 cap3 w3 hown3 hgrow hat hlt3; have p1 := (hgrow.block _ (hu.lt _ a1d) hneU).trans hu.box; have d4 : w3.cell? ⟨p.B, 4, none⟩ = some (.slice (some ⟨p.U, 0, none⟩) s.out.length p.uc) := a0a p1 rfl; have f4 : w3.frozen? ⟨p.B, 4, none⟩ = false := a0e p1)
  | (go_simp; go_at_call 121; refine (htx'.out _ (a0i hb1)).mono ?_; rintro e w2 ⟨rfl, hb2⟩; have E2 := a0b (a0i hb1) hb2; have hu0 := hM.out w2 E2; have d4 := hu0.cells.2.2.2.2.1; rw [hnu.out] at d4; have hu := hM.out (w2.alloc (.cells #[.string tx] 9)) (a0c E2 _); have d5 := hu.cells.2.2.2.2.1; rw [hnu.out] at d5; have hown := hu.uo.owns (base := w0.heap.size) (hu.lo _ a4v); rw [hnu.out] at hown; have hsz := hu.bl.size))
 all_goals
  have hK0 : MK p.own W p.own (w2.alloc (.cells #[.string tx] 9)) := MK.below (a0c E2 _)
  have hat' : p.U = g3 ∨ g3 = (w2.alloc (.cells #[.string tx] 9)).heap.size := by
   rcases hat with e | e
   ·exact .inl (Option.some.inj e)
   ·exact .inr e
  rw [← hnu.out] at hown3 ⊢
  obtain ⟨q', e1, e2, e3, e4, hM', hK⟩ := hu.pushU hown3 hgrow hat'
  go_end0
  exact ⟨rfl, q', e1, e2, e3, e4, hM', hK0.trans hK⟩
end
theorem c7g (h : tm[4]?.getD undef = .pointer (some ⟨B, 0, none⟩)) (hx : W.heap[B]? = some (bx x)) : (results Tryz.f101 tm).run Tryz.prog W = .ok x.v W := by
 obtain ⟨c0, c1, c2, _, _, _⟩ := in3 hx
 simp [results, Tryz.results101, go_sem, h, c0, c1, c2]
theorem c1b (h : tm[6]?.getD undef = .pointer (some ⟨B, 0, none⟩)) (hx : W.heap[B]? = some (bx x)) : (results Tryz.f102 tm).run Tryz.prog W = .ok x.v W := by
 obtain ⟨c0, c1, c2, _, _, _⟩ := in3 hx
 simp [results, Tryz.results102, go_sem, h, c0, c1, c2]
theorem new2 (W : World) (a b : Obj) : ((W.alloc a).alloc b).heap[W.heap.size + 1]? = some b := by
 have := a0h (W.alloc a) b
 simpa using this
theorem b6d (i : Nat) (hi : i ≤ 1000) (w : World) : Calls Tryz.prog 118 #[.int .i64 (i : Nat)] w fun e w' => e = .returned (numV i).v ∧ Below w.heap.size w w' :=
 (a3b i w).mono fun e w' ⟨a, b⟩ => ⟨by rw [a, b9e hi], by rw [b]; exact a0c (Below.refl _ _) _⟩
theorem c5m (pt : Value) (n : Int) (t : ByteArray) (W : World) (ht : t.size ≤ 300) : Calls Tryz.prog 101 #[pt, .agg #[.int .i64 3, .int .i64 n, .string t]] W (VQ W (.inr (numV t.size))) := by
 have g0 := new2 W (.cells #[.int .i64 3, .int .i64 n, .string t] 30) (bx nilV)
 have E0 := a0c (a0c (Below.refl W.heap.size W) (.cells #[.int .i64 3, .int .i64 n, .string t] 30)) (bx nilV)
 have hnum := b6d t.size (by omega)
 go_enter Tryz.func101, Tryz.ntmps101
 go_wp2_with (go_at_call 118; refine (hnum _).mono ?_; rintro e w2 ⟨rfl, hb2⟩; have g2 := a0d hb2 g0; obtain ⟨c0, c1, c2, f0, f1, f2⟩ := in3 g2)
 exact bodyPost_ret (c7g (B := W.heap.size + 1) rfl (a0o _ g2)) rfl ⟨a0r _ (a0b E0 hb2) (by omega), rfl⟩
theorem c9w (pt : Value) (k n : Int) (t : ByteArray) (W : World) (h3 : (k == 3) = false) (h4 : (k != 4) = true) : Calls Tryz.prog 101 #[pt, .agg #[.int .i64 k, .int .i64 n, .string t]] W (VQ W (.inl 3)) := by
 have E0 := a0c (a0c (Below.refl W.heap.size W) (.cells #[.int .i64 k, .int .i64 n, .string t] 30)) (bx nilV)
 go_enter Tryz.func101, Tryz.ntmps101
 go_wp2_with (go_at_call 116; refine (b1u _ _ _ _ _ h4).mono ?_; rintro e w2 ⟨rfl, rfl⟩)
 exact ⟨rfl, a0c E0 _, rfl⟩
theorem c5n (B T tc nt i m : Nat) (t : ByteArray) (ks vs : Value) (x : Tb) (W : World) (c3 : W.cell? ⟨B, 3, none⟩ = some (.slice (some ⟨T, 0, none⟩) nt tc)) (hi : i < nt) (hn : nt ≤ 1000) (d0 : W.cell? ⟨T, i * 2, none⟩ = some ks) (d1 : W.cell? ⟨T, i * 2 + 1, none⟩ = some vs) (hT : Tab W.heap.size W ks vs x.ks x.vs) (hm : lenZ x.ks x.vs = m) (h100 : m ≤ 1000) :
  Calls Tryz.prog 101 #[.pointer (some ⟨B, 0, none⟩), .agg #[.int .i64 4, .int .i64 (i : Nat), .string t]] W (VQ W (.inr (numV m))) := by
 have hB := World.block_lt_of_cell? _ _ c3
 have hTl := World.block_lt_of_cell? _ _ d0
 simp only at hB hTl
 have g0 := new2 W (.cells #[.int .i64 4, .int .i64 (i : Nat), .string t] 30) (bx nilV)
 have E0 := a0c (a0c (Below.refl W.heap.size W) (.cells #[.int .i64 4, .int .i64 (i : Nat), .string t] 30)) (bx nilV)
 have hcl := fun w2 (hb : Below W.heap.size W w2) => a5k B T tc nt i t w2 ((hb.cell (p := ⟨B, 3, none⟩) hB).trans c3) hi hn
 have hlen : ∀ w2, Below W.heap.size W w2 → w2.cell? ⟨T, i * 2, none⟩ = some ks ∧ w2.cell? ⟨T, i * 2 + 1, none⟩ = some vs ∧ Calls Tryz.prog 119 #[.agg #[ks, vs]] w2 fun e w' => e = .returned (.int .i64 (m : Nat)) ∧ Below w2.heap.size w2 w' := fun w2 hb => by
  refine ⟨(hb.cell (p := ⟨T, i * 2, none⟩) hTl).trans d0, (hb.cell (p := ⟨T, i * 2 + 1, none⟩) hTl).trans d1, ?_⟩
  have h2 := hT.below hb
  refine (c8l ks vs x.ks x.vs w2 ⟨a1k hb.size h2.keys, a1k hb.size h2.vals⟩).mono ?_
  rintro e w' ⟨⟨m', hm', rfl⟩, hb'⟩
  rw [← hm, ← c0u hm']
  exact ⟨rfl, hb'⟩
 have hnum := b6d m h100
 replace hcl : Hid _ := hcl
 replace hlen : Hid _ := hlen
 clear hm hT
 go_enter Tryz.func101, Tryz.ntmps101
 go_wp2_with (go_at_call 116; refine (hcl.out _ E0).mono ?_; rintro e w2 ⟨rfl, hb2⟩; have E2 := a0b E0 hb2; obtain ⟨k0, k1, hl⟩ := hlen.out w2 E2; refine Hid.out ?_)
 refine Lib.hid ?_
 go_wp2_with (go_at_call 119; refine hl.mono ?_; rintro e w3 ⟨rfl, hb3⟩; have E3 := a0b E2 hb3; refine Hid.out ?_)
 refine Lib.hid ?_
 go_wp2_with (go_at_call 118; refine (hnum _).mono ?_; rintro e w4 ⟨rfl, hb4⟩; have g2 := a0d hb4 (a0d hb3 (a0d hb2 g0)); obtain ⟨c0, c1, c2, f0, f1, f2⟩ := in3 g2)
 exact bodyPost_ret (c7g (B := W.heap.size + 1) rfl (a0o _ g2)) rfl ⟨a0r _ (a0b E3 hb4) (by omega), rfl⟩
def lenR (v : Vl) (t : Tb) : Int ⊕ Vl := if v.k = 3 then .inr (numV v.s.size) else if v.k = 4 then .inr (numV (lenZ t.ks t.vs)) else .inl 3
theorem c9x (xs ys : List Vl) : lenZ xs ys ≤ 101 := by
 have key : ∀ f n, lenG xs f n ≤ n + f := by
  intro f
  induction f with
  | zero => intro n; simp [lenG]
  | succ f ih =>
          intro n; rw [lenG]; split
          ·have := ih (n + 1); omega
          ·omega
 unfold lenZ
 split
 ·have := key 101 0; omega
 ·omega
theorem c5o (B T tc nt : Nat) (v : Vl) (x : Tb) (ks vs : Value) (W : World) (c3 : W.cell? ⟨B, 3, none⟩ = some (.slice (some ⟨T, 0, none⟩) nt tc)) (hm : mayB v.k v.n v.s = true) (hv : v.k = 4 → 0 ≤ v.n ∧ v.n.toNat < nt) (hn : nt ≤ 1000) (hd : v.k = 4 → W.cell? ⟨T, v.n.toNat * 2, none⟩ = some ks ∧ W.cell? ⟨T, v.n.toNat * 2 + 1, none⟩ = some vs ∧ Tab W.heap.size W ks vs x.ks x.vs) :
  Calls Tryz.prog 101 #[.pointer (some ⟨B, 0, none⟩), v.v] W (VQ W (lenR v x)) := by
 obtain ⟨k, n, t, _, _, _⟩ := v
 unfold lenR
 simp only at hm hv hd ⊢
 by_cases h3 : k = 3
 ·subst h3
  rw [if_pos rfl]
  exact c5m _ n t W (b1q hm)
 ·rw [if_neg h3]
  by_cases h4 : k = 4
  ·subst h4
   rw [if_pos rfl]
   obtain ⟨a1, a2⟩ := hv rfl
   obtain ⟨d0, d1, hT⟩ := hd rfl
   obtain ⟨i, rfl⟩ : ∃ i : Nat, n = i := ⟨n.toNat, by omega⟩
   simp only [Int.toNat_natCast] at a2 d0 d1
   exact c5n B T tc nt i _ t ks vs x W c3 a2 hn d0 d1 hT rfl (by have := c9x x.ks x.vs; omega)
  ·rw [if_neg h4]
   exact c9w _ k n t W (by simpa using h3) (by simpa using h4)
theorem a6x (W : World) (v y : Vl) {w1 : World} (hw1 : ((W.alloc (.cells #[.int .i64 v.k, .int .i64 v.n, .string v.s] 30)).alloc (.cells #[.int .i64 y.k, .int .i64 y.n, .string y.s] 30)).alloc (.cells #[.int .i64 0, .int .i64 0, .string ⟨#[]⟩] 30) = w1) :
  Below W.heap.size W w1 ∧ w1.heap[W.heap.size + 1 + 1]? = some (bx nilV) ∧ w1.heap[W.heap.size + 1]? = some (bx y) ∧ w1.heap[W.heap.size]? = some (bx v) ∧ W.heap.size + 1 + 1 < w1.heap.size := by
 have g0 : w1.heap[W.heap.size + 1 + 1]? = some (bx nilV) := by rw [← hw1]; exact new3 W _ _ _
 refine ⟨by rw [← hw1]; exact a2p W _ _ _, g0, ?_, ?_, a0n g0⟩
 ·rw [← hw1]; exact a0g _ (new2 W _ _)
 ·rw [← hw1]; exact a0g _ (a0g _ (a0h _ _))
theorem k3 {r : Vl} (h : c ≠ B) : (put3 w B r).cell? ⟨c, o, none⟩ = w.cell? ⟨c, o, none⟩ := World.cell?_of_block (a := ⟨c, o, none⟩) (a1o w r h)
theorem c9y (B T tc nt i : Nat) (v y r : Vl) (er : Int) (ks vs : Value) (W : World) (c3 : W.cell? ⟨B, 3, none⟩ = some (.slice (some ⟨T, 0, none⟩) nt tc)) (hi : i < nt) (hn : nt ≤ 1000) (hv : v.k = 4) (hvn : v.n = (i : Nat)) (d0 : W.cell? ⟨T, i * 2, none⟩ = some ks) (d1 : W.cell? ⟨T, i * 2 + 1, none⟩ = some vs) (hT : ∀ w2, Below W.heap.size W w2 → Calls Tryz.prog 120 #[.agg #[ks, vs], y.v] w2 fun e w' => e = .returned (.tuple #[r.v, .int .i64 er]) ∧ Below w2.heap.size w2 w') (he : er = 0) :
  Calls Tryz.prog 102 #[.pointer (some ⟨B, 0, none⟩), v.v, y.v] W (VQ W (.inr r)) := by
 have hB := World.block_lt_of_cell? _ _ c3
 have hTl := World.block_lt_of_cell? _ _ d0
 simp only at hB hTl
 obtain ⟨w1, hw1⟩ := exq (((W.alloc (.cells #[.int .i64 v.k, .int .i64 v.n, .string v.s] 30)).alloc (.cells #[.int .i64 y.k, .int .i64 y.n, .string y.s] 30)).alloc (.cells #[.int .i64 0, .int .i64 0, .string ⟨#[]⟩] 30))
 obtain ⟨E0, g0, g1, g2, hz⟩ := a6x W v y hw1
 obtain ⟨b0, b1, b2, _, _, _⟩ := in3 g1
 obtain ⟨p0, p1, p2, _, _, _⟩ := in3 g2
 have k0 := (E0.cell (p := ⟨T, i * 2, none⟩) hTl).trans d0
 have k1 := (E0.cell (p := ⟨T, i * 2 + 1, none⟩) hTl).trans d1
 have hcl := fun w2 (hb : Below W.heap.size W w2) => a5k B T tc nt i v.s w2 ((hb.cell (p := ⟨B, 3, none⟩) hB).trans c3) hi hn
 rw [← hv, ← hvn] at hcl
 have hS : ∀ u, Below w1.heap.size w1 u → u.cell? ⟨W.heap.size, 0, none⟩ = some (.int .i64 v.k) ∧ u.cell? ⟨W.heap.size, 1, none⟩ = some (.int .i64 v.n) ∧ u.cell? ⟨W.heap.size, 2, none⟩ = some (.string v.s) ∧ u.cell? ⟨W.heap.size + 1, 0, none⟩ = some (.int .i64 y.k) ∧ u.cell? ⟨W.heap.size + 1, 1, none⟩ = some (.int .i64 y.n) ∧ u.cell? ⟨W.heap.size + 1, 2, none⟩ = some (.string y.s) ∧ u.cell? ⟨T, i * 2, none⟩ = some ks ∧ u.cell? ⟨T, i * 2 + 1, none⟩ = some vs := fun u hb => ⟨a0l hb p0, a0l hb p1, a0l hb p2, a0l hb b0, a0l hb b1, a0l hb b2, a0l hb k0, a0l hb k1⟩
 replace hS : Hid _ := hS
 subst he
 replace hT : Hid _ := hT
 replace hcl : Hid _ := hcl
 clear g2 g1 hv hvn c3 d0 d1
 have y1 : W.heap.size ≠ w1.heap.size := by omega
 have y2 : W.heap.size + 1 ≠ w1.heap.size := by omega
 have y3 : T ≠ w1.heap.size := by omega
 have y4 : W.heap.size + 1 + 1 ≠ w1.heap.size := by omega
 go_enter Tryz.func102, Tryz.ntmps102
 go_wp2
 go_region_held3 (fun u => u.cell? ⟨W.heap.size, 0, none⟩ = some (.int .i64 v.k) ∧ u.cell? ⟨W.heap.size, 1, none⟩ = some (.int .i64 v.n) ∧ u.cell? ⟨W.heap.size, 2, none⟩ = some (.string v.s) ∧ u.cell? ⟨W.heap.size + 1, 0, none⟩ = some (.int .i64 y.k) ∧ u.cell? ⟨W.heap.size + 1, 1, none⟩ = some (.int .i64 y.n) ∧ u.cell? ⟨W.heap.size + 1, 2, none⟩ = some (.string y.s) ∧ u.cell? ⟨T, i * 2, none⟩ = some ks ∧ u.cell? ⟨T, i * 2 + 1, none⟩ = some vs) (first | go_keep | with_reducible exact ⟨(k3 x1).trans s0, (k3 x1).trans s1, (k3 x1).trans s2, (k3 x2).trans s3, (k3 x2).trans s4, (k3 x2).trans s5, (k3 x3).trans s6, (k3 x3).trans s7⟩ | with_reducible exact ⟨(k3 y1).trans s0, (k3 y1).trans s1, (k3 y1).trans s2, (k3 y2).trans s3, (k3 y2).trans s4, (k3 y2).trans s5, (k3 y3).trans s6, (k3 y3).trans s7⟩) (first | (go_at_call 116; refine (hcl.out _ (by repeat (first | with_reducible exact E0 | with_reducible refine a0i ?_ | with_reducible refine a0c ?_ _))).mono ?_; rintro e w2 ⟨rfl, hb2⟩; have E2 := a0b (show Below W.heap.size W _ from (by repeat (first | with_reducible exact E0 | with_reducible refine a0i ?_ | with_reducible refine a0c ?_ _))) hb2; have N2 := a0b (show Below w1.heap.size w1 _ from (by repeat (first | with_reducible exact (Below.refl _ _) | with_reducible refine a0i ?_ | with_reducible refine a0c ?_ _))) hb2; (try (have gA : w2.heap[w1.drew.heap.size]? = some (.cells #[.int .i64 0, .int .i64 0, .string ⟨#[]⟩] 30) := (by with_reducible exact a0d hb2 (a0h _ _)); replace gA : w2.heap[w1.heap.size]? = some (bx nilV) := gA)); have Z2 := N2.size; have x1 : W.heap.size ≠ w2.heap.size := (by omega); have x2 : W.heap.size + 1 ≠ w2.heap.size := (by omega); have x3 : T ≠ w2.heap.size := (by omega); have x4 : W.heap.size + 1 + 1 ≠ w2.heap.size := (by omega); obtain ⟨s0, s1, s2, s3, s4, s5, s6, s7⟩ := hS.out w2 N2) | (go_at_call 120; refine (hT.out _ (by repeat (first | with_reducible exact E2 | with_reducible refine a0i ?_ | with_reducible refine a0c ?_ _))).mono ?_; rintro e w3 ⟨rfl, hb3⟩; have E3 := a0b (show Below W.heap.size W _ from (by repeat (first | with_reducible exact E2 | with_reducible refine a0i ?_ | with_reducible refine a0c ?_ _))) hb3; have N3 := a0b (show Below w1.heap.size w1 _ from (by repeat (first | with_reducible exact N2 | with_reducible refine a0i ?_ | with_reducible refine a0c ?_ _))) hb3; (try (have gD : w3.heap[w1.heap.size]? = some (bx nilV) := (by with_reducible exact a0d hb3 gA); obtain ⟨m0, m1, m2, n0, n1, n2⟩ := in3 gD)); (try (have gC : w3.heap[w2.heap.size]? = some (.cells #[.int .i64 0, .int .i64 0, .string ⟨#[]⟩] 30) := (by with_reducible exact a0d hb3 (a0h _ _)); replace gC : w3.heap[w2.heap.size]? = some (bx nilV) := gC; obtain ⟨m0, m1, m2, n0, n1, n2⟩ := in3 gC)); have g3 := a0d N3 g0; obtain ⟨a0, a1, a2, f0, f1, f2⟩ := in3 g3; obtain ⟨s0, s1, s2, s3, s4, s5, s6, s7⟩ := hS.out w3 N3))
 ·obtain ⟨X, hX⟩ := exq (w3.alloc (.cells #[.int .i64 r.k, .int .i64 r.n, .string r.s] 30))
  have EX : Below W.heap.size W X := by rw [← hX]; exact a0c E3 _
  have gK : X.heap[w3.heap.size]? = some (bx r) := by rw [← hX]; exact a0h _ _
  have gR : X.heap[W.heap.size + 1 + 1]? = some (bx nilV) := by rw [← hX]; exact a0g _ g3
  rw [hX]
  clear hX
  obtain ⟨u0, u1, u2, _, _, _⟩ := in3 gK
  obtain ⟨v0, v1, v2, o0, o1, o2⟩ := in3 gR
  go_wp2_with (go_at_call 114; refine (a8m _).mono ?_; rintro e w' ⟨rfl, rfl⟩)
  exact bodyPost_ret (c1b (B := W.heap.size + 1 + 1) rfl (a0o r gR)) rfl ⟨a0r r EX (by omega), rfl⟩
 ·obtain ⟨X, hX⟩ := exq (((w3.setCell ⟨w2.heap.size, 0, none⟩ (.int .i64 r.k)).setCell ⟨w2.heap.size, 1, none⟩ (.int .i64 r.n)).setCell ⟨w2.heap.size, 2, none⟩ (.string r.s))
  have EX : Below W.heap.size W X := by rw [← hX]; exact a0r r E3 (by omega)
  have gK : X.heap[w2.heap.size]? = some (bx r) := by rw [← hX]; exact a0o r gC
  have gR : X.heap[W.heap.size + 1 + 1]? = some (bx nilV) := by rw [← hX]; exact (a1o _ r x4).trans g3
  rw [hX]
  clear hX
  obtain ⟨u0, u1, u2, _, _, _⟩ := in3 gK
  obtain ⟨v0, v1, v2, o0, o1, o2⟩ := in3 gR
  go_wp2_with (go_at_call 114; refine (a8m _).mono ?_; rintro e w' ⟨rfl, rfl⟩)
  exact bodyPost_ret (c1b (B := W.heap.size + 1 + 1) rfl (a0o r gR)) rfl ⟨a0r r EX (by omega), rfl⟩
 ·obtain ⟨X, hX⟩ := exq (((w3.setCell ⟨w1.heap.size, 0, none⟩ (.int .i64 r.k)).setCell ⟨w1.heap.size, 1, none⟩ (.int .i64 r.n)).setCell ⟨w1.heap.size, 2, none⟩ (.string r.s))
  have EX : Below W.heap.size W X := by rw [← hX]; exact a0r r E3 (by omega)
  have gK : X.heap[w1.heap.size]? = some (bx r) := by rw [← hX]; exact a0o r gD
  have gR : X.heap[W.heap.size + 1 + 1]? = some (bx nilV) := by rw [← hX]; exact (a1o _ r y4).trans g3
  rw [hX]
  clear hX
  obtain ⟨u0, u1, u2, _, _, _⟩ := in3 gK
  obtain ⟨v0, v1, v2, o0, o1, o2⟩ := in3 gR
  go_wp2_with (go_at_call 114; refine (a8m _).mono ?_; rintro e w' ⟨rfl, rfl⟩)
  exact bodyPost_ret (c1b (B := W.heap.size + 1 + 1) rfl (a0o r gR)) rfl ⟨a0r r EX (by omega), rfl⟩
theorem c1c (B T tc nt i : Nat) (v y r : Vl) (er : Int) (ks vs : Value) (W : World) (c3 : W.cell? ⟨B, 3, none⟩ = some (.slice (some ⟨T, 0, none⟩) nt tc)) (hi : i < nt) (hn : nt ≤ 1000) (hv : v.k = 4) (hvn : v.n = (i : Nat)) (d0 : W.cell? ⟨T, i * 2, none⟩ = some ks) (d1 : W.cell? ⟨T, i * 2 + 1, none⟩ = some vs) (hT : ∀ w2, Below W.heap.size W w2 → Calls Tryz.prog 120 #[.agg #[ks, vs], y.v] w2 fun e w' => e = .returned (.tuple #[r.v, .int .i64 er]) ∧ Below w2.heap.size w2 w') (he : (er != 0) = true) :
  Calls Tryz.prog 102 #[.pointer (some ⟨B, 0, none⟩), v.v, y.v] W (VQ W (.inl er)) := by
 have hB := World.block_lt_of_cell? _ _ c3
 have hTl := World.block_lt_of_cell? _ _ d0
 simp only at hB hTl
 obtain ⟨w1, hw1⟩ := exq (((W.alloc (.cells #[.int .i64 v.k, .int .i64 v.n, .string v.s] 30)).alloc (.cells #[.int .i64 y.k, .int .i64 y.n, .string y.s] 30)).alloc (.cells #[.int .i64 0, .int .i64 0, .string ⟨#[]⟩] 30))
 obtain ⟨E0, g0, g1, g2, hz⟩ := a6x W v y hw1
 obtain ⟨b0, b1, b2, _, _, _⟩ := in3 g1
 obtain ⟨p0, p1, p2, _, _, _⟩ := in3 g2
 have k0 := (E0.cell (p := ⟨T, i * 2, none⟩) hTl).trans d0
 have k1 := (E0.cell (p := ⟨T, i * 2 + 1, none⟩) hTl).trans d1
 have hcl := fun w2 (hb : Below W.heap.size W w2) => a5k B T tc nt i v.s w2 ((hb.cell (p := ⟨B, 3, none⟩) hB).trans c3) hi hn
 rw [← hv, ← hvn] at hcl
 have hS : ∀ u, Below w1.heap.size w1 u → u.cell? ⟨W.heap.size, 0, none⟩ = some (.int .i64 v.k) ∧ u.cell? ⟨W.heap.size, 1, none⟩ = some (.int .i64 v.n) ∧ u.cell? ⟨W.heap.size, 2, none⟩ = some (.string v.s) ∧ u.cell? ⟨W.heap.size + 1, 0, none⟩ = some (.int .i64 y.k) ∧ u.cell? ⟨W.heap.size + 1, 1, none⟩ = some (.int .i64 y.n) ∧ u.cell? ⟨W.heap.size + 1, 2, none⟩ = some (.string y.s) ∧ u.cell? ⟨T, i * 2, none⟩ = some ks ∧ u.cell? ⟨T, i * 2 + 1, none⟩ = some vs := fun u hb => ⟨a0l hb p0, a0l hb p1, a0l hb p2, a0l hb b0, a0l hb b1, a0l hb b2, a0l hb k0, a0l hb k1⟩
 replace hS : Hid _ := hS
 replace hT : Hid _ := hT
 replace hcl : Hid _ := hcl
 clear g2 g1 hv hvn c3 d0 d1
 have y1 : W.heap.size ≠ w1.heap.size := by omega
 have y2 : W.heap.size + 1 ≠ w1.heap.size := by omega
 have y3 : T ≠ w1.heap.size := by omega
 have y4 : W.heap.size + 1 + 1 ≠ w1.heap.size := by omega
 go_enter Tryz.func102, Tryz.ntmps102
 go_wp2
 go_region_held3 (fun u => u.cell? ⟨W.heap.size, 0, none⟩ = some (.int .i64 v.k) ∧ u.cell? ⟨W.heap.size, 1, none⟩ = some (.int .i64 v.n) ∧ u.cell? ⟨W.heap.size, 2, none⟩ = some (.string v.s) ∧ u.cell? ⟨W.heap.size + 1, 0, none⟩ = some (.int .i64 y.k) ∧ u.cell? ⟨W.heap.size + 1, 1, none⟩ = some (.int .i64 y.n) ∧ u.cell? ⟨W.heap.size + 1, 2, none⟩ = some (.string y.s) ∧ u.cell? ⟨T, i * 2, none⟩ = some ks ∧ u.cell? ⟨T, i * 2 + 1, none⟩ = some vs) (first | go_keep | with_reducible exact ⟨(k3 x1).trans s0, (k3 x1).trans s1, (k3 x1).trans s2, (k3 x2).trans s3, (k3 x2).trans s4, (k3 x2).trans s5, (k3 x3).trans s6, (k3 x3).trans s7⟩ | with_reducible exact ⟨(k3 y1).trans s0, (k3 y1).trans s1, (k3 y1).trans s2, (k3 y2).trans s3, (k3 y2).trans s4, (k3 y2).trans s5, (k3 y3).trans s6, (k3 y3).trans s7⟩) (first | (go_at_call 116; refine (hcl.out _ (by repeat (first | with_reducible exact E0 | with_reducible refine a0i ?_ | with_reducible refine a0c ?_ _))).mono ?_; rintro e w2 ⟨rfl, hb2⟩; have E2 := a0b (show Below W.heap.size W _ from (by repeat (first | with_reducible exact E0 | with_reducible refine a0i ?_ | with_reducible refine a0c ?_ _))) hb2; have N2 := a0b (show Below w1.heap.size w1 _ from (by repeat (first | with_reducible exact (Below.refl _ _) | with_reducible refine a0i ?_ | with_reducible refine a0c ?_ _))) hb2; (try (have gA : w2.heap[w1.drew.heap.size]? = some (.cells #[.int .i64 0, .int .i64 0, .string ⟨#[]⟩] 30) := (by with_reducible exact a0d hb2 (a0h _ _)); replace gA : w2.heap[w1.heap.size]? = some (bx nilV) := gA)); have Z2 := N2.size; have x1 : W.heap.size ≠ w2.heap.size := (by omega); have x2 : W.heap.size + 1 ≠ w2.heap.size := (by omega); have x3 : T ≠ w2.heap.size := (by omega); have x4 : W.heap.size + 1 + 1 ≠ w2.heap.size := (by omega); obtain ⟨s0, s1, s2, s3, s4, s5, s6, s7⟩ := hS.out w2 N2) | (go_at_call 120; refine (hT.out _ (by repeat (first | with_reducible exact E2 | with_reducible refine a0i ?_ | with_reducible refine a0c ?_ _))).mono ?_; rintro e w3 ⟨rfl, hb3⟩; have E3 := a0b (show Below W.heap.size W _ from (by repeat (first | with_reducible exact E2 | with_reducible refine a0i ?_ | with_reducible refine a0c ?_ _))) hb3; have N3 := a0b (show Below w1.heap.size w1 _ from (by repeat (first | with_reducible exact N2 | with_reducible refine a0i ?_ | with_reducible refine a0c ?_ _))) hb3; (try (have gD : w3.heap[w1.heap.size]? = some (bx nilV) := (by with_reducible exact a0d hb3 gA); obtain ⟨m0, m1, m2, n0, n1, n2⟩ := in3 gD)); (try (have gC : w3.heap[w2.heap.size]? = some (.cells #[.int .i64 0, .int .i64 0, .string ⟨#[]⟩] 30) := (by with_reducible exact a0d hb3 (a0h _ _)); replace gC : w3.heap[w2.heap.size]? = some (bx nilV) := gC; obtain ⟨m0, m1, m2, n0, n1, n2⟩ := in3 gC)); have g3 := a0d N3 g0; obtain ⟨a0, a1, a2, f0, f1, f2⟩ := in3 g3; obtain ⟨s0, s1, s2, s3, s4, s5, s6, s7⟩ := hS.out w3 N3))
 ·obtain ⟨X, hX⟩ := exq (w3.alloc (.cells #[.int .i64 r.k, .int .i64 r.n, .string r.s] 30))
  have EX : Below W.heap.size W X := by rw [← hX]; exact a0c E3 _
  have gK : X.heap[w3.heap.size]? = some (bx r) := by rw [← hX]; exact a0h _ _
  have gR : X.heap[W.heap.size + 1 + 1]? = some (bx nilV) := by rw [← hX]; exact a0g _ g3
  rw [hX]
  clear hX
  obtain ⟨u0, u1, u2, _, _, _⟩ := in3 gK
  obtain ⟨v0, v1, v2, o0, o1, o2⟩ := in3 gR
  go_wp2_with (go_at_call 114; refine (a6u er _ he).mono ?_; rintro e w' ⟨rfl, rfl⟩)
  exact ⟨rfl, EX, rfl⟩
 ·obtain ⟨X, hX⟩ := exq (((w3.setCell ⟨w2.heap.size, 0, none⟩ (.int .i64 r.k)).setCell ⟨w2.heap.size, 1, none⟩ (.int .i64 r.n)).setCell ⟨w2.heap.size, 2, none⟩ (.string r.s))
  have EX : Below W.heap.size W X := by rw [← hX]; exact a0r r E3 (by omega)
  have gK : X.heap[w2.heap.size]? = some (bx r) := by rw [← hX]; exact a0o r gC
  have gR : X.heap[W.heap.size + 1 + 1]? = some (bx nilV) := by rw [← hX]; exact (a1o _ r x4).trans g3
  rw [hX]
  clear hX
  obtain ⟨u0, u1, u2, _, _, _⟩ := in3 gK
  obtain ⟨v0, v1, v2, o0, o1, o2⟩ := in3 gR
  go_wp2_with (go_at_call 114; refine (a6u er _ he).mono ?_; rintro e w' ⟨rfl, rfl⟩)
  exact ⟨rfl, EX, rfl⟩
 ·obtain ⟨X, hX⟩ := exq (((w3.setCell ⟨w1.heap.size, 0, none⟩ (.int .i64 r.k)).setCell ⟨w1.heap.size, 1, none⟩ (.int .i64 r.n)).setCell ⟨w1.heap.size, 2, none⟩ (.string r.s))
  have EX : Below W.heap.size W X := by rw [← hX]; exact a0r r E3 (by omega)
  have gK : X.heap[w1.heap.size]? = some (bx r) := by rw [← hX]; exact a0o r gD
  have gR : X.heap[W.heap.size + 1 + 1]? = some (bx nilV) := by rw [← hX]; exact (a1o _ r y4).trans g3
  rw [hX]
  clear hX
  obtain ⟨u0, u1, u2, _, _, _⟩ := in3 gK
  obtain ⟨v0, v1, v2, o0, o1, o2⟩ := in3 gR
  go_wp2_with (go_at_call 114; refine (a6u er _ he).mono ?_; rintro e w' ⟨rfl, rfl⟩)
  exact ⟨rfl, EX, rfl⟩
end
end Go.Proofs.YthpgbienakcbeaaGreatDoor
