/- The machine's tables: Next of what is no table; Next. -/
import Derived.Test.YthpgbienakcbeaaGreatDoorS33
namespace Go.Proofs.YthpgbienakcbeaaGreatDoor
open Go.RowKit Go
set_option maxRecDepth 100000
set_option maxHeartbeats 8000000
set_option linter.all false
section
variable [DecidableEq Vl]
theorem c1f (B T tc nt : Nat) (v y : Vl) (W : World) (c3 : W.cell? ⟨B, 3, none⟩ = some (.slice (some ⟨T, 0, none⟩) nt tc)) (hn : nt ≤ 1000) (hne : ¬ v.k = 4) :
  Calls Tryz.prog 102 #[.pointer (some ⟨B, 0, none⟩), v.v, y.v] W (VQ W (.inl 3)) := by
 have hB := World.block_lt_of_cell? _ _ c3
 simp only at hB
 obtain ⟨w1, hw1⟩ := exq (((W.alloc (.cells #[.int .i64 v.k, .int .i64 v.n, .string v.s] 30)).alloc (.cells #[.int .i64 y.k, .int .i64 y.n, .string y.s] 30)).alloc (.cells #[.int .i64 0, .int .i64 0, .string ⟨#[]⟩] 30))
 obtain ⟨E0, g0, g1, g2, hz⟩ := a6x W v y hw1
 obtain ⟨b0, b1, b2, _, _, _⟩ := in3 g1
 obtain ⟨p0, p1, p2, _, _, _⟩ := in3 g2
 have hcl := fun w2 (hb : Below W.heap.size W w2) => b3c B T tc nt v w2 ((hb.cell (p := ⟨B, 3, none⟩) hB).trans c3) (fun e => absurd e hne) hn
 replace hcl : Hid _ := hcl
 replace hne : Hid _ := hne
 have y1 : W.heap.size ≠ w1.heap.size := by omega
 have y2 : W.heap.size + 1 ≠ w1.heap.size := by omega
 have y5 : W.heap.size + 1 < w1.heap.size := by omega
 have y6 : W.heap.size < w1.heap.size := by omega
 clear g2 g1 c3
 go_enter Tryz.func102, Tryz.ntmps102
 go_wp2
 go_region_with (first | (go_at_call 116; refine (hcl.out _ (by repeat (first | with_reducible exact E0 | with_reducible refine a0i ?_ | with_reducible refine a0c ?_ _))).mono ?_; rintro e w2 ⟨hb2, (⟨h4, rfl⟩ | ⟨h4, rfl⟩)⟩; (exact ⟨rfl, a0b (show Below W.heap.size W _ from by repeat (first | with_reducible exact E0 | with_reducible refine a0i ?_ | with_reducible refine a0c ?_ _)) hb2, rfl⟩); have hF := hne.out h4; clear h4; replace hF : Hid False := hF; have d0 : w2.cell? ⟨T, v.n.toNat * 2, none⟩ = some (.slice none 0 0) := hF.out.elim; have d1 : w2.cell? ⟨T, v.n.toNat * 2 + 1, none⟩ = some (.slice none 0 0) := hF.out.elim; have q0 : w2.cell? ⟨W.heap.size + 1, 0, none⟩ = some (.int .i64 y.k) := hF.out.elim; have q1 : w2.cell? ⟨W.heap.size + 1, 1, none⟩ = some (.int .i64 y.n) := hF.out.elim; have q2 : w2.cell? ⟨W.heap.size + 1, 2, none⟩ = some (.string y.s) := hF.out.elim; have q3 : W.heap.size + 1 ≠ w2.heap.size := hF.out.elim; have q4 : T ≠ w2.heap.size := hF.out.elim; have q5 : W.heap.size + 1 < w2.heap.size := hF.out.elim; have q6 : T < w2.heap.size := hF.out.elim) | (go_at_call 120; refine (show Calls Tryz.prog 120 _ _ (fun e w' => e = .returned (.tuple #[nilV.v, .int .i64 0])) from hF.out.elim).mono ?_; rintro e w3 rfl; obtain ⟨m0, m1, m2, n0, n1, n2⟩ : In3 w3 w1.heap.size nilV := hF.out.elim; obtain ⟨m0, m1, m2, n0, n1, n2⟩ : In3 w3 w2.heap.size nilV := hF.out.elim))
 all_goals exact hF.out.elim
theorem c1g (B T tc nt : Nat) (v y : Vl) (t : Tb) (ks vs : Value) (W : World) (c3 : W.cell? ⟨B, 3, none⟩ = some (.slice (some ⟨T, 0, none⟩) nt tc)) (hv : v.k = 4 → 0 ≤ v.n ∧ v.n.toNat < nt) (hn : nt ≤ 1000)
  (hd : v.k = 4 → W.cell? ⟨T, v.n.toNat * 2, none⟩ = some ks ∧ W.cell? ⟨T, v.n.toNat * 2 + 1, none⟩ = some vs ∧ Tab W.heap.size W ks vs t.ks t.vs) :
  Calls Tryz.prog 102 #[.pointer (some ⟨B, 0, none⟩), v.v, y.v] W (VQ W (if v.k = 4 then opR (a3j t.ks t.vs y) else .inl 3)) := by
 by_cases h4 : v.k = 4
 ·rw [if_pos h4]
  obtain ⟨h0, h1⟩ := hv h4
  obtain ⟨d0, d1, hT⟩ := hd h4
  obtain ⟨r, er, hr⟩ : ∃ r er, a3j t.ks t.vs y = (r, er) := ⟨_, _, rfl⟩
  have hT' : ∀ w2, Below W.heap.size W w2 → Calls Tryz.prog 120 #[.agg #[ks, vs], y.v] w2 fun e w' => e = .returned (.tuple #[r.v, .int .i64 er]) ∧ Below w2.heap.size w2 w' := fun w2 hb => by
   have h2 := hT.below hb
   have := c3j ks vs t.ks t.vs y w2 ⟨a1k hb.size h2.keys, a1k hb.size h2.vals⟩
   rw [hr] at this
   exact this
  rw [hr]
  by_cases he : er = 0
  ·have e : opR (r, er) = .inr r := by rw [opR, if_pos he]
   rw [e]
   exact c9y B T tc nt v.n.toNat v y r er ks vs W c3 h1 hn h4 (by omega) d0 d1 hT' he
  ·have e : opR (r, er) = .inl er := by rw [opR, if_neg he]
   rw [e]
   exact c1c B T tc nt v.n.toNat v y r er ks vs W c3 h1 hn h4 (by omega) d0 d1 hT' (by simpa using he)
 ·rw [if_neg h4]
  exact c1f B T tc nt v y W c3 hn h4
end
end Go.Proofs.YthpgbienakcbeaaGreatDoor
