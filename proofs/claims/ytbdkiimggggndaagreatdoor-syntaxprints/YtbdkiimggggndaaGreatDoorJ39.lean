/- The document's Show: kind 6. -/
import Derived.Test.YtbdkiimggggndaaGreatDoorJ37
import Derived.Deep.RegionHeld3
namespace Go.Proofs.YtbdkiimggggndaaGreatDoor
open Go.RowKit
open Go

set_option maxRecDepth 20000 in
set_option maxHeartbeats 4000000 in
theorem show_6 (t : List UInt8) (o : Int) (y z : Nd) (_lt : t.length ≤ 1000000000000) (hy : ShowC y) (ly : (textN y).length ≤ 10000000) (ny : showT y ≠ []) (hz : ShowC z) (lz : (textN z).length ≤ 10000000) (nz : showT z ≠ []) : ShowC ⟨6, t, o, [y, z]⟩ := by
  intro S b cap w hN
  have hk := KA.of hN
  obtain ⟨g, off, yb, yc, rfl, y0, y1, y2, y3, yV⟩ := KA.at hk (j := 0) (y := y) rfl
  simp only [Nat.zero_mul, Nat.add_zero] at y0 y1 y2 y3
  obtain ⟨g', off', zb, zc, e', z0, z1, z2, z3, zV⟩ := KA.at hk (j := 1) (y := z) rfl
  cases e'
  simp only [Nat.one_mul] at z0 z1 z2 z3
  have hbw := ext_alloc (Below.refl w.heap.size w) (nbx ⟨6, t, o, [y, z]⟩ (some ⟨g, off, none⟩) cap)
  have g0 := alloc_new w (nbx ⟨6, t, o, [y, z]⟩ (some ⟨g, off, none⟩) cap)
  have qy := fun u (hb : Below w.heap.size w u) => hy S yb yc u (yV.below hb)
  have qz := fun u (hb : Below w.heap.size w u) => hz S zb zc u (zV.below hb)
  rw [text_set t o ny nz]
  obtain ⟨U, hU⟩ : ∃ U, w.alloc (nbx ⟨6, t, o, [y, z]⟩ (some ⟨g, off, none⟩) cap) = U := ⟨_, rfl⟩
  rw [hU] at hbw g0
  replace hU : w.alloc (.cells #[.int .i64 6, sk t, .int .i64 o, .slice (some ⟨g, off, none⟩) 2 cap] 24) = U := hU
  replace g0 : U.heap[w.heap.size]? = some (.cells #[.int .i64 6, sk t, .int .i64 o, .slice (some ⟨g, off, none⟩) 2 cap] 24) := g0
  obtain ⟨q0, q1, q2, q3, _, _, _, _⟩ := in4 g0
  show Calls Tryz.prog 23 #[.agg #[.int .i64 6, sk t, .int .i64 o, .slice (some ⟨g, off, none⟩) 2 cap]] w _
  obtain ⟨Ty, ey⟩ : ∃ T, textN y = T := ⟨_, rfl⟩
  simp only [ey] at qy ly ⊢
  replace y0 := cellB hbw y0
  replace y1 := cellB hbw y1
  replace y2 := cellB hbw y2
  replace y3 := cellB hbw y3
  obtain ⟨Tz, ez⟩ : ∃ T, textN z = T := ⟨_, rfl⟩
  simp only [ez] at qz lz ⊢
  replace z0 := cellB hbw z0
  replace z1 := cellB hbw z1
  replace z2 := cellB hbw z2
  replace z3 := cellB hbw z3
  obtain ⟨A1, hadd1, d1, s1⟩ := add_ex ⟨Ty.toArray⟩ ⟨#[32, 61, 32]⟩ 10000000 3 (by show Ty.toArray.size ≤ _; simpa using ly) (by decide) (by decide)
  replace d1 : Hid _ := d1
  obtain ⟨A2, hadd2, d2, s2⟩ := add_ex A1 ⟨Tz.toArray⟩ 10000003 10000000 s1 (by show Tz.toArray.size ≤ _; simpa using lz) (by decide)
  replace d2 : Hid _ := d2
  obtain ⟨A3, hadd3, d3, s3⟩ := add_ex A2 ⟨#[32, 59]⟩ 20000003 2 s2 (by decide) (by decide)
  replace d3 : Hid _ := d3
  clear hk hN hy yV ey  ny hz zV ez  nz
  go_enter Tryz.func23, Tryz.ntmps23
  go_wp2
  go_region_held3 (fun u => u.cell? ⟨w.heap.size, 3, none⟩ = some (.slice (some ⟨g, off, none⟩) 2 cap) ∧ u.cell? ⟨g, off, none⟩ = some (.int .i64 y.k) ∧ u.cell? ⟨g, off + 1, none⟩ = some (sk y.t) ∧ u.cell? ⟨g, off + 2, none⟩ = some (.int .i64 y.n) ∧ u.cell? ⟨g, off + 3, none⟩ = some (.slice yb y.kids.length yc) ∧ u.cell? ⟨g, off + 4, none⟩ = some (.int .i64 z.k) ∧ u.cell? ⟨g, off + 4 + 1, none⟩ = some (sk z.t) ∧ u.cell? ⟨g, off + 4 + 2, none⟩ = some (.int .i64 z.n) ∧ u.cell? ⟨g, off + 4 + 3, none⟩ = some (.slice zb z.kids.length zc)) (go_keep) (first | (go_at_call_of 23 y.t; refine (qy _ hbw.drew).mono ?_; rintro e u0 ⟨rfl, hu0⟩; replace g0 := block_below hu0 (show (U.drew).heap[w.heap.size]? = _ from g0); obtain ⟨q0, q1, q2, q3, _, _, _, _⟩ := in4 g0; replace hbw := ext_trans hbw.drew hu0; replace y0 := cellB hu0 (show (U.drew).cell? _ = _ from y0); replace y1 := cellB hu0 (show (U.drew).cell? _ = _ from y1); replace y2 := cellB hu0 (show (U.drew).cell? _ = _ from y2); replace y3 := cellB hu0 (show (U.drew).cell? _ = _ from y3); replace z0 := cellB hu0 (show (U.drew).cell? _ = _ from z0); replace z1 := cellB hu0 (show (U.drew).cell? _ = _ from z1); replace z2 := cellB hu0 (show (U.drew).cell? _ = _ from z2); replace z3 := cellB hu0 (show (U.drew).cell? _ = _ from z3)) | (go_at_call_of 23 z.t; refine (qz _ hbw).mono ?_; rintro e u1 ⟨rfl, hu1⟩; replace g0 := block_below hu1 (show (u0).heap[w.heap.size]? = _ from g0); obtain ⟨q0, q1, q2, q3, _, _, _, _⟩ := in4 g0; replace hbw := ext_trans hbw hu1; replace y0 := cellB hu1 (show (u0).cell? _ = _ from y0); replace y1 := cellB hu1 (show (u0).cell? _ = _ from y1); replace y2 := cellB hu1 (show (u0).cell? _ = _ from y2); replace y3 := cellB hu1 (show (u0).cell? _ = _ from y3); replace z0 := cellB hu1 (show (u0).cell? _ = _ from z0); replace z1 := cellB hu1 (show (u0).cell? _ = _ from z1); replace z2 := cellB hu1 (show (u0).cell? _ = _ from z2); replace z3 := cellB hu1 (show (u0).cell? _ = _ from z3)))
  go_wp2
  go_ret
  exact ⟨ret_sk (by first | (rw [d3.out, d2.out, d1.out]; done) | (rw [d3.out, d2.out, d1.out]; rfl) | (rw [d3.out, d2.out, d1.out]; simp; done) | (rw [d3.out, d2.out, d1.out]; simp; rfl)), hbw⟩
end Go.Proofs.YtbdkiimggggndaaGreatDoor
