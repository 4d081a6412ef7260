/- The document's Show: kind 5. The document's Show: kind 7. The document's Show: kind 12. -/
import Derived.Test.YtbdkiimggggndaaGreatDoorJ37
import Derived.Deep.RegionHeld3
namespace Go.Proofs.YtbdkiimggggndaaGreatDoor
open Go.RowKit
open Go

set_option maxRecDepth 20000 in
set_option maxHeartbeats 4000000 in
theorem show_5 (t : List UInt8) (o : Int) (y : Nd) (lt : t.length ≤ 1000000000000) (hy : ShowC y) (ly : (textN y).length ≤ 10000000) (ny : showT y ≠ []) : ShowC ⟨5, t, o, [y]⟩ := by
  intro S b cap w hN
  have hk := KA.of hN
  obtain ⟨g, off, yb, yc, rfl, y0, y1, y2, y3, yV⟩ := KA.at hk (j := 0) (y := y) rfl
  simp only [Nat.zero_mul, Nat.add_zero] at y0 y1 y2 y3
  have hbw := ext_alloc (Below.refl w.heap.size w) (nbx ⟨5, t, o, [y]⟩ (some ⟨g, off, none⟩) cap)
  have g0 := alloc_new w (nbx ⟨5, t, o, [y]⟩ (some ⟨g, off, none⟩) cap)
  have qy := fun u (hb : Below w.heap.size w u) => hy S yb yc u (yV.below hb)
  rw [text_local t o ny]
  obtain ⟨U, hU⟩ : ∃ U, w.alloc (nbx ⟨5, t, o, [y]⟩ (some ⟨g, off, none⟩) cap) = U := ⟨_, rfl⟩
  rw [hU] at hbw g0
  replace hU : w.alloc (.cells #[.int .i64 5, sk t, .int .i64 o, .slice (some ⟨g, off, none⟩) 1 cap] 24) = U := hU
  replace g0 : U.heap[w.heap.size]? = some (.cells #[.int .i64 5, sk t, .int .i64 o, .slice (some ⟨g, off, none⟩) 1 cap] 24) := g0
  obtain ⟨q0, q1, q2, q3, _, _, _, _⟩ := in4 g0
  show Calls Tryz.prog 23 #[.agg #[.int .i64 5, sk t, .int .i64 o, .slice (some ⟨g, off, none⟩) 1 cap]] w _
  obtain ⟨Ty, ey⟩ : ∃ T, textN y = T := ⟨_, rfl⟩
  simp only [ey] at qy ly ⊢
  replace y0 := cellB hbw y0
  replace y1 := cellB hbw y1
  replace y2 := cellB hbw y2
  replace y3 := cellB hbw y3
  obtain ⟨A1, hadd1, d1, s1⟩ := add_ex ⟨#[108, 111, 99, 97, 108, 32]⟩ ⟨t.toArray⟩ 6 1000000000000 (by decide) (by show t.toArray.size ≤ _; simpa using lt) (by decide)
  replace d1 : Hid _ := d1
  obtain ⟨A2, hadd2, d2, s2⟩ := add_ex A1 ⟨#[32, 61, 32]⟩ 1000000000006 3 s1 (by decide) (by decide)
  replace d2 : Hid _ := d2
  obtain ⟨A3, hadd3, d3, s3⟩ := add_ex A2 ⟨Ty.toArray⟩ 1000000000009 10000000 s2 (by show Ty.toArray.size ≤ _; simpa using ly) (by decide)
  replace d3 : Hid _ := d3
  obtain ⟨A4, hadd4, d4, s4⟩ := add_ex A3 ⟨#[32, 59]⟩ 1000010000009 2 s3 (by decide) (by decide)
  replace d4 : Hid _ := d4
  clear hk hN hy yV ey  ny
  go_enter Tryz.func23, Tryz.ntmps23
  go_wp2
  go_region_held3 (fun u => u.cell? ⟨w.heap.size, 1, none⟩ = some (sk t) ∧ u.cell? ⟨w.heap.size, 3, none⟩ = some (.slice (some ⟨g, off, none⟩) 1 cap) ∧ u.cell? ⟨g, off, none⟩ = some (.int .i64 y.k) ∧ u.cell? ⟨g, off + 1, none⟩ = some (sk y.t) ∧ u.cell? ⟨g, off + 2, none⟩ = some (.int .i64 y.n) ∧ u.cell? ⟨g, off + 3, none⟩ = some (.slice yb y.kids.length yc)) (go_keep) ((go_at_call 23; refine (qy _ hbw.drew).mono ?_; rintro e u0 ⟨rfl, hu0⟩; replace g0 := block_below hu0 (show (U.drew).heap[w.heap.size]? = _ from g0); obtain ⟨q0, q1, q2, q3, _, _, _, _⟩ := in4 g0; replace hbw := ext_trans hbw.drew hu0; replace y0 := cellB hu0 (show (U.drew).cell? _ = _ from y0); replace y1 := cellB hu0 (show (U.drew).cell? _ = _ from y1); replace y2 := cellB hu0 (show (U.drew).cell? _ = _ from y2); replace y3 := cellB hu0 (show (U.drew).cell? _ = _ from y3)))
  go_wp2
  go_ret
  exact ⟨ret_sk (by first | (rw [d4.out, d3.out, d2.out, d1.out]; done) | (rw [d4.out, d3.out, d2.out, d1.out]; rfl) | (rw [d4.out, d3.out, d2.out, d1.out]; simp; done) | (rw [d4.out, d3.out, d2.out, d1.out]; simp; rfl)), hbw⟩
end Go.Proofs.YtbdkiimggggndaaGreatDoor
namespace Go.Proofs.YtbdkiimggggndaaGreatDoor
open Go.RowKit
open Go

set_option maxRecDepth 20000 in
set_option maxHeartbeats 4000000 in
theorem show_7 (t : List UInt8) (o : Int) (y : Nd) (_lt : t.length ≤ 1000000000000) (hy : ShowC y) (ly : (textN y).length ≤ 10000000) (ny : showT y ≠ []) : ShowC ⟨7, t, o, [y]⟩ := by
  intro S b cap w hN
  have hk := KA.of hN
  obtain ⟨g, off, yb, yc, rfl, y0, y1, y2, y3, yV⟩ := KA.at hk (j := 0) (y := y) rfl
  simp only [Nat.zero_mul, Nat.add_zero] at y0 y1 y2 y3
  have hbw := ext_alloc (Below.refl w.heap.size w) (nbx ⟨7, t, o, [y]⟩ (some ⟨g, off, none⟩) cap)
  have g0 := alloc_new w (nbx ⟨7, t, o, [y]⟩ (some ⟨g, off, none⟩) cap)
  have qy := fun u (hb : Below w.heap.size w u) => hy S yb yc u (yV.below hb)
  rw [text_do t o ny]
  obtain ⟨U, hU⟩ : ∃ U, w.alloc (nbx ⟨7, t, o, [y]⟩ (some ⟨g, off, none⟩) cap) = U := ⟨_, rfl⟩
  rw [hU] at hbw g0
  replace hU : w.alloc (.cells #[.int .i64 7, sk t, .int .i64 o, .slice (some ⟨g, off, none⟩) 1 cap] 24) = U := hU
  replace g0 : U.heap[w.heap.size]? = some (.cells #[.int .i64 7, sk t, .int .i64 o, .slice (some ⟨g, off, none⟩) 1 cap] 24) := g0
  obtain ⟨q0, q1, q2, q3, _, _, _, _⟩ := in4 g0
  show Calls Tryz.prog 23 #[.agg #[.int .i64 7, sk t, .int .i64 o, .slice (some ⟨g, off, none⟩) 1 cap]] w _
  obtain ⟨Ty, ey⟩ : ∃ T, textN y = T := ⟨_, rfl⟩
  simp only [ey] at qy ly ⊢
  replace y0 := cellB hbw y0
  replace y1 := cellB hbw y1
  replace y2 := cellB hbw y2
  replace y3 := cellB hbw y3
  clear hk hN hy yV ey  ny
  go_enter Tryz.func23, Tryz.ntmps23
  go_wp2_with (go_at_call 23; refine (qy _ hbw).mono ?_; rintro e u0 ⟨rfl, hu0⟩; replace g0 := block_below hu0 (show (U).heap[w.heap.size]? = _ from g0); obtain ⟨q0, q1, q2, q3, _, _, _, _⟩ := in4 g0; replace hbw := ext_trans hbw hu0; replace y0 := cellB hu0 (show (U).cell? _ = _ from y0); replace y1 := cellB hu0 (show (U).cell? _ = _ from y1); replace y2 := cellB hu0 (show (U).cell? _ = _ from y2); replace y3 := cellB hu0 (show (U).cell? _ = _ from y3))
  go_ret
  exact ⟨ret_sk (by first | (rfl; done) | (rfl) | (simp; done) | (simp; rfl)), hbw⟩
end Go.Proofs.YtbdkiimggggndaaGreatDoor
namespace Go.Proofs.YtbdkiimggggndaaGreatDoor
open Go.RowKit
open Go

set_option maxRecDepth 20000 in
set_option maxHeartbeats 4000000 in
theorem show_12 (t : List UInt8) (o : Int) (y : Nd) (_lt : t.length ≤ 1000000000000) (hy : ShowC y) (ly : (textN y).length ≤ 10000000) (ny : showT y ≠ []) : ShowC ⟨12, t, o, [y]⟩ := by
  intro S b cap w hN
  have hk := KA.of hN
  obtain ⟨g, off, yb, yc, rfl, y0, y1, y2, y3, yV⟩ := KA.at hk (j := 0) (y := y) rfl
  simp only [Nat.zero_mul, Nat.add_zero] at y0 y1 y2 y3
  have hbw := ext_alloc (Below.refl w.heap.size w) (nbx ⟨12, t, o, [y]⟩ (some ⟨g, off, none⟩) cap)
  have g0 := alloc_new w (nbx ⟨12, t, o, [y]⟩ (some ⟨g, off, none⟩) cap)
  have qy := fun u (hb : Below w.heap.size w u) => hy S yb yc u (yV.below hb)
  rw [text_emit t o ny]
  obtain ⟨U, hU⟩ : ∃ U, w.alloc (nbx ⟨12, t, o, [y]⟩ (some ⟨g, off, none⟩) cap) = U := ⟨_, rfl⟩
  rw [hU] at hbw g0
  replace hU : w.alloc (.cells #[.int .i64 12, sk t, .int .i64 o, .slice (some ⟨g, off, none⟩) 1 cap] 24) = U := hU
  replace g0 : U.heap[w.heap.size]? = some (.cells #[.int .i64 12, sk t, .int .i64 o, .slice (some ⟨g, off, none⟩) 1 cap] 24) := g0
  obtain ⟨q0, q1, q2, q3, _, _, _, _⟩ := in4 g0
  show Calls Tryz.prog 23 #[.agg #[.int .i64 12, sk t, .int .i64 o, .slice (some ⟨g, off, none⟩) 1 cap]] w _
  obtain ⟨Ty, ey⟩ : ∃ T, textN y = T := ⟨_, rfl⟩
  simp only [ey] at qy ly ⊢
  replace y0 := cellB hbw y0
  replace y1 := cellB hbw y1
  replace y2 := cellB hbw y2
  replace y3 := cellB hbw y3
  clear hk hN hy yV ey  ny
  go_enter Tryz.func23, Tryz.ntmps23
  go_wp2_with (go_at_call 23; refine (qy _ hbw).mono ?_; rintro e u0 ⟨rfl, hu0⟩; replace g0 := block_below hu0 (show (U).heap[w.heap.size]? = _ from g0); obtain ⟨q0, q1, q2, q3, _, _, _, _⟩ := in4 g0; replace hbw := ext_trans hbw hu0; replace y0 := cellB hu0 (show (U).cell? _ = _ from y0); replace y1 := cellB hu0 (show (U).cell? _ = _ from y1); replace y2 := cellB hu0 (show (U).cell? _ = _ from y2); replace y3 := cellB hu0 (show (U).cell? _ = _ from y3))
  go_ret
  exact ⟨ret_sk (by first | (rfl; done) | (rfl) | (simp; done) | (simp; rfl)), hbw⟩
end Go.Proofs.YtbdkiimggggndaaGreatDoor
