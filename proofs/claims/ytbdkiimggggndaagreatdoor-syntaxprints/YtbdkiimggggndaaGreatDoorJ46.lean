/- The document's Show: kind 24. The document's Show: kind 25. -/
import Derived.Test.YtbdkiimggggndaaGreatDoorJ37
import Derived.Deep.RegionHeld3
namespace Go.Proofs.YtbdkiimggggndaaGreatDoor
open Go.RowKit
open Go

set_option maxRecDepth 20000 in
set_option maxHeartbeats 4000000 in
theorem show_24 (t : List UInt8) (o : Int) (y : Nd) (_lt : t.length ≤ 1000000000000) (hy : ShowC y) (ly : (textN y).length ≤ 10000000) (ny : showT y ≠ []) (oy : y.k = 22 → (opOf y.n).isSome = true) : ShowC ⟨24, t, o, [y]⟩ := by
  intro S b cap w hN
  have hk := KA.of hN
  obtain ⟨g, off, yb, yc, rfl, y0, y1, y2, y3, yV⟩ := KA.at hk (j := 0) (y := y) rfl
  simp only [Nat.zero_mul, Nat.add_zero] at y0 y1 y2 y3
  have hbw := ext_alloc (Below.refl w.heap.size w) (nbx ⟨24, t, o, [y]⟩ (some ⟨g, off, none⟩) cap)
  have g0 := alloc_new w (nbx ⟨24, t, o, [y]⟩ (some ⟨g, off, none⟩) cap)
  have qy := fun u (hb : Below w.heap.size w u) => at_of y oy hy ly 6 S yb yc u (yV.below hb)
  have my := at_lenN ly 6
  rw [text_neg t o ny]
  obtain ⟨U, hU⟩ : ∃ U, w.alloc (nbx ⟨24, t, o, [y]⟩ (some ⟨g, off, none⟩) cap) = U := ⟨_, rfl⟩
  rw [hU] at hbw g0
  replace hU : w.alloc (.cells #[.int .i64 24, sk t, .int .i64 o, .slice (some ⟨g, off, none⟩) 1 cap] 24) = U := hU
  replace g0 : U.heap[w.heap.size]? = some (.cells #[.int .i64 24, sk t, .int .i64 o, .slice (some ⟨g, off, none⟩) 1 cap] 24) := g0
  obtain ⟨q0, q1, q2, q3, _, _, _, _⟩ := in4 g0
  show Calls Tryz.prog 23 #[.agg #[.int .i64 24, sk t, .int .i64 o, .slice (some ⟨g, off, none⟩) 1 cap]] w _
  obtain ⟨Ty, ey⟩ : ∃ T, atN 6 y = T := ⟨_, rfl⟩
  simp only [ey] at qy my ⊢
  replace y0 := cellB hbw y0
  replace y1 := cellB hbw y1
  replace y2 := cellB hbw y2
  replace y3 := cellB hbw y3
  clear hk hN hy yV ey ly ny oy
  go_enter Tryz.func23, Tryz.ntmps23
  go_wp2_with (go_at_call 56; refine (qy _ hbw).mono ?_; rintro e u0 ⟨rfl, hu0⟩; replace g0 := block_below hu0 (show (U).heap[w.heap.size]? = _ from g0); obtain ⟨q0, q1, q2, q3, _, _, _, _⟩ := in4 g0; replace hbw := ext_trans hbw hu0; replace y0 := cellB hu0 (show (U).cell? _ = _ from y0); replace y1 := cellB hu0 (show (U).cell? _ = _ from y1); replace y2 := cellB hu0 (show (U).cell? _ = _ from y2); replace y3 := cellB hu0 (show (U).cell? _ = _ from y3))
  go_ret
  exact ⟨ret_sk (by first | (rfl; done) | (rfl) | (simp; done) | (simp; rfl)), hbw⟩
end Go.Proofs.YtbdkiimggggndaaGreatDoor
namespace Go.Proofs.YtbdkiimggggndaaGreatDoor
open Go.RowKit
open Go

set_option maxRecDepth 20000 in
set_option maxHeartbeats 4000000 in
theorem show_25 (t : List UInt8) (o : Int) (y : Nd) (_lt : t.length ≤ 1000000000000) (hy : ShowC y) (ly : (textN y).length ≤ 10000000) (ny : showT y ≠ []) (oy : y.k = 22 → (opOf y.n).isSome = true) : ShowC ⟨25, t, o, [y]⟩ := by
  intro S b cap w hN
  have hk := KA.of hN
  obtain ⟨g, off, yb, yc, rfl, y0, y1, y2, y3, yV⟩ := KA.at hk (j := 0) (y := y) rfl
  simp only [Nat.zero_mul, Nat.add_zero] at y0 y1 y2 y3
  have hbw := ext_alloc (Below.refl w.heap.size w) (nbx ⟨25, t, o, [y]⟩ (some ⟨g, off, none⟩) cap)
  have g0 := alloc_new w (nbx ⟨25, t, o, [y]⟩ (some ⟨g, off, none⟩) cap)
  have qy := fun u (hb : Below w.heap.size w u) => at_of y oy hy ly 6 S yb yc u (yV.below hb)
  have my := at_lenN ly 6
  rw [text_len_ t o ny]
  obtain ⟨U, hU⟩ : ∃ U, w.alloc (nbx ⟨25, t, o, [y]⟩ (some ⟨g, off, none⟩) cap) = U := ⟨_, rfl⟩
  rw [hU] at hbw g0
  replace hU : w.alloc (.cells #[.int .i64 25, sk t, .int .i64 o, .slice (some ⟨g, off, none⟩) 1 cap] 24) = U := hU
  replace g0 : U.heap[w.heap.size]? = some (.cells #[.int .i64 25, sk t, .int .i64 o, .slice (some ⟨g, off, none⟩) 1 cap] 24) := g0
  obtain ⟨q0, q1, q2, q3, _, _, _, _⟩ := in4 g0
  show Calls Tryz.prog 23 #[.agg #[.int .i64 25, sk t, .int .i64 o, .slice (some ⟨g, off, none⟩) 1 cap]] w _
  obtain ⟨Ty, ey⟩ : ∃ T, atN 6 y = T := ⟨_, rfl⟩
  simp only [ey] at qy my ⊢
  replace y0 := cellB hbw y0
  replace y1 := cellB hbw y1
  replace y2 := cellB hbw y2
  replace y3 := cellB hbw y3
  clear hk hN hy yV ey ly ny oy
  go_enter Tryz.func23, Tryz.ntmps23
  go_wp2_with (go_at_call 56; refine (qy _ hbw).mono ?_; rintro e u0 ⟨rfl, hu0⟩; replace g0 := block_below hu0 (show (U).heap[w.heap.size]? = _ from g0); obtain ⟨q0, q1, q2, q3, _, _, _, _⟩ := in4 g0; replace hbw := ext_trans hbw hu0; replace y0 := cellB hu0 (show (U).cell? _ = _ from y0); replace y1 := cellB hu0 (show (U).cell? _ = _ from y1); replace y2 := cellB hu0 (show (U).cell? _ = _ from y2); replace y3 := cellB hu0 (show (U).cell? _ = _ from y3))
  go_ret
  exact ⟨ret_sk (by first | (rfl; done) | (rfl) | (simp; done) | (simp; rfl)), hbw⟩
end Go.Proofs.YtbdkiimggggndaaGreatDoor
