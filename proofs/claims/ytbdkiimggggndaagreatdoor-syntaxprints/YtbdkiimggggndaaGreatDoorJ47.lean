/- The document's Show: operations. -/
import Derived.Test.YtbdkiimggggndaaGreatDoorJ37
import Derived.Deep.RegionHeld3
namespace Go.Proofs.YtbdkiimggggndaaGreatDoor
open Go.RowKit
open Go

set_option maxRecDepth 20000 in
set_option maxHeartbeats 4000000 in
theorem show_22_0 (t : List UInt8) (o : Int) (y z : Nd) (os : List UInt8) (ho : opOf o = some (os, 0)) (los : os.length ≤ 3) (hy : ShowC y) (ly : (textN y).length ≤ 10000000) (ny : showT y ≠ []) (oy : y.k = 22 → (opOf y.n).isSome = true) (hz : ShowC z) (lz : (textN z).length ≤ 10000000) (nz : showT z ≠ []) (oz : z.k = 22 → (opOf z.n).isSome = true) : ShowC ⟨22, t, o, [y, z]⟩ := by
  intro S b cap w hN
  have hk := KA.of hN
  obtain ⟨g, off, yb, yc, rfl, y0, y1, y2, y3, yV⟩ := KA.at hk (j := 0) (y := y) rfl
  simp only [Nat.zero_mul, Nat.add_zero] at y0 y1 y2 y3
  obtain ⟨g', off', zb, zc, e', z0, z1, z2, z3, zV⟩ := KA.at hk (j := 1) (y := z) rfl
  cases e'
  simp only [Nat.one_mul] at z0 z1 z2 z3
  have hbw := ext_alloc (Below.refl w.heap.size w) (nbx ⟨22, t, o, [y, z]⟩ (some ⟨g, off, none⟩) cap)
  have g0 := alloc_new w (nbx ⟨22, t, o, [y, z]⟩ (some ⟨g, off, none⟩) cap)
  have qy := fun u (hb : Below w.heap.size w u) => at_of y oy hy ly 0 S yb yc u (yV.below hb)
  have my := at_lenN ly 0
  have qz := fun u (hb : Below w.heap.size w u) => at_of z oz hz lz 1 S zb zc u (zV.below hb)
  have mz := at_lenN lz 1
  have qS := fun u => signOf_any o u
  simp only [soV, ho] at qS
  rw [text_opn t o ho ny nz]
  rw [show (if (0 : Nat) = 2 then 3 else 0) = 0 from rfl, show (0 + 1 : Nat) = 1 from rfl]
  obtain ⟨U, hU⟩ : ∃ U, w.alloc (nbx ⟨22, t, o, [y, z]⟩ (some ⟨g, off, none⟩) cap) = U := ⟨_, rfl⟩
  rw [hU] at hbw g0
  replace hU : w.alloc (.cells #[.int .i64 22, sk t, .int .i64 o, .slice (some ⟨g, off, none⟩) 2 cap] 24) = U := hU
  replace g0 : U.heap[w.heap.size]? = some (.cells #[.int .i64 22, sk t, .int .i64 o, .slice (some ⟨g, off, none⟩) 2 cap] 24) := g0
  obtain ⟨q0, q1, q2, q3, _, _, _, _⟩ := in4 g0
  show Calls Tryz.prog 23 #[.agg #[.int .i64 22, sk t, .int .i64 o, .slice (some ⟨g, off, none⟩) 2 cap]] w _
  obtain ⟨Ty, ey⟩ : ∃ T, atN 0 y = T := ⟨_, rfl⟩
  simp only [ey] at qy my ⊢
  obtain ⟨Tz, ez⟩ : ∃ T, atN 1 z = T := ⟨_, rfl⟩
  simp only [ez] at qz mz ⊢
  replace y0 := cellB hbw y0
  replace y1 := cellB hbw y1
  replace y2 := cellB hbw y2
  replace y3 := cellB hbw y3
  replace z0 := cellB hbw z0
  replace z1 := cellB hbw z1
  replace z2 := cellB hbw z2
  replace z3 := cellB hbw z3
  obtain ⟨A1, hadd1, d1, s1⟩ := add_ex ⟨Ty.toArray⟩ ⟨#[32]⟩ 10000004 1 (by show Ty.toArray.size ≤ _; simpa using my) (by decide) (by decide)
  replace d1 : Hid _ := d1
  obtain ⟨A2, hadd2, d2, s2⟩ := add_ex A1 ⟨os.toArray⟩ 10000005 3 s1 (by show os.toArray.size ≤ _; simpa using los) (by decide)
  replace d2 : Hid _ := d2
  obtain ⟨A3, hadd3, d3, s3⟩ := add_ex A2 ⟨#[32]⟩ 10000008 1 s2 (by decide) (by decide)
  replace d3 : Hid _ := d3
  obtain ⟨A4, hadd4, d4, s4⟩ := add_ex A3 ⟨Tz.toArray⟩ 10000009 10000004 s3 (by show Tz.toArray.size ≤ _; simpa using mz) (by decide)
  replace d4 : Hid _ := d4
  clear hk hN hy yV ey ly ny oy hz zV ez lz nz oz ho
  go_enter Tryz.func23, Tryz.ntmps23
  go_wp2_with (go_at_call 49; refine (qS _).mono ?_; rintro e us ⟨rfl, hus⟩; replace g0 := block_below hus (show (U).heap[w.heap.size]? = _ from g0); obtain ⟨q0, q1, q2, q3, _, _, _, _⟩ := in4 g0; replace y0 := cellB hus (show (U).cell? _ = _ from y0); replace y1 := cellB hus (show (U).cell? _ = _ from y1); replace y2 := cellB hus (show (U).cell? _ = _ from y2); replace y3 := cellB hus (show (U).cell? _ = _ from y3); replace z0 := cellB hus (show (U).cell? _ = _ from z0); replace z1 := cellB hus (show (U).cell? _ = _ from z1); replace z2 := cellB hus (show (U).cell? _ = _ from z2); replace z3 := cellB hus (show (U).cell? _ = _ from z3); replace hbw := ext_trans hbw hus)
  go_region_held3 (fun u => u.cell? ⟨w.heap.size, 3, none⟩ = some (.slice (some ⟨g, off, none⟩) 2 cap) ∧ u.cell? ⟨g, off, none⟩ = some (.int .i64 y.k) ∧ u.cell? ⟨g, off + 1, none⟩ = some (sk y.t) ∧ u.cell? ⟨g, off + 2, none⟩ = some (.int .i64 y.n) ∧ u.cell? ⟨g, off + 3, none⟩ = some (.slice yb y.kids.length yc) ∧ u.cell? ⟨g, off + 4, none⟩ = some (.int .i64 z.k) ∧ u.cell? ⟨g, off + 4 + 1, none⟩ = some (sk z.t) ∧ u.cell? ⟨g, off + 4 + 2, none⟩ = some (.int .i64 z.n) ∧ u.cell? ⟨g, off + 4 + 3, none⟩ = some (.slice zb z.kids.length zc)) (go_keep) (first | (go_at_call_of 56 y.t; refine (qy _ hbw.drew).mono ?_; rintro e u0 ⟨rfl, hu0⟩; replace g0 := block_below hu0 (show (us.drew).heap[w.heap.size]? = _ from g0); obtain ⟨q0, q1, q2, q3, _, _, _, _⟩ := in4 g0; replace y0 := cellB hu0 (show (us.drew).cell? _ = _ from y0); replace y1 := cellB hu0 (show (us.drew).cell? _ = _ from y1); replace y2 := cellB hu0 (show (us.drew).cell? _ = _ from y2); replace y3 := cellB hu0 (show (us.drew).cell? _ = _ from y3); replace z0 := cellB hu0 (show (us.drew).cell? _ = _ from z0); replace z1 := cellB hu0 (show (us.drew).cell? _ = _ from z1); replace z2 := cellB hu0 (show (us.drew).cell? _ = _ from z2); replace z3 := cellB hu0 (show (us.drew).cell? _ = _ from z3); replace hbw := ext_trans hbw.drew hu0) | (go_at_call_of 56 z.t; refine (qz _ hbw).mono ?_; rintro e u1 ⟨rfl, hu1⟩; replace g0 := block_below hu1 (show (u0).heap[w.heap.size]? = _ from g0); obtain ⟨q0, q1, q2, q3, _, _, _, _⟩ := in4 g0; replace y0 := cellB hu1 (show (u0).cell? _ = _ from y0); replace y1 := cellB hu1 (show (u0).cell? _ = _ from y1); replace y2 := cellB hu1 (show (u0).cell? _ = _ from y2); replace y3 := cellB hu1 (show (u0).cell? _ = _ from y3); replace z0 := cellB hu1 (show (u0).cell? _ = _ from z0); replace z1 := cellB hu1 (show (u0).cell? _ = _ from z1); replace z2 := cellB hu1 (show (u0).cell? _ = _ from z2); replace z3 := cellB hu1 (show (u0).cell? _ = _ from z3); replace hbw := ext_trans hbw hu1))
  go_wp2
  go_ret
  exact ⟨ret_sk (by first | (rw [d4.out, d3.out, d2.out, d1.out]; done) | (rw [d4.out, d3.out, d2.out, d1.out]; rfl) | (rw [d4.out, d3.out, d2.out, d1.out]; simp; done) | (rw [d4.out, d3.out, d2.out, d1.out]; simp; rfl)), hbw⟩
set_option maxRecDepth 20000 in
set_option maxHeartbeats 4000000 in
theorem show_22_1 (t : List UInt8) (o : Int) (y z : Nd) (os : List UInt8) (ho : opOf o = some (os, 1)) (los : os.length ≤ 3) (hy : ShowC y) (ly : (textN y).length ≤ 10000000) (ny : showT y ≠ []) (oy : y.k = 22 → (opOf y.n).isSome = true) (hz : ShowC z) (lz : (textN z).length ≤ 10000000) (nz : showT z ≠ []) (oz : z.k = 22 → (opOf z.n).isSome = true) : ShowC ⟨22, t, o, [y, z]⟩ := by
  intro S b cap w hN
  have hk := KA.of hN
  obtain ⟨g, off, yb, yc, rfl, y0, y1, y2, y3, yV⟩ := KA.at hk (j := 0) (y := y) rfl
  simp only [Nat.zero_mul, Nat.add_zero] at y0 y1 y2 y3
  obtain ⟨g', off', zb, zc, e', z0, z1, z2, z3, zV⟩ := KA.at hk (j := 1) (y := z) rfl
  cases e'
  simp only [Nat.one_mul] at z0 z1 z2 z3
  have hbw := ext_alloc (Below.refl w.heap.size w) (nbx ⟨22, t, o, [y, z]⟩ (some ⟨g, off, none⟩) cap)
  have g0 := alloc_new w (nbx ⟨22, t, o, [y, z]⟩ (some ⟨g, off, none⟩) cap)
  have qy := fun u (hb : Below w.heap.size w u) => at_of y oy hy ly 1 S yb yc u (yV.below hb)
  have my := at_lenN ly 1
  have qz := fun u (hb : Below w.heap.size w u) => at_of z oz hz lz 2 S zb zc u (zV.below hb)
  have mz := at_lenN lz 2
  have qS := fun u => signOf_any o u
  simp only [soV, ho] at qS
  rw [text_opn t o ho ny nz]
  rw [show (if (1 : Nat) = 2 then 3 else 1) = 1 from rfl, show (1 + 1 : Nat) = 2 from rfl]
  obtain ⟨U, hU⟩ : ∃ U, w.alloc (nbx ⟨22, t, o, [y, z]⟩ (some ⟨g, off, none⟩) cap) = U := ⟨_, rfl⟩
  rw [hU] at hbw g0
  replace hU : w.alloc (.cells #[.int .i64 22, sk t, .int .i64 o, .slice (some ⟨g, off, none⟩) 2 cap] 24) = U := hU
  replace g0 : U.heap[w.heap.size]? = some (.cells #[.int .i64 22, sk t, .int .i64 o, .slice (some ⟨g, off, none⟩) 2 cap] 24) := g0
  obtain ⟨q0, q1, q2, q3, _, _, _, _⟩ := in4 g0
  show Calls Tryz.prog 23 #[.agg #[.int .i64 22, sk t, .int .i64 o, .slice (some ⟨g, off, none⟩) 2 cap]] w _
  obtain ⟨Ty, ey⟩ : ∃ T, atN 1 y = T := ⟨_, rfl⟩
  simp only [ey] at qy my ⊢
  obtain ⟨Tz, ez⟩ : ∃ T, atN 2 z = T := ⟨_, rfl⟩
  simp only [ez] at qz mz ⊢
  replace y0 := cellB hbw y0
  replace y1 := cellB hbw y1
  replace y2 := cellB hbw y2
  replace y3 := cellB hbw y3
  replace z0 := cellB hbw z0
  replace z1 := cellB hbw z1
  replace z2 := cellB hbw z2
  replace z3 := cellB hbw z3
  obtain ⟨A1, hadd1, d1, s1⟩ := add_ex ⟨Ty.toArray⟩ ⟨#[32]⟩ 10000004 1 (by show Ty.toArray.size ≤ _; simpa using my) (by decide) (by decide)
  replace d1 : Hid _ := d1
  obtain ⟨A2, hadd2, d2, s2⟩ := add_ex A1 ⟨os.toArray⟩ 10000005 3 s1 (by show os.toArray.size ≤ _; simpa using los) (by decide)
  replace d2 : Hid _ := d2
  obtain ⟨A3, hadd3, d3, s3⟩ := add_ex A2 ⟨#[32]⟩ 10000008 1 s2 (by decide) (by decide)
  replace d3 : Hid _ := d3
  obtain ⟨A4, hadd4, d4, s4⟩ := add_ex A3 ⟨Tz.toArray⟩ 10000009 10000004 s3 (by show Tz.toArray.size ≤ _; simpa using mz) (by decide)
  replace d4 : Hid _ := d4
  clear hk hN hy yV ey ly ny oy hz zV ez lz nz oz ho
  go_enter Tryz.func23, Tryz.ntmps23
  go_wp2_with (go_at_call 49; refine (qS _).mono ?_; rintro e us ⟨rfl, hus⟩; replace g0 := block_below hus (show (U).heap[w.heap.size]? = _ from g0); obtain ⟨q0, q1, q2, q3, _, _, _, _⟩ := in4 g0; replace y0 := cellB hus (show (U).cell? _ = _ from y0); replace y1 := cellB hus (show (U).cell? _ = _ from y1); replace y2 := cellB hus (show (U).cell? _ = _ from y2); replace y3 := cellB hus (show (U).cell? _ = _ from y3); replace z0 := cellB hus (show (U).cell? _ = _ from z0); replace z1 := cellB hus (show (U).cell? _ = _ from z1); replace z2 := cellB hus (show (U).cell? _ = _ from z2); replace z3 := cellB hus (show (U).cell? _ = _ from z3); replace hbw := ext_trans hbw hus)
  go_region_held3 (fun u => u.cell? ⟨w.heap.size, 3, none⟩ = some (.slice (some ⟨g, off, none⟩) 2 cap) ∧ u.cell? ⟨g, off, none⟩ = some (.int .i64 y.k) ∧ u.cell? ⟨g, off + 1, none⟩ = some (sk y.t) ∧ u.cell? ⟨g, off + 2, none⟩ = some (.int .i64 y.n) ∧ u.cell? ⟨g, off + 3, none⟩ = some (.slice yb y.kids.length yc) ∧ u.cell? ⟨g, off + 4, none⟩ = some (.int .i64 z.k) ∧ u.cell? ⟨g, off + 4 + 1, none⟩ = some (sk z.t) ∧ u.cell? ⟨g, off + 4 + 2, none⟩ = some (.int .i64 z.n) ∧ u.cell? ⟨g, off + 4 + 3, none⟩ = some (.slice zb z.kids.length zc)) (go_keep) (first | (go_at_call_of 56 y.t; refine (qy _ hbw.drew).mono ?_; rintro e u0 ⟨rfl, hu0⟩; replace g0 := block_below hu0 (show (us.drew).heap[w.heap.size]? = _ from g0); obtain ⟨q0, q1, q2, q3, _, _, _, _⟩ := in4 g0; replace y0 := cellB hu0 (show (us.drew).cell? _ = _ from y0); replace y1 := cellB hu0 (show (us.drew).cell? _ = _ from y1); replace y2 := cellB hu0 (show (us.drew).cell? _ = _ from y2); replace y3 := cellB hu0 (show (us.drew).cell? _ = _ from y3); replace z0 := cellB hu0 (show (us.drew).cell? _ = _ from z0); replace z1 := cellB hu0 (show (us.drew).cell? _ = _ from z1); replace z2 := cellB hu0 (show (us.drew).cell? _ = _ from z2); replace z3 := cellB hu0 (show (us.drew).cell? _ = _ from z3); replace hbw := ext_trans hbw.drew hu0) | (go_at_call_of 56 z.t; refine (qz _ hbw).mono ?_; rintro e u1 ⟨rfl, hu1⟩; replace g0 := block_below hu1 (show (u0).heap[w.heap.size]? = _ from g0); obtain ⟨q0, q1, q2, q3, _, _, _, _⟩ := in4 g0; replace y0 := cellB hu1 (show (u0).cell? _ = _ from y0); replace y1 := cellB hu1 (show (u0).cell? _ = _ from y1); replace y2 := cellB hu1 (show (u0).cell? _ = _ from y2); replace y3 := cellB hu1 (show (u0).cell? _ = _ from y3); replace z0 := cellB hu1 (show (u0).cell? _ = _ from z0); replace z1 := cellB hu1 (show (u0).cell? _ = _ from z1); replace z2 := cellB hu1 (show (u0).cell? _ = _ from z2); replace z3 := cellB hu1 (show (u0).cell? _ = _ from z3); replace hbw := ext_trans hbw hu1))
  go_wp2
  go_ret
  exact ⟨ret_sk (by first | (rw [d4.out, d3.out, d2.out, d1.out]; done) | (rw [d4.out, d3.out, d2.out, d1.out]; rfl) | (rw [d4.out, d3.out, d2.out, d1.out]; simp; done) | (rw [d4.out, d3.out, d2.out, d1.out]; simp; rfl)), hbw⟩
set_option maxRecDepth 20000 in
set_option maxHeartbeats 4000000 in
theorem show_22_2 (t : List UInt8) (o : Int) (y z : Nd) (os : List UInt8) (ho : opOf o = some (os, 2)) (los : os.length ≤ 3) (hy : ShowC y) (ly : (textN y).length ≤ 10000000) (ny : showT y ≠ []) (oy : y.k = 22 → (opOf y.n).isSome = true) (hz : ShowC z) (lz : (textN z).length ≤ 10000000) (nz : showT z ≠ []) (oz : z.k = 22 → (opOf z.n).isSome = true) : ShowC ⟨22, t, o, [y, z]⟩ := by
  intro S b cap w hN
  have hk := KA.of hN
  obtain ⟨g, off, yb, yc, rfl, y0, y1, y2, y3, yV⟩ := KA.at hk (j := 0) (y := y) rfl
  simp only [Nat.zero_mul, Nat.add_zero] at y0 y1 y2 y3
  obtain ⟨g', off', zb, zc, e', z0, z1, z2, z3, zV⟩ := KA.at hk (j := 1) (y := z) rfl
  cases e'
  simp only [Nat.one_mul] at z0 z1 z2 z3
  have hbw := ext_alloc (Below.refl w.heap.size w) (nbx ⟨22, t, o, [y, z]⟩ (some ⟨g, off, none⟩) cap)
  have g0 := alloc_new w (nbx ⟨22, t, o, [y, z]⟩ (some ⟨g, off, none⟩) cap)
  have qy := fun u (hb : Below w.heap.size w u) => at_of y oy hy ly 3 S yb yc u (yV.below hb)
  have my := at_lenN ly 3
  have qz := fun u (hb : Below w.heap.size w u) => at_of z oz hz lz 3 S zb zc u (zV.below hb)
  have mz := at_lenN lz 3
  have qS := fun u => signOf_any o u
  simp only [soV, ho] at qS
  rw [text_opn t o ho ny nz]
  rw [show (if (2 : Nat) = 2 then 3 else 2) = 3 from rfl, show (2 + 1 : Nat) = 3 from rfl]
  obtain ⟨U, hU⟩ : ∃ U, w.alloc (nbx ⟨22, t, o, [y, z]⟩ (some ⟨g, off, none⟩) cap) = U := ⟨_, rfl⟩
  rw [hU] at hbw g0
  replace hU : w.alloc (.cells #[.int .i64 22, sk t, .int .i64 o, .slice (some ⟨g, off, none⟩) 2 cap] 24) = U := hU
  replace g0 : U.heap[w.heap.size]? = some (.cells #[.int .i64 22, sk t, .int .i64 o, .slice (some ⟨g, off, none⟩) 2 cap] 24) := g0
  obtain ⟨q0, q1, q2, q3, _, _, _, _⟩ := in4 g0
  show Calls Tryz.prog 23 #[.agg #[.int .i64 22, sk t, .int .i64 o, .slice (some ⟨g, off, none⟩) 2 cap]] w _
  obtain ⟨Ty, ey⟩ : ∃ T, atN 3 y = T := ⟨_, rfl⟩
  simp only [ey] at qy my ⊢
  obtain ⟨Tz, ez⟩ : ∃ T, atN 3 z = T := ⟨_, rfl⟩
  simp only [ez] at qz mz ⊢
  replace y0 := cellB hbw y0
  replace y1 := cellB hbw y1
  replace y2 := cellB hbw y2
  replace y3 := cellB hbw y3
  replace z0 := cellB hbw z0
  replace z1 := cellB hbw z1
  replace z2 := cellB hbw z2
  replace z3 := cellB hbw z3
  obtain ⟨A1, hadd1, d1, s1⟩ := add_ex ⟨Ty.toArray⟩ ⟨#[32]⟩ 10000004 1 (by show Ty.toArray.size ≤ _; simpa using my) (by decide) (by decide)
  replace d1 : Hid _ := d1
  obtain ⟨A2, hadd2, d2, s2⟩ := add_ex A1 ⟨os.toArray⟩ 10000005 3 s1 (by show os.toArray.size ≤ _; simpa using los) (by decide)
  replace d2 : Hid _ := d2
  obtain ⟨A3, hadd3, d3, s3⟩ := add_ex A2 ⟨#[32]⟩ 10000008 1 s2 (by decide) (by decide)
  replace d3 : Hid _ := d3
  obtain ⟨A4, hadd4, d4, s4⟩ := add_ex A3 ⟨Tz.toArray⟩ 10000009 10000004 s3 (by show Tz.toArray.size ≤ _; simpa using mz) (by decide)
  replace d4 : Hid _ := d4
  clear hk hN hy yV ey ly ny oy hz zV ez lz nz oz ho
  go_enter Tryz.func23, Tryz.ntmps23
  go_wp2_with (go_at_call 49; refine (qS _).mono ?_; rintro e us ⟨rfl, hus⟩; replace g0 := block_below hus (show (U).heap[w.heap.size]? = _ from g0); obtain ⟨q0, q1, q2, q3, _, _, _, _⟩ := in4 g0; replace y0 := cellB hus (show (U).cell? _ = _ from y0); replace y1 := cellB hus (show (U).cell? _ = _ from y1); replace y2 := cellB hus (show (U).cell? _ = _ from y2); replace y3 := cellB hus (show (U).cell? _ = _ from y3); replace z0 := cellB hus (show (U).cell? _ = _ from z0); replace z1 := cellB hus (show (U).cell? _ = _ from z1); replace z2 := cellB hus (show (U).cell? _ = _ from z2); replace z3 := cellB hus (show (U).cell? _ = _ from z3); replace hbw := ext_trans hbw hus)
  go_region_held3 (fun u => u.cell? ⟨w.heap.size, 3, none⟩ = some (.slice (some ⟨g, off, none⟩) 2 cap) ∧ u.cell? ⟨g, off, none⟩ = some (.int .i64 y.k) ∧ u.cell? ⟨g, off + 1, none⟩ = some (sk y.t) ∧ u.cell? ⟨g, off + 2, none⟩ = some (.int .i64 y.n) ∧ u.cell? ⟨g, off + 3, none⟩ = some (.slice yb y.kids.length yc) ∧ u.cell? ⟨g, off + 4, none⟩ = some (.int .i64 z.k) ∧ u.cell? ⟨g, off + 4 + 1, none⟩ = some (sk z.t) ∧ u.cell? ⟨g, off + 4 + 2, none⟩ = some (.int .i64 z.n) ∧ u.cell? ⟨g, off + 4 + 3, none⟩ = some (.slice zb z.kids.length zc)) (go_keep) (first | (go_at_call_of 56 y.t; refine (qy _ hbw.drew).mono ?_; rintro e u0 ⟨rfl, hu0⟩; replace g0 := block_below hu0 (show (us.drew).heap[w.heap.size]? = _ from g0); obtain ⟨q0, q1, q2, q3, _, _, _, _⟩ := in4 g0; replace y0 := cellB hu0 (show (us.drew).cell? _ = _ from y0); replace y1 := cellB hu0 (show (us.drew).cell? _ = _ from y1); replace y2 := cellB hu0 (show (us.drew).cell? _ = _ from y2); replace y3 := cellB hu0 (show (us.drew).cell? _ = _ from y3); replace z0 := cellB hu0 (show (us.drew).cell? _ = _ from z0); replace z1 := cellB hu0 (show (us.drew).cell? _ = _ from z1); replace z2 := cellB hu0 (show (us.drew).cell? _ = _ from z2); replace z3 := cellB hu0 (show (us.drew).cell? _ = _ from z3); replace hbw := ext_trans hbw.drew hu0) | (go_at_call_of 56 z.t; refine (qz _ hbw).mono ?_; rintro e u1 ⟨rfl, hu1⟩; replace g0 := block_below hu1 (show (u0).heap[w.heap.size]? = _ from g0); obtain ⟨q0, q1, q2, q3, _, _, _, _⟩ := in4 g0; replace y0 := cellB hu1 (show (u0).cell? _ = _ from y0); replace y1 := cellB hu1 (show (u0).cell? _ = _ from y1); replace y2 := cellB hu1 (show (u0).cell? _ = _ from y2); replace y3 := cellB hu1 (show (u0).cell? _ = _ from y3); replace z0 := cellB hu1 (show (u0).cell? _ = _ from z0); replace z1 := cellB hu1 (show (u0).cell? _ = _ from z1); replace z2 := cellB hu1 (show (u0).cell? _ = _ from z2); replace z3 := cellB hu1 (show (u0).cell? _ = _ from z3); replace hbw := ext_trans hbw hu1))
  go_wp2
  go_ret
  exact ⟨ret_sk (by first | (rw [d4.out, d3.out, d2.out, d1.out]; done) | (rw [d4.out, d3.out, d2.out, d1.out]; rfl) | (rw [d4.out, d3.out, d2.out, d1.out]; simp; done) | (rw [d4.out, d3.out, d2.out, d1.out]; simp; rfl)), hbw⟩
set_option maxRecDepth 20000 in
set_option maxHeartbeats 4000000 in
theorem show_22_3 (t : List UInt8) (o : Int) (y z : Nd) (os : List UInt8) (ho : opOf o = some (os, 3)) (los : os.length ≤ 3) (hy : ShowC y) (ly : (textN y).length ≤ 10000000) (ny : showT y ≠ []) (oy : y.k = 22 → (opOf y.n).isSome = true) (hz : ShowC z) (lz : (textN z).length ≤ 10000000) (nz : showT z ≠ []) (oz : z.k = 22 → (opOf z.n).isSome = true) : ShowC ⟨22, t, o, [y, z]⟩ := by
  intro S b cap w hN
  have hk := KA.of hN
  obtain ⟨g, off, yb, yc, rfl, y0, y1, y2, y3, yV⟩ := KA.at hk (j := 0) (y := y) rfl
  simp only [Nat.zero_mul, Nat.add_zero] at y0 y1 y2 y3
  obtain ⟨g', off', zb, zc, e', z0, z1, z2, z3, zV⟩ := KA.at hk (j := 1) (y := z) rfl
  cases e'
  simp only [Nat.one_mul] at z0 z1 z2 z3
  have hbw := ext_alloc (Below.refl w.heap.size w) (nbx ⟨22, t, o, [y, z]⟩ (some ⟨g, off, none⟩) cap)
  have g0 := alloc_new w (nbx ⟨22, t, o, [y, z]⟩ (some ⟨g, off, none⟩) cap)
  have qy := fun u (hb : Below w.heap.size w u) => at_of y oy hy ly 3 S yb yc u (yV.below hb)
  have my := at_lenN ly 3
  have qz := fun u (hb : Below w.heap.size w u) => at_of z oz hz lz 4 S zb zc u (zV.below hb)
  have mz := at_lenN lz 4
  have qS := fun u => signOf_any o u
  simp only [soV, ho] at qS
  rw [text_opn t o ho ny nz]
  rw [show (if (3 : Nat) = 2 then 3 else 3) = 3 from rfl, show (3 + 1 : Nat) = 4 from rfl]
  obtain ⟨U, hU⟩ : ∃ U, w.alloc (nbx ⟨22, t, o, [y, z]⟩ (some ⟨g, off, none⟩) cap) = U := ⟨_, rfl⟩
  rw [hU] at hbw g0
  replace hU : w.alloc (.cells #[.int .i64 22, sk t, .int .i64 o, .slice (some ⟨g, off, none⟩) 2 cap] 24) = U := hU
  replace g0 : U.heap[w.heap.size]? = some (.cells #[.int .i64 22, sk t, .int .i64 o, .slice (some ⟨g, off, none⟩) 2 cap] 24) := g0
  obtain ⟨q0, q1, q2, q3, _, _, _, _⟩ := in4 g0
  show Calls Tryz.prog 23 #[.agg #[.int .i64 22, sk t, .int .i64 o, .slice (some ⟨g, off, none⟩) 2 cap]] w _
  obtain ⟨Ty, ey⟩ : ∃ T, atN 3 y = T := ⟨_, rfl⟩
  simp only [ey] at qy my ⊢
  obtain ⟨Tz, ez⟩ : ∃ T, atN 4 z = T := ⟨_, rfl⟩
  simp only [ez] at qz mz ⊢
  replace y0 := cellB hbw y0
  replace y1 := cellB hbw y1
  replace y2 := cellB hbw y2
  replace y3 := cellB hbw y3
  replace z0 := cellB hbw z0
  replace z1 := cellB hbw z1
  replace z2 := cellB hbw z2
  replace z3 := cellB hbw z3
  obtain ⟨A1, hadd1, d1, s1⟩ := add_ex ⟨Ty.toArray⟩ ⟨#[32]⟩ 10000004 1 (by show Ty.toArray.size ≤ _; simpa using my) (by decide) (by decide)
  replace d1 : Hid _ := d1
  obtain ⟨A2, hadd2, d2, s2⟩ := add_ex A1 ⟨os.toArray⟩ 10000005 3 s1 (by show os.toArray.size ≤ _; simpa using los) (by decide)
  replace d2 : Hid _ := d2
  obtain ⟨A3, hadd3, d3, s3⟩ := add_ex A2 ⟨#[32]⟩ 10000008 1 s2 (by decide) (by decide)
  replace d3 : Hid _ := d3
  obtain ⟨A4, hadd4, d4, s4⟩ := add_ex A3 ⟨Tz.toArray⟩ 10000009 10000004 s3 (by show Tz.toArray.size ≤ _; simpa using mz) (by decide)
  replace d4 : Hid _ := d4
  clear hk hN hy yV ey ly ny oy hz zV ez lz nz oz ho
  go_enter Tryz.func23, Tryz.ntmps23
  go_wp2_with (go_at_call 49; refine (qS _).mono ?_; rintro e us ⟨rfl, hus⟩; replace g0 := block_below hus (show (U).heap[w.heap.size]? = _ from g0); obtain ⟨q0, q1, q2, q3, _, _, _, _⟩ := in4 g0; replace y0 := cellB hus (show (U).cell? _ = _ from y0); replace y1 := cellB hus (show (U).cell? _ = _ from y1); replace y2 := cellB hus (show (U).cell? _ = _ from y2); replace y3 := cellB hus (show (U).cell? _ = _ from y3); replace z0 := cellB hus (show (U).cell? _ = _ from z0); replace z1 := cellB hus (show (U).cell? _ = _ from z1); replace z2 := cellB hus (show (U).cell? _ = _ from z2); replace z3 := cellB hus (show (U).cell? _ = _ from z3); replace hbw := ext_trans hbw hus)
  go_region_held3 (fun u => u.cell? ⟨w.heap.size, 3, none⟩ = some (.slice (some ⟨g, off, none⟩) 2 cap) ∧ u.cell? ⟨g, off, none⟩ = some (.int .i64 y.k) ∧ u.cell? ⟨g, off + 1, none⟩ = some (sk y.t) ∧ u.cell? ⟨g, off + 2, none⟩ = some (.int .i64 y.n) ∧ u.cell? ⟨g, off + 3, none⟩ = some (.slice yb y.kids.length yc) ∧ u.cell? ⟨g, off + 4, none⟩ = some (.int .i64 z.k) ∧ u.cell? ⟨g, off + 4 + 1, none⟩ = some (sk z.t) ∧ u.cell? ⟨g, off + 4 + 2, none⟩ = some (.int .i64 z.n) ∧ u.cell? ⟨g, off + 4 + 3, none⟩ = some (.slice zb z.kids.length zc)) (go_keep) (first | (go_at_call_of 56 y.t; refine (qy _ hbw.drew).mono ?_; rintro e u0 ⟨rfl, hu0⟩; replace g0 := block_below hu0 (show (us.drew).heap[w.heap.size]? = _ from g0); obtain ⟨q0, q1, q2, q3, _, _, _, _⟩ := in4 g0; replace y0 := cellB hu0 (show (us.drew).cell? _ = _ from y0); replace y1 := cellB hu0 (show (us.drew).cell? _ = _ from y1); replace y2 := cellB hu0 (show (us.drew).cell? _ = _ from y2); replace y3 := cellB hu0 (show (us.drew).cell? _ = _ from y3); replace z0 := cellB hu0 (show (us.drew).cell? _ = _ from z0); replace z1 := cellB hu0 (show (us.drew).cell? _ = _ from z1); replace z2 := cellB hu0 (show (us.drew).cell? _ = _ from z2); replace z3 := cellB hu0 (show (us.drew).cell? _ = _ from z3); replace hbw := ext_trans hbw.drew hu0) | (go_at_call_of 56 z.t; refine (qz _ hbw).mono ?_; rintro e u1 ⟨rfl, hu1⟩; replace g0 := block_below hu1 (show (u0).heap[w.heap.size]? = _ from g0); obtain ⟨q0, q1, q2, q3, _, _, _, _⟩ := in4 g0; replace y0 := cellB hu1 (show (u0).cell? _ = _ from y0); replace y1 := cellB hu1 (show (u0).cell? _ = _ from y1); replace y2 := cellB hu1 (show (u0).cell? _ = _ from y2); replace y3 := cellB hu1 (show (u0).cell? _ = _ from y3); replace z0 := cellB hu1 (show (u0).cell? _ = _ from z0); replace z1 := cellB hu1 (show (u0).cell? _ = _ from z1); replace z2 := cellB hu1 (show (u0).cell? _ = _ from z2); replace z3 := cellB hu1 (show (u0).cell? _ = _ from z3); replace hbw := ext_trans hbw hu1))
  go_wp2
  go_ret
  exact ⟨ret_sk (by first | (rw [d4.out, d3.out, d2.out, d1.out]; done) | (rw [d4.out, d3.out, d2.out, d1.out]; rfl) | (rw [d4.out, d3.out, d2.out, d1.out]; simp; done) | (rw [d4.out, d3.out, d2.out, d1.out]; simp; rfl)), hbw⟩
set_option maxRecDepth 20000 in
set_option maxHeartbeats 4000000 in
theorem show_22_4 (t : List UInt8) (o : Int) (y z : Nd) (os : List UInt8) (ho : opOf o = some (os, 4)) (los : os.length ≤ 3) (hy : ShowC y) (ly : (textN y).length ≤ 10000000) (ny : showT y ≠ []) (oy : y.k = 22 → (opOf y.n).isSome = true) (hz : ShowC z) (lz : (textN z).length ≤ 10000000) (nz : showT z ≠ []) (oz : z.k = 22 → (opOf z.n).isSome = true) : ShowC ⟨22, t, o, [y, z]⟩ := by
  intro S b cap w hN
  have hk := KA.of hN
  obtain ⟨g, off, yb, yc, rfl, y0, y1, y2, y3, yV⟩ := KA.at hk (j := 0) (y := y) rfl
  simp only [Nat.zero_mul, Nat.add_zero] at y0 y1 y2 y3
  obtain ⟨g', off', zb, zc, e', z0, z1, z2, z3, zV⟩ := KA.at hk (j := 1) (y := z) rfl
  cases e'
  simp only [Nat.one_mul] at z0 z1 z2 z3
  have hbw := ext_alloc (Below.refl w.heap.size w) (nbx ⟨22, t, o, [y, z]⟩ (some ⟨g, off, none⟩) cap)
  have g0 := alloc_new w (nbx ⟨22, t, o, [y, z]⟩ (some ⟨g, off, none⟩) cap)
  have qy := fun u (hb : Below w.heap.size w u) => at_of y oy hy ly 4 S yb yc u (yV.below hb)
  have my := at_lenN ly 4
  have qz := fun u (hb : Below w.heap.size w u) => at_of z oz hz lz 5 S zb zc u (zV.below hb)
  have mz := at_lenN lz 5
  have qS := fun u => signOf_any o u
  simp only [soV, ho] at qS
  rw [text_opn t o ho ny nz]
  rw [show (if (4 : Nat) = 2 then 3 else 4) = 4 from rfl, show (4 + 1 : Nat) = 5 from rfl]
  obtain ⟨U, hU⟩ : ∃ U, w.alloc (nbx ⟨22, t, o, [y, z]⟩ (some ⟨g, off, none⟩) cap) = U := ⟨_, rfl⟩
  rw [hU] at hbw g0
  replace hU : w.alloc (.cells #[.int .i64 22, sk t, .int .i64 o, .slice (some ⟨g, off, none⟩) 2 cap] 24) = U := hU
  replace g0 : U.heap[w.heap.size]? = some (.cells #[.int .i64 22, sk t, .int .i64 o, .slice (some ⟨g, off, none⟩) 2 cap] 24) := g0
  obtain ⟨q0, q1, q2, q3, _, _, _, _⟩ := in4 g0
  show Calls Tryz.prog 23 #[.agg #[.int .i64 22, sk t, .int .i64 o, .slice (some ⟨g, off, none⟩) 2 cap]] w _
  obtain ⟨Ty, ey⟩ : ∃ T, atN 4 y = T := ⟨_, rfl⟩
  simp only [ey] at qy my ⊢
  obtain ⟨Tz, ez⟩ : ∃ T, atN 5 z = T := ⟨_, rfl⟩
  simp only [ez] at qz mz ⊢
  replace y0 := cellB hbw y0
  replace y1 := cellB hbw y1
  replace y2 := cellB hbw y2
  replace y3 := cellB hbw y3
  replace z0 := cellB hbw z0
  replace z1 := cellB hbw z1
  replace z2 := cellB hbw z2
  replace z3 := cellB hbw z3
  obtain ⟨A1, hadd1, d1, s1⟩ := add_ex ⟨Ty.toArray⟩ ⟨#[32]⟩ 10000004 1 (by show Ty.toArray.size ≤ _; simpa using my) (by decide) (by decide)
  replace d1 : Hid _ := d1
  obtain ⟨A2, hadd2, d2, s2⟩ := add_ex A1 ⟨os.toArray⟩ 10000005 3 s1 (by show os.toArray.size ≤ _; simpa using los) (by decide)
  replace d2 : Hid _ := d2
  obtain ⟨A3, hadd3, d3, s3⟩ := add_ex A2 ⟨#[32]⟩ 10000008 1 s2 (by decide) (by decide)
  replace d3 : Hid _ := d3
  obtain ⟨A4, hadd4, d4, s4⟩ := add_ex A3 ⟨Tz.toArray⟩ 10000009 10000004 s3 (by show Tz.toArray.size ≤ _; simpa using mz) (by decide)
  replace d4 : Hid _ := d4
  clear hk hN hy yV ey ly ny oy hz zV ez lz nz oz ho
  go_enter Tryz.func23, Tryz.ntmps23
  go_wp2_with (go_at_call 49; refine (qS _).mono ?_; rintro e us ⟨rfl, hus⟩; replace g0 := block_below hus (show (U).heap[w.heap.size]? = _ from g0); obtain ⟨q0, q1, q2, q3, _, _, _, _⟩ := in4 g0; replace y0 := cellB hus (show (U).cell? _ = _ from y0); replace y1 := cellB hus (show (U).cell? _ = _ from y1); replace y2 := cellB hus (show (U).cell? _ = _ from y2); replace y3 := cellB hus (show (U).cell? _ = _ from y3); replace z0 := cellB hus (show (U).cell? _ = _ from z0); replace z1 := cellB hus (show (U).cell? _ = _ from z1); replace z2 := cellB hus (show (U).cell? _ = _ from z2); replace z3 := cellB hus (show (U).cell? _ = _ from z3); replace hbw := ext_trans hbw hus)
  go_region_held3 (fun u => u.cell? ⟨w.heap.size, 3, none⟩ = some (.slice (some ⟨g, off, none⟩) 2 cap) ∧ u.cell? ⟨g, off, none⟩ = some (.int .i64 y.k) ∧ u.cell? ⟨g, off + 1, none⟩ = some (sk y.t) ∧ u.cell? ⟨g, off + 2, none⟩ = some (.int .i64 y.n) ∧ u.cell? ⟨g, off + 3, none⟩ = some (.slice yb y.kids.length yc) ∧ u.cell? ⟨g, off + 4, none⟩ = some (.int .i64 z.k) ∧ u.cell? ⟨g, off + 4 + 1, none⟩ = some (sk z.t) ∧ u.cell? ⟨g, off + 4 + 2, none⟩ = some (.int .i64 z.n) ∧ u.cell? ⟨g, off + 4 + 3, none⟩ = some (.slice zb z.kids.length zc)) (go_keep) (first | (go_at_call_of 56 y.t; refine (qy _ hbw.drew).mono ?_; rintro e u0 ⟨rfl, hu0⟩; replace g0 := block_below hu0 (show (us.drew).heap[w.heap.size]? = _ from g0); obtain ⟨q0, q1, q2, q3, _, _, _, _⟩ := in4 g0; replace y0 := cellB hu0 (show (us.drew).cell? _ = _ from y0); replace y1 := cellB hu0 (show (us.drew).cell? _ = _ from y1); replace y2 := cellB hu0 (show (us.drew).cell? _ = _ from y2); replace y3 := cellB hu0 (show (us.drew).cell? _ = _ from y3); replace z0 := cellB hu0 (show (us.drew).cell? _ = _ from z0); replace z1 := cellB hu0 (show (us.drew).cell? _ = _ from z1); replace z2 := cellB hu0 (show (us.drew).cell? _ = _ from z2); replace z3 := cellB hu0 (show (us.drew).cell? _ = _ from z3); replace hbw := ext_trans hbw.drew hu0) | (go_at_call_of 56 z.t; refine (qz _ hbw).mono ?_; rintro e u1 ⟨rfl, hu1⟩; replace g0 := block_below hu1 (show (u0).heap[w.heap.size]? = _ from g0); obtain ⟨q0, q1, q2, q3, _, _, _, _⟩ := in4 g0; replace y0 := cellB hu1 (show (u0).cell? _ = _ from y0); replace y1 := cellB hu1 (show (u0).cell? _ = _ from y1); replace y2 := cellB hu1 (show (u0).cell? _ = _ from y2); replace y3 := cellB hu1 (show (u0).cell? _ = _ from y3); replace z0 := cellB hu1 (show (u0).cell? _ = _ from z0); replace z1 := cellB hu1 (show (u0).cell? _ = _ from z1); replace z2 := cellB hu1 (show (u0).cell? _ = _ from z2); replace z3 := cellB hu1 (show (u0).cell? _ = _ from z3); replace hbw := ext_trans hbw hu1))
  go_wp2
  go_ret
  exact ⟨ret_sk (by first | (rw [d4.out, d3.out, d2.out, d1.out]; done) | (rw [d4.out, d3.out, d2.out, d1.out]; rfl) | (rw [d4.out, d3.out, d2.out, d1.out]; simp; done) | (rw [d4.out, d3.out, d2.out, d1.out]; simp; rfl)), hbw⟩
set_option maxRecDepth 20000 in
set_option maxHeartbeats 4000000 in
theorem show_22_5 (t : List UInt8) (o : Int) (y z : Nd) (os : List UInt8) (ho : opOf o = some (os, 5)) (los : os.length ≤ 3) (hy : ShowC y) (ly : (textN y).length ≤ 10000000) (ny : showT y ≠ []) (oy : y.k = 22 → (opOf y.n).isSome = true) (hz : ShowC z) (lz : (textN z).length ≤ 10000000) (nz : showT z ≠ []) (oz : z.k = 22 → (opOf z.n).isSome = true) : ShowC ⟨22, t, o, [y, z]⟩ := by
  intro S b cap w hN
  have hk := KA.of hN
  obtain ⟨g, off, yb, yc, rfl, y0, y1, y2, y3, yV⟩ := KA.at hk (j := 0) (y := y) rfl
  simp only [Nat.zero_mul, Nat.add_zero] at y0 y1 y2 y3
  obtain ⟨g', off', zb, zc, e', z0, z1, z2, z3, zV⟩ := KA.at hk (j := 1) (y := z) rfl
  cases e'
  simp only [Nat.one_mul] at z0 z1 z2 z3
  have hbw := ext_alloc (Below.refl w.heap.size w) (nbx ⟨22, t, o, [y, z]⟩ (some ⟨g, off, none⟩) cap)
  have g0 := alloc_new w (nbx ⟨22, t, o, [y, z]⟩ (some ⟨g, off, none⟩) cap)
  have qy := fun u (hb : Below w.heap.size w u) => at_of y oy hy ly 5 S yb yc u (yV.below hb)
  have my := at_lenN ly 5
  have qz := fun u (hb : Below w.heap.size w u) => at_of z oz hz lz 6 S zb zc u (zV.below hb)
  have mz := at_lenN lz 6
  have qS := fun u => signOf_any o u
  simp only [soV, ho] at qS
  rw [text_opn t o ho ny nz]
  rw [show (if (5 : Nat) = 2 then 3 else 5) = 5 from rfl, show (5 + 1 : Nat) = 6 from rfl]
  obtain ⟨U, hU⟩ : ∃ U, w.alloc (nbx ⟨22, t, o, [y, z]⟩ (some ⟨g, off, none⟩) cap) = U := ⟨_, rfl⟩
  rw [hU] at hbw g0
  replace hU : w.alloc (.cells #[.int .i64 22, sk t, .int .i64 o, .slice (some ⟨g, off, none⟩) 2 cap] 24) = U := hU
  replace g0 : U.heap[w.heap.size]? = some (.cells #[.int .i64 22, sk t, .int .i64 o, .slice (some ⟨g, off, none⟩) 2 cap] 24) := g0
  obtain ⟨q0, q1, q2, q3, _, _, _, _⟩ := in4 g0
  show Calls Tryz.prog 23 #[.agg #[.int .i64 22, sk t, .int .i64 o, .slice (some ⟨g, off, none⟩) 2 cap]] w _
  obtain ⟨Ty, ey⟩ : ∃ T, atN 5 y = T := ⟨_, rfl⟩
  simp only [ey] at qy my ⊢
  obtain ⟨Tz, ez⟩ : ∃ T, atN 6 z = T := ⟨_, rfl⟩
  simp only [ez] at qz mz ⊢
  replace y0 := cellB hbw y0
  replace y1 := cellB hbw y1
  replace y2 := cellB hbw y2
  replace y3 := cellB hbw y3
  replace z0 := cellB hbw z0
  replace z1 := cellB hbw z1
  replace z2 := cellB hbw z2
  replace z3 := cellB hbw z3
  obtain ⟨A1, hadd1, d1, s1⟩ := add_ex ⟨Ty.toArray⟩ ⟨#[32]⟩ 10000004 1 (by show Ty.toArray.size ≤ _; simpa using my) (by decide) (by decide)
  replace d1 : Hid _ := d1
  obtain ⟨A2, hadd2, d2, s2⟩ := add_ex A1 ⟨os.toArray⟩ 10000005 3 s1 (by show os.toArray.size ≤ _; simpa using los) (by decide)
  replace d2 : Hid _ := d2
  obtain ⟨A3, hadd3, d3, s3⟩ := add_ex A2 ⟨#[32]⟩ 10000008 1 s2 (by decide) (by decide)
  replace d3 : Hid _ := d3
  obtain ⟨A4, hadd4, d4, s4⟩ := add_ex A3 ⟨Tz.toArray⟩ 10000009 10000004 s3 (by show Tz.toArray.size ≤ _; simpa using mz) (by decide)
  replace d4 : Hid _ := d4
  clear hk hN hy yV ey ly ny oy hz zV ez lz nz oz ho
  go_enter Tryz.func23, Tryz.ntmps23
  go_wp2_with (go_at_call 49; refine (qS _).mono ?_; rintro e us ⟨rfl, hus⟩; replace g0 := block_below hus (show (U).heap[w.heap.size]? = _ from g0); obtain ⟨q0, q1, q2, q3, _, _, _, _⟩ := in4 g0; replace y0 := cellB hus (show (U).cell? _ = _ from y0); replace y1 := cellB hus (show (U).cell? _ = _ from y1); replace y2 := cellB hus (show (U).cell? _ = _ from y2); replace y3 := cellB hus (show (U).cell? _ = _ from y3); replace z0 := cellB hus (show (U).cell? _ = _ from z0); replace z1 := cellB hus (show (U).cell? _ = _ from z1); replace z2 := cellB hus (show (U).cell? _ = _ from z2); replace z3 := cellB hus (show (U).cell? _ = _ from z3); replace hbw := ext_trans hbw hus)
  go_region_held3 (fun u => u.cell? ⟨w.heap.size, 3, none⟩ = some (.slice (some ⟨g, off, none⟩) 2 cap) ∧ u.cell? ⟨g, off, none⟩ = some (.int .i64 y.k) ∧ u.cell? ⟨g, off + 1, none⟩ = some (sk y.t) ∧ u.cell? ⟨g, off + 2, none⟩ = some (.int .i64 y.n) ∧ u.cell? ⟨g, off + 3, none⟩ = some (.slice yb y.kids.length yc) ∧ u.cell? ⟨g, off + 4, none⟩ = some (.int .i64 z.k) ∧ u.cell? ⟨g, off + 4 + 1, none⟩ = some (sk z.t) ∧ u.cell? ⟨g, off + 4 + 2, none⟩ = some (.int .i64 z.n) ∧ u.cell? ⟨g, off + 4 + 3, none⟩ = some (.slice zb z.kids.length zc)) (go_keep) (first | (go_at_call_of 56 y.t; refine (qy _ hbw.drew).mono ?_; rintro e u0 ⟨rfl, hu0⟩; replace g0 := block_below hu0 (show (us.drew).heap[w.heap.size]? = _ from g0); obtain ⟨q0, q1, q2, q3, _, _, _, _⟩ := in4 g0; replace y0 := cellB hu0 (show (us.drew).cell? _ = _ from y0); replace y1 := cellB hu0 (show (us.drew).cell? _ = _ from y1); replace y2 := cellB hu0 (show (us.drew).cell? _ = _ from y2); replace y3 := cellB hu0 (show (us.drew).cell? _ = _ from y3); replace z0 := cellB hu0 (show (us.drew).cell? _ = _ from z0); replace z1 := cellB hu0 (show (us.drew).cell? _ = _ from z1); replace z2 := cellB hu0 (show (us.drew).cell? _ = _ from z2); replace z3 := cellB hu0 (show (us.drew).cell? _ = _ from z3); replace hbw := ext_trans hbw.drew hu0) | (go_at_call_of 56 z.t; refine (qz _ hbw).mono ?_; rintro e u1 ⟨rfl, hu1⟩; replace g0 := block_below hu1 (show (u0).heap[w.heap.size]? = _ from g0); obtain ⟨q0, q1, q2, q3, _, _, _, _⟩ := in4 g0; replace y0 := cellB hu1 (show (u0).cell? _ = _ from y0); replace y1 := cellB hu1 (show (u0).cell? _ = _ from y1); replace y2 := cellB hu1 (show (u0).cell? _ = _ from y2); replace y3 := cellB hu1 (show (u0).cell? _ = _ from y3); replace z0 := cellB hu1 (show (u0).cell? _ = _ from z0); replace z1 := cellB hu1 (show (u0).cell? _ = _ from z1); replace z2 := cellB hu1 (show (u0).cell? _ = _ from z2); replace z3 := cellB hu1 (show (u0).cell? _ = _ from z3); replace hbw := ext_trans hbw hu1))
  go_wp2
  go_ret
  exact ⟨ret_sk (by first | (rw [d4.out, d3.out, d2.out, d1.out]; done) | (rw [d4.out, d3.out, d2.out, d1.out]; rfl) | (rw [d4.out, d3.out, d2.out, d1.out]; simp; done) | (rw [d4.out, d3.out, d2.out, d1.out]; simp; rfl)), hbw⟩
end Go.Proofs.YtbdkiimggggndaaGreatDoor
