/- The law ValueOrders, walked over whatever its calls of Op answer. -/
import Derived.Test.YtcfkkmelenjjoaaDoorOpA
namespace Go.Proofs.YtcfkkmelenjjoaaDoor
open Go.RowKit
open Go

abbrev E0 : ByteArray := ⟨#[]⟩

theorem r_at (w : World) (k n : Int) (s : ByteArray) (wx : World) (hb : Below (w.alloc (box k n s)).heap.size (w.alloc (box k n s)) wx) :
    wx.cell? ⟨w.heap.size, 0, none⟩ = some (.int .i64 k) ∧ wx.cell? ⟨w.heap.size, 1, none⟩ = some (.int .i64 n) :=
  ⟨cell_later hb (by rw [World.cell?_alloc_at _ _ _ _ rfl]; rfl), cell_later hb (by rw [World.cell?_alloc_at _ _ _ _ rfl]; rfl)⟩
theorem Boxes.alloc {b : Nat} {k n k' n' k2 n2 : Int} {s s' s2 : ByteArray} {w : World} (h : Boxes b k n k' n' k2 n2 s s' s2 w) (o : Obj) : Boxes b k n k' n' k2 n2 s s' s2 (w.alloc o) := h.on (ext_alloc (Below.refl _ _) o)

set_option maxHeartbeats 1600000 in
theorem orders_err2 (ka na kb nb kc nc : Int) (sa sb sc : ByteArray) (g k7 n7 : Int) (h1 : (∀ w, Calls Tryd.prog 13 #[.int .i64 8, val ka na sa, val kb nb sb] w fun e w' => e = .returned (.tuple #[val 0 0 E0, .int .i64 2]) ∧ Below w.heap.size w w')) (h2 : (∀ w, Calls Tryd.prog 13 #[.int .i64 8, val kb nb sb, val ka na sa] w fun e w' => e = .returned (.tuple #[val 0 0 E0, .int .i64 2]) ∧ Below w.heap.size w w')) (h3 : (∀ w, Calls Tryd.prog 13 #[.int .i64 7, val ka na sa, val kb nb sb] w fun e w' => e = .returned (.tuple #[val k7 n7 E0, .int .i64 g]) ∧ Below w.heap.size w w')) (w : World) :
    Calls Tryd.prog 6 #[val ka na sa, val kb nb sb, val kc nc sc] w fun e w' => e = .returned (.bool true) ∧ Below w.heap.size w w' := by
  have B0 := boxes0 w ka na kb nb kc nc sa sb sc
  go_enter Tryd.func6, Tryd.ntmps6
  go_wp2_with (go_at_call 13; refine (h1 _).mono ?_; rintro e w1 ⟨rfl, hb1⟩; refine Hid.out ?_)
  refine Lib.hid ?_
  have B1 := B0.on hb1
  obtain ⟨a0, a1, a2, b0, b1, b2, c0, c1, c2, f0, f1, f2⟩ := id B1
  have z0 := World.block_lt_of_cell? _ _ a0
  have z1 := World.block_lt_of_cell? _ _ b0
  have z2 := World.block_lt_of_cell? _ _ c0
  dsimp only at z0 z1 z2
  go_wp2_with (go_at_call 13; refine (h2 _).mono ?_; rintro e w2 ⟨rfl, hb2⟩; refine Hid.out ?_)
  refine Lib.hid ?_
  clear a0 a1 a2 b0 b1 b2 c0 c1 c2 f0 f1 f2
  have B2 := (B1.alloc _).on hb2
  obtain ⟨p1, q1⟩ := r_at _ _ _ _ _ hb2
  obtain ⟨a0, a1, a2, b0, b1, b2, c0, c1, c2, f0, f1, f2⟩ := id B2
  have z0 := World.block_lt_of_cell? _ _ a0
  have z1 := World.block_lt_of_cell? _ _ b0
  have z2 := World.block_lt_of_cell? _ _ c0
  dsimp only at z0 z1 z2
  have y1 := World.block_lt_of_cell? _ _ p1
  dsimp only at y1
  go_wp2_with (go_at_call 13; refine (h3 _).mono ?_; rintro e w3 ⟨rfl, hb3⟩; refine Hid.out ?_)
  refine Lib.hid ?_
  clear a0 a1 a2 b0 b1 b2 c0 c1 c2 f0 f1 f2
  have B3 := (B2.alloc _).on hb3
  obtain ⟨p2, q2⟩ := r_at _ _ _ _ _ hb3
  replace p1 := cell_later hb3 (cell_later (ext_alloc (Below.refl _ _) _) p1)
  replace q1 := cell_later hb3 (cell_later (ext_alloc (Below.refl _ _) _) q1)
  obtain ⟨a0, a1, a2, b0, b1, b2, c0, c1, c2, f0, f1, f2⟩ := id B3
  have z0 := World.block_lt_of_cell? _ _ a0
  have z1 := World.block_lt_of_cell? _ _ b0
  have z2 := World.block_lt_of_cell? _ _ c0
  dsimp only at z0 z1 z2
  have y1 := World.block_lt_of_cell? _ _ p1
  dsimp only at y1
  have y2 := World.block_lt_of_cell? _ _ p2
  dsimp only at y2
  go_wp2
  all_goals
    go_ret
    exact ⟨rfl, ext_alloc (ext_trans (ext_alloc (ext_trans (ext_alloc (ext_trans (below3 w _ _ _) hb1) _) hb2) _) hb3) _⟩

set_option maxHeartbeats 1600000 in
theorem orders_err3 (ka na kb nb kc nc : Int) (sa sb sc : ByteArray) (g k7 n7 : Int) (h1 : (∀ w, Calls Tryd.prog 13 #[.int .i64 8, val ka na sa, val kb nb sb] w fun e w' => e = .returned (.tuple #[val 0 0 E0, .int .i64 3]) ∧ Below w.heap.size w w')) (h2 : (∀ w, Calls Tryd.prog 13 #[.int .i64 8, val kb nb sb, val ka na sa] w fun e w' => e = .returned (.tuple #[val 0 0 E0, .int .i64 3]) ∧ Below w.heap.size w w')) (h3 : (∀ w, Calls Tryd.prog 13 #[.int .i64 7, val ka na sa, val kb nb sb] w fun e w' => e = .returned (.tuple #[val k7 n7 E0, .int .i64 g]) ∧ Below w.heap.size w w')) (w : World) :
    Calls Tryd.prog 6 #[val ka na sa, val kb nb sb, val kc nc sc] w fun e w' => e = .returned (.bool true) ∧ Below w.heap.size w w' := by
  have B0 := boxes0 w ka na kb nb kc nc sa sb sc
  go_enter Tryd.func6, Tryd.ntmps6
  go_wp2_with (go_at_call 13; refine (h1 _).mono ?_; rintro e w1 ⟨rfl, hb1⟩; refine Hid.out ?_)
  refine Lib.hid ?_
  have B1 := B0.on hb1
  obtain ⟨a0, a1, a2, b0, b1, b2, c0, c1, c2, f0, f1, f2⟩ := id B1
  have z0 := World.block_lt_of_cell? _ _ a0
  have z1 := World.block_lt_of_cell? _ _ b0
  have z2 := World.block_lt_of_cell? _ _ c0
  dsimp only at z0 z1 z2
  go_wp2_with (go_at_call 13; refine (h2 _).mono ?_; rintro e w2 ⟨rfl, hb2⟩; refine Hid.out ?_)
  refine Lib.hid ?_
  clear a0 a1 a2 b0 b1 b2 c0 c1 c2 f0 f1 f2
  have B2 := (B1.alloc _).on hb2
  obtain ⟨p1, q1⟩ := r_at _ _ _ _ _ hb2
  obtain ⟨a0, a1, a2, b0, b1, b2, c0, c1, c2, f0, f1, f2⟩ := id B2
  have z0 := World.block_lt_of_cell? _ _ a0
  have z1 := World.block_lt_of_cell? _ _ b0
  have z2 := World.block_lt_of_cell? _ _ c0
  dsimp only at z0 z1 z2
  have y1 := World.block_lt_of_cell? _ _ p1
  dsimp only at y1
  go_wp2_with (go_at_call 13; refine (h3 _).mono ?_; rintro e w3 ⟨rfl, hb3⟩; refine Hid.out ?_)
  refine Lib.hid ?_
  clear a0 a1 a2 b0 b1 b2 c0 c1 c2 f0 f1 f2
  have B3 := (B2.alloc _).on hb3
  obtain ⟨p2, q2⟩ := r_at _ _ _ _ _ hb3
  replace p1 := cell_later hb3 (cell_later (ext_alloc (Below.refl _ _) _) p1)
  replace q1 := cell_later hb3 (cell_later (ext_alloc (Below.refl _ _) _) q1)
  obtain ⟨a0, a1, a2, b0, b1, b2, c0, c1, c2, f0, f1, f2⟩ := id B3
  have z0 := World.block_lt_of_cell? _ _ a0
  have z1 := World.block_lt_of_cell? _ _ b0
  have z2 := World.block_lt_of_cell? _ _ c0
  dsimp only at z0 z1 z2
  have y1 := World.block_lt_of_cell? _ _ p1
  dsimp only at y1
  have y2 := World.block_lt_of_cell? _ _ p2
  dsimp only at y2
  go_wp2
  all_goals
    go_ret
    exact ⟨rfl, ext_alloc (ext_trans (ext_alloc (ext_trans (ext_alloc (ext_trans (below3 w _ _ _) hb1) _) hb2) _) hb3) _⟩

set_option maxHeartbeats 1600000 in
theorem orders_l_h2 (ka na kb nb kc nc : Int) (sa sb sc : ByteArray) (k4 x4 k5 x5 i : Int) (h1 : (∀ w, Calls Tryd.prog 13 #[.int .i64 8, val ka na sa, val kb nb sb] w fun e w' => e = .returned (.tuple #[val 1 1 E0, .int .i64 0]) ∧ Below w.heap.size w w')) (h2 : (∀ w, Calls Tryd.prog 13 #[.int .i64 8, val kb nb sb, val ka na sa] w fun e w' => e = .returned (.tuple #[val 1 0 E0, .int .i64 0]) ∧ Below w.heap.size w w')) (h3 : (∀ w, Calls Tryd.prog 13 #[.int .i64 7, val ka na sa, val kb nb sb] w fun e w' => e = .returned (.tuple #[val 1 0 E0, .int .i64 0]) ∧ Below w.heap.size w w')) (h4 : (∀ w, Calls Tryd.prog 13 #[.int .i64 8, val kb nb sb, val kc nc sc] w fun e w' => e = .returned (.tuple #[val k4 x4 E0, .int .i64 2]) ∧ Below w.heap.size w w')) (h5 : (∀ w, Calls Tryd.prog 13 #[.int .i64 8, val ka na sa, val kc nc sc] w fun e w' => e = .returned (.tuple #[val k5 x5 E0, .int .i64 i]) ∧ Below w.heap.size w w')) (h6 : (∀ w, Calls Tryd.prog 13 #[.int .i64 9, val ka na sa, val kb nb sb] w fun e w' => e = .returned (.tuple #[val 1 1 E0, .int .i64 0]) ∧ Below w.heap.size w w')) (w : World) :
    Calls Tryd.prog 6 #[val ka na sa, val kb nb sb, val kc nc sc] w fun e w' => e = .returned (.bool true) ∧ Below w.heap.size w w' := by
  have B0 := boxes0 w ka na kb nb kc nc sa sb sc
  go_enter Tryd.func6, Tryd.ntmps6
  go_wp2_with (go_at_call 13; refine (h1 _).mono ?_; rintro e w1 ⟨rfl, hb1⟩; refine Hid.out ?_)
  refine Lib.hid ?_
  have B1 := B0.on hb1
  obtain ⟨a0, a1, a2, b0, b1, b2, c0, c1, c2, f0, f1, f2⟩ := id B1
  have z0 := World.block_lt_of_cell? _ _ a0
  have z1 := World.block_lt_of_cell? _ _ b0
  have z2 := World.block_lt_of_cell? _ _ c0
  dsimp only at z0 z1 z2
  go_wp2_with (go_at_call 13; refine (h2 _).mono ?_; rintro e w2 ⟨rfl, hb2⟩; refine Hid.out ?_)
  refine Lib.hid ?_
  clear a0 a1 a2 b0 b1 b2 c0 c1 c2 f0 f1 f2
  have B2 := (B1.alloc _).on hb2
  obtain ⟨p1, q1⟩ := r_at _ _ _ _ _ hb2
  obtain ⟨a0, a1, a2, b0, b1, b2, c0, c1, c2, f0, f1, f2⟩ := id B2
  have z0 := World.block_lt_of_cell? _ _ a0
  have z1 := World.block_lt_of_cell? _ _ b0
  have z2 := World.block_lt_of_cell? _ _ c0
  dsimp only at z0 z1 z2
  have y1 := World.block_lt_of_cell? _ _ p1
  dsimp only at y1
  go_wp2_with (go_at_call 13; refine (h3 _).mono ?_; rintro e w3 ⟨rfl, hb3⟩; refine Hid.out ?_)
  refine Lib.hid ?_
  clear a0 a1 a2 b0 b1 b2 c0 c1 c2 f0 f1 f2
  have B3 := (B2.alloc _).on hb3
  obtain ⟨p2, q2⟩ := r_at _ _ _ _ _ hb3
  replace p1 := cell_later hb3 (cell_later (ext_alloc (Below.refl _ _) _) p1)
  replace q1 := cell_later hb3 (cell_later (ext_alloc (Below.refl _ _) _) q1)
  obtain ⟨a0, a1, a2, b0, b1, b2, c0, c1, c2, f0, f1, f2⟩ := id B3
  have z0 := World.block_lt_of_cell? _ _ a0
  have z1 := World.block_lt_of_cell? _ _ b0
  have z2 := World.block_lt_of_cell? _ _ c0
  dsimp only at z0 z1 z2
  have y1 := World.block_lt_of_cell? _ _ p1
  dsimp only at y1
  have y2 := World.block_lt_of_cell? _ _ p2
  dsimp only at y2
  go_wp2_with (go_at_call 13; refine (h4 _).mono ?_; rintro e w4 ⟨rfl, hb4⟩; refine Hid.out ?_)
  refine Lib.hid ?_
  clear a0 a1 a2 b0 b1 b2 c0 c1 c2 f0 f1 f2
  have B4 := (B3.alloc _).on hb4
  obtain ⟨p3, q3⟩ := r_at _ _ _ _ _ hb4
  replace p1 := cell_later hb4 (cell_later (ext_alloc (Below.refl _ _) _) p1)
  replace q1 := cell_later hb4 (cell_later (ext_alloc (Below.refl _ _) _) q1)
  replace p2 := cell_later hb4 (cell_later (ext_alloc (Below.refl _ _) _) p2)
  replace q2 := cell_later hb4 (cell_later (ext_alloc (Below.refl _ _) _) q2)
  obtain ⟨a0, a1, a2, b0, b1, b2, c0, c1, c2, f0, f1, f2⟩ := id B4
  have z0 := World.block_lt_of_cell? _ _ a0
  have z1 := World.block_lt_of_cell? _ _ b0
  have z2 := World.block_lt_of_cell? _ _ c0
  dsimp only at z0 z1 z2
  have y1 := World.block_lt_of_cell? _ _ p1
  dsimp only at y1
  have y2 := World.block_lt_of_cell? _ _ p2
  dsimp only at y2
  have y3 := World.block_lt_of_cell? _ _ p3
  dsimp only at y3
  go_wp2_with (go_at_call 13; refine (h5 _).mono ?_; rintro e w5 ⟨rfl, hb5⟩; refine Hid.out ?_)
  refine Lib.hid ?_
  clear a0 a1 a2 b0 b1 b2 c0 c1 c2 f0 f1 f2
  have B5 := (B4.alloc _).on hb5
  obtain ⟨p4, q4⟩ := r_at _ _ _ _ _ hb5
  replace p1 := cell_later hb5 (cell_later (ext_alloc (Below.refl _ _) _) p1)
  replace q1 := cell_later hb5 (cell_later (ext_alloc (Below.refl _ _) _) q1)
  replace p2 := cell_later hb5 (cell_later (ext_alloc (Below.refl _ _) _) p2)
  replace q2 := cell_later hb5 (cell_later (ext_alloc (Below.refl _ _) _) q2)
  replace p3 := cell_later hb5 (cell_later (ext_alloc (Below.refl _ _) _) p3)
  replace q3 := cell_later hb5 (cell_later (ext_alloc (Below.refl _ _) _) q3)
  obtain ⟨a0, a1, a2, b0, b1, b2, c0, c1, c2, f0, f1, f2⟩ := id B5
  have z0 := World.block_lt_of_cell? _ _ a0
  have z1 := World.block_lt_of_cell? _ _ b0
  have z2 := World.block_lt_of_cell? _ _ c0
  dsimp only at z0 z1 z2
  have y1 := World.block_lt_of_cell? _ _ p1
  dsimp only at y1
  have y2 := World.block_lt_of_cell? _ _ p2
  dsimp only at y2
  have y3 := World.block_lt_of_cell? _ _ p3
  dsimp only at y3
  have y4 := World.block_lt_of_cell? _ _ p4
  dsimp only at y4
  go_wp2_with (go_at_call 13; refine (h6 _).mono ?_; rintro e w6 ⟨rfl, hb6⟩; refine Hid.out ?_)
  refine Lib.hid ?_
  clear a0 a1 a2 b0 b1 b2 c0 c1 c2 f0 f1 f2
  have B6 := (B5.alloc _).on hb6
  obtain ⟨p5, q5⟩ := r_at _ _ _ _ _ hb6
  replace p1 := cell_later hb6 (cell_later (ext_alloc (Below.refl _ _) _) p1)
  replace q1 := cell_later hb6 (cell_later (ext_alloc (Below.refl _ _) _) q1)
  replace p2 := cell_later hb6 (cell_later (ext_alloc (Below.refl _ _) _) p2)
  replace q2 := cell_later hb6 (cell_later (ext_alloc (Below.refl _ _) _) q2)
  replace p3 := cell_later hb6 (cell_later (ext_alloc (Below.refl _ _) _) p3)
  replace q3 := cell_later hb6 (cell_later (ext_alloc (Below.refl _ _) _) q3)
  replace p4 := cell_later hb6 (cell_later (ext_alloc (Below.refl _ _) _) p4)
  replace q4 := cell_later hb6 (cell_later (ext_alloc (Below.refl _ _) _) q4)
  obtain ⟨a0, a1, a2, b0, b1, b2, c0, c1, c2, f0, f1, f2⟩ := id B6
  have z0 := World.block_lt_of_cell? _ _ a0
  have z1 := World.block_lt_of_cell? _ _ b0
  have z2 := World.block_lt_of_cell? _ _ c0
  dsimp only at z0 z1 z2
  have y1 := World.block_lt_of_cell? _ _ p1
  dsimp only at y1
  have y2 := World.block_lt_of_cell? _ _ p2
  dsimp only at y2
  have y3 := World.block_lt_of_cell? _ _ p3
  dsimp only at y3
  have y4 := World.block_lt_of_cell? _ _ p4
  dsimp only at y4
  have y5 := World.block_lt_of_cell? _ _ p5
  dsimp only at y5
  go_wp2
  all_goals
    go_ret
    exact ⟨rfl, ext_alloc (ext_trans (ext_alloc (ext_trans (ext_alloc (ext_trans (ext_alloc (ext_trans (ext_alloc (ext_trans (ext_alloc (ext_trans (below3 w _ _ _) hb1) _) hb2) _) hb3) _) hb4) _) hb5) _) hb6) _⟩

set_option maxHeartbeats 1600000 in
theorem orders_l_h3 (ka na kb nb kc nc : Int) (sa sb sc : ByteArray) (k4 x4 k5 x5 i : Int) (h1 : (∀ w, Calls Tryd.prog 13 #[.int .i64 8, val ka na sa, val kb nb sb] w fun e w' => e = .returned (.tuple #[val 1 1 E0, .int .i64 0]) ∧ Below w.heap.size w w')) (h2 : (∀ w, Calls Tryd.prog 13 #[.int .i64 8, val kb nb sb, val ka na sa] w fun e w' => e = .returned (.tuple #[val 1 0 E0, .int .i64 0]) ∧ Below w.heap.size w w')) (h3 : (∀ w, Calls Tryd.prog 13 #[.int .i64 7, val ka na sa, val kb nb sb] w fun e w' => e = .returned (.tuple #[val 1 0 E0, .int .i64 0]) ∧ Below w.heap.size w w')) (h4 : (∀ w, Calls Tryd.prog 13 #[.int .i64 8, val kb nb sb, val kc nc sc] w fun e w' => e = .returned (.tuple #[val k4 x4 E0, .int .i64 3]) ∧ Below w.heap.size w w')) (h5 : (∀ w, Calls Tryd.prog 13 #[.int .i64 8, val ka na sa, val kc nc sc] w fun e w' => e = .returned (.tuple #[val k5 x5 E0, .int .i64 i]) ∧ Below w.heap.size w w')) (h6 : (∀ w, Calls Tryd.prog 13 #[.int .i64 9, val ka na sa, val kb nb sb] w fun e w' => e = .returned (.tuple #[val 1 1 E0, .int .i64 0]) ∧ Below w.heap.size w w')) (w : World) :
    Calls Tryd.prog 6 #[val ka na sa, val kb nb sb, val kc nc sc] w fun e w' => e = .returned (.bool true) ∧ Below w.heap.size w w' := by
  have B0 := boxes0 w ka na kb nb kc nc sa sb sc
  go_enter Tryd.func6, Tryd.ntmps6
  go_wp2_with (go_at_call 13; refine (h1 _).mono ?_; rintro e w1 ⟨rfl, hb1⟩; refine Hid.out ?_)
  refine Lib.hid ?_
  have B1 := B0.on hb1
  obtain ⟨a0, a1, a2, b0, b1, b2, c0, c1, c2, f0, f1, f2⟩ := id B1
  have z0 := World.block_lt_of_cell? _ _ a0
  have z1 := World.block_lt_of_cell? _ _ b0
  have z2 := World.block_lt_of_cell? _ _ c0
  dsimp only at z0 z1 z2
  go_wp2_with (go_at_call 13; refine (h2 _).mono ?_; rintro e w2 ⟨rfl, hb2⟩; refine Hid.out ?_)
  refine Lib.hid ?_
  clear a0 a1 a2 b0 b1 b2 c0 c1 c2 f0 f1 f2
  have B2 := (B1.alloc _).on hb2
  obtain ⟨p1, q1⟩ := r_at _ _ _ _ _ hb2
  obtain ⟨a0, a1, a2, b0, b1, b2, c0, c1, c2, f0, f1, f2⟩ := id B2
  have z0 := World.block_lt_of_cell? _ _ a0
  have z1 := World.block_lt_of_cell? _ _ b0
  have z2 := World.block_lt_of_cell? _ _ c0
  dsimp only at z0 z1 z2
  have y1 := World.block_lt_of_cell? _ _ p1
  dsimp only at y1
  go_wp2_with (go_at_call 13; refine (h3 _).mono ?_; rintro e w3 ⟨rfl, hb3⟩; refine Hid.out ?_)
  refine Lib.hid ?_
  clear a0 a1 a2 b0 b1 b2 c0 c1 c2 f0 f1 f2
  have B3 := (B2.alloc _).on hb3
  obtain ⟨p2, q2⟩ := r_at _ _ _ _ _ hb3
  replace p1 := cell_later hb3 (cell_later (ext_alloc (Below.refl _ _) _) p1)
  replace q1 := cell_later hb3 (cell_later (ext_alloc (Below.refl _ _) _) q1)
  obtain ⟨a0, a1, a2, b0, b1, b2, c0, c1, c2, f0, f1, f2⟩ := id B3
  have z0 := World.block_lt_of_cell? _ _ a0
  have z1 := World.block_lt_of_cell? _ _ b0
  have z2 := World.block_lt_of_cell? _ _ c0
  dsimp only at z0 z1 z2
  have y1 := World.block_lt_of_cell? _ _ p1
  dsimp only at y1
  have y2 := World.block_lt_of_cell? _ _ p2
  dsimp only at y2
  go_wp2_with (go_at_call 13; refine (h4 _).mono ?_; rintro e w4 ⟨rfl, hb4⟩; refine Hid.out ?_)
  refine Lib.hid ?_
  clear a0 a1 a2 b0 b1 b2 c0 c1 c2 f0 f1 f2
  have B4 := (B3.alloc _).on hb4
  obtain ⟨p3, q3⟩ := r_at _ _ _ _ _ hb4
  replace p1 := cell_later hb4 (cell_later (ext_alloc (Below.refl _ _) _) p1)
  replace q1 := cell_later hb4 (cell_later (ext_alloc (Below.refl _ _) _) q1)
  replace p2 := cell_later hb4 (cell_later (ext_alloc (Below.refl _ _) _) p2)
  replace q2 := cell_later hb4 (cell_later (ext_alloc (Below.refl _ _) _) q2)
  obtain ⟨a0, a1, a2, b0, b1, b2, c0, c1, c2, f0, f1, f2⟩ := id B4
  have z0 := World.block_lt_of_cell? _ _ a0
  have z1 := World.block_lt_of_cell? _ _ b0
  have z2 := World.block_lt_of_cell? _ _ c0
  dsimp only at z0 z1 z2
  have y1 := World.block_lt_of_cell? _ _ p1
  dsimp only at y1
  have y2 := World.block_lt_of_cell? _ _ p2
  dsimp only at y2
  have y3 := World.block_lt_of_cell? _ _ p3
  dsimp only at y3
  go_wp2_with (go_at_call 13; refine (h5 _).mono ?_; rintro e w5 ⟨rfl, hb5⟩; refine Hid.out ?_)
  refine Lib.hid ?_
  clear a0 a1 a2 b0 b1 b2 c0 c1 c2 f0 f1 f2
  have B5 := (B4.alloc _).on hb5
  obtain ⟨p4, q4⟩ := r_at _ _ _ _ _ hb5
  replace p1 := cell_later hb5 (cell_later (ext_alloc (Below.refl _ _) _) p1)
  replace q1 := cell_later hb5 (cell_later (ext_alloc (Below.refl _ _) _) q1)
  replace p2 := cell_later hb5 (cell_later (ext_alloc (Below.refl _ _) _) p2)
  replace q2 := cell_later hb5 (cell_later (ext_alloc (Below.refl _ _) _) q2)
  replace p3 := cell_later hb5 (cell_later (ext_alloc (Below.refl _ _) _) p3)
  replace q3 := cell_later hb5 (cell_later (ext_alloc (Below.refl _ _) _) q3)
  obtain ⟨a0, a1, a2, b0, b1, b2, c0, c1, c2, f0, f1, f2⟩ := id B5
  have z0 := World.block_lt_of_cell? _ _ a0
  have z1 := World.block_lt_of_cell? _ _ b0
  have z2 := World.block_lt_of_cell? _ _ c0
  dsimp only at z0 z1 z2
  have y1 := World.block_lt_of_cell? _ _ p1
  dsimp only at y1
  have y2 := World.block_lt_of_cell? _ _ p2
  dsimp only at y2
  have y3 := World.block_lt_of_cell? _ _ p3
  dsimp only at y3
  have y4 := World.block_lt_of_cell? _ _ p4
  dsimp only at y4
  go_wp2_with (go_at_call 13; refine (h6 _).mono ?_; rintro e w6 ⟨rfl, hb6⟩; refine Hid.out ?_)
  refine Lib.hid ?_
  clear a0 a1 a2 b0 b1 b2 c0 c1 c2 f0 f1 f2
  have B6 := (B5.alloc _).on hb6
  obtain ⟨p5, q5⟩ := r_at _ _ _ _ _ hb6
  replace p1 := cell_later hb6 (cell_later (ext_alloc (Below.refl _ _) _) p1)
  replace q1 := cell_later hb6 (cell_later (ext_alloc (Below.refl _ _) _) q1)
  replace p2 := cell_later hb6 (cell_later (ext_alloc (Below.refl _ _) _) p2)
  replace q2 := cell_later hb6 (cell_later (ext_alloc (Below.refl _ _) _) q2)
  replace p3 := cell_later hb6 (cell_later (ext_alloc (Below.refl _ _) _) p3)
  replace q3 := cell_later hb6 (cell_later (ext_alloc (Below.refl _ _) _) q3)
  replace p4 := cell_later hb6 (cell_later (ext_alloc (Below.refl _ _) _) p4)
  replace q4 := cell_later hb6 (cell_later (ext_alloc (Below.refl _ _) _) q4)
  obtain ⟨a0, a1, a2, b0, b1, b2, c0, c1, c2, f0, f1, f2⟩ := id B6
  have z0 := World.block_lt_of_cell? _ _ a0
  have z1 := World.block_lt_of_cell? _ _ b0
  have z2 := World.block_lt_of_cell? _ _ c0
  dsimp only at z0 z1 z2
  have y1 := World.block_lt_of_cell? _ _ p1
  dsimp only at y1
  have y2 := World.block_lt_of_cell? _ _ p2
  dsimp only at y2
  have y3 := World.block_lt_of_cell? _ _ p3
  dsimp only at y3
  have y4 := World.block_lt_of_cell? _ _ p4
  dsimp only at y4
  have y5 := World.block_lt_of_cell? _ _ p5
  dsimp only at y5
  go_wp2
  all_goals
    go_ret
    exact ⟨rfl, ext_alloc (ext_trans (ext_alloc (ext_trans (ext_alloc (ext_trans (ext_alloc (ext_trans (ext_alloc (ext_trans (ext_alloc (ext_trans (below3 w _ _ _) hb1) _) hb2) _) hb3) _) hb4) _) hb5) _) hb6) _⟩

set_option maxHeartbeats 1600000 in
theorem orders_l_0 (ka na kb nb kc nc : Int) (sa sb sc : ByteArray) (x5 : Int) (h1 : (∀ w, Calls Tryd.prog 13 #[.int .i64 8, val ka na sa, val kb nb sb] w fun e w' => e = .returned (.tuple #[val 1 1 E0, .int .i64 0]) ∧ Below w.heap.size w w')) (h2 : (∀ w, Calls Tryd.prog 13 #[.int .i64 8, val kb nb sb, val ka na sa] w fun e w' => e = .returned (.tuple #[val 1 0 E0, .int .i64 0]) ∧ Below w.heap.size w w')) (h3 : (∀ w, Calls Tryd.prog 13 #[.int .i64 7, val ka na sa, val kb nb sb] w fun e w' => e = .returned (.tuple #[val 1 0 E0, .int .i64 0]) ∧ Below w.heap.size w w')) (h4 : (∀ w, Calls Tryd.prog 13 #[.int .i64 8, val kb nb sb, val kc nc sc] w fun e w' => e = .returned (.tuple #[val 1 0 E0, .int .i64 0]) ∧ Below w.heap.size w w')) (h5 : (∀ w, Calls Tryd.prog 13 #[.int .i64 8, val ka na sa, val kc nc sc] w fun e w' => e = .returned (.tuple #[val 1 x5 E0, .int .i64 0]) ∧ Below w.heap.size w w')) (h6 : (∀ w, Calls Tryd.prog 13 #[.int .i64 9, val ka na sa, val kb nb sb] w fun e w' => e = .returned (.tuple #[val 1 1 E0, .int .i64 0]) ∧ Below w.heap.size w w')) (w : World) :
    Calls Tryd.prog 6 #[val ka na sa, val kb nb sb, val kc nc sc] w fun e w' => e = .returned (.bool true) ∧ Below w.heap.size w w' := by
  have B0 := boxes0 w ka na kb nb kc nc sa sb sc
  go_enter Tryd.func6, Tryd.ntmps6
  go_wp2_with (go_at_call 13; refine (h1 _).mono ?_; rintro e w1 ⟨rfl, hb1⟩; refine Hid.out ?_)
  refine Lib.hid ?_
  have B1 := B0.on hb1
  obtain ⟨a0, a1, a2, b0, b1, b2, c0, c1, c2, f0, f1, f2⟩ := id B1
  have z0 := World.block_lt_of_cell? _ _ a0
  have z1 := World.block_lt_of_cell? _ _ b0
  have z2 := World.block_lt_of_cell? _ _ c0
  dsimp only at z0 z1 z2
  go_wp2_with (go_at_call 13; refine (h2 _).mono ?_; rintro e w2 ⟨rfl, hb2⟩; refine Hid.out ?_)
  refine Lib.hid ?_
  clear a0 a1 a2 b0 b1 b2 c0 c1 c2 f0 f1 f2
  have B2 := (B1.alloc _).on hb2
  obtain ⟨p1, q1⟩ := r_at _ _ _ _ _ hb2
  obtain ⟨a0, a1, a2, b0, b1, b2, c0, c1, c2, f0, f1, f2⟩ := id B2
  have z0 := World.block_lt_of_cell? _ _ a0
  have z1 := World.block_lt_of_cell? _ _ b0
  have z2 := World.block_lt_of_cell? _ _ c0
  dsimp only at z0 z1 z2
  have y1 := World.block_lt_of_cell? _ _ p1
  dsimp only at y1
  go_wp2_with (go_at_call 13; refine (h3 _).mono ?_; rintro e w3 ⟨rfl, hb3⟩; refine Hid.out ?_)
  refine Lib.hid ?_
  clear a0 a1 a2 b0 b1 b2 c0 c1 c2 f0 f1 f2
  have B3 := (B2.alloc _).on hb3
  obtain ⟨p2, q2⟩ := r_at _ _ _ _ _ hb3
  replace p1 := cell_later hb3 (cell_later (ext_alloc (Below.refl _ _) _) p1)
  replace q1 := cell_later hb3 (cell_later (ext_alloc (Below.refl _ _) _) q1)
  obtain ⟨a0, a1, a2, b0, b1, b2, c0, c1, c2, f0, f1, f2⟩ := id B3
  have z0 := World.block_lt_of_cell? _ _ a0
  have z1 := World.block_lt_of_cell? _ _ b0
  have z2 := World.block_lt_of_cell? _ _ c0
  dsimp only at z0 z1 z2
  have y1 := World.block_lt_of_cell? _ _ p1
  dsimp only at y1
  have y2 := World.block_lt_of_cell? _ _ p2
  dsimp only at y2
  go_wp2_with (go_at_call 13; refine (h4 _).mono ?_; rintro e w4 ⟨rfl, hb4⟩; refine Hid.out ?_)
  refine Lib.hid ?_
  clear a0 a1 a2 b0 b1 b2 c0 c1 c2 f0 f1 f2
  have B4 := (B3.alloc _).on hb4
  obtain ⟨p3, q3⟩ := r_at _ _ _ _ _ hb4
  replace p1 := cell_later hb4 (cell_later (ext_alloc (Below.refl _ _) _) p1)
  replace q1 := cell_later hb4 (cell_later (ext_alloc (Below.refl _ _) _) q1)
  replace p2 := cell_later hb4 (cell_later (ext_alloc (Below.refl _ _) _) p2)
  replace q2 := cell_later hb4 (cell_later (ext_alloc (Below.refl _ _) _) q2)
  obtain ⟨a0, a1, a2, b0, b1, b2, c0, c1, c2, f0, f1, f2⟩ := id B4
  have z0 := World.block_lt_of_cell? _ _ a0
  have z1 := World.block_lt_of_cell? _ _ b0
  have z2 := World.block_lt_of_cell? _ _ c0
  dsimp only at z0 z1 z2
  have y1 := World.block_lt_of_cell? _ _ p1
  dsimp only at y1
  have y2 := World.block_lt_of_cell? _ _ p2
  dsimp only at y2
  have y3 := World.block_lt_of_cell? _ _ p3
  dsimp only at y3
  go_wp2_with (go_at_call 13; refine (h5 _).mono ?_; rintro e w5 ⟨rfl, hb5⟩; refine Hid.out ?_)
  refine Lib.hid ?_
  clear a0 a1 a2 b0 b1 b2 c0 c1 c2 f0 f1 f2
  have B5 := (B4.alloc _).on hb5
  obtain ⟨p4, q4⟩ := r_at _ _ _ _ _ hb5
  replace p1 := cell_later hb5 (cell_later (ext_alloc (Below.refl _ _) _) p1)
  replace q1 := cell_later hb5 (cell_later (ext_alloc (Below.refl _ _) _) q1)
  replace p2 := cell_later hb5 (cell_later (ext_alloc (Below.refl _ _) _) p2)
  replace q2 := cell_later hb5 (cell_later (ext_alloc (Below.refl _ _) _) q2)
  replace p3 := cell_later hb5 (cell_later (ext_alloc (Below.refl _ _) _) p3)
  replace q3 := cell_later hb5 (cell_later (ext_alloc (Below.refl _ _) _) q3)
  obtain ⟨a0, a1, a2, b0, b1, b2, c0, c1, c2, f0, f1, f2⟩ := id B5
  have z0 := World.block_lt_of_cell? _ _ a0
  have z1 := World.block_lt_of_cell? _ _ b0
  have z2 := World.block_lt_of_cell? _ _ c0
  dsimp only at z0 z1 z2
  have y1 := World.block_lt_of_cell? _ _ p1
  dsimp only at y1
  have y2 := World.block_lt_of_cell? _ _ p2
  dsimp only at y2
  have y3 := World.block_lt_of_cell? _ _ p3
  dsimp only at y3
  have y4 := World.block_lt_of_cell? _ _ p4
  dsimp only at y4
  go_wp2_with (go_at_call 13; refine (h6 _).mono ?_; rintro e w6 ⟨rfl, hb6⟩; refine Hid.out ?_)
  refine Lib.hid ?_
  clear a0 a1 a2 b0 b1 b2 c0 c1 c2 f0 f1 f2
  have B6 := (B5.alloc _).on hb6
  obtain ⟨p5, q5⟩ := r_at _ _ _ _ _ hb6
  replace p1 := cell_later hb6 (cell_later (ext_alloc (Below.refl _ _) _) p1)
  replace q1 := cell_later hb6 (cell_later (ext_alloc (Below.refl _ _) _) q1)
  replace p2 := cell_later hb6 (cell_later (ext_alloc (Below.refl _ _) _) p2)
  replace q2 := cell_later hb6 (cell_later (ext_alloc (Below.refl _ _) _) q2)
  replace p3 := cell_later hb6 (cell_later (ext_alloc (Below.refl _ _) _) p3)
  replace q3 := cell_later hb6 (cell_later (ext_alloc (Below.refl _ _) _) q3)
  replace p4 := cell_later hb6 (cell_later (ext_alloc (Below.refl _ _) _) p4)
  replace q4 := cell_later hb6 (cell_later (ext_alloc (Below.refl _ _) _) q4)
  obtain ⟨a0, a1, a2, b0, b1, b2, c0, c1, c2, f0, f1, f2⟩ := id B6
  have z0 := World.block_lt_of_cell? _ _ a0
  have z1 := World.block_lt_of_cell? _ _ b0
  have z2 := World.block_lt_of_cell? _ _ c0
  dsimp only at z0 z1 z2
  have y1 := World.block_lt_of_cell? _ _ p1
  dsimp only at y1
  have y2 := World.block_lt_of_cell? _ _ p2
  dsimp only at y2
  have y3 := World.block_lt_of_cell? _ _ p3
  dsimp only at y3
  have y4 := World.block_lt_of_cell? _ _ p4
  dsimp only at y4
  have y5 := World.block_lt_of_cell? _ _ p5
  dsimp only at y5
  go_wp2
  all_goals
    go_ret
    exact ⟨rfl, ext_alloc (ext_trans (ext_alloc (ext_trans (ext_alloc (ext_trans (ext_alloc (ext_trans (ext_alloc (ext_trans (ext_alloc (ext_trans (below3 w _ _ _) hb1) _) hb2) _) hb3) _) hb4) _) hb5) _) hb6) _⟩

set_option maxHeartbeats 1600000 in
theorem orders_l_1 (ka na kb nb kc nc : Int) (sa sb sc : ByteArray)  (h1 : (∀ w, Calls Tryd.prog 13 #[.int .i64 8, val ka na sa, val kb nb sb] w fun e w' => e = .returned (.tuple #[val 1 1 E0, .int .i64 0]) ∧ Below w.heap.size w w')) (h2 : (∀ w, Calls Tryd.prog 13 #[.int .i64 8, val kb nb sb, val ka na sa] w fun e w' => e = .returned (.tuple #[val 1 0 E0, .int .i64 0]) ∧ Below w.heap.size w w')) (h3 : (∀ w, Calls Tryd.prog 13 #[.int .i64 7, val ka na sa, val kb nb sb] w fun e w' => e = .returned (.tuple #[val 1 0 E0, .int .i64 0]) ∧ Below w.heap.size w w')) (h4 : (∀ w, Calls Tryd.prog 13 #[.int .i64 8, val kb nb sb, val kc nc sc] w fun e w' => e = .returned (.tuple #[val 1 1 E0, .int .i64 0]) ∧ Below w.heap.size w w')) (h5 : (∀ w, Calls Tryd.prog 13 #[.int .i64 8, val ka na sa, val kc nc sc] w fun e w' => e = .returned (.tuple #[val 1 1 E0, .int .i64 0]) ∧ Below w.heap.size w w')) (h6 : (∀ w, Calls Tryd.prog 13 #[.int .i64 9, val ka na sa, val kb nb sb] w fun e w' => e = .returned (.tuple #[val 1 1 E0, .int .i64 0]) ∧ Below w.heap.size w w')) (w : World) :
    Calls Tryd.prog 6 #[val ka na sa, val kb nb sb, val kc nc sc] w fun e w' => e = .returned (.bool true) ∧ Below w.heap.size w w' := by
  have B0 := boxes0 w ka na kb nb kc nc sa sb sc
  go_enter Tryd.func6, Tryd.ntmps6
  go_wp2_with (go_at_call 13; refine (h1 _).mono ?_; rintro e w1 ⟨rfl, hb1⟩; refine Hid.out ?_)
  refine Lib.hid ?_
  have B1 := B0.on hb1
  obtain ⟨a0, a1, a2, b0, b1, b2, c0, c1, c2, f0, f1, f2⟩ := id B1
  have z0 := World.block_lt_of_cell? _ _ a0
  have z1 := World.block_lt_of_cell? _ _ b0
  have z2 := World.block_lt_of_cell? _ _ c0
  dsimp only at z0 z1 z2
  go_wp2_with (go_at_call 13; refine (h2 _).mono ?_; rintro e w2 ⟨rfl, hb2⟩; refine Hid.out ?_)
  refine Lib.hid ?_
  clear a0 a1 a2 b0 b1 b2 c0 c1 c2 f0 f1 f2
  have B2 := (B1.alloc _).on hb2
  obtain ⟨p1, q1⟩ := r_at _ _ _ _ _ hb2
  obtain ⟨a0, a1, a2, b0, b1, b2, c0, c1, c2, f0, f1, f2⟩ := id B2
  have z0 := World.block_lt_of_cell? _ _ a0
  have z1 := World.block_lt_of_cell? _ _ b0
  have z2 := World.block_lt_of_cell? _ _ c0
  dsimp only at z0 z1 z2
  have y1 := World.block_lt_of_cell? _ _ p1
  dsimp only at y1
  go_wp2_with (go_at_call 13; refine (h3 _).mono ?_; rintro e w3 ⟨rfl, hb3⟩; refine Hid.out ?_)
  refine Lib.hid ?_
  clear a0 a1 a2 b0 b1 b2 c0 c1 c2 f0 f1 f2
  have B3 := (B2.alloc _).on hb3
  obtain ⟨p2, q2⟩ := r_at _ _ _ _ _ hb3
  replace p1 := cell_later hb3 (cell_later (ext_alloc (Below.refl _ _) _) p1)
  replace q1 := cell_later hb3 (cell_later (ext_alloc (Below.refl _ _) _) q1)
  obtain ⟨a0, a1, a2, b0, b1, b2, c0, c1, c2, f0, f1, f2⟩ := id B3
  have z0 := World.block_lt_of_cell? _ _ a0
  have z1 := World.block_lt_of_cell? _ _ b0
  have z2 := World.block_lt_of_cell? _ _ c0
  dsimp only at z0 z1 z2
  have y1 := World.block_lt_of_cell? _ _ p1
  dsimp only at y1
  have y2 := World.block_lt_of_cell? _ _ p2
  dsimp only at y2
  go_wp2_with (go_at_call 13; refine (h4 _).mono ?_; rintro e w4 ⟨rfl, hb4⟩; refine Hid.out ?_)
  refine Lib.hid ?_
  clear a0 a1 a2 b0 b1 b2 c0 c1 c2 f0 f1 f2
  have B4 := (B3.alloc _).on hb4
  obtain ⟨p3, q3⟩ := r_at _ _ _ _ _ hb4
  replace p1 := cell_later hb4 (cell_later (ext_alloc (Below.refl _ _) _) p1)
  replace q1 := cell_later hb4 (cell_later (ext_alloc (Below.refl _ _) _) q1)
  replace p2 := cell_later hb4 (cell_later (ext_alloc (Below.refl _ _) _) p2)
  replace q2 := cell_later hb4 (cell_later (ext_alloc (Below.refl _ _) _) q2)
  obtain ⟨a0, a1, a2, b0, b1, b2, c0, c1, c2, f0, f1, f2⟩ := id B4
  have z0 := World.block_lt_of_cell? _ _ a0
  have z1 := World.block_lt_of_cell? _ _ b0
  have z2 := World.block_lt_of_cell? _ _ c0
  dsimp only at z0 z1 z2
  have y1 := World.block_lt_of_cell? _ _ p1
  dsimp only at y1
  have y2 := World.block_lt_of_cell? _ _ p2
  dsimp only at y2
  have y3 := World.block_lt_of_cell? _ _ p3
  dsimp only at y3
  go_wp2_with (go_at_call 13; refine (h5 _).mono ?_; rintro e w5 ⟨rfl, hb5⟩; refine Hid.out ?_)
  refine Lib.hid ?_
  clear a0 a1 a2 b0 b1 b2 c0 c1 c2 f0 f1 f2
  have B5 := (B4.alloc _).on hb5
  obtain ⟨p4, q4⟩ := r_at _ _ _ _ _ hb5
  replace p1 := cell_later hb5 (cell_later (ext_alloc (Below.refl _ _) _) p1)
  replace q1 := cell_later hb5 (cell_later (ext_alloc (Below.refl _ _) _) q1)
  replace p2 := cell_later hb5 (cell_later (ext_alloc (Below.refl _ _) _) p2)
  replace q2 := cell_later hb5 (cell_later (ext_alloc (Below.refl _ _) _) q2)
  replace p3 := cell_later hb5 (cell_later (ext_alloc (Below.refl _ _) _) p3)
  replace q3 := cell_later hb5 (cell_later (ext_alloc (Below.refl _ _) _) q3)
  obtain ⟨a0, a1, a2, b0, b1, b2, c0, c1, c2, f0, f1, f2⟩ := id B5
  have z0 := World.block_lt_of_cell? _ _ a0
  have z1 := World.block_lt_of_cell? _ _ b0
  have z2 := World.block_lt_of_cell? _ _ c0
  dsimp only at z0 z1 z2
  have y1 := World.block_lt_of_cell? _ _ p1
  dsimp only at y1
  have y2 := World.block_lt_of_cell? _ _ p2
  dsimp only at y2
  have y3 := World.block_lt_of_cell? _ _ p3
  dsimp only at y3
  have y4 := World.block_lt_of_cell? _ _ p4
  dsimp only at y4
  go_wp2_with (go_at_call 13; refine (h6 _).mono ?_; rintro e w6 ⟨rfl, hb6⟩; refine Hid.out ?_)
  refine Lib.hid ?_
  clear a0 a1 a2 b0 b1 b2 c0 c1 c2 f0 f1 f2
  have B6 := (B5.alloc _).on hb6
  obtain ⟨p5, q5⟩ := r_at _ _ _ _ _ hb6
  replace p1 := cell_later hb6 (cell_later (ext_alloc (Below.refl _ _) _) p1)
  replace q1 := cell_later hb6 (cell_later (ext_alloc (Below.refl _ _) _) q1)
  replace p2 := cell_later hb6 (cell_later (ext_alloc (Below.refl _ _) _) p2)
  replace q2 := cell_later hb6 (cell_later (ext_alloc (Below.refl _ _) _) q2)
  replace p3 := cell_later hb6 (cell_later (ext_alloc (Below.refl _ _) _) p3)
  replace q3 := cell_later hb6 (cell_later (ext_alloc (Below.refl _ _) _) q3)
  replace p4 := cell_later hb6 (cell_later (ext_alloc (Below.refl _ _) _) p4)
  replace q4 := cell_later hb6 (cell_later (ext_alloc (Below.refl _ _) _) q4)
  obtain ⟨a0, a1, a2, b0, b1, b2, c0, c1, c2, f0, f1, f2⟩ := id B6
  have z0 := World.block_lt_of_cell? _ _ a0
  have z1 := World.block_lt_of_cell? _ _ b0
  have z2 := World.block_lt_of_cell? _ _ c0
  dsimp only at z0 z1 z2
  have y1 := World.block_lt_of_cell? _ _ p1
  dsimp only at y1
  have y2 := World.block_lt_of_cell? _ _ p2
  dsimp only at y2
  have y3 := World.block_lt_of_cell? _ _ p3
  dsimp only at y3
  have y4 := World.block_lt_of_cell? _ _ p4
  dsimp only at y4
  have y5 := World.block_lt_of_cell? _ _ p5
  dsimp only at y5
  go_wp2
  all_goals
    go_ret
    exact ⟨rfl, ext_alloc (ext_trans (ext_alloc (ext_trans (ext_alloc (ext_trans (ext_alloc (ext_trans (ext_alloc (ext_trans (ext_alloc (ext_trans (below3 w _ _ _) hb1) _) hb2) _) hb3) _) hb4) _) hb5) _) hb6) _⟩

set_option maxHeartbeats 1600000 in
theorem orders_g_h2 (ka na kb nb kc nc : Int) (sa sb sc : ByteArray) (k4 x4 k5 x5 i : Int) (h1 : (∀ w, Calls Tryd.prog 13 #[.int .i64 8, val ka na sa, val kb nb sb] w fun e w' => e = .returned (.tuple #[val 1 0 E0, .int .i64 0]) ∧ Below w.heap.size w w')) (h2 : (∀ w, Calls Tryd.prog 13 #[.int .i64 8, val kb nb sb, val ka na sa] w fun e w' => e = .returned (.tuple #[val 1 1 E0, .int .i64 0]) ∧ Below w.heap.size w w')) (h3 : (∀ w, Calls Tryd.prog 13 #[.int .i64 7, val ka na sa, val kb nb sb] w fun e w' => e = .returned (.tuple #[val 1 0 E0, .int .i64 0]) ∧ Below w.heap.size w w')) (h4 : (∀ w, Calls Tryd.prog 13 #[.int .i64 8, val kb nb sb, val kc nc sc] w fun e w' => e = .returned (.tuple #[val k4 x4 E0, .int .i64 2]) ∧ Below w.heap.size w w')) (h5 : (∀ w, Calls Tryd.prog 13 #[.int .i64 8, val ka na sa, val kc nc sc] w fun e w' => e = .returned (.tuple #[val k5 x5 E0, .int .i64 i]) ∧ Below w.heap.size w w')) (h6 : (∀ w, Calls Tryd.prog 13 #[.int .i64 9, val ka na sa, val kb nb sb] w fun e w' => e = .returned (.tuple #[val 1 0 E0, .int .i64 0]) ∧ Below w.heap.size w w')) (w : World) :
    Calls Tryd.prog 6 #[val ka na sa, val kb nb sb, val kc nc sc] w fun e w' => e = .returned (.bool true) ∧ Below w.heap.size w w' := by
  have B0 := boxes0 w ka na kb nb kc nc sa sb sc
  go_enter Tryd.func6, Tryd.ntmps6
  go_wp2_with (go_at_call 13; refine (h1 _).mono ?_; rintro e w1 ⟨rfl, hb1⟩; refine Hid.out ?_)
  refine Lib.hid ?_
  have B1 := B0.on hb1
  obtain ⟨a0, a1, a2, b0, b1, b2, c0, c1, c2, f0, f1, f2⟩ := id B1
  have z0 := World.block_lt_of_cell? _ _ a0
  have z1 := World.block_lt_of_cell? _ _ b0
  have z2 := World.block_lt_of_cell? _ _ c0
  dsimp only at z0 z1 z2
  go_wp2_with (go_at_call 13; refine (h2 _).mono ?_; rintro e w2 ⟨rfl, hb2⟩; refine Hid.out ?_)
  refine Lib.hid ?_
  clear a0 a1 a2 b0 b1 b2 c0 c1 c2 f0 f1 f2
  have B2 := (B1.alloc _).on hb2
  obtain ⟨p1, q1⟩ := r_at _ _ _ _ _ hb2
  obtain ⟨a0, a1, a2, b0, b1, b2, c0, c1, c2, f0, f1, f2⟩ := id B2
  have z0 := World.block_lt_of_cell? _ _ a0
  have z1 := World.block_lt_of_cell? _ _ b0
  have z2 := World.block_lt_of_cell? _ _ c0
  dsimp only at z0 z1 z2
  have y1 := World.block_lt_of_cell? _ _ p1
  dsimp only at y1
  go_wp2_with (go_at_call 13; refine (h3 _).mono ?_; rintro e w3 ⟨rfl, hb3⟩; refine Hid.out ?_)
  refine Lib.hid ?_
  clear a0 a1 a2 b0 b1 b2 c0 c1 c2 f0 f1 f2
  have B3 := (B2.alloc _).on hb3
  obtain ⟨p2, q2⟩ := r_at _ _ _ _ _ hb3
  replace p1 := cell_later hb3 (cell_later (ext_alloc (Below.refl _ _) _) p1)
  replace q1 := cell_later hb3 (cell_later (ext_alloc (Below.refl _ _) _) q1)
  obtain ⟨a0, a1, a2, b0, b1, b2, c0, c1, c2, f0, f1, f2⟩ := id B3
  have z0 := World.block_lt_of_cell? _ _ a0
  have z1 := World.block_lt_of_cell? _ _ b0
  have z2 := World.block_lt_of_cell? _ _ c0
  dsimp only at z0 z1 z2
  have y1 := World.block_lt_of_cell? _ _ p1
  dsimp only at y1
  have y2 := World.block_lt_of_cell? _ _ p2
  dsimp only at y2
  go_wp2_with (go_at_call 13; refine (h4 _).mono ?_; rintro e w4 ⟨rfl, hb4⟩; refine Hid.out ?_)
  refine Lib.hid ?_
  clear a0 a1 a2 b0 b1 b2 c0 c1 c2 f0 f1 f2
  have B4 := (B3.alloc _).on hb4
  obtain ⟨p3, q3⟩ := r_at _ _ _ _ _ hb4
  replace p1 := cell_later hb4 (cell_later (ext_alloc (Below.refl _ _) _) p1)
  replace q1 := cell_later hb4 (cell_later (ext_alloc (Below.refl _ _) _) q1)
  replace p2 := cell_later hb4 (cell_later (ext_alloc (Below.refl _ _) _) p2)
  replace q2 := cell_later hb4 (cell_later (ext_alloc (Below.refl _ _) _) q2)
  obtain ⟨a0, a1, a2, b0, b1, b2, c0, c1, c2, f0, f1, f2⟩ := id B4
  have z0 := World.block_lt_of_cell? _ _ a0
  have z1 := World.block_lt_of_cell? _ _ b0
  have z2 := World.block_lt_of_cell? _ _ c0
  dsimp only at z0 z1 z2
  have y1 := World.block_lt_of_cell? _ _ p1
  dsimp only at y1
  have y2 := World.block_lt_of_cell? _ _ p2
  dsimp only at y2
  have y3 := World.block_lt_of_cell? _ _ p3
  dsimp only at y3
  go_wp2_with (go_at_call 13; refine (h5 _).mono ?_; rintro e w5 ⟨rfl, hb5⟩; refine Hid.out ?_)
  refine Lib.hid ?_
  clear a0 a1 a2 b0 b1 b2 c0 c1 c2 f0 f1 f2
  have B5 := (B4.alloc _).on hb5
  obtain ⟨p4, q4⟩ := r_at _ _ _ _ _ hb5
  replace p1 := cell_later hb5 (cell_later (ext_alloc (Below.refl _ _) _) p1)
  replace q1 := cell_later hb5 (cell_later (ext_alloc (Below.refl _ _) _) q1)
  replace p2 := cell_later hb5 (cell_later (ext_alloc (Below.refl _ _) _) p2)
  replace q2 := cell_later hb5 (cell_later (ext_alloc (Below.refl _ _) _) q2)
  replace p3 := cell_later hb5 (cell_later (ext_alloc (Below.refl _ _) _) p3)
  replace q3 := cell_later hb5 (cell_later (ext_alloc (Below.refl _ _) _) q3)
  obtain ⟨a0, a1, a2, b0, b1, b2, c0, c1, c2, f0, f1, f2⟩ := id B5
  have z0 := World.block_lt_of_cell? _ _ a0
  have z1 := World.block_lt_of_cell? _ _ b0
  have z2 := World.block_lt_of_cell? _ _ c0
  dsimp only at z0 z1 z2
  have y1 := World.block_lt_of_cell? _ _ p1
  dsimp only at y1
  have y2 := World.block_lt_of_cell? _ _ p2
  dsimp only at y2
  have y3 := World.block_lt_of_cell? _ _ p3
  dsimp only at y3
  have y4 := World.block_lt_of_cell? _ _ p4
  dsimp only at y4
  go_wp2_with (go_at_call 13; refine (h6 _).mono ?_; rintro e w6 ⟨rfl, hb6⟩; refine Hid.out ?_)
  refine Lib.hid ?_
  clear a0 a1 a2 b0 b1 b2 c0 c1 c2 f0 f1 f2
  have B6 := (B5.alloc _).on hb6
  obtain ⟨p5, q5⟩ := r_at _ _ _ _ _ hb6
  replace p1 := cell_later hb6 (cell_later (ext_alloc (Below.refl _ _) _) p1)
  replace q1 := cell_later hb6 (cell_later (ext_alloc (Below.refl _ _) _) q1)
  replace p2 := cell_later hb6 (cell_later (ext_alloc (Below.refl _ _) _) p2)
  replace q2 := cell_later hb6 (cell_later (ext_alloc (Below.refl _ _) _) q2)
  replace p3 := cell_later hb6 (cell_later (ext_alloc (Below.refl _ _) _) p3)
  replace q3 := cell_later hb6 (cell_later (ext_alloc (Below.refl _ _) _) q3)
  replace p4 := cell_later hb6 (cell_later (ext_alloc (Below.refl _ _) _) p4)
  replace q4 := cell_later hb6 (cell_later (ext_alloc (Below.refl _ _) _) q4)
  obtain ⟨a0, a1, a2, b0, b1, b2, c0, c1, c2, f0, f1, f2⟩ := id B6
  have z0 := World.block_lt_of_cell? _ _ a0
  have z1 := World.block_lt_of_cell? _ _ b0
  have z2 := World.block_lt_of_cell? _ _ c0
  dsimp only at z0 z1 z2
  have y1 := World.block_lt_of_cell? _ _ p1
  dsimp only at y1
  have y2 := World.block_lt_of_cell? _ _ p2
  dsimp only at y2
  have y3 := World.block_lt_of_cell? _ _ p3
  dsimp only at y3
  have y4 := World.block_lt_of_cell? _ _ p4
  dsimp only at y4
  have y5 := World.block_lt_of_cell? _ _ p5
  dsimp only at y5
  go_wp2
  all_goals
    go_ret
    exact ⟨rfl, ext_alloc (ext_trans (ext_alloc (ext_trans (ext_alloc (ext_trans (ext_alloc (ext_trans (ext_alloc (ext_trans (ext_alloc (ext_trans (below3 w _ _ _) hb1) _) hb2) _) hb3) _) hb4) _) hb5) _) hb6) _⟩

set_option maxHeartbeats 1600000 in
theorem orders_g_h3 (ka na kb nb kc nc : Int) (sa sb sc : ByteArray) (k4 x4 k5 x5 i : Int) (h1 : (∀ w, Calls Tryd.prog 13 #[.int .i64 8, val ka na sa, val kb nb sb] w fun e w' => e = .returned (.tuple #[val 1 0 E0, .int .i64 0]) ∧ Below w.heap.size w w')) (h2 : (∀ w, Calls Tryd.prog 13 #[.int .i64 8, val kb nb sb, val ka na sa] w fun e w' => e = .returned (.tuple #[val 1 1 E0, .int .i64 0]) ∧ Below w.heap.size w w')) (h3 : (∀ w, Calls Tryd.prog 13 #[.int .i64 7, val ka na sa, val kb nb sb] w fun e w' => e = .returned (.tuple #[val 1 0 E0, .int .i64 0]) ∧ Below w.heap.size w w')) (h4 : (∀ w, Calls Tryd.prog 13 #[.int .i64 8, val kb nb sb, val kc nc sc] w fun e w' => e = .returned (.tuple #[val k4 x4 E0, .int .i64 3]) ∧ Below w.heap.size w w')) (h5 : (∀ w, Calls Tryd.prog 13 #[.int .i64 8, val ka na sa, val kc nc sc] w fun e w' => e = .returned (.tuple #[val k5 x5 E0, .int .i64 i]) ∧ Below w.heap.size w w')) (h6 : (∀ w, Calls Tryd.prog 13 #[.int .i64 9, val ka na sa, val kb nb sb] w fun e w' => e = .returned (.tuple #[val 1 0 E0, .int .i64 0]) ∧ Below w.heap.size w w')) (w : World) :
    Calls Tryd.prog 6 #[val ka na sa, val kb nb sb, val kc nc sc] w fun e w' => e = .returned (.bool true) ∧ Below w.heap.size w w' := by
  have B0 := boxes0 w ka na kb nb kc nc sa sb sc
  go_enter Tryd.func6, Tryd.ntmps6
  go_wp2_with (go_at_call 13; refine (h1 _).mono ?_; rintro e w1 ⟨rfl, hb1⟩; refine Hid.out ?_)
  refine Lib.hid ?_
  have B1 := B0.on hb1
  obtain ⟨a0, a1, a2, b0, b1, b2, c0, c1, c2, f0, f1, f2⟩ := id B1
  have z0 := World.block_lt_of_cell? _ _ a0
  have z1 := World.block_lt_of_cell? _ _ b0
  have z2 := World.block_lt_of_cell? _ _ c0
  dsimp only at z0 z1 z2
  go_wp2_with (go_at_call 13; refine (h2 _).mono ?_; rintro e w2 ⟨rfl, hb2⟩; refine Hid.out ?_)
  refine Lib.hid ?_
  clear a0 a1 a2 b0 b1 b2 c0 c1 c2 f0 f1 f2
  have B2 := (B1.alloc _).on hb2
  obtain ⟨p1, q1⟩ := r_at _ _ _ _ _ hb2
  obtain ⟨a0, a1, a2, b0, b1, b2, c0, c1, c2, f0, f1, f2⟩ := id B2
  have z0 := World.block_lt_of_cell? _ _ a0
  have z1 := World.block_lt_of_cell? _ _ b0
  have z2 := World.block_lt_of_cell? _ _ c0
  dsimp only at z0 z1 z2
  have y1 := World.block_lt_of_cell? _ _ p1
  dsimp only at y1
  go_wp2_with (go_at_call 13; refine (h3 _).mono ?_; rintro e w3 ⟨rfl, hb3⟩; refine Hid.out ?_)
  refine Lib.hid ?_
  clear a0 a1 a2 b0 b1 b2 c0 c1 c2 f0 f1 f2
  have B3 := (B2.alloc _).on hb3
  obtain ⟨p2, q2⟩ := r_at _ _ _ _ _ hb3
  replace p1 := cell_later hb3 (cell_later (ext_alloc (Below.refl _ _) _) p1)
  replace q1 := cell_later hb3 (cell_later (ext_alloc (Below.refl _ _) _) q1)
  obtain ⟨a0, a1, a2, b0, b1, b2, c0, c1, c2, f0, f1, f2⟩ := id B3
  have z0 := World.block_lt_of_cell? _ _ a0
  have z1 := World.block_lt_of_cell? _ _ b0
  have z2 := World.block_lt_of_cell? _ _ c0
  dsimp only at z0 z1 z2
  have y1 := World.block_lt_of_cell? _ _ p1
  dsimp only at y1
  have y2 := World.block_lt_of_cell? _ _ p2
  dsimp only at y2
  go_wp2_with (go_at_call 13; refine (h4 _).mono ?_; rintro e w4 ⟨rfl, hb4⟩; refine Hid.out ?_)
  refine Lib.hid ?_
  clear a0 a1 a2 b0 b1 b2 c0 c1 c2 f0 f1 f2
  have B4 := (B3.alloc _).on hb4
  obtain ⟨p3, q3⟩ := r_at _ _ _ _ _ hb4
  replace p1 := cell_later hb4 (cell_later (ext_alloc (Below.refl _ _) _) p1)
  replace q1 := cell_later hb4 (cell_later (ext_alloc (Below.refl _ _) _) q1)
  replace p2 := cell_later hb4 (cell_later (ext_alloc (Below.refl _ _) _) p2)
  replace q2 := cell_later hb4 (cell_later (ext_alloc (Below.refl _ _) _) q2)
  obtain ⟨a0, a1, a2, b0, b1, b2, c0, c1, c2, f0, f1, f2⟩ := id B4
  have z0 := World.block_lt_of_cell? _ _ a0
  have z1 := World.block_lt_of_cell? _ _ b0
  have z2 := World.block_lt_of_cell? _ _ c0
  dsimp only at z0 z1 z2
  have y1 := World.block_lt_of_cell? _ _ p1
  dsimp only at y1
  have y2 := World.block_lt_of_cell? _ _ p2
  dsimp only at y2
  have y3 := World.block_lt_of_cell? _ _ p3
  dsimp only at y3
  go_wp2_with (go_at_call 13; refine (h5 _).mono ?_; rintro e w5 ⟨rfl, hb5⟩; refine Hid.out ?_)
  refine Lib.hid ?_
  clear a0 a1 a2 b0 b1 b2 c0 c1 c2 f0 f1 f2
  have B5 := (B4.alloc _).on hb5
  obtain ⟨p4, q4⟩ := r_at _ _ _ _ _ hb5
  replace p1 := cell_later hb5 (cell_later (ext_alloc (Below.refl _ _) _) p1)
  replace q1 := cell_later hb5 (cell_later (ext_alloc (Below.refl _ _) _) q1)
  replace p2 := cell_later hb5 (cell_later (ext_alloc (Below.refl _ _) _) p2)
  replace q2 := cell_later hb5 (cell_later (ext_alloc (Below.refl _ _) _) q2)
  replace p3 := cell_later hb5 (cell_later (ext_alloc (Below.refl _ _) _) p3)
  replace q3 := cell_later hb5 (cell_later (ext_alloc (Below.refl _ _) _) q3)
  obtain ⟨a0, a1, a2, b0, b1, b2, c0, c1, c2, f0, f1, f2⟩ := id B5
  have z0 := World.block_lt_of_cell? _ _ a0
  have z1 := World.block_lt_of_cell? _ _ b0
  have z2 := World.block_lt_of_cell? _ _ c0
  dsimp only at z0 z1 z2
  have y1 := World.block_lt_of_cell? _ _ p1
  dsimp only at y1
  have y2 := World.block_lt_of_cell? _ _ p2
  dsimp only at y2
  have y3 := World.block_lt_of_cell? _ _ p3
  dsimp only at y3
  have y4 := World.block_lt_of_cell? _ _ p4
  dsimp only at y4
  go_wp2_with (go_at_call 13; refine (h6 _).mono ?_; rintro e w6 ⟨rfl, hb6⟩; refine Hid.out ?_)
  refine Lib.hid ?_
  clear a0 a1 a2 b0 b1 b2 c0 c1 c2 f0 f1 f2
  have B6 := (B5.alloc _).on hb6
  obtain ⟨p5, q5⟩ := r_at _ _ _ _ _ hb6
  replace p1 := cell_later hb6 (cell_later (ext_alloc (Below.refl _ _) _) p1)
  replace q1 := cell_later hb6 (cell_later (ext_alloc (Below.refl _ _) _) q1)
  replace p2 := cell_later hb6 (cell_later (ext_alloc (Below.refl _ _) _) p2)
  replace q2 := cell_later hb6 (cell_later (ext_alloc (Below.refl _ _) _) q2)
  replace p3 := cell_later hb6 (cell_later (ext_alloc (Below.refl _ _) _) p3)
  replace q3 := cell_later hb6 (cell_later (ext_alloc (Below.refl _ _) _) q3)
  replace p4 := cell_later hb6 (cell_later (ext_alloc (Below.refl _ _) _) p4)
  replace q4 := cell_later hb6 (cell_later (ext_alloc (Below.refl _ _) _) q4)
  obtain ⟨a0, a1, a2, b0, b1, b2, c0, c1, c2, f0, f1, f2⟩ := id B6
  have z0 := World.block_lt_of_cell? _ _ a0
  have z1 := World.block_lt_of_cell? _ _ b0
  have z2 := World.block_lt_of_cell? _ _ c0
  dsimp only at z0 z1 z2
  have y1 := World.block_lt_of_cell? _ _ p1
  dsimp only at y1
  have y2 := World.block_lt_of_cell? _ _ p2
  dsimp only at y2
  have y3 := World.block_lt_of_cell? _ _ p3
  dsimp only at y3
  have y4 := World.block_lt_of_cell? _ _ p4
  dsimp only at y4
  have y5 := World.block_lt_of_cell? _ _ p5
  dsimp only at y5
  go_wp2
  all_goals
    go_ret
    exact ⟨rfl, ext_alloc (ext_trans (ext_alloc (ext_trans (ext_alloc (ext_trans (ext_alloc (ext_trans (ext_alloc (ext_trans (ext_alloc (ext_trans (below3 w _ _ _) hb1) _) hb2) _) hb3) _) hb4) _) hb5) _) hb6) _⟩

set_option maxHeartbeats 1600000 in
theorem orders_g_i (ka na kb nb kc nc : Int) (sa sb sc : ByteArray) (x4 x5 : Int) (h1 : (∀ w, Calls Tryd.prog 13 #[.int .i64 8, val ka na sa, val kb nb sb] w fun e w' => e = .returned (.tuple #[val 1 0 E0, .int .i64 0]) ∧ Below w.heap.size w w')) (h2 : (∀ w, Calls Tryd.prog 13 #[.int .i64 8, val kb nb sb, val ka na sa] w fun e w' => e = .returned (.tuple #[val 1 1 E0, .int .i64 0]) ∧ Below w.heap.size w w')) (h3 : (∀ w, Calls Tryd.prog 13 #[.int .i64 7, val ka na sa, val kb nb sb] w fun e w' => e = .returned (.tuple #[val 1 0 E0, .int .i64 0]) ∧ Below w.heap.size w w')) (h4 : (∀ w, Calls Tryd.prog 13 #[.int .i64 8, val kb nb sb, val kc nc sc] w fun e w' => e = .returned (.tuple #[val 1 x4 E0, .int .i64 0]) ∧ Below w.heap.size w w')) (h5 : (∀ w, Calls Tryd.prog 13 #[.int .i64 8, val ka na sa, val kc nc sc] w fun e w' => e = .returned (.tuple #[val 1 x5 E0, .int .i64 0]) ∧ Below w.heap.size w w')) (h6 : (∀ w, Calls Tryd.prog 13 #[.int .i64 9, val ka na sa, val kb nb sb] w fun e w' => e = .returned (.tuple #[val 1 0 E0, .int .i64 0]) ∧ Below w.heap.size w w')) (w : World) :
    Calls Tryd.prog 6 #[val ka na sa, val kb nb sb, val kc nc sc] w fun e w' => e = .returned (.bool true) ∧ Below w.heap.size w w' := by
  have B0 := boxes0 w ka na kb nb kc nc sa sb sc
  go_enter Tryd.func6, Tryd.ntmps6
  go_wp2_with (go_at_call 13; refine (h1 _).mono ?_; rintro e w1 ⟨rfl, hb1⟩; refine Hid.out ?_)
  refine Lib.hid ?_
  have B1 := B0.on hb1
  obtain ⟨a0, a1, a2, b0, b1, b2, c0, c1, c2, f0, f1, f2⟩ := id B1
  have z0 := World.block_lt_of_cell? _ _ a0
  have z1 := World.block_lt_of_cell? _ _ b0
  have z2 := World.block_lt_of_cell? _ _ c0
  dsimp only at z0 z1 z2
  go_wp2_with (go_at_call 13; refine (h2 _).mono ?_; rintro e w2 ⟨rfl, hb2⟩; refine Hid.out ?_)
  refine Lib.hid ?_
  clear a0 a1 a2 b0 b1 b2 c0 c1 c2 f0 f1 f2
  have B2 := (B1.alloc _).on hb2
  obtain ⟨p1, q1⟩ := r_at _ _ _ _ _ hb2
  obtain ⟨a0, a1, a2, b0, b1, b2, c0, c1, c2, f0, f1, f2⟩ := id B2
  have z0 := World.block_lt_of_cell? _ _ a0
  have z1 := World.block_lt_of_cell? _ _ b0
  have z2 := World.block_lt_of_cell? _ _ c0
  dsimp only at z0 z1 z2
  have y1 := World.block_lt_of_cell? _ _ p1
  dsimp only at y1
  go_wp2_with (go_at_call 13; refine (h3 _).mono ?_; rintro e w3 ⟨rfl, hb3⟩; refine Hid.out ?_)
  refine Lib.hid ?_
  clear a0 a1 a2 b0 b1 b2 c0 c1 c2 f0 f1 f2
  have B3 := (B2.alloc _).on hb3
  obtain ⟨p2, q2⟩ := r_at _ _ _ _ _ hb3
  replace p1 := cell_later hb3 (cell_later (ext_alloc (Below.refl _ _) _) p1)
  replace q1 := cell_later hb3 (cell_later (ext_alloc (Below.refl _ _) _) q1)
  obtain ⟨a0, a1, a2, b0, b1, b2, c0, c1, c2, f0, f1, f2⟩ := id B3
  have z0 := World.block_lt_of_cell? _ _ a0
  have z1 := World.block_lt_of_cell? _ _ b0
  have z2 := World.block_lt_of_cell? _ _ c0
  dsimp only at z0 z1 z2
  have y1 := World.block_lt_of_cell? _ _ p1
  dsimp only at y1
  have y2 := World.block_lt_of_cell? _ _ p2
  dsimp only at y2
  go_wp2_with (go_at_call 13; refine (h4 _).mono ?_; rintro e w4 ⟨rfl, hb4⟩; refine Hid.out ?_)
  refine Lib.hid ?_
  clear a0 a1 a2 b0 b1 b2 c0 c1 c2 f0 f1 f2
  have B4 := (B3.alloc _).on hb4
  obtain ⟨p3, q3⟩ := r_at _ _ _ _ _ hb4
  replace p1 := cell_later hb4 (cell_later (ext_alloc (Below.refl _ _) _) p1)
  replace q1 := cell_later hb4 (cell_later (ext_alloc (Below.refl _ _) _) q1)
  replace p2 := cell_later hb4 (cell_later (ext_alloc (Below.refl _ _) _) p2)
  replace q2 := cell_later hb4 (cell_later (ext_alloc (Below.refl _ _) _) q2)
  obtain ⟨a0, a1, a2, b0, b1, b2, c0, c1, c2, f0, f1, f2⟩ := id B4
  have z0 := World.block_lt_of_cell? _ _ a0
  have z1 := World.block_lt_of_cell? _ _ b0
  have z2 := World.block_lt_of_cell? _ _ c0
  dsimp only at z0 z1 z2
  have y1 := World.block_lt_of_cell? _ _ p1
  dsimp only at y1
  have y2 := World.block_lt_of_cell? _ _ p2
  dsimp only at y2
  have y3 := World.block_lt_of_cell? _ _ p3
  dsimp only at y3
  go_wp2_with (go_at_call 13; refine (h5 _).mono ?_; rintro e w5 ⟨rfl, hb5⟩; refine Hid.out ?_)
  refine Lib.hid ?_
  clear a0 a1 a2 b0 b1 b2 c0 c1 c2 f0 f1 f2
  have B5 := (B4.alloc _).on hb5
  obtain ⟨p4, q4⟩ := r_at _ _ _ _ _ hb5
  replace p1 := cell_later hb5 (cell_later (ext_alloc (Below.refl _ _) _) p1)
  replace q1 := cell_later hb5 (cell_later (ext_alloc (Below.refl _ _) _) q1)
  replace p2 := cell_later hb5 (cell_later (ext_alloc (Below.refl _ _) _) p2)
  replace q2 := cell_later hb5 (cell_later (ext_alloc (Below.refl _ _) _) q2)
  replace p3 := cell_later hb5 (cell_later (ext_alloc (Below.refl _ _) _) p3)
  replace q3 := cell_later hb5 (cell_later (ext_alloc (Below.refl _ _) _) q3)
  obtain ⟨a0, a1, a2, b0, b1, b2, c0, c1, c2, f0, f1, f2⟩ := id B5
  have z0 := World.block_lt_of_cell? _ _ a0
  have z1 := World.block_lt_of_cell? _ _ b0
  have z2 := World.block_lt_of_cell? _ _ c0
  dsimp only at z0 z1 z2
  have y1 := World.block_lt_of_cell? _ _ p1
  dsimp only at y1
  have y2 := World.block_lt_of_cell? _ _ p2
  dsimp only at y2
  have y3 := World.block_lt_of_cell? _ _ p3
  dsimp only at y3
  have y4 := World.block_lt_of_cell? _ _ p4
  dsimp only at y4
  go_wp2_with (go_at_call 13; refine (h6 _).mono ?_; rintro e w6 ⟨rfl, hb6⟩; refine Hid.out ?_)
  refine Lib.hid ?_
  clear a0 a1 a2 b0 b1 b2 c0 c1 c2 f0 f1 f2
  have B6 := (B5.alloc _).on hb6
  obtain ⟨p5, q5⟩ := r_at _ _ _ _ _ hb6
  replace p1 := cell_later hb6 (cell_later (ext_alloc (Below.refl _ _) _) p1)
  replace q1 := cell_later hb6 (cell_later (ext_alloc (Below.refl _ _) _) q1)
  replace p2 := cell_later hb6 (cell_later (ext_alloc (Below.refl _ _) _) p2)
  replace q2 := cell_later hb6 (cell_later (ext_alloc (Below.refl _ _) _) q2)
  replace p3 := cell_later hb6 (cell_later (ext_alloc (Below.refl _ _) _) p3)
  replace q3 := cell_later hb6 (cell_later (ext_alloc (Below.refl _ _) _) q3)
  replace p4 := cell_later hb6 (cell_later (ext_alloc (Below.refl _ _) _) p4)
  replace q4 := cell_later hb6 (cell_later (ext_alloc (Below.refl _ _) _) q4)
  obtain ⟨a0, a1, a2, b0, b1, b2, c0, c1, c2, f0, f1, f2⟩ := id B6
  have z0 := World.block_lt_of_cell? _ _ a0
  have z1 := World.block_lt_of_cell? _ _ b0
  have z2 := World.block_lt_of_cell? _ _ c0
  dsimp only at z0 z1 z2
  have y1 := World.block_lt_of_cell? _ _ p1
  dsimp only at y1
  have y2 := World.block_lt_of_cell? _ _ p2
  dsimp only at y2
  have y3 := World.block_lt_of_cell? _ _ p3
  dsimp only at y3
  have y4 := World.block_lt_of_cell? _ _ p4
  dsimp only at y4
  have y5 := World.block_lt_of_cell? _ _ p5
  dsimp only at y5
  go_wp2
  all_goals
    go_ret
    exact ⟨rfl, ext_alloc (ext_trans (ext_alloc (ext_trans (ext_alloc (ext_trans (ext_alloc (ext_trans (ext_alloc (ext_trans (ext_alloc (ext_trans (below3 w _ _ _) hb1) _) hb2) _) hb3) _) hb4) _) hb5) _) hb6) _⟩

set_option maxHeartbeats 1600000 in
theorem orders_s_h2 (ka na kb nb kc nc : Int) (sa sb sc : ByteArray) (k4 x4 k5 x5 i : Int) (h1 : (∀ w, Calls Tryd.prog 13 #[.int .i64 8, val ka na sa, val kb nb sb] w fun e w' => e = .returned (.tuple #[val 1 0 E0, .int .i64 0]) ∧ Below w.heap.size w w')) (h2 : (∀ w, Calls Tryd.prog 13 #[.int .i64 8, val kb nb sb, val ka na sa] w fun e w' => e = .returned (.tuple #[val 1 0 E0, .int .i64 0]) ∧ Below w.heap.size w w')) (h3 : (∀ w, Calls Tryd.prog 13 #[.int .i64 7, val ka na sa, val kb nb sb] w fun e w' => e = .returned (.tuple #[val 1 1 E0, .int .i64 0]) ∧ Below w.heap.size w w')) (h4 : (∀ w, Calls Tryd.prog 13 #[.int .i64 8, val kb nb sb, val kc nc sc] w fun e w' => e = .returned (.tuple #[val k4 x4 E0, .int .i64 2]) ∧ Below w.heap.size w w')) (h5 : (∀ w, Calls Tryd.prog 13 #[.int .i64 8, val ka na sa, val kc nc sc] w fun e w' => e = .returned (.tuple #[val k5 x5 E0, .int .i64 i]) ∧ Below w.heap.size w w')) (h6 : (∀ w, Calls Tryd.prog 13 #[.int .i64 9, val ka na sa, val kb nb sb] w fun e w' => e = .returned (.tuple #[val 1 1 E0, .int .i64 0]) ∧ Below w.heap.size w w')) (w : World) :
    Calls Tryd.prog 6 #[val ka na sa, val kb nb sb, val kc nc sc] w fun e w' => e = .returned (.bool true) ∧ Below w.heap.size w w' := by
  have B0 := boxes0 w ka na kb nb kc nc sa sb sc
  go_enter Tryd.func6, Tryd.ntmps6
  go_wp2_with (go_at_call 13; refine (h1 _).mono ?_; rintro e w1 ⟨rfl, hb1⟩; refine Hid.out ?_)
  refine Lib.hid ?_
  have B1 := B0.on hb1
  obtain ⟨a0, a1, a2, b0, b1, b2, c0, c1, c2, f0, f1, f2⟩ := id B1
  have z0 := World.block_lt_of_cell? _ _ a0
  have z1 := World.block_lt_of_cell? _ _ b0
  have z2 := World.block_lt_of_cell? _ _ c0
  dsimp only at z0 z1 z2
  go_wp2_with (go_at_call 13; refine (h2 _).mono ?_; rintro e w2 ⟨rfl, hb2⟩; refine Hid.out ?_)
  refine Lib.hid ?_
  clear a0 a1 a2 b0 b1 b2 c0 c1 c2 f0 f1 f2
  have B2 := (B1.alloc _).on hb2
  obtain ⟨p1, q1⟩ := r_at _ _ _ _ _ hb2
  obtain ⟨a0, a1, a2, b0, b1, b2, c0, c1, c2, f0, f1, f2⟩ := id B2
  have z0 := World.block_lt_of_cell? _ _ a0
  have z1 := World.block_lt_of_cell? _ _ b0
  have z2 := World.block_lt_of_cell? _ _ c0
  dsimp only at z0 z1 z2
  have y1 := World.block_lt_of_cell? _ _ p1
  dsimp only at y1
  go_wp2_with (go_at_call 13; refine (h3 _).mono ?_; rintro e w3 ⟨rfl, hb3⟩; refine Hid.out ?_)
  refine Lib.hid ?_
  clear a0 a1 a2 b0 b1 b2 c0 c1 c2 f0 f1 f2
  have B3 := (B2.alloc _).on hb3
  obtain ⟨p2, q2⟩ := r_at _ _ _ _ _ hb3
  replace p1 := cell_later hb3 (cell_later (ext_alloc (Below.refl _ _) _) p1)
  replace q1 := cell_later hb3 (cell_later (ext_alloc (Below.refl _ _) _) q1)
  obtain ⟨a0, a1, a2, b0, b1, b2, c0, c1, c2, f0, f1, f2⟩ := id B3
  have z0 := World.block_lt_of_cell? _ _ a0
  have z1 := World.block_lt_of_cell? _ _ b0
  have z2 := World.block_lt_of_cell? _ _ c0
  dsimp only at z0 z1 z2
  have y1 := World.block_lt_of_cell? _ _ p1
  dsimp only at y1
  have y2 := World.block_lt_of_cell? _ _ p2
  dsimp only at y2
  go_wp2_with (go_at_call 13; refine (h4 _).mono ?_; rintro e w4 ⟨rfl, hb4⟩; refine Hid.out ?_)
  refine Lib.hid ?_
  clear a0 a1 a2 b0 b1 b2 c0 c1 c2 f0 f1 f2
  have B4 := (B3.alloc _).on hb4
  obtain ⟨p3, q3⟩ := r_at _ _ _ _ _ hb4
  replace p1 := cell_later hb4 (cell_later (ext_alloc (Below.refl _ _) _) p1)
  replace q1 := cell_later hb4 (cell_later (ext_alloc (Below.refl _ _) _) q1)
  replace p2 := cell_later hb4 (cell_later (ext_alloc (Below.refl _ _) _) p2)
  replace q2 := cell_later hb4 (cell_later (ext_alloc (Below.refl _ _) _) q2)
  obtain ⟨a0, a1, a2, b0, b1, b2, c0, c1, c2, f0, f1, f2⟩ := id B4
  have z0 := World.block_lt_of_cell? _ _ a0
  have z1 := World.block_lt_of_cell? _ _ b0
  have z2 := World.block_lt_of_cell? _ _ c0
  dsimp only at z0 z1 z2
  have y1 := World.block_lt_of_cell? _ _ p1
  dsimp only at y1
  have y2 := World.block_lt_of_cell? _ _ p2
  dsimp only at y2
  have y3 := World.block_lt_of_cell? _ _ p3
  dsimp only at y3
  go_wp2_with (go_at_call 13; refine (h5 _).mono ?_; rintro e w5 ⟨rfl, hb5⟩; refine Hid.out ?_)
  refine Lib.hid ?_
  clear a0 a1 a2 b0 b1 b2 c0 c1 c2 f0 f1 f2
  have B5 := (B4.alloc _).on hb5
  obtain ⟨p4, q4⟩ := r_at _ _ _ _ _ hb5
  replace p1 := cell_later hb5 (cell_later (ext_alloc (Below.refl _ _) _) p1)
  replace q1 := cell_later hb5 (cell_later (ext_alloc (Below.refl _ _) _) q1)
  replace p2 := cell_later hb5 (cell_later (ext_alloc (Below.refl _ _) _) p2)
  replace q2 := cell_later hb5 (cell_later (ext_alloc (Below.refl _ _) _) q2)
  replace p3 := cell_later hb5 (cell_later (ext_alloc (Below.refl _ _) _) p3)
  replace q3 := cell_later hb5 (cell_later (ext_alloc (Below.refl _ _) _) q3)
  obtain ⟨a0, a1, a2, b0, b1, b2, c0, c1, c2, f0, f1, f2⟩ := id B5
  have z0 := World.block_lt_of_cell? _ _ a0
  have z1 := World.block_lt_of_cell? _ _ b0
  have z2 := World.block_lt_of_cell? _ _ c0
  dsimp only at z0 z1 z2
  have y1 := World.block_lt_of_cell? _ _ p1
  dsimp only at y1
  have y2 := World.block_lt_of_cell? _ _ p2
  dsimp only at y2
  have y3 := World.block_lt_of_cell? _ _ p3
  dsimp only at y3
  have y4 := World.block_lt_of_cell? _ _ p4
  dsimp only at y4
  go_wp2_with (go_at_call 13; refine (h6 _).mono ?_; rintro e w6 ⟨rfl, hb6⟩; refine Hid.out ?_)
  refine Lib.hid ?_
  clear a0 a1 a2 b0 b1 b2 c0 c1 c2 f0 f1 f2
  have B6 := (B5.alloc _).on hb6
  obtain ⟨p5, q5⟩ := r_at _ _ _ _ _ hb6
  replace p1 := cell_later hb6 (cell_later (ext_alloc (Below.refl _ _) _) p1)
  replace q1 := cell_later hb6 (cell_later (ext_alloc (Below.refl _ _) _) q1)
  replace p2 := cell_later hb6 (cell_later (ext_alloc (Below.refl _ _) _) p2)
  replace q2 := cell_later hb6 (cell_later (ext_alloc (Below.refl _ _) _) q2)
  replace p3 := cell_later hb6 (cell_later (ext_alloc (Below.refl _ _) _) p3)
  replace q3 := cell_later hb6 (cell_later (ext_alloc (Below.refl _ _) _) q3)
  replace p4 := cell_later hb6 (cell_later (ext_alloc (Below.refl _ _) _) p4)
  replace q4 := cell_later hb6 (cell_later (ext_alloc (Below.refl _ _) _) q4)
  obtain ⟨a0, a1, a2, b0, b1, b2, c0, c1, c2, f0, f1, f2⟩ := id B6
  have z0 := World.block_lt_of_cell? _ _ a0
  have z1 := World.block_lt_of_cell? _ _ b0
  have z2 := World.block_lt_of_cell? _ _ c0
  dsimp only at z0 z1 z2
  have y1 := World.block_lt_of_cell? _ _ p1
  dsimp only at y1
  have y2 := World.block_lt_of_cell? _ _ p2
  dsimp only at y2
  have y3 := World.block_lt_of_cell? _ _ p3
  dsimp only at y3
  have y4 := World.block_lt_of_cell? _ _ p4
  dsimp only at y4
  have y5 := World.block_lt_of_cell? _ _ p5
  dsimp only at y5
  go_wp2
  all_goals
    go_ret
    exact ⟨rfl, ext_alloc (ext_trans (ext_alloc (ext_trans (ext_alloc (ext_trans (ext_alloc (ext_trans (ext_alloc (ext_trans (ext_alloc (ext_trans (below3 w _ _ _) hb1) _) hb2) _) hb3) _) hb4) _) hb5) _) hb6) _⟩

set_option maxHeartbeats 1600000 in
theorem orders_s_h3 (ka na kb nb kc nc : Int) (sa sb sc : ByteArray) (k4 x4 k5 x5 i : Int) (h1 : (∀ w, Calls Tryd.prog 13 #[.int .i64 8, val ka na sa, val kb nb sb] w fun e w' => e = .returned (.tuple #[val 1 0 E0, .int .i64 0]) ∧ Below w.heap.size w w')) (h2 : (∀ w, Calls Tryd.prog 13 #[.int .i64 8, val kb nb sb, val ka na sa] w fun e w' => e = .returned (.tuple #[val 1 0 E0, .int .i64 0]) ∧ Below w.heap.size w w')) (h3 : (∀ w, Calls Tryd.prog 13 #[.int .i64 7, val ka na sa, val kb nb sb] w fun e w' => e = .returned (.tuple #[val 1 1 E0, .int .i64 0]) ∧ Below w.heap.size w w')) (h4 : (∀ w, Calls Tryd.prog 13 #[.int .i64 8, val kb nb sb, val kc nc sc] w fun e w' => e = .returned (.tuple #[val k4 x4 E0, .int .i64 3]) ∧ Below w.heap.size w w')) (h5 : (∀ w, Calls Tryd.prog 13 #[.int .i64 8, val ka na sa, val kc nc sc] w fun e w' => e = .returned (.tuple #[val k5 x5 E0, .int .i64 i]) ∧ Below w.heap.size w w')) (h6 : (∀ w, Calls Tryd.prog 13 #[.int .i64 9, val ka na sa, val kb nb sb] w fun e w' => e = .returned (.tuple #[val 1 1 E0, .int .i64 0]) ∧ Below w.heap.size w w')) (w : World) :
    Calls Tryd.prog 6 #[val ka na sa, val kb nb sb, val kc nc sc] w fun e w' => e = .returned (.bool true) ∧ Below w.heap.size w w' := by
  have B0 := boxes0 w ka na kb nb kc nc sa sb sc
  go_enter Tryd.func6, Tryd.ntmps6
  go_wp2_with (go_at_call 13; refine (h1 _).mono ?_; rintro e w1 ⟨rfl, hb1⟩; refine Hid.out ?_)
  refine Lib.hid ?_
  have B1 := B0.on hb1
  obtain ⟨a0, a1, a2, b0, b1, b2, c0, c1, c2, f0, f1, f2⟩ := id B1
  have z0 := World.block_lt_of_cell? _ _ a0
  have z1 := World.block_lt_of_cell? _ _ b0
  have z2 := World.block_lt_of_cell? _ _ c0
  dsimp only at z0 z1 z2
  go_wp2_with (go_at_call 13; refine (h2 _).mono ?_; rintro e w2 ⟨rfl, hb2⟩; refine Hid.out ?_)
  refine Lib.hid ?_
  clear a0 a1 a2 b0 b1 b2 c0 c1 c2 f0 f1 f2
  have B2 := (B1.alloc _).on hb2
  obtain ⟨p1, q1⟩ := r_at _ _ _ _ _ hb2
  obtain ⟨a0, a1, a2, b0, b1, b2, c0, c1, c2, f0, f1, f2⟩ := id B2
  have z0 := World.block_lt_of_cell? _ _ a0
  have z1 := World.block_lt_of_cell? _ _ b0
  have z2 := World.block_lt_of_cell? _ _ c0
  dsimp only at z0 z1 z2
  have y1 := World.block_lt_of_cell? _ _ p1
  dsimp only at y1
  go_wp2_with (go_at_call 13; refine (h3 _).mono ?_; rintro e w3 ⟨rfl, hb3⟩; refine Hid.out ?_)
  refine Lib.hid ?_
  clear a0 a1 a2 b0 b1 b2 c0 c1 c2 f0 f1 f2
  have B3 := (B2.alloc _).on hb3
  obtain ⟨p2, q2⟩ := r_at _ _ _ _ _ hb3
  replace p1 := cell_later hb3 (cell_later (ext_alloc (Below.refl _ _) _) p1)
  replace q1 := cell_later hb3 (cell_later (ext_alloc (Below.refl _ _) _) q1)
  obtain ⟨a0, a1, a2, b0, b1, b2, c0, c1, c2, f0, f1, f2⟩ := id B3
  have z0 := World.block_lt_of_cell? _ _ a0
  have z1 := World.block_lt_of_cell? _ _ b0
  have z2 := World.block_lt_of_cell? _ _ c0
  dsimp only at z0 z1 z2
  have y1 := World.block_lt_of_cell? _ _ p1
  dsimp only at y1
  have y2 := World.block_lt_of_cell? _ _ p2
  dsimp only at y2
  go_wp2_with (go_at_call 13; refine (h4 _).mono ?_; rintro e w4 ⟨rfl, hb4⟩; refine Hid.out ?_)
  refine Lib.hid ?_
  clear a0 a1 a2 b0 b1 b2 c0 c1 c2 f0 f1 f2
  have B4 := (B3.alloc _).on hb4
  obtain ⟨p3, q3⟩ := r_at _ _ _ _ _ hb4
  replace p1 := cell_later hb4 (cell_later (ext_alloc (Below.refl _ _) _) p1)
  replace q1 := cell_later hb4 (cell_later (ext_alloc (Below.refl _ _) _) q1)
  replace p2 := cell_later hb4 (cell_later (ext_alloc (Below.refl _ _) _) p2)
  replace q2 := cell_later hb4 (cell_later (ext_alloc (Below.refl _ _) _) q2)
  obtain ⟨a0, a1, a2, b0, b1, b2, c0, c1, c2, f0, f1, f2⟩ := id B4
  have z0 := World.block_lt_of_cell? _ _ a0
  have z1 := World.block_lt_of_cell? _ _ b0
  have z2 := World.block_lt_of_cell? _ _ c0
  dsimp only at z0 z1 z2
  have y1 := World.block_lt_of_cell? _ _ p1
  dsimp only at y1
  have y2 := World.block_lt_of_cell? _ _ p2
  dsimp only at y2
  have y3 := World.block_lt_of_cell? _ _ p3
  dsimp only at y3
  go_wp2_with (go_at_call 13; refine (h5 _).mono ?_; rintro e w5 ⟨rfl, hb5⟩; refine Hid.out ?_)
  refine Lib.hid ?_
  clear a0 a1 a2 b0 b1 b2 c0 c1 c2 f0 f1 f2
  have B5 := (B4.alloc _).on hb5
  obtain ⟨p4, q4⟩ := r_at _ _ _ _ _ hb5
  replace p1 := cell_later hb5 (cell_later (ext_alloc (Below.refl _ _) _) p1)
  replace q1 := cell_later hb5 (cell_later (ext_alloc (Below.refl _ _) _) q1)
  replace p2 := cell_later hb5 (cell_later (ext_alloc (Below.refl _ _) _) p2)
  replace q2 := cell_later hb5 (cell_later (ext_alloc (Below.refl _ _) _) q2)
  replace p3 := cell_later hb5 (cell_later (ext_alloc (Below.refl _ _) _) p3)
  replace q3 := cell_later hb5 (cell_later (ext_alloc (Below.refl _ _) _) q3)
  obtain ⟨a0, a1, a2, b0, b1, b2, c0, c1, c2, f0, f1, f2⟩ := id B5
  have z0 := World.block_lt_of_cell? _ _ a0
  have z1 := World.block_lt_of_cell? _ _ b0
  have z2 := World.block_lt_of_cell? _ _ c0
  dsimp only at z0 z1 z2
  have y1 := World.block_lt_of_cell? _ _ p1
  dsimp only at y1
  have y2 := World.block_lt_of_cell? _ _ p2
  dsimp only at y2
  have y3 := World.block_lt_of_cell? _ _ p3
  dsimp only at y3
  have y4 := World.block_lt_of_cell? _ _ p4
  dsimp only at y4
  go_wp2_with (go_at_call 13; refine (h6 _).mono ?_; rintro e w6 ⟨rfl, hb6⟩; refine Hid.out ?_)
  refine Lib.hid ?_
  clear a0 a1 a2 b0 b1 b2 c0 c1 c2 f0 f1 f2
  have B6 := (B5.alloc _).on hb6
  obtain ⟨p5, q5⟩ := r_at _ _ _ _ _ hb6
  replace p1 := cell_later hb6 (cell_later (ext_alloc (Below.refl _ _) _) p1)
  replace q1 := cell_later hb6 (cell_later (ext_alloc (Below.refl _ _) _) q1)
  replace p2 := cell_later hb6 (cell_later (ext_alloc (Below.refl _ _) _) p2)
  replace q2 := cell_later hb6 (cell_later (ext_alloc (Below.refl _ _) _) q2)
  replace p3 := cell_later hb6 (cell_later (ext_alloc (Below.refl _ _) _) p3)
  replace q3 := cell_later hb6 (cell_later (ext_alloc (Below.refl _ _) _) q3)
  replace p4 := cell_later hb6 (cell_later (ext_alloc (Below.refl _ _) _) p4)
  replace q4 := cell_later hb6 (cell_later (ext_alloc (Below.refl _ _) _) q4)
  obtain ⟨a0, a1, a2, b0, b1, b2, c0, c1, c2, f0, f1, f2⟩ := id B6
  have z0 := World.block_lt_of_cell? _ _ a0
  have z1 := World.block_lt_of_cell? _ _ b0
  have z2 := World.block_lt_of_cell? _ _ c0
  dsimp only at z0 z1 z2
  have y1 := World.block_lt_of_cell? _ _ p1
  dsimp only at y1
  have y2 := World.block_lt_of_cell? _ _ p2
  dsimp only at y2
  have y3 := World.block_lt_of_cell? _ _ p3
  dsimp only at y3
  have y4 := World.block_lt_of_cell? _ _ p4
  dsimp only at y4
  have y5 := World.block_lt_of_cell? _ _ p5
  dsimp only at y5
  go_wp2
  all_goals
    go_ret
    exact ⟨rfl, ext_alloc (ext_trans (ext_alloc (ext_trans (ext_alloc (ext_trans (ext_alloc (ext_trans (ext_alloc (ext_trans (ext_alloc (ext_trans (below3 w _ _ _) hb1) _) hb2) _) hb3) _) hb4) _) hb5) _) hb6) _⟩

set_option maxHeartbeats 1600000 in
theorem orders_s_i (ka na kb nb kc nc : Int) (sa sb sc : ByteArray) (x4 x5 : Int) (h1 : (∀ w, Calls Tryd.prog 13 #[.int .i64 8, val ka na sa, val kb nb sb] w fun e w' => e = .returned (.tuple #[val 1 0 E0, .int .i64 0]) ∧ Below w.heap.size w w')) (h2 : (∀ w, Calls Tryd.prog 13 #[.int .i64 8, val kb nb sb, val ka na sa] w fun e w' => e = .returned (.tuple #[val 1 0 E0, .int .i64 0]) ∧ Below w.heap.size w w')) (h3 : (∀ w, Calls Tryd.prog 13 #[.int .i64 7, val ka na sa, val kb nb sb] w fun e w' => e = .returned (.tuple #[val 1 1 E0, .int .i64 0]) ∧ Below w.heap.size w w')) (h4 : (∀ w, Calls Tryd.prog 13 #[.int .i64 8, val kb nb sb, val kc nc sc] w fun e w' => e = .returned (.tuple #[val 1 x4 E0, .int .i64 0]) ∧ Below w.heap.size w w')) (h5 : (∀ w, Calls Tryd.prog 13 #[.int .i64 8, val ka na sa, val kc nc sc] w fun e w' => e = .returned (.tuple #[val 1 x5 E0, .int .i64 0]) ∧ Below w.heap.size w w')) (h6 : (∀ w, Calls Tryd.prog 13 #[.int .i64 9, val ka na sa, val kb nb sb] w fun e w' => e = .returned (.tuple #[val 1 1 E0, .int .i64 0]) ∧ Below w.heap.size w w')) (w : World) :
    Calls Tryd.prog 6 #[val ka na sa, val kb nb sb, val kc nc sc] w fun e w' => e = .returned (.bool true) ∧ Below w.heap.size w w' := by
  have B0 := boxes0 w ka na kb nb kc nc sa sb sc
  go_enter Tryd.func6, Tryd.ntmps6
  go_wp2_with (go_at_call 13; refine (h1 _).mono ?_; rintro e w1 ⟨rfl, hb1⟩; refine Hid.out ?_)
  refine Lib.hid ?_
  have B1 := B0.on hb1
  obtain ⟨a0, a1, a2, b0, b1, b2, c0, c1, c2, f0, f1, f2⟩ := id B1
  have z0 := World.block_lt_of_cell? _ _ a0
  have z1 := World.block_lt_of_cell? _ _ b0
  have z2 := World.block_lt_of_cell? _ _ c0
  dsimp only at z0 z1 z2
  go_wp2_with (go_at_call 13; refine (h2 _).mono ?_; rintro e w2 ⟨rfl, hb2⟩; refine Hid.out ?_)
  refine Lib.hid ?_
  clear a0 a1 a2 b0 b1 b2 c0 c1 c2 f0 f1 f2
  have B2 := (B1.alloc _).on hb2
  obtain ⟨p1, q1⟩ := r_at _ _ _ _ _ hb2
  obtain ⟨a0, a1, a2, b0, b1, b2, c0, c1, c2, f0, f1, f2⟩ := id B2
  have z0 := World.block_lt_of_cell? _ _ a0
  have z1 := World.block_lt_of_cell? _ _ b0
  have z2 := World.block_lt_of_cell? _ _ c0
  dsimp only at z0 z1 z2
  have y1 := World.block_lt_of_cell? _ _ p1
  dsimp only at y1
  go_wp2_with (go_at_call 13; refine (h3 _).mono ?_; rintro e w3 ⟨rfl, hb3⟩; refine Hid.out ?_)
  refine Lib.hid ?_
  clear a0 a1 a2 b0 b1 b2 c0 c1 c2 f0 f1 f2
  have B3 := (B2.alloc _).on hb3
  obtain ⟨p2, q2⟩ := r_at _ _ _ _ _ hb3
  replace p1 := cell_later hb3 (cell_later (ext_alloc (Below.refl _ _) _) p1)
  replace q1 := cell_later hb3 (cell_later (ext_alloc (Below.refl _ _) _) q1)
  obtain ⟨a0, a1, a2, b0, b1, b2, c0, c1, c2, f0, f1, f2⟩ := id B3
  have z0 := World.block_lt_of_cell? _ _ a0
  have z1 := World.block_lt_of_cell? _ _ b0
  have z2 := World.block_lt_of_cell? _ _ c0
  dsimp only at z0 z1 z2
  have y1 := World.block_lt_of_cell? _ _ p1
  dsimp only at y1
  have y2 := World.block_lt_of_cell? _ _ p2
  dsimp only at y2
  go_wp2_with (go_at_call 13; refine (h4 _).mono ?_; rintro e w4 ⟨rfl, hb4⟩; refine Hid.out ?_)
  refine Lib.hid ?_
  clear a0 a1 a2 b0 b1 b2 c0 c1 c2 f0 f1 f2
  have B4 := (B3.alloc _).on hb4
  obtain ⟨p3, q3⟩ := r_at _ _ _ _ _ hb4
  replace p1 := cell_later hb4 (cell_later (ext_alloc (Below.refl _ _) _) p1)
  replace q1 := cell_later hb4 (cell_later (ext_alloc (Below.refl _ _) _) q1)
  replace p2 := cell_later hb4 (cell_later (ext_alloc (Below.refl _ _) _) p2)
  replace q2 := cell_later hb4 (cell_later (ext_alloc (Below.refl _ _) _) q2)
  obtain ⟨a0, a1, a2, b0, b1, b2, c0, c1, c2, f0, f1, f2⟩ := id B4
  have z0 := World.block_lt_of_cell? _ _ a0
  have z1 := World.block_lt_of_cell? _ _ b0
  have z2 := World.block_lt_of_cell? _ _ c0
  dsimp only at z0 z1 z2
  have y1 := World.block_lt_of_cell? _ _ p1
  dsimp only at y1
  have y2 := World.block_lt_of_cell? _ _ p2
  dsimp only at y2
  have y3 := World.block_lt_of_cell? _ _ p3
  dsimp only at y3
  go_wp2_with (go_at_call 13; refine (h5 _).mono ?_; rintro e w5 ⟨rfl, hb5⟩; refine Hid.out ?_)
  refine Lib.hid ?_
  clear a0 a1 a2 b0 b1 b2 c0 c1 c2 f0 f1 f2
  have B5 := (B4.alloc _).on hb5
  obtain ⟨p4, q4⟩ := r_at _ _ _ _ _ hb5
  replace p1 := cell_later hb5 (cell_later (ext_alloc (Below.refl _ _) _) p1)
  replace q1 := cell_later hb5 (cell_later (ext_alloc (Below.refl _ _) _) q1)
  replace p2 := cell_later hb5 (cell_later (ext_alloc (Below.refl _ _) _) p2)
  replace q2 := cell_later hb5 (cell_later (ext_alloc (Below.refl _ _) _) q2)
  replace p3 := cell_later hb5 (cell_later (ext_alloc (Below.refl _ _) _) p3)
  replace q3 := cell_later hb5 (cell_later (ext_alloc (Below.refl _ _) _) q3)
  obtain ⟨a0, a1, a2, b0, b1, b2, c0, c1, c2, f0, f1, f2⟩ := id B5
  have z0 := World.block_lt_of_cell? _ _ a0
  have z1 := World.block_lt_of_cell? _ _ b0
  have z2 := World.block_lt_of_cell? _ _ c0
  dsimp only at z0 z1 z2
  have y1 := World.block_lt_of_cell? _ _ p1
  dsimp only at y1
  have y2 := World.block_lt_of_cell? _ _ p2
  dsimp only at y2
  have y3 := World.block_lt_of_cell? _ _ p3
  dsimp only at y3
  have y4 := World.block_lt_of_cell? _ _ p4
  dsimp only at y4
  go_wp2_with (go_at_call 13; refine (h6 _).mono ?_; rintro e w6 ⟨rfl, hb6⟩; refine Hid.out ?_)
  refine Lib.hid ?_
  clear a0 a1 a2 b0 b1 b2 c0 c1 c2 f0 f1 f2
  have B6 := (B5.alloc _).on hb6
  obtain ⟨p5, q5⟩ := r_at _ _ _ _ _ hb6
  replace p1 := cell_later hb6 (cell_later (ext_alloc (Below.refl _ _) _) p1)
  replace q1 := cell_later hb6 (cell_later (ext_alloc (Below.refl _ _) _) q1)
  replace p2 := cell_later hb6 (cell_later (ext_alloc (Below.refl _ _) _) p2)
  replace q2 := cell_later hb6 (cell_later (ext_alloc (Below.refl _ _) _) q2)
  replace p3 := cell_later hb6 (cell_later (ext_alloc (Below.refl _ _) _) p3)
  replace q3 := cell_later hb6 (cell_later (ext_alloc (Below.refl _ _) _) q3)
  replace p4 := cell_later hb6 (cell_later (ext_alloc (Below.refl _ _) _) p4)
  replace q4 := cell_later hb6 (cell_later (ext_alloc (Below.refl _ _) _) q4)
  obtain ⟨a0, a1, a2, b0, b1, b2, c0, c1, c2, f0, f1, f2⟩ := id B6
  have z0 := World.block_lt_of_cell? _ _ a0
  have z1 := World.block_lt_of_cell? _ _ b0
  have z2 := World.block_lt_of_cell? _ _ c0
  dsimp only at z0 z1 z2
  have y1 := World.block_lt_of_cell? _ _ p1
  dsimp only at y1
  have y2 := World.block_lt_of_cell? _ _ p2
  dsimp only at y2
  have y3 := World.block_lt_of_cell? _ _ p3
  dsimp only at y3
  have y4 := World.block_lt_of_cell? _ _ p4
  dsimp only at y4
  have y5 := World.block_lt_of_cell? _ _ p5
  dsimp only at y5
  go_wp2
  all_goals
    go_ret
    exact ⟨rfl, ext_alloc (ext_trans (ext_alloc (ext_trans (ext_alloc (ext_trans (ext_alloc (ext_trans (ext_alloc (ext_trans (ext_alloc (ext_trans (below3 w _ _ _) hb1) _) hb2) _) hb3) _) hb4) _) hb5) _) hb6) _⟩

end Go.Proofs.YtcfkkmelenjjoaaDoor
