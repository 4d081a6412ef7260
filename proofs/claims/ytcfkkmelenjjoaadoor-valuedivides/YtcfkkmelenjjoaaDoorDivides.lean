/- Walks of the value package, on the way to the statements of chapter 1. -/
import Derived.Test.YtcfkkmelenjjoaaDoorOpA
import Derived.Test.YtcfkkmelenjjoaaDoorReckon
namespace Go.Proofs.YtcfkkmelenjjoaaDoor
open Go.RowKit
open Go

theorem may_num (n : Int) : mayB 2 n ⟨#[]⟩ = true := by
  unfold mayB
  rw [if_neg (by decide), if_neg (by decide +kernel), if_neg (by decide), if_neg (by decide), if_neg (by decide)]; rfl

theorem op_div (a b : Int) (w : World) (hz : (b == 0) = false) : Calls Tryd.prog 13 #[.int .i64 4, val 2 a ⟨#[]⟩, val 2 b ⟨#[]⟩] w fun e w' => e = .returned (.tuple #[val 2 (divV a b) ⟨#[]⟩, .int .i64 0]) ∧ Below w.heap.size w w' :=
  op_reckon4 2 a 2 b _ _ _ _ _ _ w (may_num a) (may_num b) (fun w => reckon_div 2 a 2 b _ _ w rfl rfl hz)
theorem op_mod (a b : Int) (w : World) (hz : (b == 0) = false) : Calls Tryd.prog 13 #[.int .i64 5, val 2 a ⟨#[]⟩, val 2 b ⟨#[]⟩] w fun e w' => e = .returned (.tuple #[val 2 (modV a b) ⟨#[]⟩, .int .i64 0]) ∧ Below w.heap.size w w' :=
  op_reckon5 2 a 2 b _ _ _ _ _ _ w (may_num a) (may_num b) (fun w => reckon_mod 2 a 2 b _ _ w rfl rfl hz)
theorem op_div0 (a b : Int) (w : World) (hz : (b == 0) = true) : Calls Tryd.prog 13 #[.int .i64 4, val 2 a ⟨#[]⟩, val 2 b ⟨#[]⟩] w fun e w' => e = .returned (.tuple #[val 0 0 ⟨#[]⟩, .int .i64 7]) ∧ Below w.heap.size w w' :=
  op_reckon4 2 a 2 b _ _ _ _ _ _ w (may_num a) (may_num b) (fun w => reckon_div0 2 a 2 b _ _ w rfl rfl hz)
theorem op_mod0 (a b : Int) (w : World) (hz : (b == 0) = true) : Calls Tryd.prog 13 #[.int .i64 5, val 2 a ⟨#[]⟩, val 2 b ⟨#[]⟩] w fun e w' => e = .returned (.tuple #[val 0 0 ⟨#[]⟩, .int .i64 7]) ∧ Below w.heap.size w w' :=
  op_reckon5 2 a 2 b _ _ _ _ _ _ w (may_num a) (may_num b) (fun w => reckon_mod0 2 a 2 b _ _ w rfl rfl hz)

/-- Two boxes of the law's: what is divided, and by what. -/
theorem two0 (w : World) (k n k' n' : Int) (s s' : ByteArray) : ∀ wx, Below ((w.alloc (box k n s)).alloc (box k' n' s')).heap.size ((w.alloc (box k n s)).alloc (box k' n' s')) wx →
    wx.cell? ⟨w.heap.size, 0, none⟩ = some (.int .i64 k) ∧ wx.cell? ⟨w.heap.size, 1, none⟩ = some (.int .i64 n) ∧ wx.cell? ⟨w.heap.size, 2, none⟩ = some (.string s) ∧
    wx.cell? ⟨w.heap.size + 1, 0, none⟩ = some (.int .i64 k') ∧ wx.cell? ⟨w.heap.size + 1, 1, none⟩ = some (.int .i64 n') ∧ wx.cell? ⟨w.heap.size + 1, 2, none⟩ = some (.string s') := by
  intro wx hb
  refine ⟨?_, ?_, ?_, ?_, ?_, ?_⟩
  · refine cell_later hb ?_; rw [World.cell?_alloc_past _ _ _ (by simp), World.cell?_alloc_at _ _ _ _ rfl]; rfl
  · refine cell_later hb ?_; rw [World.cell?_alloc_past _ _ _ (by simp), World.cell?_alloc_at _ _ _ _ rfl]; rfl
  · refine cell_later hb ?_; rw [World.cell?_alloc_past _ _ _ (by simp), World.cell?_alloc_at _ _ _ _ rfl]; rfl
  · refine cell_later hb ?_; rw [World.cell?_alloc_at _ _ _ _ (by simp)]; rfl
  · refine cell_later hb ?_; rw [World.cell?_alloc_at _ _ _ _ (by simp)]; rfl
  · refine cell_later hb ?_; rw [World.cell?_alloc_at _ _ _ _ (by simp)]; rfl

set_option maxHeartbeats 800000 in
theorem divides0 (a b : Int) (w : World) (hz : (b == 0) = true) :
    Calls Tryd.prog 5 #[.int .i64 a, .int .i64 b] w fun e w' => e = .returned (.bool true) ∧ Below w.heap.size w w' := by
  have T0 := two0 w 2 a 2 b ⟨#[]⟩ ⟨#[]⟩
  go_enter Tryd.func5, Tryd.ntmps5
  go_wp2_with (go_at_call 13; refine (op_div0 _ _ _ hz).mono ?_; rintro e w1 ⟨rfl, hb1⟩; obtain ⟨a0, a1, a2, b0, b1, b2⟩ := T0 w1 hb1; refine Hid.out ?_)
  refine Lib.hid ?_
  have z0 := World.block_lt_of_cell? _ _ a0
  have z1 := World.block_lt_of_cell? _ _ b0
  dsimp only at z0 z1
  go_wp2_with (go_at_call 13; refine (op_mod0 _ _ _ hz).mono ?_; rintro e w2 ⟨rfl, hb2⟩; refine Hid.out ?_)
  refine Lib.hid ?_
  go_wp2
  go_ret
  exact ⟨rfl, ext_alloc (ext_trans (ext_alloc (ext_trans (ext_alloc (ext_alloc (Below.refl _ _) _) _) hb1) _) hb2) _⟩

set_option maxHeartbeats 800000 in
theorem divides_up (a b : Int) (w : World) (hz : (b == 0) = false) (hp : 0 < b) (hk : wrap64 (wrap64 (divV a b * b) + modV a b) = a) (hl : 0 ≤ modV a b) (hg : modV a b < b) :
    Calls Tryd.prog 5 #[.int .i64 a, .int .i64 b] w fun e w' => e = .returned (.bool true) ∧ Below w.heap.size w w' := by
  have T0 := two0 w 2 a 2 b ⟨#[]⟩ ⟨#[]⟩
  go_enter Tryd.func5, Tryd.ntmps5
  go_wp2_with (go_at_call 13; refine (op_div _ _ _ hz).mono ?_; rintro e w1 ⟨rfl, hb1⟩; obtain ⟨a0, a1, a2, b0, b1, b2⟩ := T0 w1 hb1; refine Hid.out ?_)
  refine Lib.hid ?_
  have z0 := World.block_lt_of_cell? _ _ a0
  have z1 := World.block_lt_of_cell? _ _ b0
  dsimp only at z0 z1
  go_wp2_with (go_at_call 13; refine (op_mod _ _ _ hz).mono ?_; rintro e w2 ⟨rfl, hb2⟩; refine Hid.out ?_)
  refine Lib.hid ?_
  have q0 : w2.cell? ⟨w1.heap.size, 0, none⟩ = some (.int .i64 2) := cell_later hb2 (by rw [World.cell?_alloc_at _ _ _ _ rfl]; rfl)
  have q1 : w2.cell? ⟨w1.heap.size, 1, none⟩ = some (.int .i64 (divV a b)) := cell_later hb2 (by rw [World.cell?_alloc_at _ _ _ _ rfl]; rfl)
  have z2 : w1.heap.size < w2.heap.size := World.block_lt_of_cell? _ _ q0
  go_wp2
  go_ret
  exact ⟨rfl, ext_alloc (ext_trans (ext_alloc (ext_trans (ext_alloc (ext_alloc (Below.refl _ _) _) _) hb1) _) hb2) _⟩

set_option maxHeartbeats 800000 in
theorem divides_down (a b : Int) (w : World) (hz : (b == 0) = false) (hp : b < 0) (hk : wrap64 (wrap64 (divV a b * b) + modV a b) = a) (hl : modV a b ≤ 0) (hg : b < modV a b) :
    Calls Tryd.prog 5 #[.int .i64 a, .int .i64 b] w fun e w' => e = .returned (.bool true) ∧ Below w.heap.size w w' := by
  have T0 := two0 w 2 a 2 b ⟨#[]⟩ ⟨#[]⟩
  go_enter Tryd.func5, Tryd.ntmps5
  go_wp2_with (go_at_call 13; refine (op_div _ _ _ hz).mono ?_; rintro e w1 ⟨rfl, hb1⟩; obtain ⟨a0, a1, a2, b0, b1, b2⟩ := T0 w1 hb1; refine Hid.out ?_)
  refine Lib.hid ?_
  have z0 := World.block_lt_of_cell? _ _ a0
  have z1 := World.block_lt_of_cell? _ _ b0
  dsimp only at z0 z1
  go_wp2_with (go_at_call 13; refine (op_mod _ _ _ hz).mono ?_; rintro e w2 ⟨rfl, hb2⟩; refine Hid.out ?_)
  refine Lib.hid ?_
  have q0 : w2.cell? ⟨w1.heap.size, 0, none⟩ = some (.int .i64 2) := cell_later hb2 (by rw [World.cell?_alloc_at _ _ _ _ rfl]; rfl)
  have q1 : w2.cell? ⟨w1.heap.size, 1, none⟩ = some (.int .i64 (divV a b)) := cell_later hb2 (by rw [World.cell?_alloc_at _ _ _ _ rfl]; rfl)
  have z2 : w1.heap.size < w2.heap.size := World.block_lt_of_cell? _ _ q0
  go_wp2
  go_ret
  exact ⟨rfl, ext_alloc (ext_trans (ext_alloc (ext_trans (ext_alloc (ext_alloc (Below.refl _ _) _) _) hb1) _) hb2) _⟩

theorem divides_any (a b : Int) (w : World) (ha : -9223372036854775808 ≤ a ∧ a ≤ 9223372036854775807) (hb : -9223372036854775808 ≤ b ∧ b ≤ 9223372036854775807) :
    Calls Tryd.prog 5 #[.int .i64 a, .int .i64 b] w fun e w' => e = .returned (.bool true) ∧ Below w.heap.size w w' := by
  rcases Bool.eq_false_or_eq_true (b == 0) with h | h
  · exact divides0 a b w h
  · have h0 : b ≠ 0 := by simpa using h
    obtain ⟨up, down⟩ := modV_bounds ha hb h0
    rcases Int.lt_or_gt_of_ne h0 with hn | hp
    · exact divides_down a b w h hn (back b ha) (down hn).1 (down hn).2
    · exact divides_up a b w h hp (back b ha) (up hp).1 (up hp).2
end Go.Proofs.YtcfkkmelenjjoaaDoor
