/- Walks of the document's own answer: Op, where the operation or a value may not be. -/
import Derived.Test.YthpgbienakcbeaaGreatDoorR22
namespace Go.Proofs.YthpgbienakcbeaaGreatDoor
open Go.RowKit Go
set_option maxRecDepth 100000
set_option maxHeartbeats 8000000
set_option linter.all false
theorem rop_low (op k n k' n' : Int) (s s' : ByteArray) (w : World) (h : op < 1) :
  Calls Tryz.prog 55 #[.int .i64 op, val k n s, val k' n' s'] w fun e w' => e = .returned (.tuple #[val 0 0 ⟨#[]⟩, .int .i64 2]) ∧ Below w.heap.size w w' := by
 go_enter Tryz.func55, Tryz.ntmps55
 go_wp2
 refine bodyPost_ret (v := .tuple #[val 0 0 ⟨#[]⟩, .int .i64 2]) (by simp [results, Tryz.results55, go_sem]) rfl ⟨rfl, ?_⟩
 exact below4 _ _ _ _ _
theorem rop_high (op k n k' n' : Int) (s s' : ByteArray) (w : World) (h : 11 < op) :
  Calls Tryz.prog 55 #[.int .i64 op, val k n s, val k' n' s'] w fun e w' => e = .returned (.tuple #[val 0 0 ⟨#[]⟩, .int .i64 2]) ∧ Below w.heap.size w w' := by
 go_enter Tryz.func55, Tryz.ntmps55
 go_wp2
 refine bodyPost_ret (v := .tuple #[val 0 0 ⟨#[]⟩, .int .i64 2]) (by simp [results, Tryz.results55, go_sem]) rfl ⟨rfl, ?_⟩
 exact below4 _ _ _ _ _
theorem rop_a (op k n k' n' : Int) (s s' : ByteArray) (w : World) (hna : In64 n) (h1 : 1 ≤ op) (h2 : op ≤ 11) (ha : mayB k n s = false) :
  Calls Tryz.prog 55 #[.int .i64 op, val k n s, val k' n' s'] w fun e w' => e = .returned (.tuple #[val 0 0 ⟨#[]⟩, .int .i64 2]) ∧ Below w.heap.size w w' := by
 have B0 := (boxes0 w k n k' n' 0 0 s s' ⟨#[]⟩).alloc' (box 0 0 ⟨#[]⟩)
 have N0 := none0 w (box k n s) (box k' n' s') (box 0 0 ⟨#[]⟩)
 go_enter Tryz.func55, Tryz.ntmps55
 go_wp2_with (go_at_call 47; refine (rmay_bf _ _ _ _ hna ha).mono ?_; rintro e w1 ⟨rfl, hb1⟩; have B1 := B0.on hb1; have N1 := N0.on hb1; obtain ⟨a0, a1, a2, b0, b1, b2, c0, c1, c2, f0, f1, f2⟩ := id B1; refine Hid.out ?_)
 refine Lib.hid ?_
 obtain ⟨m0, m1, m2⟩ := id N1
 have hz := B1.size
 have E1 := ext_trans (below4 w _ _ _ _) hb1
 go_wp2
 refine bodyPost_ret (v := .tuple #[val 0 0 ⟨#[]⟩, .int .i64 2]) (by simp [results, Tryz.results55, go_sem, c0, c1, c2]) rfl ⟨rfl, ?_⟩
 exact ((E1.setCell (by simp; omega) _).setCell (by simp; omega) _).setCell (by simp; omega) _
theorem rop_b (op k n k' n' : Int) (s s' : ByteArray) (w : World) (hna : In64 n) (hnb : In64 n') (h1 : 1 ≤ op) (h2 : op ≤ 11) (ha : mayB k n s = true) (hb : mayB k' n' s' = false) :
  Calls Tryz.prog 55 #[.int .i64 op, val k n s, val k' n' s'] w fun e w' => e = .returned (.tuple #[val 0 0 ⟨#[]⟩, .int .i64 2]) ∧ Below w.heap.size w w' := by
 have B0 := (boxes0 w k n k' n' 0 0 s s' ⟨#[]⟩).alloc' (box 0 0 ⟨#[]⟩)
 have N0 := none0 w (box k n s) (box k' n' s') (box 0 0 ⟨#[]⟩)
 go_enter Tryz.func55, Tryz.ntmps55
 go_wp2_with (go_at_call 47; refine (rmay_bt _ _ _ _ hna ha).mono ?_; rintro e w1 ⟨rfl, hb1⟩; have B1 := B0.on hb1; have N1 := N0.on hb1; obtain ⟨a0, a1, a2, b0, b1, b2, c0, c1, c2, f0, f1, f2⟩ := id B1; refine Hid.out ?_)
 refine Lib.hid ?_
 go_wp2_with (go_at_call 47; refine (rmay_bf _ _ _ _ hnb hb).mono ?_; rintro e w2 ⟨rfl, hb2⟩; clear a0 a1 a2 b0 b1 b2 c0 c1 c2 f0 f1 f2; have B2 := B1.on hb2; have N2 := N1.on hb2; obtain ⟨a0, a1, a2, b0, b1, b2, c0, c1, c2, f0, f1, f2⟩ := id B2; refine Hid.out ?_)
 refine Lib.hid ?_
 obtain ⟨m0, m1, m2⟩ := id N2
 have hz := B2.size
 have E2 := ext_trans (below4 w _ _ _ _) (ext_trans hb1 hb2)
 go_wp2
 refine bodyPost_ret (v := .tuple #[val 0 0 ⟨#[]⟩, .int .i64 2]) (by simp [results, Tryz.results55, go_sem, c0, c1, c2]) rfl ⟨rfl, ?_⟩
 exact ((E2.setCell (by simp; omega) _).setCell (by simp; omega) _).setCell (by simp; omega) _
theorem ropfN (op : Int) (hop : op = 1 ∨ op = 2 ∨ op = 3 ∨ op = 4 ∨ op = 5) (k n k' n' : Int) (s s' : ByteArray) (w : World) (hna : In64 n) (hnb : In64 n') (ha : mayB k n s = true) (hb : mayB k' n' s' = true) (k2 : (k == 2) = false) :
  Calls Tryz.prog 55 #[.int .i64 op, val k n s, val k' n' s'] w fun e w' => e = .returned (.tuple #[val 0 0 ⟨#[]⟩, .int .i64 3]) ∧ Below w.heap.size w w' := by
 rcases hop with rfl | rfl | rfl | rfl | rfl
 all_goals
  rcases Bool.eq_false_or_eq_true (k == 3) with k3 | k3
  all_goals
   have B0 := (boxes0 w k n k' n' 0 0 s s' ⟨#[]⟩).alloc' (box 0 0 ⟨#[]⟩)
   have N0 := none0 w (box k n s) (box k' n' s') (box 0 0 ⟨#[]⟩)
   go_enter Tryz.func55, Tryz.ntmps55
   go_wp2_with (go_at_call 47; refine (rmay_bt _ _ _ _ hna ha).mono ?_; rintro e w1 ⟨rfl, hb1⟩; have B1 := B0.on hb1; have N1 := N0.on hb1; obtain ⟨a0, a1, a2, b0, b1, b2, c0, c1, c2, f0, f1, f2⟩ := id B1; refine Hid.out ?_)
   refine Lib.hid ?_
   go_wp2_with (go_at_call 47; refine (rmay_bt _ _ _ _ hnb hb).mono ?_; rintro e w2 ⟨rfl, hb2⟩; clear a0 a1 a2 b0 b1 b2 c0 c1 c2 f0 f1 f2; have B2 := B1.on hb2; have N2 := N1.on hb2; obtain ⟨a0, a1, a2, b0, b1, b2, c0, c1, c2, f0, f1, f2⟩ := id B2; refine Hid.out ?_)
   refine Lib.hid ?_
   have E2 := ext_trans (below4 w _ _ _ _) (ext_trans hb1 hb2)
   obtain ⟨m0, m1, m2⟩ := id N2
   have hz := B2.size
   have hy0 : w.heap.size < w2.heap.size := by omega
   have hy1 : w.heap.size + 1 < w2.heap.size := by omega
   go_wp2
   refine bodyPost_ret (v := .tuple #[val 0 0 ⟨#[]⟩, .int .i64 3]) (by simp [results, Tryz.results55, go_sem, c0, c1, c2]) rfl ⟨rfl, ?_⟩
   exact ((E2.setCell (by simp; omega) _).setCell (by simp; omega) _).setCell (by simp; omega) _
abbrev ropf1 := ropfN 1 (by simp)
abbrev ropf2 := ropfN 2 (by simp)
abbrev ropf3 := ropfN 3 (by simp)
abbrev ropf4 := ropfN 4 (by simp)
abbrev ropf5 := ropfN 5 (by simp)
theorem ropgN (op : Int) (hop : op = 1 ∨ op = 2 ∨ op = 3 ∨ op = 4 ∨ op = 5) (k n k' n' : Int) (s s' : ByteArray) (w : World) (hna : In64 n) (hnb : In64 n') (ha : mayB k n s = true) (hb : mayB k' n' s' = true) (k2 : (k == 2) = true) (k2' : (k' == 2) = false) (k3 : (k == 3) = false) :
  Calls Tryz.prog 55 #[.int .i64 op, val k n s, val k' n' s'] w fun e w' => e = .returned (.tuple #[val 0 0 ⟨#[]⟩, .int .i64 3]) ∧ Below w.heap.size w w' := by
 rcases hop with rfl | rfl | rfl | rfl | rfl
 all_goals
  have B0 := (boxes0 w k n k' n' 0 0 s s' ⟨#[]⟩).alloc' (box 0 0 ⟨#[]⟩)
  have N0 := none0 w (box k n s) (box k' n' s') (box 0 0 ⟨#[]⟩)
  go_enter Tryz.func55, Tryz.ntmps55
  go_wp2_with (go_at_call 47; refine (rmay_bt _ _ _ _ hna ha).mono ?_; rintro e w1 ⟨rfl, hb1⟩; have B1 := B0.on hb1; have N1 := N0.on hb1; obtain ⟨a0, a1, a2, b0, b1, b2, c0, c1, c2, f0, f1, f2⟩ := id B1; refine Hid.out ?_)
  refine Lib.hid ?_
  go_wp2_with (go_at_call 47; refine (rmay_bt _ _ _ _ hnb hb).mono ?_; rintro e w2 ⟨rfl, hb2⟩; clear a0 a1 a2 b0 b1 b2 c0 c1 c2 f0 f1 f2; have B2 := B1.on hb2; have N2 := N1.on hb2; obtain ⟨a0, a1, a2, b0, b1, b2, c0, c1, c2, f0, f1, f2⟩ := id B2; refine Hid.out ?_)
  refine Lib.hid ?_
  have E2 := ext_trans (below4 w _ _ _ _) (ext_trans hb1 hb2)
  obtain ⟨m0, m1, m2⟩ := id N2
  have hz := B2.size
  have hy0 : w.heap.size < w2.heap.size := by omega
  have hy1 : w.heap.size + 1 < w2.heap.size := by omega
  go_wp2
  refine bodyPost_ret (v := .tuple #[val 0 0 ⟨#[]⟩, .int .i64 3]) (by simp [results, Tryz.results55, go_sem, c0, c1, c2]) rfl ⟨rfl, ?_⟩
  exact ((E2.setCell (by simp; omega) _).setCell (by simp; omega) _).setCell (by simp; omega) _
abbrev ropg1 := ropgN 1 (by simp)
abbrev ropg2 := ropgN 2 (by simp)
abbrev ropg3 := ropgN 3 (by simp)
abbrev ropg4 := ropgN 4 (by simp)
abbrev ropg5 := ropgN 5 (by simp)
theorem ropN_ff (op : Int) (hop : op = 8 ∨ op = 9) (k n k' n' : Int) (s s' : ByteArray) (w : World) (hna : In64 n) (hnb : In64 n') (ha : mayB k n s = true) (hb : mayB k' n' s' = true) (k2 : (k == 2) = false) (k3 : (k == 3) = false) :
  Calls Tryz.prog 55 #[.int .i64 op, val k n s, val k' n' s'] w fun e w' => e = .returned (.tuple #[val 0 0 ⟨#[]⟩, .int .i64 3]) ∧ Below w.heap.size w w' := by
 rcases hop with rfl | rfl
 all_goals
  have B0 := (boxes0 w k n k' n' 0 0 s s' ⟨#[]⟩).alloc' (box 0 0 ⟨#[]⟩)
  have N0 := none0 w (box k n s) (box k' n' s') (box 0 0 ⟨#[]⟩)
  go_enter Tryz.func55, Tryz.ntmps55
  go_wp2_with (go_at_call 47; refine (rmay_bt _ _ _ _ hna ha).mono ?_; rintro e w1 ⟨rfl, hb1⟩; have B1 := B0.on hb1; have N1 := N0.on hb1; obtain ⟨a0, a1, a2, b0, b1, b2, c0, c1, c2, f0, f1, f2⟩ := id B1; refine Hid.out ?_)
  refine Lib.hid ?_
  go_wp2_with (go_at_call 47; refine (rmay_bt _ _ _ _ hnb hb).mono ?_; rintro e w2 ⟨rfl, hb2⟩; clear a0 a1 a2 b0 b1 b2 c0 c1 c2 f0 f1 f2; have B2 := B1.on hb2; have N2 := N1.on hb2; obtain ⟨a0, a1, a2, b0, b1, b2, c0, c1, c2, f0, f1, f2⟩ := id B2; refine Hid.out ?_)
  refine Lib.hid ?_
  have E2 := ext_trans (below4 w _ _ _ _) (ext_trans hb1 hb2)
  obtain ⟨m0, m1, m2⟩ := id N2
  have hz := B2.size
  have hy0 : w.heap.size < w2.heap.size := by omega
  have hy1 : w.heap.size + 1 < w2.heap.size := by omega
  go_wp2
  refine bodyPost_ret (v := .tuple #[val 0 0 ⟨#[]⟩, .int .i64 3]) (by simp [results, Tryz.results55, go_sem, c0, c1, c2]) rfl ⟨rfl, ?_⟩
  exact ((E2.setCell (by simp; omega) _).setCell (by simp; omega) _).setCell (by simp; omega) _
abbrev rop8_ff := ropN_ff 8 (by simp)
abbrev rop9_ff := ropN_ff 9 (by simp)
theorem ropN_fg (op : Int) (hop : op = 8 ∨ op = 9) (k n k' n' : Int) (s s' : ByteArray) (w : World) (hna : In64 n) (hnb : In64 n') (ha : mayB k n s = true) (hb : mayB k' n' s' = true) (k2 : (k == 2) = false) (k3 : (k == 3) = true) (k3' : (k' == 3) = false) :
  Calls Tryz.prog 55 #[.int .i64 op, val k n s, val k' n' s'] w fun e w' => e = .returned (.tuple #[val 0 0 ⟨#[]⟩, .int .i64 3]) ∧ Below w.heap.size w w' := by
 rcases hop with rfl | rfl
 all_goals
  have B0 := (boxes0 w k n k' n' 0 0 s s' ⟨#[]⟩).alloc' (box 0 0 ⟨#[]⟩)
  have N0 := none0 w (box k n s) (box k' n' s') (box 0 0 ⟨#[]⟩)
  go_enter Tryz.func55, Tryz.ntmps55
  go_wp2_with (go_at_call 47; refine (rmay_bt _ _ _ _ hna ha).mono ?_; rintro e w1 ⟨rfl, hb1⟩; have B1 := B0.on hb1; have N1 := N0.on hb1; obtain ⟨a0, a1, a2, b0, b1, b2, c0, c1, c2, f0, f1, f2⟩ := id B1; refine Hid.out ?_)
  refine Lib.hid ?_
  go_wp2_with (go_at_call 47; refine (rmay_bt _ _ _ _ hnb hb).mono ?_; rintro e w2 ⟨rfl, hb2⟩; clear a0 a1 a2 b0 b1 b2 c0 c1 c2 f0 f1 f2; have B2 := B1.on hb2; have N2 := N1.on hb2; obtain ⟨a0, a1, a2, b0, b1, b2, c0, c1, c2, f0, f1, f2⟩ := id B2; refine Hid.out ?_)
  refine Lib.hid ?_
  have E2 := ext_trans (below4 w _ _ _ _) (ext_trans hb1 hb2)
  obtain ⟨m0, m1, m2⟩ := id N2
  have hz := B2.size
  have hy0 : w.heap.size < w2.heap.size := by omega
  have hy1 : w.heap.size + 1 < w2.heap.size := by omega
  go_wp2
  refine bodyPost_ret (v := .tuple #[val 0 0 ⟨#[]⟩, .int .i64 3]) (by simp [results, Tryz.results55, go_sem, c0, c1, c2]) rfl ⟨rfl, ?_⟩
  exact ((E2.setCell (by simp; omega) _).setCell (by simp; omega) _).setCell (by simp; omega) _
abbrev rop8_fg := ropN_fg 8 (by simp)
abbrev rop9_fg := ropN_fg 9 (by simp)
theorem ropN_gf (op : Int) (hop : op = 8 ∨ op = 9) (k n k' n' : Int) (s s' : ByteArray) (w : World) (hna : In64 n) (hnb : In64 n') (ha : mayB k n s = true) (hb : mayB k' n' s' = true) (k2 : (k == 2) = true) (k2' : (k' == 2) = false) (k3 : (k == 3) = false) :
  Calls Tryz.prog 55 #[.int .i64 op, val k n s, val k' n' s'] w fun e w' => e = .returned (.tuple #[val 0 0 ⟨#[]⟩, .int .i64 3]) ∧ Below w.heap.size w w' := by
 rcases hop with rfl | rfl
 all_goals
  have B0 := (boxes0 w k n k' n' 0 0 s s' ⟨#[]⟩).alloc' (box 0 0 ⟨#[]⟩)
  have N0 := none0 w (box k n s) (box k' n' s') (box 0 0 ⟨#[]⟩)
  go_enter Tryz.func55, Tryz.ntmps55
  go_wp2_with (go_at_call 47; refine (rmay_bt _ _ _ _ hna ha).mono ?_; rintro e w1 ⟨rfl, hb1⟩; have B1 := B0.on hb1; have N1 := N0.on hb1; obtain ⟨a0, a1, a2, b0, b1, b2, c0, c1, c2, f0, f1, f2⟩ := id B1; refine Hid.out ?_)
  refine Lib.hid ?_
  go_wp2_with (go_at_call 47; refine (rmay_bt _ _ _ _ hnb hb).mono ?_; rintro e w2 ⟨rfl, hb2⟩; clear a0 a1 a2 b0 b1 b2 c0 c1 c2 f0 f1 f2; have B2 := B1.on hb2; have N2 := N1.on hb2; obtain ⟨a0, a1, a2, b0, b1, b2, c0, c1, c2, f0, f1, f2⟩ := id B2; refine Hid.out ?_)
  refine Lib.hid ?_
  have E2 := ext_trans (below4 w _ _ _ _) (ext_trans hb1 hb2)
  obtain ⟨m0, m1, m2⟩ := id N2
  have hz := B2.size
  have hy0 : w.heap.size < w2.heap.size := by omega
  have hy1 : w.heap.size + 1 < w2.heap.size := by omega
  go_wp2
  refine bodyPost_ret (v := .tuple #[val 0 0 ⟨#[]⟩, .int .i64 3]) (by simp [results, Tryz.results55, go_sem, c0, c1, c2]) rfl ⟨rfl, ?_⟩
  exact ((E2.setCell (by simp; omega) _).setCell (by simp; omega) _).setCell (by simp; omega) _
abbrev rop8_gf := ropN_gf 8 (by simp)
abbrev rop9_gf := ropN_gf 9 (by simp)
theorem keep3 {W : World} {c b o : Nat} {x y z v : Value} {q : Obj} (hne : b ≠ c) (h : W.cell? ⟨b, o, none⟩ = some v) : ((((W.setCell ⟨c, 0, none⟩ x).setCell ⟨c, 1, none⟩ y).setCell ⟨c, 2, none⟩ z).alloc q).drew.cell? ⟨b, o, none⟩ = some v := by
 have e : ∀ (V : World) (p : Nat) (u : Value), (V.setCell ⟨c, p, none⟩ u).cell? ⟨b, o, none⟩ = V.cell? ⟨b, o, none⟩ := fun V p u => World.cell?_of_block (Below.heap_setCell V ⟨c, p, none⟩ u b hne)
 have h3 : (((W.setCell ⟨c, 0, none⟩ x).setCell ⟨c, 1, none⟩ y).setCell ⟨c, 2, none⟩ z).cell? ⟨b, o, none⟩ = some v := by rw [e, e, e]; exact h
 show ((((W.setCell ⟨c, 0, none⟩ x).setCell ⟨c, 1, none⟩ y).setCell ⟨c, 2, none⟩ z).alloc q).cell? ⟨b, o, none⟩ = some v
 exact cell_later (ext_alloc (Below.refl _ _) q) h3
theorem modV_ref (n n' : Int) : IntKind.i64.wrap (n - IntKind.i64.wrap (n' * divV n n')) = modV n n' := by
 unfold modV
 rw [IntWalk.i64_left, IntWalk.i64_left, Int.mul_comm]
theorem rop5 (k n k' n' : Int) (s s' : ByteArray) (w : World) (hna : In64 n) (hnb : In64 n') (ha : mayB k n s = true) (hb : mayB k' n' s' = true) (k2 : (k == 2) = true) (k2' : (k' == 2) = true) (k3 : (k == 3) = false) (hz' : (n' == 0) = false) :
  Calls Tryz.prog 55 #[.int .i64 5, val k n s, val k' n' s'] w fun e w' => e = .returned (.tuple #[val 2 (modV n n') ⟨#[]⟩, .int .i64 0]) ∧ Below w.heap.size w w' := by
 have B0 := (boxes0 w k n k' n' 0 0 s s' ⟨#[]⟩).alloc' (box 0 0 ⟨#[]⟩)
 have N0 := none0 w (box k n s) (box k' n' s') (box 0 0 ⟨#[]⟩)
 go_enter Tryz.func55, Tryz.ntmps55
 go_wp2_with (go_at_call 47; refine (rmay_bt _ _ _ _ hna ha).mono ?_; rintro e w1 ⟨rfl, hb1⟩; have B1 := B0.on hb1; have N1 := N0.on hb1; obtain ⟨a0, a1, a2, b0, b1, b2, c0, c1, c2, f0, f1, f2⟩ := id B1; refine Hid.out ?_)
 refine Lib.hid ?_
 go_wp2_with (go_at_call 47; refine (rmay_bt _ _ _ _ hnb hb).mono ?_; rintro e w2 ⟨rfl, hb2⟩; clear a0 a1 a2 b0 b1 b2 c0 c1 c2 f0 f1 f2; have B2 := B1.on hb2; have N2 := N1.on hb2; obtain ⟨a0, a1, a2, b0, b1, b2, c0, c1, c2, f0, f1, f2⟩ := id B2; refine Hid.out ?_)
 refine Lib.hid ?_
 have E2 := ext_trans (below4 w _ _ _ _) (ext_trans hb1 hb2)
 obtain ⟨m0, m1, m2⟩ := id N2
 have hz := B2.size
 have hy0 : w.heap.size < w2.heap.size := by omega
 have hy1 : w.heap.size + 1 < w2.heap.size := by omega
 have hne3 : ¬ w.heap.size + 1 + 1 = w.heap.size := by omega
 go_wp2
 go_region_held3 (fun w' => w'.cell? ⟨w.heap.size, 1, none⟩ = some (.int .i64 n) ∧ w'.cell? ⟨w.heap.size + 1, 1, none⟩ = some (.int .i64 n')) (first | go_keep | (refine ⟨keep3 (by omega) ?_, keep3 (by omega) ?_⟩ <;> simp [go_sem, *])) (first | (go_at_call 86; refine (rdiv_any _ _ _ hna hnb hz').mono ?_; rintro e wx ⟨rfl, rfl⟩) | (go_at_call 85; refine (rint_any _ _).mono ?_; rintro e wx ⟨rfl, rfl⟩))
 go_wp2
 refine bodyPost_ret (v := .tuple #[val 2 (modV n n') ⟨#[]⟩, .int .i64 0]) (by simp [results, Tryz.results55, go_sem, c0, c1, c2, hz, modV_ref]) rfl ⟨rfl, ?_⟩
 first | exact ext_alloc (((E2.setCell (by simp; omega) _).setCell (by simp; omega) _).setCell (by simp; omega) _) _ | exact ext_drew (ext_alloc (((E2.setCell (by simp; omega) _).setCell (by simp; omega) _).setCell (by simp; omega) _) _) | exact ((E2.setCell (by simp; omega) _).setCell (by simp; omega) _).setCell (by simp; omega) _
theorem ropN_int_lt (op : Int) (hop : op = 8 ∨ op = 9) (k n k' n' : Int) (s s' : ByteArray) (w : World) (hna : In64 n) (hnb : In64 n') (ha : mayB k n s = true) (hb : mayB k' n' s' = true) (k2 : (k == 2) = true) (k2' : (k' == 2) = true) (k3 : (k == 3) = false) (hl : n < n') :
  Calls Tryz.prog 55 #[.int .i64 op, val k n s, val k' n' s'] w fun e w' => e = .returned (.tuple #[val 1 1 ⟨#[]⟩, .int .i64 0]) ∧ Below w.heap.size w w' := by
 rcases hop with rfl | rfl
 all_goals
  have B0 := (boxes0 w k n k' n' 0 0 s s' ⟨#[]⟩).alloc' (box 0 0 ⟨#[]⟩)
  have N0 := none0 w (box k n s) (box k' n' s') (box 0 0 ⟨#[]⟩)
  go_enter Tryz.func55, Tryz.ntmps55
  go_wp2_with (go_at_call 47; refine (rmay_bt _ _ _ _ hna ha).mono ?_; rintro e w1 ⟨rfl, hb1⟩; have B1 := B0.on hb1; have N1 := N0.on hb1; obtain ⟨a0, a1, a2, b0, b1, b2, c0, c1, c2, f0, f1, f2⟩ := id B1; refine Hid.out ?_)
  refine Lib.hid ?_
  go_wp2_with (go_at_call 47; refine (rmay_bt _ _ _ _ hnb hb).mono ?_; rintro e w2 ⟨rfl, hb2⟩; clear a0 a1 a2 b0 b1 b2 c0 c1 c2 f0 f1 f2; have B2 := B1.on hb2; have N2 := N1.on hb2; obtain ⟨a0, a1, a2, b0, b1, b2, c0, c1, c2, f0, f1, f2⟩ := id B2; refine Hid.out ?_)
  refine Lib.hid ?_
  have E2 := ext_trans (below4 w _ _ _ _) (ext_trans hb1 hb2)
  have z2 := B2.size
  go_wp2_with (go_at_call 81; refine (rbool_t _).mono ?_; rintro e w3 ⟨rfl, hb3⟩; clear a0 a1 a2 b0 b1 b2 c0 c1 c2 f0 f1 f2; have B3 := B2.on hb3; have N3 := N2.on hb3; obtain ⟨a0, a1, a2, b0, b1, b2, c0, c1, c2, f0, f1, f2⟩ := id B3; refine Hid.out ?_)
  refine Lib.hid ?_
  have E3 := ext_trans E2 hb3
  obtain ⟨m0, m1, m2⟩ := id N3
  have hz := B3.size
  have hy0 : w.heap.size < w3.heap.size := by omega
  have hy1 : w.heap.size + 1 < w3.heap.size := by omega
  go_wp2
  refine bodyPost_ret (v := .tuple #[val 1 1 ⟨#[]⟩, .int .i64 0]) (by simp [results, Tryz.results55, go_sem, c0, c1, c2]) rfl ⟨rfl, ?_⟩
  exact ((E3.setCell (by simp; omega) _).setCell (by simp; omega) _).setCell (by simp; omega) _
abbrev rop8_int_lt := ropN_int_lt 8 (by simp)
abbrev rop9_int_lt := ropN_int_lt 9 (by simp)
theorem rop8_int_gt (k n k' n' : Int) (s s' : ByteArray) (w : World) (hna : In64 n) (hnb : In64 n') (ha : mayB k n s = true) (hb : mayB k' n' s' = true) (k2 : (k == 2) = true) (k2' : (k' == 2) = true) (k3 : (k == 3) = false) (hd : decide (n < n') = false) :
  Calls Tryz.prog 55 #[.int .i64 8, val k n s, val k' n' s'] w fun e w' => e = .returned (.tuple #[val 1 0 ⟨#[]⟩, .int .i64 0]) ∧ Below w.heap.size w w' := by
 have B0 := (boxes0 w k n k' n' 0 0 s s' ⟨#[]⟩).alloc' (box 0 0 ⟨#[]⟩)
 have N0 := none0 w (box k n s) (box k' n' s') (box 0 0 ⟨#[]⟩)
 go_enter Tryz.func55, Tryz.ntmps55
 go_wp2_with (go_at_call 47; refine (rmay_bt _ _ _ _ hna ha).mono ?_; rintro e w1 ⟨rfl, hb1⟩; have B1 := B0.on hb1; have N1 := N0.on hb1; obtain ⟨a0, a1, a2, b0, b1, b2, c0, c1, c2, f0, f1, f2⟩ := id B1; refine Hid.out ?_)
 refine Lib.hid ?_
 go_wp2_with (go_at_call 47; refine (rmay_bt _ _ _ _ hnb hb).mono ?_; rintro e w2 ⟨rfl, hb2⟩; clear a0 a1 a2 b0 b1 b2 c0 c1 c2 f0 f1 f2; have B2 := B1.on hb2; have N2 := N1.on hb2; obtain ⟨a0, a1, a2, b0, b1, b2, c0, c1, c2, f0, f1, f2⟩ := id B2; refine Hid.out ?_)
 refine Lib.hid ?_
 have E2 := ext_trans (below4 w _ _ _ _) (ext_trans hb1 hb2)
 have z2 := B2.size
 go_wp2_with (go_at_call 81; refine (rbool_f _).mono ?_; rintro e w3 ⟨rfl, hb3⟩; clear a0 a1 a2 b0 b1 b2 c0 c1 c2 f0 f1 f2; have B3 := B2.on hb3; have N3 := N2.on hb3; obtain ⟨a0, a1, a2, b0, b1, b2, c0, c1, c2, f0, f1, f2⟩ := id B3; refine Hid.out ?_)
 refine Lib.hid ?_
 have E3 := ext_trans E2 hb3
 obtain ⟨m0, m1, m2⟩ := id N3
 have hz := B3.size
 have hy0 : w.heap.size < w3.heap.size := by omega
 have hy1 : w.heap.size + 1 < w3.heap.size := by omega
 go_wp2
 refine bodyPost_ret (v := .tuple #[val 1 0 ⟨#[]⟩, .int .i64 0]) (by simp [results, Tryz.results55, go_sem, c0, c1, c2]) rfl ⟨rfl, ?_⟩
 exact ((E3.setCell (by simp; omega) _).setCell (by simp; omega) _).setCell (by simp; omega) _
theorem rop8_int_eq (k n : Int) (s : ByteArray) (w : World) (hna : In64 n) (ha : mayB k n s = true) (k2 : (k == 2) = true) (k3 : (k == 3) = false) :
  Calls Tryz.prog 55 #[.int .i64 8, val k n s, val k n s] w fun e w' => e = .returned (.tuple #[val 1 0 ⟨#[]⟩, .int .i64 0]) ∧ Below w.heap.size w w' := by
 have B0 := (boxes0 w k n k n 0 0 s s ⟨#[]⟩).alloc' (box 0 0 ⟨#[]⟩)
 have N0 := none0 w (box k n s) (box k n s) (box 0 0 ⟨#[]⟩)
 go_enter Tryz.func55, Tryz.ntmps55
 go_wp2_with (go_at_call 47; refine (rmay_bt _ _ _ _ hna ha).mono ?_; rintro e w1 ⟨rfl, hb1⟩; have B1 := B0.on hb1; have N1 := N0.on hb1; obtain ⟨a0, a1, a2, b0, b1, b2, c0, c1, c2, f0, f1, f2⟩ := id B1; refine Hid.out ?_)
 refine Lib.hid ?_
 go_wp2_with (go_at_call 47; refine (rmay_bt _ _ _ _ hna ha).mono ?_; rintro e w2 ⟨rfl, hb2⟩; clear a0 a1 a2 b0 b1 b2 c0 c1 c2 f0 f1 f2; have B2 := B1.on hb2; have N2 := N1.on hb2; obtain ⟨a0, a1, a2, b0, b1, b2, c0, c1, c2, f0, f1, f2⟩ := id B2; refine Hid.out ?_)
 refine Lib.hid ?_
 have E2 := ext_trans (below4 w _ _ _ _) (ext_trans hb1 hb2)
 have z2 := B2.size
 go_wp2_with (go_at_call 81; refine (rbool_f _).mono ?_; rintro e w3 ⟨rfl, hb3⟩; clear a0 a1 a2 b0 b1 b2 c0 c1 c2 f0 f1 f2; have B3 := B2.on hb3; have N3 := N2.on hb3; obtain ⟨a0, a1, a2, b0, b1, b2, c0, c1, c2, f0, f1, f2⟩ := id B3; refine Hid.out ?_)
 refine Lib.hid ?_
 have E3 := ext_trans E2 hb3
 obtain ⟨m0, m1, m2⟩ := id N3
 have hz := B3.size
 have hy0 : w.heap.size < w3.heap.size := by omega
 have hy1 : w.heap.size + 1 < w3.heap.size := by omega
 go_wp2
 refine bodyPost_ret (v := .tuple #[val 1 0 ⟨#[]⟩, .int .i64 0]) (by simp [results, Tryz.results55, go_sem, c0, c1, c2]) rfl ⟨rfl, ?_⟩
 exact ((E3.setCell (by simp; omega) _).setCell (by simp; omega) _).setCell (by simp; omega) _
theorem rop9_int_gt (k n k' n' : Int) (s s' : ByteArray) (w : World) (hna : In64 n) (hnb : In64 n') (ha : mayB k n s = true) (hb : mayB k' n' s' = true) (k2 : (k == 2) = true) (k2' : (k' == 2) = true) (k3 : (k == 3) = false) (hd : decide (n < n') = false) (hns : ¬ (k = k' ∧ n = n' ∧ s.toList = s'.toList)) :
  Calls Tryz.prog 55 #[.int .i64 9, val k n s, val k' n' s'] w fun e w' => e = .returned (.tuple #[val 1 0 ⟨#[]⟩, .int .i64 0]) ∧ Below w.heap.size w w' := by
 have B0 := (boxes0 w k n k' n' 0 0 s s' ⟨#[]⟩).alloc' (box 0 0 ⟨#[]⟩)
 have N0 := none0 w (box k n s) (box k' n' s') (box 0 0 ⟨#[]⟩)
 go_enter Tryz.func55, Tryz.ntmps55
 go_wp2_with (go_at_call 47; refine (rmay_bt _ _ _ _ hna ha).mono ?_; rintro e w1 ⟨rfl, hb1⟩; have B1 := B0.on hb1; have N1 := N0.on hb1; obtain ⟨a0, a1, a2, b0, b1, b2, c0, c1, c2, f0, f1, f2⟩ := id B1; refine Hid.out ?_)
 refine Lib.hid ?_
 go_wp2_with (go_at_call 47; refine (rmay_bt _ _ _ _ hnb hb).mono ?_; rintro e w2 ⟨rfl, hb2⟩; clear a0 a1 a2 b0 b1 b2 c0 c1 c2 f0 f1 f2; have B2 := B1.on hb2; have N2 := N1.on hb2; obtain ⟨a0, a1, a2, b0, b1, b2, c0, c1, c2, f0, f1, f2⟩ := id B2; refine Hid.out ?_)
 refine Lib.hid ?_
 have E2 := ext_trans (below4 w _ _ _ _) (ext_trans hb1 hb2)
 have z2 := B2.size
 go_wp2_with (go_at_call 23; refine (rsame_ft k n k' n' s s' _ hns).mono ?_; rintro e w3 ⟨rfl, hb3⟩; clear a0 a1 a2 b0 b1 b2 c0 c1 c2 f0 f1 f2; have B3 := B2.on hb3; have N3 := N2.on hb3; obtain ⟨a0, a1, a2, b0, b1, b2, c0, c1, c2, f0, f1, f2⟩ := id B3; refine Hid.out ?_)
 refine Lib.hid ?_
 have E3 := ext_trans E2 hb3
 have z3 := B3.size
 go_wp2_with (go_at_call 81; refine (rbool_f _).mono ?_; rintro e w4 ⟨rfl, hb4⟩; clear a0 a1 a2 b0 b1 b2 c0 c1 c2 f0 f1 f2; have B4 := B3.on hb4; have N4 := N3.on hb4; obtain ⟨a0, a1, a2, b0, b1, b2, c0, c1, c2, f0, f1, f2⟩ := id B4; refine Hid.out ?_)
 refine Lib.hid ?_
 have E4 := ext_trans E3 hb4
 obtain ⟨m0, m1, m2⟩ := id N4
 have hz := B4.size
 have hy0 : w.heap.size < w4.heap.size := by omega
 have hy1 : w.heap.size + 1 < w4.heap.size := by omega
 go_wp2
 refine bodyPost_ret (v := .tuple #[val 1 0 ⟨#[]⟩, .int .i64 0]) (by simp [results, Tryz.results55, go_sem, c0, c1, c2]) rfl ⟨rfl, ?_⟩
 exact ((E4.setCell (by simp; omega) _).setCell (by simp; omega) _).setCell (by simp; omega) _
theorem rop9_int_eq (k n : Int) (s : ByteArray) (w : World) (hna : In64 n) (ha : mayB k n s = true) (k2 : (k == 2) = true) (k3 : (k == 3) = false) :
  Calls Tryz.prog 55 #[.int .i64 9, val k n s, val k n s] w fun e w' => e = .returned (.tuple #[val 1 1 ⟨#[]⟩, .int .i64 0]) ∧ Below w.heap.size w w' := by
 have B0 := (boxes0 w k n k n 0 0 s s ⟨#[]⟩).alloc' (box 0 0 ⟨#[]⟩)
 have N0 := none0 w (box k n s) (box k n s) (box 0 0 ⟨#[]⟩)
 go_enter Tryz.func55, Tryz.ntmps55
 go_wp2_with (go_at_call 47; refine (rmay_bt _ _ _ _ hna ha).mono ?_; rintro e w1 ⟨rfl, hb1⟩; have B1 := B0.on hb1; have N1 := N0.on hb1; obtain ⟨a0, a1, a2, b0, b1, b2, c0, c1, c2, f0, f1, f2⟩ := id B1; refine Hid.out ?_)
 refine Lib.hid ?_
 go_wp2_with (go_at_call 47; refine (rmay_bt _ _ _ _ hna ha).mono ?_; rintro e w2 ⟨rfl, hb2⟩; clear a0 a1 a2 b0 b1 b2 c0 c1 c2 f0 f1 f2; have B2 := B1.on hb2; have N2 := N1.on hb2; obtain ⟨a0, a1, a2, b0, b1, b2, c0, c1, c2, f0, f1, f2⟩ := id B2; refine Hid.out ?_)
 refine Lib.hid ?_
 have E2 := ext_trans (below4 w _ _ _ _) (ext_trans hb1 hb2)
 have z2 := B2.size
 go_wp2_with (go_at_call 23; refine (rsame_tt k n s _).mono ?_; rintro e w3 ⟨rfl, hb3⟩; clear a0 a1 a2 b0 b1 b2 c0 c1 c2 f0 f1 f2; have B3 := B2.on hb3; have N3 := N2.on hb3; obtain ⟨a0, a1, a2, b0, b1, b2, c0, c1, c2, f0, f1, f2⟩ := id B3; refine Hid.out ?_)
 refine Lib.hid ?_
 have E3 := ext_trans E2 hb3
 have z3 := B3.size
 go_wp2_with (go_at_call 81; refine (rbool_t _).mono ?_; rintro e w4 ⟨rfl, hb4⟩; clear a0 a1 a2 b0 b1 b2 c0 c1 c2 f0 f1 f2; have B4 := B3.on hb4; have N4 := N3.on hb4; obtain ⟨a0, a1, a2, b0, b1, b2, c0, c1, c2, f0, f1, f2⟩ := id B4; refine Hid.out ?_)
 refine Lib.hid ?_
 have E4 := ext_trans E3 hb4
 obtain ⟨m0, m1, m2⟩ := id N4
 have hz := B4.size
 have hy0 : w.heap.size < w4.heap.size := by omega
 have hy1 : w.heap.size + 1 < w4.heap.size := by omega
 go_wp2
 refine bodyPost_ret (v := .tuple #[val 1 1 ⟨#[]⟩, .int .i64 0]) (by simp [results, Tryz.results55, go_sem, c0, c1, c2]) rfl ⟨rfl, ?_⟩
 exact ((E4.setCell (by simp; omega) _).setCell (by simp; omega) _).setCell (by simp; omega) _
theorem rop7_t (k n : Int) (s : ByteArray) (w : World) (hna : In64 n) (ha : mayB k n s = true)  :
  Calls Tryz.prog 55 #[.int .i64 7, val k n s, val k n s] w fun e w' => e = .returned (.tuple #[val 1 1 ⟨#[]⟩, .int .i64 0]) ∧ Below w.heap.size w w' := by
 rcases Bool.eq_false_or_eq_true (k == 2) with k2 | k2 <;> rcases Bool.eq_false_or_eq_true (k == 3) with k3 | k3 <;> rcases Bool.eq_false_or_eq_true (k == 2) with k2' | k2'
 all_goals
  have B0 := (boxes0 w k n k n 0 0 s s ⟨#[]⟩).alloc' (box 0 0 ⟨#[]⟩)
  have N0 := none0 w (box k n s) (box k n s) (box 0 0 ⟨#[]⟩)
  go_enter Tryz.func55, Tryz.ntmps55
  go_wp2_with (go_at_call 47; refine (rmay_bt _ _ _ _ hna ha).mono ?_; rintro e w1 ⟨rfl, hb1⟩; have B1 := B0.on hb1; have N1 := N0.on hb1; obtain ⟨a0, a1, a2, b0, b1, b2, c0, c1, c2, f0, f1, f2⟩ := id B1; refine Hid.out ?_)
  refine Lib.hid ?_
  go_wp2_with (go_at_call 47; refine (rmay_bt _ _ _ _ hna ha).mono ?_; rintro e w2 ⟨rfl, hb2⟩; clear a0 a1 a2 b0 b1 b2 c0 c1 c2 f0 f1 f2; have B2 := B1.on hb2; have N2 := N1.on hb2; obtain ⟨a0, a1, a2, b0, b1, b2, c0, c1, c2, f0, f1, f2⟩ := id B2; refine Hid.out ?_)
  refine Lib.hid ?_
  have E2 := ext_trans (below4 w _ _ _ _) (ext_trans hb1 hb2)
  have z2 := B2.size
  go_wp2_with (go_at_call 23; refine (rsame_tt k n s _).mono ?_; rintro e w3 ⟨rfl, hb3⟩; clear a0 a1 a2 b0 b1 b2 c0 c1 c2 f0 f1 f2; have B3 := B2.on hb3; have N3 := N2.on hb3; obtain ⟨a0, a1, a2, b0, b1, b2, c0, c1, c2, f0, f1, f2⟩ := id B3; refine Hid.out ?_)
  refine Lib.hid ?_
  have E3 := ext_trans E2 hb3
  have z3 := B3.size
  go_wp2_with (go_at_call 81; refine (rbool_t _).mono ?_; rintro e w4 ⟨rfl, hb4⟩; clear a0 a1 a2 b0 b1 b2 c0 c1 c2 f0 f1 f2; have B4 := B3.on hb4; have N4 := N3.on hb4; obtain ⟨a0, a1, a2, b0, b1, b2, c0, c1, c2, f0, f1, f2⟩ := id B4; refine Hid.out ?_)
  refine Lib.hid ?_
  have E4 := ext_trans E3 hb4
  obtain ⟨m0, m1, m2⟩ := id N4
  have hz := B4.size
  have hy0 : w.heap.size < w4.heap.size := by omega
  have hy1 : w.heap.size + 1 < w4.heap.size := by omega
  go_wp2
  refine bodyPost_ret (v := .tuple #[val 1 1 ⟨#[]⟩, .int .i64 0]) (by simp [results, Tryz.results55, go_sem, c0, c1, c2]) rfl ⟨rfl, ?_⟩
  exact ((E4.setCell (by simp; omega) _).setCell (by simp; omega) _).setCell (by simp; omega) _
theorem rop7_f (k n k' n' : Int) (s s' : ByteArray) (w : World) (hna : In64 n) (hnb : In64 n') (ha : mayB k n s = true) (hb : mayB k' n' s' = true) (hns : ¬ (k = k' ∧ n = n' ∧ s.toList = s'.toList)) :
  Calls Tryz.prog 55 #[.int .i64 7, val k n s, val k' n' s'] w fun e w' => e = .returned (.tuple #[val 1 0 ⟨#[]⟩, .int .i64 0]) ∧ Below w.heap.size w w' := by
 rcases Bool.eq_false_or_eq_true (k == 2) with k2 | k2 <;> rcases Bool.eq_false_or_eq_true (k == 3) with k3 | k3 <;> rcases Bool.eq_false_or_eq_true (k' == 2) with k2' | k2'
 all_goals
  have B0 := (boxes0 w k n k' n' 0 0 s s' ⟨#[]⟩).alloc' (box 0 0 ⟨#[]⟩)
  have N0 := none0 w (box k n s) (box k' n' s') (box 0 0 ⟨#[]⟩)
  go_enter Tryz.func55, Tryz.ntmps55
  go_wp2_with (go_at_call 47; refine (rmay_bt _ _ _ _ hna ha).mono ?_; rintro e w1 ⟨rfl, hb1⟩; have B1 := B0.on hb1; have N1 := N0.on hb1; obtain ⟨a0, a1, a2, b0, b1, b2, c0, c1, c2, f0, f1, f2⟩ := id B1; refine Hid.out ?_)
  refine Lib.hid ?_
  go_wp2_with (go_at_call 47; refine (rmay_bt _ _ _ _ hnb hb).mono ?_; rintro e w2 ⟨rfl, hb2⟩; clear a0 a1 a2 b0 b1 b2 c0 c1 c2 f0 f1 f2; have B2 := B1.on hb2; have N2 := N1.on hb2; obtain ⟨a0, a1, a2, b0, b1, b2, c0, c1, c2, f0, f1, f2⟩ := id B2; refine Hid.out ?_)
  refine Lib.hid ?_
  have E2 := ext_trans (below4 w _ _ _ _) (ext_trans hb1 hb2)
  have z2 := B2.size
  go_wp2_with (go_at_call 23; refine (rsame_ft k n k' n' s s' _ hns).mono ?_; rintro e w3 ⟨rfl, hb3⟩; clear a0 a1 a2 b0 b1 b2 c0 c1 c2 f0 f1 f2; have B3 := B2.on hb3; have N3 := N2.on hb3; obtain ⟨a0, a1, a2, b0, b1, b2, c0, c1, c2, f0, f1, f2⟩ := id B3; refine Hid.out ?_)
  refine Lib.hid ?_
  have E3 := ext_trans E2 hb3
  have z3 := B3.size
  go_wp2_with (go_at_call 81; refine (rbool_f _).mono ?_; rintro e w4 ⟨rfl, hb4⟩; clear a0 a1 a2 b0 b1 b2 c0 c1 c2 f0 f1 f2; have B4 := B3.on hb4; have N4 := N3.on hb4; obtain ⟨a0, a1, a2, b0, b1, b2, c0, c1, c2, f0, f1, f2⟩ := id B4; refine Hid.out ?_)
  refine Lib.hid ?_
  have E4 := ext_trans E3 hb4
  obtain ⟨m0, m1, m2⟩ := id N4
  have hz := B4.size
  have hy0 : w.heap.size < w4.heap.size := by omega
  have hy1 : w.heap.size + 1 < w4.heap.size := by omega
  go_wp2
  refine bodyPost_ret (v := .tuple #[val 1 0 ⟨#[]⟩, .int .i64 0]) (by simp [results, Tryz.results55, go_sem, c0, c1, c2]) rfl ⟨rfl, ?_⟩
  exact ((E4.setCell (by simp; omega) _).setCell (by simp; omega) _).setCell (by simp; omega) _
theorem less_irrefl : ∀ x : List UInt8, Op.bytesLess x x = false
 | [] => rfl
 | a :: x => by rw [Op.bytesLess, less_irrefl x]; simp
theorem ropN_txt_lt (op : Int) (hop : op = 8 ∨ op = 9) (k n k' n' : Int) (s s' : ByteArray) (w : World) (hna : In64 n) (hnb : In64 n') (ha : mayB k n s = true) (hb : mayB k' n' s' = true) (k2 : (k == 2) = false) (k3 : (k == 3) = true) (k3' : (k' == 3) = true) (hs : s.size ≤ 300) (hl : Op.bytesLess s.toList s'.toList = true) :
  Calls Tryz.prog 55 #[.int .i64 op, val k n s, val k' n' s'] w fun e w' => e = .returned (.tuple #[val 1 1 ⟨#[]⟩, .int .i64 0]) ∧ Below w.heap.size w w' := by
 rcases hop with rfl | rfl
 all_goals
  have B0 := (boxes0 w k n k' n' 0 0 s s' ⟨#[]⟩).alloc' (box 0 0 ⟨#[]⟩)
  have N0 := none0 w (box k n s) (box k' n' s') (box 0 0 ⟨#[]⟩)
  go_enter Tryz.func55, Tryz.ntmps55
  go_wp2_with (go_at_call 47; refine (rmay_bt _ _ _ _ hna ha).mono ?_; rintro e w1 ⟨rfl, hb1⟩; have B1 := B0.on hb1; have N1 := N0.on hb1; obtain ⟨a0, a1, a2, b0, b1, b2, c0, c1, c2, f0, f1, f2⟩ := id B1; refine Hid.out ?_)
  refine Lib.hid ?_
  go_wp2_with (go_at_call 47; refine (rmay_bt _ _ _ _ hnb hb).mono ?_; rintro e w2 ⟨rfl, hb2⟩; clear a0 a1 a2 b0 b1 b2 c0 c1 c2 f0 f1 f2; have B2 := B1.on hb2; have N2 := N1.on hb2; obtain ⟨a0, a1, a2, b0, b1, b2, c0, c1, c2, f0, f1, f2⟩ := id B2; refine Hid.out ?_)
  refine Lib.hid ?_
  have E2 := ext_trans (below4 w _ _ _ _) (ext_trans hb1 hb2)
  have z2 := B2.size
  go_wp2_with (go_at_call 83; refine (before_t _ _ _ hs hl).mono ?_; rintro e w3 ⟨rfl, hb3⟩; clear a0 a1 a2 b0 b1 b2 c0 c1 c2 f0 f1 f2; have B3 := B2.on hb3; have N3 := N2.on hb3; obtain ⟨a0, a1, a2, b0, b1, b2, c0, c1, c2, f0, f1, f2⟩ := id B3; refine Hid.out ?_)
  refine Lib.hid ?_
  have E3 := ext_trans E2 hb3
  have z3 := B3.size
  go_wp2_with (go_at_call 81; refine (rbool_t _).mono ?_; rintro e w4 ⟨rfl, hb4⟩; clear a0 a1 a2 b0 b1 b2 c0 c1 c2 f0 f1 f2; have B4 := B3.on hb4; have N4 := N3.on hb4; obtain ⟨a0, a1, a2, b0, b1, b2, c0, c1, c2, f0, f1, f2⟩ := id B4; refine Hid.out ?_)
  refine Lib.hid ?_
  have E4 := ext_trans E3 hb4
  obtain ⟨m0, m1, m2⟩ := id N4
  have hz := B4.size
  have hy0 : w.heap.size < w4.heap.size := by omega
  have hy1 : w.heap.size + 1 < w4.heap.size := by omega
  go_wp2
  refine bodyPost_ret (v := .tuple #[val 1 1 ⟨#[]⟩, .int .i64 0]) (by simp [results, Tryz.results55, go_sem, c0, c1, c2]) rfl ⟨rfl, ?_⟩
  exact ((E4.setCell (by simp; omega) _).setCell (by simp; omega) _).setCell (by simp; omega) _
abbrev rop8_txt_lt := ropN_txt_lt 8 (by simp)
abbrev rop9_txt_lt := ropN_txt_lt 9 (by simp)
theorem rop8_txt_gt (k n k' n' : Int) (s s' : ByteArray) (w : World) (hna : In64 n) (hnb : In64 n') (ha : mayB k n s = true) (hb : mayB k' n' s' = true) (k2 : (k == 2) = false) (k3 : (k == 3) = true) (k3' : (k' == 3) = true) (hs : s.size ≤ 300) (hl : Op.bytesLess s.toList s'.toList = false) :
  Calls Tryz.prog 55 #[.int .i64 8, val k n s, val k' n' s'] w fun e w' => e = .returned (.tuple #[val 1 0 ⟨#[]⟩, .int .i64 0]) ∧ Below w.heap.size w w' := by
 have B0 := (boxes0 w k n k' n' 0 0 s s' ⟨#[]⟩).alloc' (box 0 0 ⟨#[]⟩)
 have N0 := none0 w (box k n s) (box k' n' s') (box 0 0 ⟨#[]⟩)
 go_enter Tryz.func55, Tryz.ntmps55
 go_wp2_with (go_at_call 47; refine (rmay_bt _ _ _ _ hna ha).mono ?_; rintro e w1 ⟨rfl, hb1⟩; have B1 := B0.on hb1; have N1 := N0.on hb1; obtain ⟨a0, a1, a2, b0, b1, b2, c0, c1, c2, f0, f1, f2⟩ := id B1; refine Hid.out ?_)
 refine Lib.hid ?_
 go_wp2_with (go_at_call 47; refine (rmay_bt _ _ _ _ hnb hb).mono ?_; rintro e w2 ⟨rfl, hb2⟩; clear a0 a1 a2 b0 b1 b2 c0 c1 c2 f0 f1 f2; have B2 := B1.on hb2; have N2 := N1.on hb2; obtain ⟨a0, a1, a2, b0, b1, b2, c0, c1, c2, f0, f1, f2⟩ := id B2; refine Hid.out ?_)
 refine Lib.hid ?_
 have E2 := ext_trans (below4 w _ _ _ _) (ext_trans hb1 hb2)
 have z2 := B2.size
 go_wp2_with (go_at_call 83; refine (before_f _ _ _ hs hl).mono ?_; rintro e w3 ⟨rfl, hb3⟩; clear a0 a1 a2 b0 b1 b2 c0 c1 c2 f0 f1 f2; have B3 := B2.on hb3; have N3 := N2.on hb3; obtain ⟨a0, a1, a2, b0, b1, b2, c0, c1, c2, f0, f1, f2⟩ := id B3; refine Hid.out ?_)
 refine Lib.hid ?_
 have E3 := ext_trans E2 hb3
 have z3 := B3.size
 go_wp2_with (go_at_call 81; refine (rbool_f _).mono ?_; rintro e w4 ⟨rfl, hb4⟩; clear a0 a1 a2 b0 b1 b2 c0 c1 c2 f0 f1 f2; have B4 := B3.on hb4; have N4 := N3.on hb4; obtain ⟨a0, a1, a2, b0, b1, b2, c0, c1, c2, f0, f1, f2⟩ := id B4; refine Hid.out ?_)
 refine Lib.hid ?_
 have E4 := ext_trans E3 hb4
 obtain ⟨m0, m1, m2⟩ := id N4
 have hz := B4.size
 have hy0 : w.heap.size < w4.heap.size := by omega
 have hy1 : w.heap.size + 1 < w4.heap.size := by omega
 go_wp2
 refine bodyPost_ret (v := .tuple #[val 1 0 ⟨#[]⟩, .int .i64 0]) (by simp [results, Tryz.results55, go_sem, c0, c1, c2]) rfl ⟨rfl, ?_⟩
 exact ((E4.setCell (by simp; omega) _).setCell (by simp; omega) _).setCell (by simp; omega) _
theorem rop8_txt_eq (k n : Int) (s : ByteArray) (w : World) (hna : In64 n) (ha : mayB k n s = true) (k2 : (k == 2) = false) (k3 : (k == 3) = true) (hs : s.size ≤ 300) :
  Calls Tryz.prog 55 #[.int .i64 8, val k n s, val k n s] w fun e w' => e = .returned (.tuple #[val 1 0 ⟨#[]⟩, .int .i64 0]) ∧ Below w.heap.size w w' := by
 have B0 := (boxes0 w k n k n 0 0 s s ⟨#[]⟩).alloc' (box 0 0 ⟨#[]⟩)
 have N0 := none0 w (box k n s) (box k n s) (box 0 0 ⟨#[]⟩)
 go_enter Tryz.func55, Tryz.ntmps55
 go_wp2_with (go_at_call 47; refine (rmay_bt _ _ _ _ hna ha).mono ?_; rintro e w1 ⟨rfl, hb1⟩; have B1 := B0.on hb1; have N1 := N0.on hb1; obtain ⟨a0, a1, a2, b0, b1, b2, c0, c1, c2, f0, f1, f2⟩ := id B1; refine Hid.out ?_)
 refine Lib.hid ?_
 go_wp2_with (go_at_call 47; refine (rmay_bt _ _ _ _ hna ha).mono ?_; rintro e w2 ⟨rfl, hb2⟩; clear a0 a1 a2 b0 b1 b2 c0 c1 c2 f0 f1 f2; have B2 := B1.on hb2; have N2 := N1.on hb2; obtain ⟨a0, a1, a2, b0, b1, b2, c0, c1, c2, f0, f1, f2⟩ := id B2; refine Hid.out ?_)
 refine Lib.hid ?_
 have E2 := ext_trans (below4 w _ _ _ _) (ext_trans hb1 hb2)
 have z2 := B2.size
 go_wp2_with (go_at_call 83; refine (before_f _ _ _ hs (less_irrefl _)).mono ?_; rintro e w3 ⟨rfl, hb3⟩; clear a0 a1 a2 b0 b1 b2 c0 c1 c2 f0 f1 f2; have B3 := B2.on hb3; have N3 := N2.on hb3; obtain ⟨a0, a1, a2, b0, b1, b2, c0, c1, c2, f0, f1, f2⟩ := id B3; refine Hid.out ?_)
 refine Lib.hid ?_
 have E3 := ext_trans E2 hb3
 have z3 := B3.size
 go_wp2_with (go_at_call 81; refine (rbool_f _).mono ?_; rintro e w4 ⟨rfl, hb4⟩; clear a0 a1 a2 b0 b1 b2 c0 c1 c2 f0 f1 f2; have B4 := B3.on hb4; have N4 := N3.on hb4; obtain ⟨a0, a1, a2, b0, b1, b2, c0, c1, c2, f0, f1, f2⟩ := id B4; refine Hid.out ?_)
 refine Lib.hid ?_
 have E4 := ext_trans E3 hb4
 obtain ⟨m0, m1, m2⟩ := id N4
 have hz := B4.size
 have hy0 : w.heap.size < w4.heap.size := by omega
 have hy1 : w.heap.size + 1 < w4.heap.size := by omega
 go_wp2
 refine bodyPost_ret (v := .tuple #[val 1 0 ⟨#[]⟩, .int .i64 0]) (by simp [results, Tryz.results55, go_sem, c0, c1, c2]) rfl ⟨rfl, ?_⟩
 exact ((E4.setCell (by simp; omega) _).setCell (by simp; omega) _).setCell (by simp; omega) _
theorem rop9_txt_gt (k n k' n' : Int) (s s' : ByteArray) (w : World) (hna : In64 n) (hnb : In64 n') (ha : mayB k n s = true) (hb : mayB k' n' s' = true) (k2 : (k == 2) = false) (k3 : (k == 3) = true) (k3' : (k' == 3) = true) (hs : s.size ≤ 300) (hl : Op.bytesLess s.toList s'.toList = false) (hns : ¬ (k = k' ∧ n = n' ∧ s.toList = s'.toList)) :
  Calls Tryz.prog 55 #[.int .i64 9, val k n s, val k' n' s'] w fun e w' => e = .returned (.tuple #[val 1 0 ⟨#[]⟩, .int .i64 0]) ∧ Below w.heap.size w w' := by
 have B0 := (boxes0 w k n k' n' 0 0 s s' ⟨#[]⟩).alloc' (box 0 0 ⟨#[]⟩)
 have N0 := none0 w (box k n s) (box k' n' s') (box 0 0 ⟨#[]⟩)
 go_enter Tryz.func55, Tryz.ntmps55
 go_wp2_with (go_at_call 47; refine (rmay_bt _ _ _ _ hna ha).mono ?_; rintro e w1 ⟨rfl, hb1⟩; have B1 := B0.on hb1; have N1 := N0.on hb1; obtain ⟨a0, a1, a2, b0, b1, b2, c0, c1, c2, f0, f1, f2⟩ := id B1; refine Hid.out ?_)
 refine Lib.hid ?_
 go_wp2_with (go_at_call 47; refine (rmay_bt _ _ _ _ hnb hb).mono ?_; rintro e w2 ⟨rfl, hb2⟩; clear a0 a1 a2 b0 b1 b2 c0 c1 c2 f0 f1 f2; have B2 := B1.on hb2; have N2 := N1.on hb2; obtain ⟨a0, a1, a2, b0, b1, b2, c0, c1, c2, f0, f1, f2⟩ := id B2; refine Hid.out ?_)
 refine Lib.hid ?_
 have E2 := ext_trans (below4 w _ _ _ _) (ext_trans hb1 hb2)
 have z2 := B2.size
 go_wp2_with (go_at_call 83; refine (before_f _ _ _ hs hl).mono ?_; rintro e w3 ⟨rfl, hb3⟩; clear a0 a1 a2 b0 b1 b2 c0 c1 c2 f0 f1 f2; have B3 := B2.on hb3; have N3 := N2.on hb3; obtain ⟨a0, a1, a2, b0, b1, b2, c0, c1, c2, f0, f1, f2⟩ := id B3; refine Hid.out ?_)
 refine Lib.hid ?_
 have E3 := ext_trans E2 hb3
 have z3 := B3.size
 go_wp2_with (go_at_call 23; refine (rsame_ft k n k' n' s s' _ hns).mono ?_; rintro e w4 ⟨rfl, hb4⟩; clear a0 a1 a2 b0 b1 b2 c0 c1 c2 f0 f1 f2; have B4 := B3.on hb4; have N4 := N3.on hb4; obtain ⟨a0, a1, a2, b0, b1, b2, c0, c1, c2, f0, f1, f2⟩ := id B4; refine Hid.out ?_)
 refine Lib.hid ?_
 have E4 := ext_trans E3 hb4
 have z4 := B4.size
 go_wp2_with (go_at_call 81; refine (rbool_f _).mono ?_; rintro e w5 ⟨rfl, hb5⟩; clear a0 a1 a2 b0 b1 b2 c0 c1 c2 f0 f1 f2; have B5 := B4.on hb5; have N5 := N4.on hb5; obtain ⟨a0, a1, a2, b0, b1, b2, c0, c1, c2, f0, f1, f2⟩ := id B5; refine Hid.out ?_)
 refine Lib.hid ?_
 have E5 := ext_trans E4 hb5
 obtain ⟨m0, m1, m2⟩ := id N5
 have hz := B5.size
 have hy0 : w.heap.size < w5.heap.size := by omega
 have hy1 : w.heap.size + 1 < w5.heap.size := by omega
 go_wp2
 refine bodyPost_ret (v := .tuple #[val 1 0 ⟨#[]⟩, .int .i64 0]) (by simp [results, Tryz.results55, go_sem, c0, c1, c2]) rfl ⟨rfl, ?_⟩
 exact ((E5.setCell (by simp; omega) _).setCell (by simp; omega) _).setCell (by simp; omega) _
theorem rop9_txt_eq (k n : Int) (s : ByteArray) (w : World) (hna : In64 n) (ha : mayB k n s = true) (k2 : (k == 2) = false) (k3 : (k == 3) = true) (hs : s.size ≤ 300) :
  Calls Tryz.prog 55 #[.int .i64 9, val k n s, val k n s] w fun e w' => e = .returned (.tuple #[val 1 1 ⟨#[]⟩, .int .i64 0]) ∧ Below w.heap.size w w' := by
 have B0 := (boxes0 w k n k n 0 0 s s ⟨#[]⟩).alloc' (box 0 0 ⟨#[]⟩)
 have N0 := none0 w (box k n s) (box k n s) (box 0 0 ⟨#[]⟩)
 go_enter Tryz.func55, Tryz.ntmps55
 go_wp2_with (go_at_call 47; refine (rmay_bt _ _ _ _ hna ha).mono ?_; rintro e w1 ⟨rfl, hb1⟩; have B1 := B0.on hb1; have N1 := N0.on hb1; obtain ⟨a0, a1, a2, b0, b1, b2, c0, c1, c2, f0, f1, f2⟩ := id B1; refine Hid.out ?_)
 refine Lib.hid ?_
 go_wp2_with (go_at_call 47; refine (rmay_bt _ _ _ _ hna ha).mono ?_; rintro e w2 ⟨rfl, hb2⟩; clear a0 a1 a2 b0 b1 b2 c0 c1 c2 f0 f1 f2; have B2 := B1.on hb2; have N2 := N1.on hb2; obtain ⟨a0, a1, a2, b0, b1, b2, c0, c1, c2, f0, f1, f2⟩ := id B2; refine Hid.out ?_)
 refine Lib.hid ?_
 have E2 := ext_trans (below4 w _ _ _ _) (ext_trans hb1 hb2)
 have z2 := B2.size
 go_wp2_with (go_at_call 83; refine (before_f _ _ _ hs (less_irrefl _)).mono ?_; rintro e w3 ⟨rfl, hb3⟩; clear a0 a1 a2 b0 b1 b2 c0 c1 c2 f0 f1 f2; have B3 := B2.on hb3; have N3 := N2.on hb3; obtain ⟨a0, a1, a2, b0, b1, b2, c0, c1, c2, f0, f1, f2⟩ := id B3; refine Hid.out ?_)
 refine Lib.hid ?_
 have E3 := ext_trans E2 hb3
 have z3 := B3.size
 go_wp2_with (go_at_call 23; refine (rsame_tt k n s _).mono ?_; rintro e w4 ⟨rfl, hb4⟩; clear a0 a1 a2 b0 b1 b2 c0 c1 c2 f0 f1 f2; have B4 := B3.on hb4; have N4 := N3.on hb4; obtain ⟨a0, a1, a2, b0, b1, b2, c0, c1, c2, f0, f1, f2⟩ := id B4; refine Hid.out ?_)
 refine Lib.hid ?_
 have E4 := ext_trans E3 hb4
 have z4 := B4.size
 go_wp2_with (go_at_call 81; refine (rbool_t _).mono ?_; rintro e w5 ⟨rfl, hb5⟩; clear a0 a1 a2 b0 b1 b2 c0 c1 c2 f0 f1 f2; have B5 := B4.on hb5; have N5 := N4.on hb5; obtain ⟨a0, a1, a2, b0, b1, b2, c0, c1, c2, f0, f1, f2⟩ := id B5; refine Hid.out ?_)
 refine Lib.hid ?_
 have E5 := ext_trans E4 hb5
 obtain ⟨m0, m1, m2⟩ := id N5
 have hz := B5.size
 have hy0 : w.heap.size < w5.heap.size := by omega
 have hy1 : w.heap.size + 1 < w5.heap.size := by omega
 go_wp2
 refine bodyPost_ret (v := .tuple #[val 1 1 ⟨#[]⟩, .int .i64 0]) (by simp [results, Tryz.results55, go_sem, c0, c1, c2]) rfl ⟨rfl, ?_⟩
 exact ((E5.setCell (by simp; omega) _).setCell (by simp; omega) _).setCell (by simp; omega) _
end Go.Proofs.YthpgbienakcbeaaGreatDoor
