/- Walks of the document's own answer: Op. -/
import Derived.Test.YthpgbienakcbeaaGreatDoorR22
namespace Go.Proofs.YthpgbienakcbeaaGreatDoor
open Go.RowKit Go
set_option maxRecDepth 100000
set_option maxHeartbeats 8000000
set_option linter.all false
theorem rop6_ok (k n k' n' : Int) (s s' : ByteArray) (w : World) (hna : In64 n) (hnb : In64 n') (ha : mayB k n s = true) (hb : mayB k' n' s' = true) (ta tb : ByteArray) (h1 : ∀ w, Calls Tryz.prog 84 #[val k n s] w fun e w' => e = .returned (.tuple #[.string ta, .bool true]) ∧ Below w.heap.size w w') (h2 : ∀ w, Calls Tryz.prog 84 #[val k' n' s'] w fun e w' => e = .returned (.tuple #[.string tb, .bool true]) ∧ Below w.heap.size w w') (hs : ta.size + tb.size ≤ 300) :
  Calls Tryz.prog 55 #[.int .i64 6, val k n s, val k' n' s'] w fun e w' => e = .returned (.tuple #[val 3 0 (ta ++ tb), .int .i64 0]) ∧ Below w.heap.size w w' := by
 rcases Bool.eq_false_or_eq_true (k == 2) with k2 | k2 <;> rcases Bool.eq_false_or_eq_true (k == 3) with k3 | k3 <;> rcases Bool.eq_false_or_eq_true (k' == 2) with k2' | k2'
 all_goals
  have B0 := (boxes0 w k n k' n' 0 0 s s' ⟨#[]⟩).alloc' (box 0 0 ⟨#[]⟩)
  have N0 := none0 w (box k n s) (box k' n' s') (box 0 0 ⟨#[]⟩)
  go_enter Tryz.func55, Tryz.ntmps55
  go_wp2_with (go_at_call 47; refine (rmay_bt _ _ _ _ hna ha).mono ?_; rintro e w1 ⟨rfl, hb1⟩; have B1 := B0.on hb1; have N1 := N0.on hb1; obtain ⟨a0, a1, a2, b0, b1, b2, c0, c1, c2, f0, f1, f2⟩ := id B1; refine Hid.out ?_)
  refine Lib.hid ?_
  go_wp2_with (go_at_call 47; refine (rmay_bt _ _ _ _ hnb hb).mono ?_; rintro e w2 ⟨rfl, hb2⟩; clear a0 a1 a2 b0 b1 b2 c0 c1 c2 f0 f1 f2; have B2 := B1.on hb2; have N2 := N1.on hb2; obtain ⟨a0, a1, a2, b0, b1, b2, c0, c1, c2, f0, f1, f2⟩ := id B2; refine Hid.out ?_)
  refine Lib.hid ?_
  have E2 := ext_trans (below4 w _ _ _ _) (ext_trans hb1 hb2)
  have z2 := B2.size
  go_wp2_with (go_at_call 84; refine (h1 _).mono ?_; rintro e w3 ⟨rfl, hb3⟩; clear a0 a1 a2 b0 b1 b2 c0 c1 c2 f0 f1 f2; have B3 := B2.on hb3; have N3 := N2.on hb3; obtain ⟨a0, a1, a2, b0, b1, b2, c0, c1, c2, f0, f1, f2⟩ := id B3; refine Hid.out ?_)
  refine Lib.hid ?_
  have E3 := ext_trans E2 hb3
  have z3 := B3.size
  go_wp2_with (go_at_call 84; refine (h2 _).mono ?_; rintro e w4 ⟨rfl, hb4⟩; clear a0 a1 a2 b0 b1 b2 c0 c1 c2 f0 f1 f2; have B4 := B3.on hb4; have N4 := N3.on hb4; obtain ⟨a0, a1, a2, b0, b1, b2, c0, c1, c2, f0, f1, f2⟩ := id B4; refine Hid.out ?_)
  refine Lib.hid ?_
  have E4 := ext_trans E3 hb4
  obtain ⟨m0, m1, m2⟩ := id N4
  have hz := B4.size
  have hy0 : w.heap.size < w4.heap.size := by omega
  have hy1 : w.heap.size + 1 < w4.heap.size := by omega
  go_wp2
  refine bodyPost_ret (v := .tuple #[val 3 0 (ta ++ tb), .int .i64 0]) (by simp [results, Tryz.results55, go_sem, c0, c1, c2]) rfl ⟨rfl, ?_⟩
  exact ((E4.setCell (by simp; omega) _).setCell (by simp; omega) _).setCell (by simp; omega) _
theorem rop6_big (k n k' n' : Int) (s s' : ByteArray) (w : World) (hna : In64 n) (hnb : In64 n') (ha : mayB k n s = true) (hb : mayB k' n' s' = true) (ta tb : ByteArray) (h1 : ∀ w, Calls Tryz.prog 84 #[val k n s] w fun e w' => e = .returned (.tuple #[.string ta, .bool true]) ∧ Below w.heap.size w w') (h2 : ∀ w, Calls Tryz.prog 84 #[val k' n' s'] w fun e w' => e = .returned (.tuple #[.string tb, .bool true]) ∧ Below w.heap.size w w') (la : ta.size ≤ 300) (lb : tb.size ≤ 300) (hs : 300 < ta.size + tb.size) :
  Calls Tryz.prog 55 #[.int .i64 6, val k n s, val k' n' s'] w fun e w' => e = .returned (.tuple #[val 0 0 ⟨#[]⟩, .int .i64 1]) ∧ Below w.heap.size w w' := by
 rcases Bool.eq_false_or_eq_true (k == 2) with k2 | k2 <;> rcases Bool.eq_false_or_eq_true (k == 3) with k3 | k3 <;> rcases Bool.eq_false_or_eq_true (k' == 2) with k2' | k2'
 all_goals
  have B0 := (boxes0 w k n k' n' 0 0 s s' ⟨#[]⟩).alloc' (box 0 0 ⟨#[]⟩)
  have N0 := none0 w (box k n s) (box k' n' s') (box 0 0 ⟨#[]⟩)
  go_enter Tryz.func55, Tryz.ntmps55
  go_wp2_with (go_at_call 47; refine (rmay_bt _ _ _ _ hna ha).mono ?_; rintro e w1 ⟨rfl, hb1⟩; have B1 := B0.on hb1; have N1 := N0.on hb1; obtain ⟨a0, a1, a2, b0, b1, b2, c0, c1, c2, f0, f1, f2⟩ := id B1; refine Hid.out ?_)
  refine Lib.hid ?_
  go_wp2_with (go_at_call 47; refine (rmay_bt _ _ _ _ hnb hb).mono ?_; rintro e w2 ⟨rfl, hb2⟩; clear a0 a1 a2 b0 b1 b2 c0 c1 c2 f0 f1 f2; have B2 := B1.on hb2; have N2 := N1.on hb2; obtain ⟨a0, a1, a2, b0, b1, b2, c0, c1, c2, f0, f1, f2⟩ := id B2; refine Hid.out ?_)
  refine Lib.hid ?_
  have E2 := ext_trans (below4 w _ _ _ _) (ext_trans hb1 hb2)
  have z2 := B2.size
  go_wp2_with (go_at_call 84; refine (h1 _).mono ?_; rintro e w3 ⟨rfl, hb3⟩; clear a0 a1 a2 b0 b1 b2 c0 c1 c2 f0 f1 f2; have B3 := B2.on hb3; have N3 := N2.on hb3; obtain ⟨a0, a1, a2, b0, b1, b2, c0, c1, c2, f0, f1, f2⟩ := id B3; refine Hid.out ?_)
  refine Lib.hid ?_
  have E3 := ext_trans E2 hb3
  have z3 := B3.size
  go_wp2_with (go_at_call 84; refine (h2 _).mono ?_; rintro e w4 ⟨rfl, hb4⟩; clear a0 a1 a2 b0 b1 b2 c0 c1 c2 f0 f1 f2; have B4 := B3.on hb4; have N4 := N3.on hb4; obtain ⟨a0, a1, a2, b0, b1, b2, c0, c1, c2, f0, f1, f2⟩ := id B4; refine Hid.out ?_)
  refine Lib.hid ?_
  have E4 := ext_trans E3 hb4
  obtain ⟨m0, m1, m2⟩ := id N4
  have hz := B4.size
  have hy0 : w.heap.size < w4.heap.size := by omega
  have hy1 : w.heap.size + 1 < w4.heap.size := by omega
  go_wp2
  refine bodyPost_ret (v := .tuple #[val 0 0 ⟨#[]⟩, .int .i64 1]) (by simp [results, Tryz.results55, go_sem, c0, c1, c2]) rfl ⟨rfl, ?_⟩
  exact ((E4.setCell (by simp; omega) _).setCell (by simp; omega) _).setCell (by simp; omega) _
theorem rop6_f (k n k' n' : Int) (s s' : ByteArray) (w : World) (hna : In64 n) (hnb : In64 n') (ha : mayB k n s = true) (hb : mayB k' n' s' = true) (ta tb : ByteArray) (x : Bool) (h1 : ∀ w, Calls Tryz.prog 84 #[val k n s] w fun e w' => e = .returned (.tuple #[.string ta, .bool false]) ∧ Below w.heap.size w w') (h2 : ∀ w, Calls Tryz.prog 84 #[val k' n' s'] w fun e w' => e = .returned (.tuple #[.string tb, .bool x]) ∧ Below w.heap.size w w') :
  Calls Tryz.prog 55 #[.int .i64 6, val k n s, val k' n' s'] w fun e w' => e = .returned (.tuple #[val 0 0 ⟨#[]⟩, .int .i64 3]) ∧ Below w.heap.size w w' := by
 rcases Bool.eq_false_or_eq_true (k == 2) with k2 | k2 <;> rcases Bool.eq_false_or_eq_true (k == 3) with k3 | k3 <;> rcases Bool.eq_false_or_eq_true (k' == 2) with k2' | k2'
 all_goals
  have B0 := (boxes0 w k n k' n' 0 0 s s' ⟨#[]⟩).alloc' (box 0 0 ⟨#[]⟩)
  have N0 := none0 w (box k n s) (box k' n' s') (box 0 0 ⟨#[]⟩)
  go_enter Tryz.func55, Tryz.ntmps55
  go_wp2_with (go_at_call 47; refine (rmay_bt _ _ _ _ hna ha).mono ?_; rintro e w1 ⟨rfl, hb1⟩; have B1 := B0.on hb1; have N1 := N0.on hb1; obtain ⟨a0, a1, a2, b0, b1, b2, c0, c1, c2, f0, f1, f2⟩ := id B1; refine Hid.out ?_)
  refine Lib.hid ?_
  go_wp2_with (go_at_call 47; refine (rmay_bt _ _ _ _ hnb hb).mono ?_; rintro e w2 ⟨rfl, hb2⟩; clear a0 a1 a2 b0 b1 b2 c0 c1 c2 f0 f1 f2; have B2 := B1.on hb2; have N2 := N1.on hb2; obtain ⟨a0, a1, a2, b0, b1, b2, c0, c1, c2, f0, f1, f2⟩ := id B2; refine Hid.out ?_)
  refine Lib.hid ?_
  have E2 := ext_trans (below4 w _ _ _ _) (ext_trans hb1 hb2)
  have z2 := B2.size
  go_wp2_with (go_at_call 84; refine (h1 _).mono ?_; rintro e w3 ⟨rfl, hb3⟩; clear a0 a1 a2 b0 b1 b2 c0 c1 c2 f0 f1 f2; have B3 := B2.on hb3; have N3 := N2.on hb3; obtain ⟨a0, a1, a2, b0, b1, b2, c0, c1, c2, f0, f1, f2⟩ := id B3; refine Hid.out ?_)
  refine Lib.hid ?_
  have E3 := ext_trans E2 hb3
  have z3 := B3.size
  go_wp2_with (go_at_call 84; refine (h2 _).mono ?_; rintro e w4 ⟨rfl, hb4⟩; clear a0 a1 a2 b0 b1 b2 c0 c1 c2 f0 f1 f2; have B4 := B3.on hb4; have N4 := N3.on hb4; obtain ⟨a0, a1, a2, b0, b1, b2, c0, c1, c2, f0, f1, f2⟩ := id B4; refine Hid.out ?_)
  refine Lib.hid ?_
  have E4 := ext_trans E3 hb4
  obtain ⟨m0, m1, m2⟩ := id N4
  have hz := B4.size
  have hy0 : w.heap.size < w4.heap.size := by omega
  have hy1 : w.heap.size + 1 < w4.heap.size := by omega
  go_wp2
  refine bodyPost_ret (v := .tuple #[val 0 0 ⟨#[]⟩, .int .i64 3]) (by simp [results, Tryz.results55, go_sem, c0, c1, c2]) rfl ⟨rfl, ?_⟩
  exact ((E4.setCell (by simp; omega) _).setCell (by simp; omega) _).setCell (by simp; omega) _
theorem rop6_g (k n k' n' : Int) (s s' : ByteArray) (w : World) (hna : In64 n) (hnb : In64 n') (ha : mayB k n s = true) (hb : mayB k' n' s' = true) (ta tb : ByteArray) (h1 : ∀ w, Calls Tryz.prog 84 #[val k n s] w fun e w' => e = .returned (.tuple #[.string ta, .bool true]) ∧ Below w.heap.size w w') (h2 : ∀ w, Calls Tryz.prog 84 #[val k' n' s'] w fun e w' => e = .returned (.tuple #[.string tb, .bool false]) ∧ Below w.heap.size w w') :
  Calls Tryz.prog 55 #[.int .i64 6, val k n s, val k' n' s'] w fun e w' => e = .returned (.tuple #[val 0 0 ⟨#[]⟩, .int .i64 3]) ∧ Below w.heap.size w w' := by
 rcases Bool.eq_false_or_eq_true (k == 2) with k2 | k2 <;> rcases Bool.eq_false_or_eq_true (k == 3) with k3 | k3 <;> rcases Bool.eq_false_or_eq_true (k' == 2) with k2' | k2'
 all_goals
  have B0 := (boxes0 w k n k' n' 0 0 s s' ⟨#[]⟩).alloc' (box 0 0 ⟨#[]⟩)
  have N0 := none0 w (box k n s) (box k' n' s') (box 0 0 ⟨#[]⟩)
  go_enter Tryz.func55, Tryz.ntmps55
  go_wp2_with (go_at_call 47; refine (rmay_bt _ _ _ _ hna ha).mono ?_; rintro e w1 ⟨rfl, hb1⟩; have B1 := B0.on hb1; have N1 := N0.on hb1; obtain ⟨a0, a1, a2, b0, b1, b2, c0, c1, c2, f0, f1, f2⟩ := id B1; refine Hid.out ?_)
  refine Lib.hid ?_
  go_wp2_with (go_at_call 47; refine (rmay_bt _ _ _ _ hnb hb).mono ?_; rintro e w2 ⟨rfl, hb2⟩; clear a0 a1 a2 b0 b1 b2 c0 c1 c2 f0 f1 f2; have B2 := B1.on hb2; have N2 := N1.on hb2; obtain ⟨a0, a1, a2, b0, b1, b2, c0, c1, c2, f0, f1, f2⟩ := id B2; refine Hid.out ?_)
  refine Lib.hid ?_
  have E2 := ext_trans (below4 w _ _ _ _) (ext_trans hb1 hb2)
  have z2 := B2.size
  go_wp2_with (go_at_call 84; refine (h1 _).mono ?_; rintro e w3 ⟨rfl, hb3⟩; clear a0 a1 a2 b0 b1 b2 c0 c1 c2 f0 f1 f2; have B3 := B2.on hb3; have N3 := N2.on hb3; obtain ⟨a0, a1, a2, b0, b1, b2, c0, c1, c2, f0, f1, f2⟩ := id B3; refine Hid.out ?_)
  refine Lib.hid ?_
  have E3 := ext_trans E2 hb3
  have z3 := B3.size
  go_wp2_with (go_at_call 84; refine (h2 _).mono ?_; rintro e w4 ⟨rfl, hb4⟩; clear a0 a1 a2 b0 b1 b2 c0 c1 c2 f0 f1 f2; have B4 := B3.on hb4; have N4 := N3.on hb4; obtain ⟨a0, a1, a2, b0, b1, b2, c0, c1, c2, f0, f1, f2⟩ := id B4; refine Hid.out ?_)
  refine Lib.hid ?_
  have E4 := ext_trans E3 hb4
  obtain ⟨m0, m1, m2⟩ := id N4
  have hz := B4.size
  have hy0 : w.heap.size < w4.heap.size := by omega
  have hy1 : w.heap.size + 1 < w4.heap.size := by omega
  go_wp2
  refine bodyPost_ret (v := .tuple #[val 0 0 ⟨#[]⟩, .int .i64 3]) (by simp [results, Tryz.results55, go_sem, c0, c1, c2]) rfl ⟨rfl, ?_⟩
  exact ((E4.setCell (by simp; omega) _).setCell (by simp; omega) _).setCell (by simp; omega) _
end Go.Proofs.YthpgbienakcbeaaGreatDoor
