/- Walks of the document's own answer: Op. -/
import Derived.Test.YtcfkkmelenjjoaaDoorRopA
namespace Go.Proofs.YtcfkkmelenjjoaaDoor
open Go.RowKit
open Go

set_option maxHeartbeats 3200000 in
set_option maxRecDepth 100000 in
theorem rop4z (k n k' n' : Int) (s s' : ByteArray) (w : World) (hna : In64 n) (hnb : In64 n') (ha : mayB k n s = true) (hb : mayB k' n' s' = true) (k2 : (k == 2) = true) (k2' : (k' == 2) = true) (k3 : (k == 3) = false) (hz' : (n' == 0) = true) :
    Calls Tryd.prog 14 #[.int .i64 4, val k n s, val k' n' s'] w fun e w' => e = .returned (.tuple #[val 0 0 ⟨#[]⟩, .int .i64 7]) ∧ Below w.heap.size w w' := by
  have B0 := (boxes0 w k n k' n' 0 0 s s' ⟨#[]⟩).alloc' (box 0 0 ⟨#[]⟩)
  have N0 := none0 w (box k n s) (box k' n' s') (box 0 0 ⟨#[]⟩)
  go_enter Tryd.func14, Tryd.ntmps14
  go_wp2_with (go_at_call 10; refine (rmay_bt _ _ _ _ hna ha).mono ?_; rintro e w1 ⟨rfl, hb1⟩; have B1 := B0.on hb1; have N1 := N0.on hb1; obtain ⟨a0, a1, a2, b0, b1, b2, c0, c1, c2, f0, f1, f2⟩ := id B1; refine Hid.out ?_)
  refine Lib.hid ?_
  go_wp2_with (go_at_call 10; refine (rmay_bt _ _ _ _ hnb hb).mono ?_; rintro e w2 ⟨rfl, hb2⟩; clear a0 a1 a2 b0 b1 b2 c0 c1 c2 f0 f1 f2; have B2 := B1.on hb2; have N2 := N1.on hb2; obtain ⟨a0, a1, a2, b0, b1, b2, c0, c1, c2, f0, f1, f2⟩ := id B2; refine Hid.out ?_)
  refine Lib.hid ?_
  have E2 := ext_trans (below4 w _ _ _ _) (ext_trans hb1 hb2)
  obtain ⟨m0, m1, m2⟩ := id N2
  have hz := B2.size
  have hy0 : w.heap.size < w2.heap.size := by omega
  have hy1 : w.heap.size + 1 < w2.heap.size := by omega
  go_wp2
  refine bodyPost_ret (v := .tuple #[val 0 0 ⟨#[]⟩, .int .i64 7]) (by simp [results, Tryd.results14, go_sem, c0, c1, c2]) rfl ⟨rfl, ?_⟩
  exact ((E2.setCell (by simp; omega) _).setCell (by simp; omega) _).setCell (by simp; omega) _

set_option maxHeartbeats 3200000 in
set_option maxRecDepth 100000 in
theorem rop5z (k n k' n' : Int) (s s' : ByteArray) (w : World) (hna : In64 n) (hnb : In64 n') (ha : mayB k n s = true) (hb : mayB k' n' s' = true) (k2 : (k == 2) = true) (k2' : (k' == 2) = true) (k3 : (k == 3) = false) (hz' : (n' == 0) = true) :
    Calls Tryd.prog 14 #[.int .i64 5, val k n s, val k' n' s'] w fun e w' => e = .returned (.tuple #[val 0 0 ⟨#[]⟩, .int .i64 7]) ∧ Below w.heap.size w w' := by
  have B0 := (boxes0 w k n k' n' 0 0 s s' ⟨#[]⟩).alloc' (box 0 0 ⟨#[]⟩)
  have N0 := none0 w (box k n s) (box k' n' s') (box 0 0 ⟨#[]⟩)
  go_enter Tryd.func14, Tryd.ntmps14
  go_wp2_with (go_at_call 10; refine (rmay_bt _ _ _ _ hna ha).mono ?_; rintro e w1 ⟨rfl, hb1⟩; have B1 := B0.on hb1; have N1 := N0.on hb1; obtain ⟨a0, a1, a2, b0, b1, b2, c0, c1, c2, f0, f1, f2⟩ := id B1; refine Hid.out ?_)
  refine Lib.hid ?_
  go_wp2_with (go_at_call 10; refine (rmay_bt _ _ _ _ hnb hb).mono ?_; rintro e w2 ⟨rfl, hb2⟩; clear a0 a1 a2 b0 b1 b2 c0 c1 c2 f0 f1 f2; have B2 := B1.on hb2; have N2 := N1.on hb2; obtain ⟨a0, a1, a2, b0, b1, b2, c0, c1, c2, f0, f1, f2⟩ := id B2; refine Hid.out ?_)
  refine Lib.hid ?_
  have E2 := ext_trans (below4 w _ _ _ _) (ext_trans hb1 hb2)
  obtain ⟨m0, m1, m2⟩ := id N2
  have hz := B2.size
  have hy0 : w.heap.size < w2.heap.size := by omega
  have hy1 : w.heap.size + 1 < w2.heap.size := by omega
  go_wp2
  refine bodyPost_ret (v := .tuple #[val 0 0 ⟨#[]⟩, .int .i64 7]) (by simp [results, Tryd.results14, go_sem, c0, c1, c2]) rfl ⟨rfl, ?_⟩
  exact ((E2.setCell (by simp; omega) _).setCell (by simp; omega) _).setCell (by simp; omega) _

set_option maxHeartbeats 3200000 in
set_option maxRecDepth 100000 in
theorem rop4 (k n k' n' : Int) (s s' : ByteArray) (w : World) (hna : In64 n) (hnb : In64 n') (ha : mayB k n s = true) (hb : mayB k' n' s' = true) (k2 : (k == 2) = true) (k2' : (k' == 2) = true) (k3 : (k == 3) = false) (hz' : (n' == 0) = false) :
    Calls Tryd.prog 14 #[.int .i64 4, val k n s, val k' n' s'] w fun e w' => e = .returned (.tuple #[val 2 (divV n n') ⟨#[]⟩, .int .i64 0]) ∧ Below w.heap.size w w' := by
  have B0 := (boxes0 w k n k' n' 0 0 s s' ⟨#[]⟩).alloc' (box 0 0 ⟨#[]⟩)
  have N0 := none0 w (box k n s) (box k' n' s') (box 0 0 ⟨#[]⟩)
  go_enter Tryd.func14, Tryd.ntmps14
  go_wp2_with (go_at_call 10; refine (rmay_bt _ _ _ _ hna ha).mono ?_; rintro e w1 ⟨rfl, hb1⟩; have B1 := B0.on hb1; have N1 := N0.on hb1; obtain ⟨a0, a1, a2, b0, b1, b2, c0, c1, c2, f0, f1, f2⟩ := id B1; refine Hid.out ?_)
  refine Lib.hid ?_
  go_wp2_with (go_at_call 10; refine (rmay_bt _ _ _ _ hnb hb).mono ?_; rintro e w2 ⟨rfl, hb2⟩; clear a0 a1 a2 b0 b1 b2 c0 c1 c2 f0 f1 f2; have B2 := B1.on hb2; have N2 := N1.on hb2; obtain ⟨a0, a1, a2, b0, b1, b2, c0, c1, c2, f0, f1, f2⟩ := id B2; refine Hid.out ?_)
  refine Lib.hid ?_
  have E2 := ext_trans (below4 w _ _ _ _) (ext_trans hb1 hb2)
  obtain ⟨m0, m1, m2⟩ := id N2
  have hz := B2.size
  have hy0 : w.heap.size < w2.heap.size := by omega
  have hy1 : w.heap.size + 1 < w2.heap.size := by omega
  go_wp2_with (first | (go_at_call 30; refine (rdiv_any _ _ _ hna hnb hz').mono ?_; rintro e wx ⟨rfl, rfl⟩) | (go_at_call 29; refine (rint_any _ _).mono ?_; rintro e wx ⟨rfl, rfl⟩))
  refine bodyPost_ret (v := .tuple #[val 2 (divV n n') ⟨#[]⟩, .int .i64 0]) (by simp [results, Tryd.results14, go_sem, c0, c1, c2, hz]) rfl ⟨rfl, ?_⟩
  exact ext_alloc (((E2.setCell (by simp; omega) _).setCell (by simp; omega) _).setCell (by simp; omega) _) _

set_option maxHeartbeats 3200000 in
set_option maxRecDepth 100000 in
theorem rop11a (k n k' n' : Int) (s s' : ByteArray) (w : World) (hna : In64 n) (hnb : In64 n') (ha : mayB k n s = true) (hb : mayB k' n' s' = true) (k2 : (k == 2) = true) (k2' : (k' == 2) = true) (k3 : (k == 3) = false) :
    Calls Tryd.prog 14 #[.int .i64 11, val k n s, val k' n' s'] w fun e w' => e = .returned (.tuple #[val 2 (wrap64 (0 - n)) ⟨#[]⟩, .int .i64 0]) ∧ Below w.heap.size w w' := by
  have B0 := (boxes0 w k n k' n' 0 0 s s' ⟨#[]⟩).alloc' (box 0 0 ⟨#[]⟩)
  have N0 := none0 w (box k n s) (box k' n' s') (box 0 0 ⟨#[]⟩)
  go_enter Tryd.func14, Tryd.ntmps14
  go_wp2_with (go_at_call 10; refine (rmay_bt _ _ _ _ hna ha).mono ?_; rintro e w1 ⟨rfl, hb1⟩; have B1 := B0.on hb1; have N1 := N0.on hb1; obtain ⟨a0, a1, a2, b0, b1, b2, c0, c1, c2, f0, f1, f2⟩ := id B1; refine Hid.out ?_)
  refine Lib.hid ?_
  go_wp2_with (go_at_call 10; refine (rmay_bt _ _ _ _ hnb hb).mono ?_; rintro e w2 ⟨rfl, hb2⟩; clear a0 a1 a2 b0 b1 b2 c0 c1 c2 f0 f1 f2; have B2 := B1.on hb2; have N2 := N1.on hb2; obtain ⟨a0, a1, a2, b0, b1, b2, c0, c1, c2, f0, f1, f2⟩ := id B2; refine Hid.out ?_)
  refine Lib.hid ?_
  have E2 := ext_trans (below4 w _ _ _ _) (ext_trans hb1 hb2)
  obtain ⟨m0, m1, m2⟩ := id N2
  have hz := B2.size
  have hy0 : w.heap.size < w2.heap.size := by omega
  have hy1 : w.heap.size + 1 < w2.heap.size := by omega
  go_wp2_with (first | (go_at_call 29; refine (rint_any _ _).mono ?_; rintro e wx ⟨rfl, rfl⟩))
  refine bodyPost_ret (v := .tuple #[val 2 (wrap64 (0 - n)) ⟨#[]⟩, .int .i64 0]) (by simp [results, Tryd.results14, go_sem, c0, c1, c2, hz]) rfl ⟨rfl, ?_⟩
  exact ext_alloc (((E2.setCell (by simp; omega) _).setCell (by simp; omega) _).setCell (by simp; omega) _) _

set_option maxHeartbeats 3200000 in
set_option maxRecDepth 100000 in
theorem rop11b (k n k' n' : Int) (s s' : ByteArray) (w : World) (hna : In64 n) (hnb : In64 n') (ha : mayB k n s = true) (hb : mayB k' n' s' = true) (k2 : (k == 2) = true) (k2' : (k' == 2) = false) (k3 : (k == 3) = false) :
    Calls Tryd.prog 14 #[.int .i64 11, val k n s, val k' n' s'] w fun e w' => e = .returned (.tuple #[val 2 (wrap64 (0 - n)) ⟨#[]⟩, .int .i64 0]) ∧ Below w.heap.size w w' := by
  have B0 := (boxes0 w k n k' n' 0 0 s s' ⟨#[]⟩).alloc' (box 0 0 ⟨#[]⟩)
  have N0 := none0 w (box k n s) (box k' n' s') (box 0 0 ⟨#[]⟩)
  go_enter Tryd.func14, Tryd.ntmps14
  go_wp2_with (go_at_call 10; refine (rmay_bt _ _ _ _ hna ha).mono ?_; rintro e w1 ⟨rfl, hb1⟩; have B1 := B0.on hb1; have N1 := N0.on hb1; obtain ⟨a0, a1, a2, b0, b1, b2, c0, c1, c2, f0, f1, f2⟩ := id B1; refine Hid.out ?_)
  refine Lib.hid ?_
  go_wp2_with (go_at_call 10; refine (rmay_bt _ _ _ _ hnb hb).mono ?_; rintro e w2 ⟨rfl, hb2⟩; clear a0 a1 a2 b0 b1 b2 c0 c1 c2 f0 f1 f2; have B2 := B1.on hb2; have N2 := N1.on hb2; obtain ⟨a0, a1, a2, b0, b1, b2, c0, c1, c2, f0, f1, f2⟩ := id B2; refine Hid.out ?_)
  refine Lib.hid ?_
  have E2 := ext_trans (below4 w _ _ _ _) (ext_trans hb1 hb2)
  obtain ⟨m0, m1, m2⟩ := id N2
  have hz := B2.size
  have hy0 : w.heap.size < w2.heap.size := by omega
  have hy1 : w.heap.size + 1 < w2.heap.size := by omega
  go_wp2_with (first | (go_at_call 29; refine (rint_any _ _).mono ?_; rintro e wx ⟨rfl, rfl⟩))
  refine bodyPost_ret (v := .tuple #[val 2 (wrap64 (0 - n)) ⟨#[]⟩, .int .i64 0]) (by simp [results, Tryd.results14, go_sem, c0, c1, c2, hz]) rfl ⟨rfl, ?_⟩
  exact ext_alloc (((E2.setCell (by simp; omega) _).setCell (by simp; omega) _).setCell (by simp; omega) _) _

set_option maxHeartbeats 3200000 in
set_option maxRecDepth 100000 in
theorem rop11f (k n k' n' : Int) (s s' : ByteArray) (w : World) (hna : In64 n) (hnb : In64 n') (ha : mayB k n s = true) (hb : mayB k' n' s' = true) (k2 : (k == 2) = false) :
    Calls Tryd.prog 14 #[.int .i64 11, val k n s, val k' n' s'] w fun e w' => e = .returned (.tuple #[val 0 0 ⟨#[]⟩, .int .i64 3]) ∧ Below w.heap.size w w' := by
  rcases Bool.eq_false_or_eq_true (k == 3) with k3 | k3
  all_goals
    have B0 := (boxes0 w k n k' n' 0 0 s s' ⟨#[]⟩).alloc' (box 0 0 ⟨#[]⟩)
    have N0 := none0 w (box k n s) (box k' n' s') (box 0 0 ⟨#[]⟩)
    go_enter Tryd.func14, Tryd.ntmps14
    go_wp2_with (go_at_call 10; refine (rmay_bt _ _ _ _ hna ha).mono ?_; rintro e w1 ⟨rfl, hb1⟩; have B1 := B0.on hb1; have N1 := N0.on hb1; obtain ⟨a0, a1, a2, b0, b1, b2, c0, c1, c2, f0, f1, f2⟩ := id B1; refine Hid.out ?_)
    refine Lib.hid ?_
    go_wp2_with (go_at_call 10; refine (rmay_bt _ _ _ _ hnb hb).mono ?_; rintro e w2 ⟨rfl, hb2⟩; clear a0 a1 a2 b0 b1 b2 c0 c1 c2 f0 f1 f2; have B2 := B1.on hb2; have N2 := N1.on hb2; obtain ⟨a0, a1, a2, b0, b1, b2, c0, c1, c2, f0, f1, f2⟩ := id B2; refine Hid.out ?_)
    refine Lib.hid ?_
    have E2 := ext_trans (below4 w _ _ _ _) (ext_trans hb1 hb2)
    obtain ⟨m0, m1, m2⟩ := id N2
    have hz := B2.size
    have hy0 : w.heap.size < w2.heap.size := by omega
    have hy1 : w.heap.size + 1 < w2.heap.size := by omega
    go_wp2
    refine bodyPost_ret (v := .tuple #[val 0 0 ⟨#[]⟩, .int .i64 3]) (by simp [results, Tryd.results14, go_sem, c0, c1, c2]) rfl ⟨rfl, ?_⟩
    exact ((E2.setCell (by simp; omega) _).setCell (by simp; omega) _).setCell (by simp; omega) _

end Go.Proofs.YtcfkkmelenjjoaaDoor
