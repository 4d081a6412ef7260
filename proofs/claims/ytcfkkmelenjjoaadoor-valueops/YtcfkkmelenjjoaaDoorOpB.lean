/- Walks of the value package: what is no operation, what may not be, what is the same. -/
import Derived.Test.YtcfkkmelenjjoaaDoorOpA
namespace Go.Proofs.YtcfkkmelenjjoaaDoor
open Go.RowKit
open Go

set_option maxHeartbeats 800000 in
theorem op_low (op k n k' n' : Int) (s s' : ByteArray) (w : World) (h : op < 1) :
    Calls Tryd.prog 13 #[.int .i64 op, val k n s, val k' n' s'] w fun e w' => e = .returned (.tuple #[val 0 0 ⟨#[]⟩, .int .i64 2]) ∧ Below w.heap.size w w' := by
  go_enter Tryd.func13, Tryd.ntmps13
  go_wp2
  refine bodyPost_ret (v := .tuple #[val 0 0 ⟨#[]⟩, .int .i64 2]) (by simp [results, Tryd.results13, go_sem]) rfl ⟨rfl, ?_⟩
  exact below3 _ _ _ _

set_option maxHeartbeats 800000 in
theorem op_high (op k n k' n' : Int) (s s' : ByteArray) (w : World) (h : 11 < op) :
    Calls Tryd.prog 13 #[.int .i64 op, val k n s, val k' n' s'] w fun e w' => e = .returned (.tuple #[val 0 0 ⟨#[]⟩, .int .i64 2]) ∧ Below w.heap.size w w' := by
  go_enter Tryd.func13, Tryd.ntmps13
  go_wp2
  refine bodyPost_ret (v := .tuple #[val 0 0 ⟨#[]⟩, .int .i64 2]) (by simp [results, Tryd.results13, go_sem]) rfl ⟨rfl, ?_⟩
  exact below3 _ _ _ _

set_option maxHeartbeats 800000 in
theorem op_a (op k n k' n' : Int) (s s' : ByteArray) (w : World) (h1 : 1 ≤ op) (h2 : op ≤ 11) (ha : mayB k n s = false) :
    Calls Tryd.prog 13 #[.int .i64 op, val k n s, val k' n' s'] w fun e w' => e = .returned (.tuple #[val 0 0 ⟨#[]⟩, .int .i64 2]) ∧ Below w.heap.size w w' := by
  have B0 := boxes0 w k n k' n' 0 0 s s' ⟨#[]⟩
  go_enter Tryd.func13, Tryd.ntmps13
  go_wp2_with (go_at_call 9; refine (may_f _ _ _ _ ha).mono ?_; rintro e w1 ⟨rfl, hb1⟩; have B1 := B0.on hb1; obtain ⟨a0, a1, a2, b0, b1, b2, c0, c1, c2, f0, f1, f2⟩ := id B1; refine Hid.out ?_)
  refine Lib.hid ?_
  have hz := B1.size
  go_wp2
  refine bodyPost_ret (v := .tuple #[val 0 0 ⟨#[]⟩, .int .i64 2]) (by simp [results, Tryd.results13, go_sem, c0, c1, c2]) rfl ⟨rfl, ?_⟩
  have hall := ext_trans (below3 w _ _ _) hb1
  exact ((hall.setCell (by simp; omega) _).setCell (by simp; omega) _).setCell (by simp; omega) _

set_option maxHeartbeats 800000 in
theorem op_b (op k n k' n' : Int) (s s' : ByteArray) (w : World) (h1 : 1 ≤ op) (h2 : op ≤ 11) (ha : mayB k n s = true) (hb : mayB k' n' s' = false) :
    Calls Tryd.prog 13 #[.int .i64 op, val k n s, val k' n' s'] w fun e w' => e = .returned (.tuple #[val 0 0 ⟨#[]⟩, .int .i64 2]) ∧ Below w.heap.size w w' := by
  have B0 := boxes0 w k n k' n' 0 0 s s' ⟨#[]⟩
  go_enter Tryd.func13, Tryd.ntmps13
  go_wp2_with (go_at_call 9; refine (may_t _ _ _ _ ha).mono ?_; rintro e w1 ⟨rfl, hb1⟩; have B1 := B0.on hb1; obtain ⟨a0, a1, a2, b0, b1, b2, c0, c1, c2, f0, f1, f2⟩ := id B1; refine Hid.out ?_)
  refine Lib.hid ?_
  go_wp2_with (go_at_call 9; refine (may_f _ _ _ _ hb).mono ?_; rintro e w2 ⟨rfl, hb2⟩; clear a0 a1 a2 b0 b1 b2 c0 c1 c2 f0 f1 f2; have B2 := B1.on hb2; obtain ⟨a0, a1, a2, b0, b1, b2, c0, c1, c2, f0, f1, f2⟩ := id B2; refine Hid.out ?_)
  refine Lib.hid ?_
  have hz := B2.size
  go_wp2
  refine bodyPost_ret (v := .tuple #[val 0 0 ⟨#[]⟩, .int .i64 2]) (by simp [results, Tryd.results13, go_sem, c0, c1, c2]) rfl ⟨rfl, ?_⟩
  have hall := ext_trans (below3 w _ _ _) (ext_trans hb1 hb2)
  exact ((hall.setCell (by simp; omega) _).setCell (by simp; omega) _).setCell (by simp; omega) _

set_option maxHeartbeats 800000 in
theorem op_same_t (k n : Int) (s : ByteArray) (w : World) (ha : mayB k n s = true) (hb : mayB k n s = true) :
    Calls Tryd.prog 13 #[.int .i64 7, val k n s, val k n s] w fun e w' => e = .returned (.tuple #[val 1 1 ⟨#[]⟩, .int .i64 0]) ∧ Below w.heap.size w w' := by
  have B0 := boxes0 w k n k n 0 0 s s ⟨#[]⟩
  go_enter Tryd.func13, Tryd.ntmps13
  go_wp2_with (go_at_call 9; refine (may_t _ _ _ _ ha).mono ?_; rintro e w1 ⟨rfl, hb1⟩; have B1 := B0.on hb1; obtain ⟨a0, a1, a2, b0, b1, b2, c0, c1, c2, f0, f1, f2⟩ := id B1; refine Hid.out ?_)
  refine Lib.hid ?_
  go_wp2_with (go_at_call 9; refine (may_t _ _ _ _ hb).mono ?_; rintro e w2 ⟨rfl, hb2⟩; clear a0 a1 a2 b0 b1 b2 c0 c1 c2 f0 f1 f2; have B2 := B1.on hb2; obtain ⟨a0, a1, a2, b0, b1, b2, c0, c1, c2, f0, f1, f2⟩ := id B2; refine Hid.out ?_)
  refine Lib.hid ?_
  have hz := B2.size
  go_wp2_with (go_at_call 21; refine (boolean_any true _).mono ?_; rintro e w3 ⟨rfl, rfl⟩)
  refine bodyPost_ret (v := .tuple #[val 1 1 ⟨#[]⟩, .int .i64 0]) (by simp [results, Tryd.results13, go_sem, c0, c1, c2, hz]) rfl ⟨rfl, ?_⟩
  have hall := ext_trans (below3 w _ _ _) (ext_trans hb1 hb2)
  exact ext_alloc (((hall.setCell (by simp; omega) _).setCell (by simp; omega) _).setCell (by simp; omega) _) _

set_option maxHeartbeats 800000 in
theorem op_same_k (k n k' n' : Int) (s s' : ByteArray) (w : World) (ha : mayB k n s = true) (hb : mayB k' n' s' = true) (hk : ¬ k = k') :
    Calls Tryd.prog 13 #[.int .i64 7, val k n s, val k' n' s'] w fun e w' => e = .returned (.tuple #[val 1 0 ⟨#[]⟩, .int .i64 0]) ∧ Below w.heap.size w w' := by
  have B0 := boxes0 w k n k' n' 0 0 s s' ⟨#[]⟩
  go_enter Tryd.func13, Tryd.ntmps13
  go_wp2_with (go_at_call 9; refine (may_t _ _ _ _ ha).mono ?_; rintro e w1 ⟨rfl, hb1⟩; have B1 := B0.on hb1; obtain ⟨a0, a1, a2, b0, b1, b2, c0, c1, c2, f0, f1, f2⟩ := id B1; refine Hid.out ?_)
  refine Lib.hid ?_
  go_wp2_with (go_at_call 9; refine (may_t _ _ _ _ hb).mono ?_; rintro e w2 ⟨rfl, hb2⟩; clear a0 a1 a2 b0 b1 b2 c0 c1 c2 f0 f1 f2; have B2 := B1.on hb2; obtain ⟨a0, a1, a2, b0, b1, b2, c0, c1, c2, f0, f1, f2⟩ := id B2; refine Hid.out ?_)
  refine Lib.hid ?_
  have hz := B2.size
  go_wp2_with (go_at_call 21; refine (boolean_any false _).mono ?_; rintro e w3 ⟨rfl, rfl⟩)
  refine bodyPost_ret (v := .tuple #[val 1 0 ⟨#[]⟩, .int .i64 0]) (by simp [results, Tryd.results13, go_sem, c0, c1, c2, hz]) rfl ⟨rfl, ?_⟩
  have hall := ext_trans (below3 w _ _ _) (ext_trans hb1 hb2)
  exact ext_alloc (((hall.setCell (by simp; omega) _).setCell (by simp; omega) _).setCell (by simp; omega) _) _

set_option maxHeartbeats 800000 in
theorem op_same_n (k n n' : Int) (s s' : ByteArray) (w : World) (ha : mayB k n s = true) (hb : mayB k n' s' = true) (hk : ¬ n = n') :
    Calls Tryd.prog 13 #[.int .i64 7, val k n s, val k n' s'] w fun e w' => e = .returned (.tuple #[val 1 0 ⟨#[]⟩, .int .i64 0]) ∧ Below w.heap.size w w' := by
  have B0 := boxes0 w k n k n' 0 0 s s' ⟨#[]⟩
  go_enter Tryd.func13, Tryd.ntmps13
  go_wp2_with (go_at_call 9; refine (may_t _ _ _ _ ha).mono ?_; rintro e w1 ⟨rfl, hb1⟩; have B1 := B0.on hb1; obtain ⟨a0, a1, a2, b0, b1, b2, c0, c1, c2, f0, f1, f2⟩ := id B1; refine Hid.out ?_)
  refine Lib.hid ?_
  go_wp2_with (go_at_call 9; refine (may_t _ _ _ _ hb).mono ?_; rintro e w2 ⟨rfl, hb2⟩; clear a0 a1 a2 b0 b1 b2 c0 c1 c2 f0 f1 f2; have B2 := B1.on hb2; obtain ⟨a0, a1, a2, b0, b1, b2, c0, c1, c2, f0, f1, f2⟩ := id B2; refine Hid.out ?_)
  refine Lib.hid ?_
  have hz := B2.size
  go_wp2_with (go_at_call 21; refine (boolean_any false _).mono ?_; rintro e w3 ⟨rfl, rfl⟩)
  refine bodyPost_ret (v := .tuple #[val 1 0 ⟨#[]⟩, .int .i64 0]) (by simp [results, Tryd.results13, go_sem, c0, c1, c2, hz]) rfl ⟨rfl, ?_⟩
  have hall := ext_trans (below3 w _ _ _) (ext_trans hb1 hb2)
  exact ext_alloc (((hall.setCell (by simp; omega) _).setCell (by simp; omega) _).setCell (by simp; omega) _) _

set_option maxHeartbeats 800000 in
theorem op_same_s (k n : Int) (s s' : ByteArray) (w : World) (ha : mayB k n s = true) (hb : mayB k n s' = true) (hk : ¬ s.toList = s'.toList) :
    Calls Tryd.prog 13 #[.int .i64 7, val k n s, val k n s'] w fun e w' => e = .returned (.tuple #[val 1 0 ⟨#[]⟩, .int .i64 0]) ∧ Below w.heap.size w w' := by
  have B0 := boxes0 w k n k n 0 0 s s' ⟨#[]⟩
  go_enter Tryd.func13, Tryd.ntmps13
  go_wp2_with (go_at_call 9; refine (may_t _ _ _ _ ha).mono ?_; rintro e w1 ⟨rfl, hb1⟩; have B1 := B0.on hb1; obtain ⟨a0, a1, a2, b0, b1, b2, c0, c1, c2, f0, f1, f2⟩ := id B1; refine Hid.out ?_)
  refine Lib.hid ?_
  go_wp2_with (go_at_call 9; refine (may_t _ _ _ _ hb).mono ?_; rintro e w2 ⟨rfl, hb2⟩; clear a0 a1 a2 b0 b1 b2 c0 c1 c2 f0 f1 f2; have B2 := B1.on hb2; obtain ⟨a0, a1, a2, b0, b1, b2, c0, c1, c2, f0, f1, f2⟩ := id B2; refine Hid.out ?_)
  refine Lib.hid ?_
  have hz := B2.size
  go_wp2_with (go_at_call 21; refine (boolean_any false _).mono ?_; rintro e w3 ⟨rfl, rfl⟩)
  refine bodyPost_ret (v := .tuple #[val 1 0 ⟨#[]⟩, .int .i64 0]) (by simp [results, Tryd.results13, go_sem, c0, c1, c2, hz]) rfl ⟨rfl, ?_⟩
  have hall := ext_trans (below3 w _ _ _) (ext_trans hb1 hb2)
  exact ext_alloc (((hall.setCell (by simp; omega) _).setCell (by simp; omega) _).setCell (by simp; omega) _) _

end Go.Proofs.YtcfkkmelenjjoaaDoor
