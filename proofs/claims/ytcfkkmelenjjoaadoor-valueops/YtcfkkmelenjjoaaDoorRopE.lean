/- Walks of the document's own answer: Op, where the operation or a value may not be. -/
import Derived.Test.YtcfkkmelenjjoaaDoorRopA
namespace Go.Proofs.YtcfkkmelenjjoaaDoor
open Go.RowKit
open Go

set_option maxHeartbeats 800000 in
set_option maxRecDepth 100000 in
theorem rop_low (op k n k' n' : Int) (s s' : ByteArray) (w : World) (h : op < 1) :
    Calls Tryd.prog 14 #[.int .i64 op, val k n s, val k' n' s'] w fun e w' => e = .returned (.tuple #[val 0 0 ⟨#[]⟩, .int .i64 2]) ∧ Below w.heap.size w w' := by
  go_enter Tryd.func14, Tryd.ntmps14
  go_wp2
  refine bodyPost_ret (v := .tuple #[val 0 0 ⟨#[]⟩, .int .i64 2]) (by simp [results, Tryd.results14, go_sem]) rfl ⟨rfl, ?_⟩
  exact below4 _ _ _ _ _
set_option maxHeartbeats 800000 in
set_option maxRecDepth 100000 in
theorem rop_high (op k n k' n' : Int) (s s' : ByteArray) (w : World) (h : 11 < op) :
    Calls Tryd.prog 14 #[.int .i64 op, val k n s, val k' n' s'] w fun e w' => e = .returned (.tuple #[val 0 0 ⟨#[]⟩, .int .i64 2]) ∧ Below w.heap.size w w' := by
  go_enter Tryd.func14, Tryd.ntmps14
  go_wp2
  refine bodyPost_ret (v := .tuple #[val 0 0 ⟨#[]⟩, .int .i64 2]) (by simp [results, Tryd.results14, go_sem]) rfl ⟨rfl, ?_⟩
  exact below4 _ _ _ _ _
set_option maxHeartbeats 800000 in
set_option maxRecDepth 100000 in
theorem rop_a (op k n k' n' : Int) (s s' : ByteArray) (w : World) (hna : In64 n) (h1 : 1 ≤ op) (h2 : op ≤ 11) (ha : mayB k n s = false) :
    Calls Tryd.prog 14 #[.int .i64 op, val k n s, val k' n' s'] w fun e w' => e = .returned (.tuple #[val 0 0 ⟨#[]⟩, .int .i64 2]) ∧ Below w.heap.size w w' := by
  have B0 := (boxes0 w k n k' n' 0 0 s s' ⟨#[]⟩).alloc' (box 0 0 ⟨#[]⟩)
  have N0 := none0 w (box k n s) (box k' n' s') (box 0 0 ⟨#[]⟩)
  go_enter Tryd.func14, Tryd.ntmps14
  go_wp2_with (go_at_call 10; refine (rmay_bf _ _ _ _ hna ha).mono ?_; rintro e w1 ⟨rfl, hb1⟩; have B1 := B0.on hb1; have N1 := N0.on hb1; obtain ⟨a0, a1, a2, b0, b1, b2, c0, c1, c2, f0, f1, f2⟩ := id B1; refine Hid.out ?_)
  refine Lib.hid ?_
  obtain ⟨m0, m1, m2⟩ := id N1
  have hz := B1.size
  have E1 := ext_trans (below4 w _ _ _ _) hb1
  go_wp2
  refine bodyPost_ret (v := .tuple #[val 0 0 ⟨#[]⟩, .int .i64 2]) (by simp [results, Tryd.results14, go_sem, c0, c1, c2]) rfl ⟨rfl, ?_⟩
  exact ((E1.setCell (by simp; omega) _).setCell (by simp; omega) _).setCell (by simp; omega) _
set_option maxHeartbeats 800000 in
set_option maxRecDepth 100000 in
theorem rop_b (op k n k' n' : Int) (s s' : ByteArray) (w : World) (hna : In64 n) (hnb : In64 n') (h1 : 1 ≤ op) (h2 : op ≤ 11) (ha : mayB k n s = true) (hb : mayB k' n' s' = false) :
    Calls Tryd.prog 14 #[.int .i64 op, val k n s, val k' n' s'] w fun e w' => e = .returned (.tuple #[val 0 0 ⟨#[]⟩, .int .i64 2]) ∧ Below w.heap.size w w' := by
  have B0 := (boxes0 w k n k' n' 0 0 s s' ⟨#[]⟩).alloc' (box 0 0 ⟨#[]⟩)
  have N0 := none0 w (box k n s) (box k' n' s') (box 0 0 ⟨#[]⟩)
  go_enter Tryd.func14, Tryd.ntmps14
  go_wp2_with (go_at_call 10; refine (rmay_bt _ _ _ _ hna ha).mono ?_; rintro e w1 ⟨rfl, hb1⟩; have B1 := B0.on hb1; have N1 := N0.on hb1; obtain ⟨a0, a1, a2, b0, b1, b2, c0, c1, c2, f0, f1, f2⟩ := id B1; refine Hid.out ?_)
  refine Lib.hid ?_
  go_wp2_with (go_at_call 10; refine (rmay_bf _ _ _ _ hnb hb).mono ?_; rintro e w2 ⟨rfl, hb2⟩; clear a0 a1 a2 b0 b1 b2 c0 c1 c2 f0 f1 f2; have B2 := B1.on hb2; have N2 := N1.on hb2; obtain ⟨a0, a1, a2, b0, b1, b2, c0, c1, c2, f0, f1, f2⟩ := id B2; refine Hid.out ?_)
  refine Lib.hid ?_
  obtain ⟨m0, m1, m2⟩ := id N2
  have hz := B2.size
  have E2 := ext_trans (below4 w _ _ _ _) (ext_trans hb1 hb2)
  go_wp2
  refine bodyPost_ret (v := .tuple #[val 0 0 ⟨#[]⟩, .int .i64 2]) (by simp [results, Tryd.results14, go_sem, c0, c1, c2]) rfl ⟨rfl, ?_⟩
  exact ((E2.setCell (by simp; omega) _).setCell (by simp; omega) _).setCell (by simp; omega) _
end Go.Proofs.YtcfkkmelenjjoaaDoor
