/- Walks of the value package: not, less nought, one behind the other. -/
import Derived.Test.YtcfkkmelenjjoaaDoorOpB
import Derived.Test.YtcfkkmelenjjoaaDoorText
import Derived.Test.YtcfkkmelenjjoaaDoorReckon
import Derived.Deep.RegionHeld3
namespace Go.Proofs.YtcfkkmelenjjoaaDoor
open Go.RowKit
open Go

theorem Boxes.alloc' {b : Nat} {k n k' n' k2 n2 : Int} {s s' s2 : ByteArray} {w : World} (h : Boxes b k n k' n' k2 n2 s s' s2 w) (o : Obj) : Boxes b k n k' n' k2 n2 s s' s2 (w.alloc o) := h.on (ext_alloc (Below.refl _ _) o)
theorem Boxes.drew {b : Nat} {k n k' n' k2 n2 : Int} {s s' s2 : ByteArray} {w : World} (h : Boxes b k n k' n' k2 n2 s s' s2 w) : Boxes b k n k' n' k2 n2 s s' s2 w.drew :=
  ⟨h.a0, h.a1, h.a2, h.b0, h.b1, h.b2, h.c0, h.c1, h.c2, h.f0, h.f1, h.f2⟩
theorem truth_tt (k n : Int) (s : ByteArray) (w : World) (h : truthB k n s = true) : Calls Tryd.prog 11 #[val k n s] w fun e w' => e = .returned (.bool true) ∧ Below w.heap.size w w' := h ▸ truth_any k n s w
theorem truth_ff (k n : Int) (s : ByteArray) (w : World) (h : truthB k n s = false) : Calls Tryd.prog 11 #[val k n s] w fun e w' => e = .returned (.bool false) ∧ Below w.heap.size w w' := h ▸ truth_any k n s w

set_option maxHeartbeats 800000 in
theorem op_not_t (k n k' n' : Int) (s s' : ByteArray) (w : World) (ha : mayB k n s = true) (hb : mayB k' n' s' = true) (ht : truthB k n s = true) :
    Calls Tryd.prog 13 #[.int .i64 10, val k n s, val k' n' s'] w fun e w' => e = .returned (.tuple #[val 1 0 ⟨#[]⟩, .int .i64 0]) ∧ Below w.heap.size w w' := by
  have B0 := boxes0 w k n k' n' 0 0 s s' ⟨#[]⟩
  go_enter Tryd.func13, Tryd.ntmps13
  go_wp2_with (go_at_call 9; refine (may_t _ _ _ _ ha).mono ?_; rintro e w1 ⟨rfl, hb1⟩; have B1 := B0.on hb1; obtain ⟨a0, a1, a2, b0, b1, b2, c0, c1, c2, f0, f1, f2⟩ := id B1; refine Hid.out ?_)
  refine Lib.hid ?_
  go_wp2_with (go_at_call 9; refine (may_t _ _ _ _ hb).mono ?_; rintro e w2 ⟨rfl, hb2⟩; clear a0 a1 a2 b0 b1 b2 c0 c1 c2 f0 f1 f2; have B2 := B1.on hb2; obtain ⟨a0, a1, a2, b0, b1, b2, c0, c1, c2, f0, f1, f2⟩ := id B2; refine Hid.out ?_)
  refine Lib.hid ?_
  have hz2 := B2.size
  have E2 := ext_trans (below3 w _ _ _) (ext_trans hb1 hb2)
  go_wp2_with (go_at_call 11; refine (truth_tt _ _ _ _ ht).mono ?_; rintro e w3 ⟨rfl, hb3⟩; clear a0 a1 a2 b0 b1 b2 c0 c1 c2 f0 f1 f2; have B3 := B2.on hb3; obtain ⟨a0, a1, a2, b0, b1, b2, c0, c1, c2, f0, f1, f2⟩ := id B3; refine Hid.out ?_)
  refine Lib.hid ?_
  have hz := B3.size
  have E3 := ext_trans E2 hb3
  go_wp2_with (go_at_call 21; refine (boolean_any false _).mono ?_; rintro e w4 ⟨rfl, rfl⟩)
  refine bodyPost_ret (v := .tuple #[val 1 0 ⟨#[]⟩, .int .i64 0]) (by simp [results, Tryd.results13, go_sem, c0, c1, c2, hz]) rfl ⟨rfl, ?_⟩
  exact ext_alloc (((E3.setCell (by simp; omega) _).setCell (by simp; omega) _).setCell (by simp; omega) _) _

set_option maxHeartbeats 800000 in
theorem op_not_f (k n k' n' : Int) (s s' : ByteArray) (w : World) (ha : mayB k n s = true) (hb : mayB k' n' s' = true) (ht : truthB k n s = false) :
    Calls Tryd.prog 13 #[.int .i64 10, val k n s, val k' n' s'] w fun e w' => e = .returned (.tuple #[val 1 1 ⟨#[]⟩, .int .i64 0]) ∧ Below w.heap.size w w' := by
  have B0 := boxes0 w k n k' n' 0 0 s s' ⟨#[]⟩
  go_enter Tryd.func13, Tryd.ntmps13
  go_wp2_with (go_at_call 9; refine (may_t _ _ _ _ ha).mono ?_; rintro e w1 ⟨rfl, hb1⟩; have B1 := B0.on hb1; obtain ⟨a0, a1, a2, b0, b1, b2, c0, c1, c2, f0, f1, f2⟩ := id B1; refine Hid.out ?_)
  refine Lib.hid ?_
  go_wp2_with (go_at_call 9; refine (may_t _ _ _ _ hb).mono ?_; rintro e w2 ⟨rfl, hb2⟩; clear a0 a1 a2 b0 b1 b2 c0 c1 c2 f0 f1 f2; have B2 := B1.on hb2; obtain ⟨a0, a1, a2, b0, b1, b2, c0, c1, c2, f0, f1, f2⟩ := id B2; refine Hid.out ?_)
  refine Lib.hid ?_
  have hz2 := B2.size
  have E2 := ext_trans (below3 w _ _ _) (ext_trans hb1 hb2)
  go_wp2_with (go_at_call 11; refine (truth_ff _ _ _ _ ht).mono ?_; rintro e w3 ⟨rfl, hb3⟩; clear a0 a1 a2 b0 b1 b2 c0 c1 c2 f0 f1 f2; have B3 := B2.on hb3; obtain ⟨a0, a1, a2, b0, b1, b2, c0, c1, c2, f0, f1, f2⟩ := id B3; refine Hid.out ?_)
  refine Lib.hid ?_
  have hz := B3.size
  have E3 := ext_trans E2 hb3
  go_wp2_with (go_at_call 21; refine (boolean_any true _).mono ?_; rintro e w4 ⟨rfl, rfl⟩)
  refine bodyPost_ret (v := .tuple #[val 1 1 ⟨#[]⟩, .int .i64 0]) (by simp [results, Tryd.results13, go_sem, c0, c1, c2, hz]) rfl ⟨rfl, ?_⟩
  exact ext_alloc (((E3.setCell (by simp; omega) _).setCell (by simp; omega) _).setCell (by simp; omega) _) _

set_option maxHeartbeats 1600000 in
theorem op_neg (k n k' n' : Int) (s s' : ByteArray) (k3 n3 er : Int) (s3 : ByteArray) (w : World) (ha : mayB k n s = true) (hb : mayB k' n' s' = true)
    (hr : ∀ w, Calls Tryd.prog 22 #[.int .i64 2, val 2 0 ⟨#[]⟩, val k n s] w fun e w' => e = .returned (.tuple #[val k3 n3 s3, .int .i64 er]) ∧ Below w.heap.size w w') :
    Calls Tryd.prog 13 #[.int .i64 11, val k n s, val k' n' s'] w fun e w' => e = .returned (.tuple #[val k3 n3 s3, .int .i64 er]) ∧ Below w.heap.size w w' := by
  have B0 := boxes0 w k n k' n' 0 0 s s' ⟨#[]⟩
  go_enter Tryd.func13, Tryd.ntmps13
  go_wp2_with (go_at_call 9; refine (may_t _ _ _ _ ha).mono ?_; rintro e w1 ⟨rfl, hb1⟩; have B1 := B0.on hb1; obtain ⟨a0, a1, a2, b0, b1, b2, c0, c1, c2, f0, f1, f2⟩ := id B1; refine Hid.out ?_)
  refine Lib.hid ?_
  go_wp2_with (go_at_call 9; refine (may_t _ _ _ _ hb).mono ?_; rintro e w2 ⟨rfl, hb2⟩; clear a0 a1 a2 b0 b1 b2 c0 c1 c2 f0 f1 f2; have B2 := B1.on hb2; obtain ⟨a0, a1, a2, b0, b1, b2, c0, c1, c2, f0, f1, f2⟩ := id B2; refine Hid.out ?_)
  refine Lib.hid ?_
  have hz2 := B2.size
  have E2 := ext_trans (below3 w _ _ _) (ext_trans hb1 hb2)
  have hz0 : w.heap.size < w2.heap.size := by omega
  go_wp2
  go_region_with (first | (go_at_call 23; refine (number_any 0 _).mono ?_; rintro e wn ⟨rfl, rfl⟩) | (go_at_call 22; refine (hr _).mono ?_; rintro e w3 ⟨rfl, hb3⟩; have E3 := ext_trans (ext_drew (ext_alloc E2 _)) hb3; have B3 := (B2.alloc' _).drew.on hb3; obtain ⟨A0, A1, A2, D0, D1, D2, C0, C1, C2, F0, F1, F2⟩ := id B3; have hz := B3.size))
  all_goals
    go_wp2
    refine bodyPost_ret (v := .tuple #[val k3 n3 s3, .int .i64 er]) (by simp [results, Tryd.results13, go_sem, C0, C1, C2]) rfl ⟨rfl, ?_⟩
    exact ((E3.setCell (by simp; omega) _).setCell (by simp; omega) _).setCell (by simp; omega) _

set_option maxHeartbeats 800000 in
theorem op_joinT (k n k' n' : Int) (s s' : ByteArray) (k3 n3 er : Int) (s3 : ByteArray) (w : World) (ha : mayB k n s = true) (hb : mayB k' n' s' = true)
    (hr : ∀ w1, Below w.heap.size w w1 → Calls Tryd.prog 25 #[val k n s, val k' n' s'] w1 fun e w' => e = .returned (.tuple #[val k3 n3 s3, .int .i64 er]) ∧ Below w1.heap.size w1 w') :
    Calls Tryd.prog 13 #[.int .i64 6, val k n s, val k' n' s'] w fun e w' => e = .returned (.tuple #[val k3 n3 s3, .int .i64 er]) ∧ Below w.heap.size w w' := by
  have B0 := boxes0 w k n k' n' 0 0 s s' ⟨#[]⟩
  go_enter Tryd.func13, Tryd.ntmps13
  go_wp2_with (go_at_call 9; refine (may_t _ _ _ _ ha).mono ?_; rintro e w1 ⟨rfl, hb1⟩; have B1 := B0.on hb1; obtain ⟨a0, a1, a2, b0, b1, b2, c0, c1, c2, f0, f1, f2⟩ := id B1; refine Hid.out ?_)
  refine Lib.hid ?_
  go_wp2_with (go_at_call 9; refine (may_t _ _ _ _ hb).mono ?_; rintro e w2 ⟨rfl, hb2⟩; clear a0 a1 a2 b0 b1 b2 c0 c1 c2 f0 f1 f2; have B2 := B1.on hb2; obtain ⟨a0, a1, a2, b0, b1, b2, c0, c1, c2, f0, f1, f2⟩ := id B2; refine Hid.out ?_)
  refine Lib.hid ?_
  have hz2 := B2.size
  have E2 := ext_trans (below3 w _ _ _) (ext_trans hb1 hb2)
  go_wp2_with (go_at_call 25; refine (hr _ E2).mono ?_; rintro e w3 ⟨rfl, hb3⟩; clear a0 a1 a2 b0 b1 b2 c0 c1 c2 f0 f1 f2; have B3 := B2.on hb3; obtain ⟨a0, a1, a2, b0, b1, b2, c0, c1, c2, f0, f1, f2⟩ := id B3; refine Hid.out ?_)
  refine Lib.hid ?_
  have hz := B3.size
  have E3 := ext_trans E2 hb3
  go_wp2
  refine bodyPost_ret (v := .tuple #[val k3 n3 s3, .int .i64 er]) (by simp [results, Tryd.results13, go_sem, c0, c1, c2]) rfl ⟨rfl, ?_⟩
  exact ((E3.setCell (by simp; omega) _).setCell (by simp; omega) _).setCell (by simp; omega) _

end Go.Proofs.YtcfkkmelenjjoaaDoor
