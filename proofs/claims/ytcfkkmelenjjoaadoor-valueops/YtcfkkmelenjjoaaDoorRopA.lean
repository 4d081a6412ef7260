/- Walks of the document's own answer: Op. -/
import Derived.Test.YtcfkkmelenjjoaaDoorWritten
import Derived.Test.YtcfkkmelenjjoaaDoorOpC
namespace Go.Proofs.YtcfkkmelenjjoaaDoor
open Go.RowKit
open Go

abbrev In64 (n : Int) : Prop := -9223372036854775808 ≤ n ∧ n ≤ 9223372036854775807
theorem rmay_bt (k n : Int) (s : ByteArray) (w : World) (hn : In64 n) (h : mayB k n s = true) :
    Calls Tryd.prog 10 #[val k n s] w fun e w' => e = .returned (.bool true) ∧ Below w.heap.size w w' := by
  refine (rmay_t k n s w hn.1 hn.2 h).mono ?_
  rintro e w' ⟨rfl, rfl⟩
  exact ⟨rfl, ext_alloc (Below.refl _ _) _⟩
theorem rmay_bf (k n : Int) (s : ByteArray) (w : World) (hn : In64 n) (h : mayB k n s = false) :
    Calls Tryd.prog 10 #[val k n s] w fun e w' => e = .returned (.bool false) ∧ Below w.heap.size w w' := by
  refine (rmay_f k n s w hn.1 hn.2 h).mono ?_
  rintro e w' ⟨rfl, rfl⟩
  exact ⟨rfl, ext_alloc (Below.refl _ _) _⟩
theorem none0 (w : World) (o1 o2 o3 : Obj) : Box1 (w.heap.size + 1 + 1 + 1) 0 0 ⟨#[]⟩ ((((w.alloc o1).alloc o2).alloc o3).alloc (box 0 0 ⟨#[]⟩)) :=
  ⟨by rw [World.cell?_alloc_at _ _ _ _ (by simp)]; rfl, by rw [World.cell?_alloc_at _ _ _ _ (by simp)]; rfl, by rw [World.cell?_alloc_at _ _ _ _ (by simp)]; rfl⟩
theorem rtruth_tt (k n : Int) (s : ByteArray) (w : World) (hn : In64 n) (h : truthB k n s = true) : Calls Tryd.prog 12 #[val k n s] w fun e w' => e = .returned (.bool true) ∧ Below w.heap.size w w' := h ▸ rtruth_any k n s w hn.1 hn.2
theorem rtruth_ff (k n : Int) (s : ByteArray) (w : World) (hn : In64 n) (h : truthB k n s = false) : Calls Tryd.prog 12 #[val k n s] w fun e w' => e = .returned (.bool false) ∧ Below w.heap.size w w' := h ▸ rtruth_any k n s w hn.1 hn.2
theorem before_t (a b : ByteArray) (w : World) (ha : a.size ≤ 300) (h : Op.bytesLess a.toList b.toList = true) : Calls Tryd.prog 27 #[.string a, .string b] w fun e w' => e = .returned (.bool true) ∧ Below w.heap.size w w' := h ▸ before_any a b w ha
theorem before_f (a b : ByteArray) (w : World) (ha : a.size ≤ 300) (h : Op.bytesLess a.toList b.toList = false) : Calls Tryd.prog 27 #[.string a, .string b] w fun e w' => e = .returned (.bool false) ∧ Below w.heap.size w w' := h ▸ before_any a b w ha
theorem rsame_ft (k n k' n' : Int) (s s' : ByteArray) (w : World) (h : ¬ (k = k' ∧ n = n' ∧ s.toList = s'.toList)) :
    Calls Tryd.prog 15 #[val k n s, val k' n' s'] w fun e w' => e = .returned (.bool false) ∧ Below w.heap.size w w' := by
  refine (rsame_f k n k' n' s s' w h).mono ?_
  rintro e w' ⟨rfl, rfl⟩
  exact ⟨rfl, ext_alloc (ext_alloc (Below.refl _ _) _) _⟩
theorem rsame_tt (k n : Int) (s : ByteArray) (w : World) :
    Calls Tryd.prog 15 #[val k n s, val k n s] w fun e w' => e = .returned (.bool true) ∧ Below w.heap.size w w' := by
  refine (rsame_t k n s w).mono ?_
  rintro e w' ⟨rfl, rfl⟩
  exact ⟨rfl, ext_alloc (ext_alloc (Below.refl _ _) _) _⟩
theorem below4 (w : World) (o1 o2 o3 o4 : Obj) : Below w.heap.size w ((((w.alloc o1).alloc o2).alloc o3).alloc o4) := ext_alloc (below3 _ _ _ _) _

set_option maxHeartbeats 3200000 in
set_option maxRecDepth 100000 in
theorem rop1 (k n k' n' : Int) (s s' : ByteArray) (w : World) (hna : In64 n) (hnb : In64 n') (ha : mayB k n s = true) (hb : mayB k' n' s' = true) (k2 : (k == 2) = true) (k2' : (k' == 2) = true) (k3 : (k == 3) = false) :
    Calls Tryd.prog 14 #[.int .i64 1, val k n s, val k' n' s'] w fun e w' => e = .returned (.tuple #[val 2 (wrap64 (n + n')) ⟨#[]⟩, .int .i64 0]) ∧ Below w.heap.size w w' := by
  have B0 := (boxes0 w k n k' n' 0 0 s s' ⟨#[]⟩).alloc' (box 0 0 ⟨#[]⟩)
  have N0 := none0 w (box k n s) (box k' n' s') (box 0 0 ⟨#[]⟩)
  go_enter Tryd.func14, Tryd.ntmps14
  go_wp2_with (go_at_call 10; refine (rmay_bt _ _ _ _ hna ha).mono ?_; rintro e w1 ⟨rfl, hb1⟩; have B1 := B0.on hb1; have N1 := N0.on hb1; obtain ⟨a0, a1, a2, b0, b1, b2, c0, c1, c2, f0, f1, f2⟩ := id B1; refine Hid.out ?_)
  refine Lib.hid ?_
  go_wp2_with (go_at_call 10; refine (rmay_bt _ _ _ _ hnb hb).mono ?_; rintro e w2 ⟨rfl, hb2⟩; clear a0 a1 a2 b0 b1 b2 c0 c1 c2 f0 f1 f2; have B2 := B1.on hb2; have N2 := N1.on hb2; obtain ⟨a0, a1, a2, b0, b1, b2, c0, c1, c2, f0, f1, f2⟩ := id B2; refine Hid.out ?_)
  refine Lib.hid ?_
  have E2 := ext_trans (below4 w _ _ _ _) (ext_trans hb1 hb2)
  obtain ⟨m0, m1, m2⟩ := id N2
  have hz := B2.size
  have hy0 : w.heap.size < w2.heap.size := by omega
  have hy1 : w.heap.size + 1 < w2.heap.size := by omega
  go_wp2_with (first | (go_at_call 29; refine (rint_any _ _).mono ?_; rintro e wx ⟨rfl, rfl⟩))
  refine bodyPost_ret (v := .tuple #[val 2 (wrap64 (n + n')) ⟨#[]⟩, .int .i64 0]) (by simp [results, Tryd.results14, go_sem, c0, c1, c2, hz]) rfl ⟨rfl, ?_⟩
  exact ext_alloc (((E2.setCell (by simp; omega) _).setCell (by simp; omega) _).setCell (by simp; omega) _) _

set_option maxHeartbeats 3200000 in
set_option maxRecDepth 100000 in
theorem rop2 (k n k' n' : Int) (s s' : ByteArray) (w : World) (hna : In64 n) (hnb : In64 n') (ha : mayB k n s = true) (hb : mayB k' n' s' = true) (k2 : (k == 2) = true) (k2' : (k' == 2) = true) (k3 : (k == 3) = false) :
    Calls Tryd.prog 14 #[.int .i64 2, val k n s, val k' n' s'] w fun e w' => e = .returned (.tuple #[val 2 (wrap64 (n - n')) ⟨#[]⟩, .int .i64 0]) ∧ Below w.heap.size w w' := by
  have B0 := (boxes0 w k n k' n' 0 0 s s' ⟨#[]⟩).alloc' (box 0 0 ⟨#[]⟩)
  have N0 := none0 w (box k n s) (box k' n' s') (box 0 0 ⟨#[]⟩)
  go_enter Tryd.func14, Tryd.ntmps14
  go_wp2_with (go_at_call 10; refine (rmay_bt _ _ _ _ hna ha).mono ?_; rintro e w1 ⟨rfl, hb1⟩; have B1 := B0.on hb1; have N1 := N0.on hb1; obtain ⟨a0, a1, a2, b0, b1, b2, c0, c1, c2, f0, f1, f2⟩ := id B1; refine Hid.out ?_)
  refine Lib.hid ?_
  go_wp2_with (go_at_call 10; refine (rmay_bt _ _ _ _ hnb hb).mono ?_; rintro e w2 ⟨rfl, hb2⟩; clear a0 a1 a2 b0 b1 b2 c0 c1 c2 f0 f1 f2; have B2 := B1.on hb2; have N2 := N1.on hb2; obtain ⟨a0, a1, a2, b0, b1, b2, c0, c1, c2, f0, f1, f2⟩ := id B2; refine Hid.out ?_)
  refine Lib.hid ?_
  have E2 := ext_trans (below4 w _ _ _ _) (ext_trans hb1 hb2)
  obtain ⟨m0, m1, m2⟩ := id N2
  have hz := B2.size
  have hy0 : w.heap.size < w2.heap.size := by omega
  have hy1 : w.heap.size + 1 < w2.heap.size := by omega
  go_wp2_with (first | (go_at_call 29; refine (rint_any _ _).mono ?_; rintro e wx ⟨rfl, rfl⟩))
  refine bodyPost_ret (v := .tuple #[val 2 (wrap64 (n - n')) ⟨#[]⟩, .int .i64 0]) (by simp [results, Tryd.results14, go_sem, c0, c1, c2, hz]) rfl ⟨rfl, ?_⟩
  exact ext_alloc (((E2.setCell (by simp; omega) _).setCell (by simp; omega) _).setCell (by simp; omega) _) _

set_option maxHeartbeats 3200000 in
set_option maxRecDepth 100000 in
theorem rop3 (k n k' n' : Int) (s s' : ByteArray) (w : World) (hna : In64 n) (hnb : In64 n') (ha : mayB k n s = true) (hb : mayB k' n' s' = true) (k2 : (k == 2) = true) (k2' : (k' == 2) = true) (k3 : (k == 3) = false) :
    Calls Tryd.prog 14 #[.int .i64 3, val k n s, val k' n' s'] w fun e w' => e = .returned (.tuple #[val 2 (wrap64 (n * n')) ⟨#[]⟩, .int .i64 0]) ∧ Below w.heap.size w w' := by
  have B0 := (boxes0 w k n k' n' 0 0 s s' ⟨#[]⟩).alloc' (box 0 0 ⟨#[]⟩)
  have N0 := none0 w (box k n s) (box k' n' s') (box 0 0 ⟨#[]⟩)
  go_enter Tryd.func14, Tryd.ntmps14
  go_wp2_with (go_at_call 10; refine (rmay_bt _ _ _ _ hna ha).mono ?_; rintro e w1 ⟨rfl, hb1⟩; have B1 := B0.on hb1; have N1 := N0.on hb1; obtain ⟨a0, a1, a2, b0, b1, b2, c0, c1, c2, f0, f1, f2⟩ := id B1; refine Hid.out ?_)
  refine Lib.hid ?_
  go_wp2_with (go_at_call 10; refine (rmay_bt _ _ _ _ hnb hb).mono ?_; rintro e w2 ⟨rfl, hb2⟩; clear a0 a1 a2 b0 b1 b2 c0 c1 c2 f0 f1 f2; have B2 := B1.on hb2; have N2 := N1.on hb2; obtain ⟨a0, a1, a2, b0, b1, b2, c0, c1, c2, f0, f1, f2⟩ := id B2; refine Hid.out ?_)
  refine Lib.hid ?_
  have E2 := ext_trans (below4 w _ _ _ _) (ext_trans hb1 hb2)
  obtain ⟨m0, m1, m2⟩ := id N2
  have hz := B2.size
  have hy0 : w.heap.size < w2.heap.size := by omega
  have hy1 : w.heap.size + 1 < w2.heap.size := by omega
  go_wp2_with (first | (go_at_call 29; refine (rint_any _ _).mono ?_; rintro e wx ⟨rfl, rfl⟩))
  refine bodyPost_ret (v := .tuple #[val 2 (wrap64 (n * n')) ⟨#[]⟩, .int .i64 0]) (by simp [results, Tryd.results14, go_sem, c0, c1, c2, hz]) rfl ⟨rfl, ?_⟩
  exact ext_alloc (((E2.setCell (by simp; omega) _).setCell (by simp; omega) _).setCell (by simp; omega) _) _

end Go.Proofs.YtcfkkmelenjjoaaDoor
