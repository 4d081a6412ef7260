/- The document's own text of a number or a text. -/
import Derived.Test.YtcfkkmelenjjoaaDoorBefore
namespace Go.Proofs.YtcfkkmelenjjoaaDoor
open Go.RowKit
open Go

set_option maxHeartbeats 1600000 in
theorem written_2 (k n : Int) (s : ByteArray) (w : World) (hn : -9223372036854775808 ≤ n) (hn' : n ≤ 9223372036854775807) (hk : (k == 2) = true) :
    Calls Tryd.prog 28 #[val k n s] w fun e w' => e = .returned (.tuple #[.string (textB k n s), .bool true]) ∧ Below w.heap.size w w' := by
  have X0 := box1_0 w k n s
  go_enter Tryd.func28, Tryd.ntmps28
  go_wp2_with (go_at_call 8; refine (rtext_any _ _ _ _ hn hn').mono ?_; rintro e w1 ⟨rfl, hb1⟩; obtain ⟨c0, c1, c2⟩ := X0.on hb1; refine Hid.out ?_)
  refine Lib.hid ?_
  go_wp2
  go_quiet (fail)
  go_wp2
  go_ret2
  exact ⟨rfl, ext_drewN (ext_trans (ext_alloc (Below.refl _ _) _) hb1) _⟩
set_option maxHeartbeats 1600000 in
theorem written_3 (k n : Int) (s : ByteArray) (w : World) (hn : -9223372036854775808 ≤ n) (hn' : n ≤ 9223372036854775807) (hk : (k == 2) = false) (h3 : (k == 3) = true) :
    Calls Tryd.prog 28 #[val k n s] w fun e w' => e = .returned (.tuple #[.string (textB k n s), .bool true]) ∧ Below w.heap.size w w' := by
  have X0 := box1_0 w k n s
  go_enter Tryd.func28, Tryd.ntmps28
  go_wp2_with (go_at_call 8; refine (rtext_any _ _ _ _ hn hn').mono ?_; rintro e w1 ⟨rfl, hb1⟩; obtain ⟨c0, c1, c2⟩ := X0.on hb1; refine Hid.out ?_)
  refine Lib.hid ?_
  go_wp2
  go_quiet (fail)
  go_wp2
  go_ret2
  exact ⟨rfl, ext_drewN (ext_trans (ext_alloc (Below.refl _ _) _) hb1) _⟩
set_option maxHeartbeats 1600000 in
theorem written_f (k n : Int) (s : ByteArray) (w : World) (hn : -9223372036854775808 ≤ n) (hn' : n ≤ 9223372036854775807) (hk : (k == 2) = false) (h3 : (k == 3) = false) :
    Calls Tryd.prog 28 #[val k n s] w fun e w' => e = .returned (.tuple #[.string (textB k n s), .bool false]) ∧ Below w.heap.size w w' := by
  have X0 := box1_0 w k n s
  go_enter Tryd.func28, Tryd.ntmps28
  go_wp2_with (go_at_call 8; refine (rtext_any _ _ _ _ hn hn').mono ?_; rintro e w1 ⟨rfl, hb1⟩; obtain ⟨c0, c1, c2⟩ := X0.on hb1; refine Hid.out ?_)
  refine Lib.hid ?_
  go_wp2
  go_quiet (fail)
  go_wp2
  go_ret2
  exact ⟨rfl, ext_drewN (ext_trans (ext_alloc (Below.refl _ _) _) hb1) _⟩
theorem written_t (k n : Int) (s : ByteArray) (w : World) (hn : -9223372036854775808 ≤ n) (hn' : n ≤ 9223372036854775807) (h : k = 2 ∨ k = 3) :
    Calls Tryd.prog 28 #[val k n s] w fun e w' => e = .returned (.tuple #[.string (textB k n s), .bool true]) ∧ Below w.heap.size w w' := by
  rcases h with h | h
  · exact written_2 k n s w hn hn' (by simpa using h)
  · exact written_3 k n s w hn hn' (by simp [h]) (by simp [h])
end Go.Proofs.YtcfkkmelenjjoaaDoor
