/- The law ValueTells, walked. -/
import Derived.Test.YtcfkkmelenjjoaaDoorText
import Derived.Deep.RegionHeld3
namespace Go.Proofs.YtcfkkmelenjjoaaDoor
open Go.RowKit
open Go

theorem rmay_b (k n : Int) (s : ByteArray) (w : World) (hn : -9223372036854775808 ≤ n) (hn' : n ≤ 9223372036854775807) :
    Calls Tryd.prog 10 #[val k n s] w fun e w' => e = .returned (.bool (mayB k n s)) ∧ Below w.heap.size w w' := by
  refine (rmay_any k n s w hn hn').mono ?_
  rintro e w' ⟨rfl, rfl⟩
  exact ⟨rfl, ext_alloc (Below.refl _ _) _⟩

set_option maxHeartbeats 3200000 in
theorem tells_any (k n : Int) (s : ByteArray) (w : World) (hn : -9223372036854775808 ≤ n) (hn' : n ≤ 9223372036854775807) (ht : Tab w) :
    Calls Tryd.prog 3 #[val k n s] w fun e w' => e = .returned (.bool true) ∧ Below w.heap.size w w' := by
  have X0 := box1_0 w k n s
  have E0 : Below w.heap.size w (w.alloc (box k n s)) := ext_alloc (Below.refl _ _) _
  have ht0 := ht.on E0
  generalize hM : mayB k n s = M
  generalize hT : truthB k n s = T
  generalize hX : textB k n s = X
  have C9 := fun w => may_any k n s w
  have C10 := fun w => rmay_b k n s w hn hn'
  have C11 := fun w => truth_any k n s w
  have C12 := fun w => rtruth_any k n s w hn hn'
  have C7 := fun w h => text_any k n s w hn hn' h
  have C8 := fun w => rtext_any k n s w hn hn'
  rw [hM] at C9 C10
  rw [hT] at C11 C12
  rw [hX] at C7 C8
  have HM := Lib.hid hM
  have HT := Lib.hid hT
  have HX := Lib.hid hX
  clear hM hT hX
  go_enter Tryd.func3, Tryd.ntmps3
  go_wp2_with (go_at_call 7; refine (C7 _ ht0).mono ?_; rintro e w1 ⟨rfl, hb1⟩; have X1 := X0.on hb1; obtain ⟨c0, c1, c2⟩ := id X1; refine Hid.out ?_)
  refine Lib.hid ?_
  have E1 := ext_trans E0 hb1
  go_wp2_with (go_at_call 8; refine (C8 _).mono ?_; rintro e w2 ⟨rfl, hb2⟩; clear c0 c1 c2; have X2 := X1.on hb2; obtain ⟨c0, c1, c2⟩ := id X2; refine Hid.out ?_)
  refine Lib.hid ?_
  have E2 := ext_trans E1 hb2
  go_wp2
  go_region_held3 (fun w' => w'.cell? ⟨w.heap.size, 0, none⟩ = some (.int .i64 k) ∧ w'.cell? ⟨w.heap.size, 1, none⟩ = some (.int .i64 n) ∧ w'.cell? ⟨w.heap.size, 2, none⟩ = some (.string s)) (go_keep) (first | (go_at_call 9; refine (C9 _).mono ?_; rintro e w9 ⟨rfl, hb9⟩; obtain ⟨d0, d1, d2⟩ := Box1.on (b := w.heap.size) (k := k) (n := n) (s := s) ⟨by simp [*], by simp [*], by simp [*]⟩ hb9) | (go_at_call 10; refine (C10 _).mono ?_; rintro e w10 ⟨rfl, hb10⟩; obtain ⟨d0, d1, d2⟩ := Box1.on (b := w.heap.size) (k := k) (n := n) (s := s) ⟨by simp [*], by simp [*], by simp [*]⟩ hb10) | (go_at_call 11; refine (C11 _).mono ?_; rintro e w11 ⟨rfl, hb11⟩; obtain ⟨d0, d1, d2⟩ := Box1.on (b := w.heap.size) (k := k) (n := n) (s := s) ⟨by simp [*], by simp [*], by simp [*]⟩ hb11) | (go_at_call 12; refine (C12 _).mono ?_; rintro e w12 ⟨rfl, hb12⟩; obtain ⟨d0, d1, d2⟩ := Box1.on (b := w.heap.size) (k := k) (n := n) (s := s) ⟨by simp [*], by simp [*], by simp [*]⟩ hb12))
  go_wp2
  go_ret
  exact ⟨rfl, ext_trans (ext_drew E2) (ext_trans hb9 (ext_trans hb10 (ext_trans hb11 hb12)))⟩
end Go.Proofs.YtcfkkmelenjjoaaDoor
