/- Walks of the value package: what counts as true. -/
import Derived.Test.YthpgbienakcbeaaGreatDoorS16
import Derived.Test.YthpgbienakcbeaaGreatDoorS17
namespace Go.Proofs.YthpgbienakcbeaaGreatDoor
open Go.RowKit Go
set_option maxRecDepth 100000
set_option maxHeartbeats 8000000
set_option linter.all false
theorem c9c (n : Int) (s : ByteArray) (w : World) (h : mayB 1 n s = true) (hk : ((1 : Int) == 0) = false) (h1 : ¬ n = 0) :
  Calls Tryz.prog 77 #[val 1 n s] w fun e w' => e = .returned (.bool true) ∧ Below w.heap.size w w' := by
 have hmf := hmf
 go_enter Tryz.func77, Tryz.ntmps77
 go_wp2
 go_region_with (first | (go_at_call 60; refine (a2r _ _ _ _ h).mono ?_; rintro e w1 ⟨rfl, hb1⟩; have E1 : Below w.heap.size w w1 := a0b (a0i (a0c (Below.refl _ _) _)) hb1; have X1 : Box1 w.heap.size 1 n s w1 := (a4p w 1 n s).drew.on hb1; obtain ⟨c0, c1, c2⟩ := id X1; have z1 := World.block_lt_of_cell? _ _ c0; dsimp only at z1) | (go_at_call 92; refine (a5m _ 1 n s _ (by simp [Box1, go_sem])).mono ?_; rintro e w2 ⟨rfl, hA, hb2⟩; simp only [World.size_alloc] at hA; have E2 : Below w.heap.size w w2 := a0b (by repeat (first | exact E1 | refine a0c ?_ _)) hb2; have X2 : Box1 w.heap.size 1 n s w2 := Box1.on (by repeat (first | exact X1 | refine Box1.alloc ?_ _)) hb2) | (go_at_call_of 107 w2; refine (late 0 1 n s _ _ _ hA).mono ?_; rw [hk]; rintro e w3 ⟨rfl, hb3⟩; have E3 : Below w.heap.size w w3 := a0b (a0c E2 _) hb3; obtain ⟨d0, d1, d2⟩ := (X2.alloc _).on hb3; have z3 := World.block_lt_of_cell? _ _ d0; dsimp only at z3) | (go_at_call 107; refine (c2s 0 1 n s _ _ _ _ hA (cell_later hb2 (by simp [go_sem]))).mono ?_; rw [hk]; rintro e w3 ⟨rfl, hb3⟩; have E3 : Below w.heap.size w w3 := a0b E2 hb3; obtain ⟨d0, d1, d2⟩ := X2.on hb3; have z3 := World.block_lt_of_cell? _ _ d0; dsimp only at z3) | (go_at_call 96; refine (a2a false _).mono ?_; rintro e w4 ⟨rfl, rfl⟩))
 all_goals
  go_wp2
  go_ret
  refine ⟨rfl, ?_⟩
  first | exact E3 | exact a0c E3 _
def truthB (k n : Int) (s : ByteArray) : Bool := mayB k n s && !(k == 0) && !(k == 1 && n == 0)
theorem a9p (k n : Int) (s : ByteArray) (w : World) : Calls Tryz.prog 77 #[val k n s] w fun e w' => e = .returned (.bool (truthB k n s)) ∧ Below w.heap.size w w' := by
 unfold truthB
 rcases Bool.eq_false_or_eq_true (mayB k n s) with h | h
 ·rcases Bool.eq_false_or_eq_true (k == 0) with k0 | k0
  ·rw [h, k0]; exact b8e k n s w h k0
  ·by_cases k1 : k = 1
   ·subst k1
    by_cases n0 : n = 0
    ·subst n0
     have he : s.toList = [] := by
      unfold mayB at h
      rw [if_neg (by decide)] at h
      rcases Bool.eq_false_or_eq_true s.toList.isEmpty with e | e
      ·simpa using e
      ·rw [if_pos e] at h; cases h
     rw [h]; exact c9b s w h rfl he
    ·have e : (n == 0) = false := by simpa using n0
     rw [h, e]; exact c9c n s w h rfl n0
   ·have e : (k == 1) = false := by simpa using k1
    rw [h, k0, e]; exact c9a k n s w h k0 k1
 ·rw [h]; exact c8c k n s w h
theorem c4a (k n : Int) (s : ByteArray) (w : World) (hn : -9223372036854775808 ≤ n) (hn' : n ≤ 9223372036854775807) (h : mayB k n s = false) :
  Calls Tryz.prog 82 #[val k n s] w fun e w' => e = .returned (.bool false) ∧ Below w.heap.size w w' := by
 go_enter Tryz.func82, Tryz.ntmps82
 go_wp2_with (go_at_call 47; refine (b5a k n s _ hn hn' h).mono ?_; rintro e w1 ⟨rfl, rfl⟩)
 go_ret
 exact ⟨rfl, a0c (a0c (Below.refl _ _) _) _⟩
theorem b6x (k n : Int) (s : ByteArray) (w : World) (hn : -9223372036854775808 ≤ n) (hn' : n ≤ 9223372036854775807) (h : mayB k n s = true) (k0 : (k == 0) = true) :
  Calls Tryz.prog 82 #[val k n s] w fun e w' => e = .returned (.bool false) ∧ Below w.heap.size w w' := by
 go_enter Tryz.func82, Tryz.ntmps82
 go_wp2_with (go_at_call 47; refine (a5v k n s _ hn hn' h).mono ?_; rintro e w1 ⟨rfl, rfl⟩)
 go_ret
 exact ⟨rfl, a0c (a0c (Below.refl _ _) _) _⟩
theorem c4b (k n : Int) (s : ByteArray) (w : World) (hn : -9223372036854775808 ≤ n) (hn' : n ≤ 9223372036854775807) (h : mayB k n s = true) (k0 : (k == 0) = false) (k1 : ¬ k = 1) :
  Calls Tryz.prog 82 #[val k n s] w fun e w' => e = .returned (.bool true) ∧ Below w.heap.size w w' := by
 go_enter Tryz.func82, Tryz.ntmps82
 go_wp2_with (go_at_call 47; refine (a5v k n s _ hn hn' h).mono ?_; rintro e w1 ⟨rfl, rfl⟩)
 go_ret
 exact ⟨rfl, a0c (a0c (Below.refl _ _) _) _⟩
theorem c4c (n : Int) (s : ByteArray) (w : World) (hn : -9223372036854775808 ≤ n) (hn' : n ≤ 9223372036854775807) (h : mayB 1 n s = true) :
  Calls Tryz.prog 82 #[val 1 n s] w fun e w' => e = .returned (.bool (n == 1)) ∧ Below w.heap.size w w' := by
 go_enter Tryz.func82, Tryz.ntmps82
 go_wp2_with (go_at_call 47; refine (a5v 1 n s _ hn hn' h).mono ?_; rintro e w1 ⟨rfl, rfl⟩)
 go_ret
 exact ⟨rfl, a0c (a0c (Below.refl _ _) _) _⟩
theorem a8i (k n : Int) (s : ByteArray) (w : World) (hn : -9223372036854775808 ≤ n) (hn' : n ≤ 9223372036854775807) : Calls Tryz.prog 82 #[val k n s] w fun e w' => e = .returned (.bool (truthB k n s)) ∧ Below w.heap.size w w' := by
 unfold truthB
 rcases Bool.eq_false_or_eq_true (mayB k n s) with h | h
 ·rcases Bool.eq_false_or_eq_true (k == 0) with k0 | k0
  ·rw [h, k0]; exact b6x k n s w hn hn' h k0
  ·rcases Bool.eq_false_or_eq_true (k == 1) with k1 | k1
   ·have e : (true && !false && !(true && n == 0)) = (n == 1) := by
     obtain rfl : k = 1 := by simpa using k1
     unfold mayB at h
     rw [if_neg (by decide)] at h
     rcases Bool.eq_false_or_eq_true s.toList.isEmpty with e | e
     ·simp [e] at h
      rcases h with rfl | rfl <;> rfl
     ·rw [if_pos e] at h; cases h
    obtain rfl : k = 1 := by simpa using k1
    rw [h, k0, k1, e]; exact c4c n s w hn hn' h
   ·rw [h, k0, k1]; exact c4b k n s w hn hn' h k0 (by simpa using k1)
 ·rw [h]; exact c4a k n s w hn hn' h
end Go.Proofs.YthpgbienakcbeaaGreatDoor
