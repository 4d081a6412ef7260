/- Walks of the value package: what is told of a value; and the document's own. -/
import Derived.Test.YthpgbienakcbeaaGreatDoorS23
import Derived.Test.YthpgbienakcbeaaGreatDoorS10
namespace Go.Proofs.YthpgbienakcbeaaGreatDoor
open Go.RowKit Go
set_option maxRecDepth 100000
set_option maxHeartbeats 8000000
set_option linter.all false
theorem c9g (k n : Int) (s : ByteArray) (w : World) (hn : -9223372036854775808 ≤ n) (hn' : n ≤ 9223372036854775807) (h : mayB k n s = false) :
  Calls Tryz.prog 105 #[val k n s] w fun e w' => e = .returned (.string ⟨#[]⟩) ∧ Below w.heap.size w w' := by
 have E1 : Below w.heap.size w ((w.alloc (box k n s)).alloc (box k n s)) := a0c (a0c (Below.refl _ _) _) _
 go_enter Tryz.func105, Tryz.ntmps105
 go_wp2_with (first | (go_at_call 47; refine (b5a k n s _ hn hn' h).mono ?_; rintro e w1 ⟨rfl, rfl⟩))
 go_ret
 exact ⟨rfl, E1⟩
theorem c0b (k n : Int) (s : ByteArray) (w : World) (hn : -9223372036854775808 ≤ n) (hn' : n ≤ 9223372036854775807) (h : mayB k n s = true) (k0 : (k == 0) = true) :
  Calls Tryz.prog 105 #[val k n s] w fun e w' => e = .returned (.string sNil) ∧ Below w.heap.size w w' := by
 have E1 : Below w.heap.size w ((w.alloc (box k n s)).alloc (box k n s)) := a0c (a0c (Below.refl _ _) _) _
 go_enter Tryz.func105, Tryz.ntmps105
 go_wp2_with (first | (go_at_call 47; refine (a5v k n s _ hn hn' h).mono ?_; rintro e w1 ⟨rfl, rfl⟩))
 go_ret
 exact ⟨rfl, E1⟩
theorem b7c (k n : Int) (s : ByteArray) (w : World) (hn : -9223372036854775808 ≤ n) (hn' : n ≤ 9223372036854775807) (h : mayB k n s = true) (k0 : (k == 0) = false) (k1 : (k == 1) = true) (n1 : (n == 1) = true) :
  Calls Tryz.prog 105 #[val k n s] w fun e w' => e = .returned (.string c4k) ∧ Below w.heap.size w w' := by
 have E1 : Below w.heap.size w ((w.alloc (box k n s)).alloc (box k n s)) := a0c (a0c (Below.refl _ _) _) _
 go_enter Tryz.func105, Tryz.ntmps105
 go_wp2_with (first | (go_at_call 47; refine (a5v k n s _ hn hn' h).mono ?_; rintro e w1 ⟨rfl, rfl⟩))
 go_ret
 exact ⟨rfl, E1⟩
theorem b4e (k n : Int) (s : ByteArray) (w : World) (hn : -9223372036854775808 ≤ n) (hn' : n ≤ 9223372036854775807) (h : mayB k n s = true) (k0 : (k == 0) = false) (k1 : (k == 1) = true) (n1 : (n == 1) = false) :
  Calls Tryz.prog 105 #[val k n s] w fun e w' => e = .returned (.string b5l) ∧ Below w.heap.size w w' := by
 have E1 : Below w.heap.size w ((w.alloc (box k n s)).alloc (box k n s)) := a0c (a0c (Below.refl _ _) _) _
 go_enter Tryz.func105, Tryz.ntmps105
 go_wp2_with (first | (go_at_call 47; refine (a5v k n s _ hn hn' h).mono ?_; rintro e w1 ⟨rfl, rfl⟩))
 go_ret
 exact ⟨rfl, E1⟩
theorem c0c (k n : Int) (s : ByteArray) (w : World) (hn : -9223372036854775808 ≤ n) (hn' : n ≤ 9223372036854775807) (h : mayB k n s = true) (k0 : (k == 0) = false) (k1 : (k == 1) = false) (k2 : (k == 2) = true) :
  Calls Tryz.prog 105 #[val k n s] w fun e w' => e = .returned (.string ⟨(Lib.itoa n).toArray⟩) ∧ Below w.heap.size w w' := by
 have E1 : Below w.heap.size w ((w.alloc (box k n s)).alloc (box k n s)) := a0c (a0c (Below.refl _ _) _) _
 go_enter Tryz.func105, Tryz.ntmps105
 go_wp2_with (first | (go_at_call 47; refine (a5v k n s _ hn hn' h).mono ?_; rintro e w1 ⟨rfl, rfl⟩) | (go_at_call 123; refine (b6o _ _ hn hn').mono ?_; rintro e w2 ⟨rfl, hb2⟩))
 go_ret
 exact ⟨rfl, a0b E1 hb2⟩
theorem c0d (k n : Int) (s : ByteArray) (w : World) (hn : -9223372036854775808 ≤ n) (hn' : n ≤ 9223372036854775807) (h : mayB k n s = true) (k0 : (k == 0) = false) (k1 : (k == 1) = false) (k2 : (k == 2) = false) (k3 : (k == 3) = true) :
  Calls Tryz.prog 105 #[val k n s] w fun e w' => e = .returned (.string s) ∧ Below w.heap.size w w' := by
 have E1 : Below w.heap.size w ((w.alloc (box k n s)).alloc (box k n s)) := a0c (a0c (Below.refl _ _) _) _
 go_enter Tryz.func105, Tryz.ntmps105
 go_wp2_with (first | (go_at_call 47; refine (a5v k n s _ hn hn' h).mono ?_; rintro e w1 ⟨rfl, rfl⟩))
 go_ret
 exact ⟨rfl, E1⟩
theorem c0e (k n : Int) (s : ByteArray) (w : World) (hn : -9223372036854775808 ≤ n) (hn' : n ≤ 9223372036854775807) (h : mayB k n s = true) (k0 : (k == 0) = false) (k1 : (k == 1) = false) (k2 : (k == 2) = false) (k3 : (k == 3) = false) (k4 : (k == 4) = true) :
  Calls Tryz.prog 105 #[val k n s] w fun e w' => e = .returned (.string b9u) ∧ Below w.heap.size w w' := by
 have E1 : Below w.heap.size w ((w.alloc (box k n s)).alloc (box k n s)) := a0c (a0c (Below.refl _ _) _) _
 go_enter Tryz.func105, Tryz.ntmps105
 go_wp2_with (first | (go_at_call 47; refine (a5v k n s _ hn hn' h).mono ?_; rintro e w1 ⟨rfl, rfl⟩))
 go_ret
 exact ⟨rfl, E1⟩
theorem c0f (k n : Int) (s : ByteArray) (w : World) (hn : -9223372036854775808 ≤ n) (hn' : n ≤ 9223372036854775807) (h : mayB k n s = true) (k0 : (k == 0) = false) (k1 : (k == 1) = false) (k2 : (k == 2) = false) (k3 : (k == 3) = false) (k4 : (k == 4) = false) :
  Calls Tryz.prog 105 #[val k n s] w fun e w' => e = .returned (.string sFun) ∧ Below w.heap.size w w' := by
 have E1 : Below w.heap.size w ((w.alloc (box k n s)).alloc (box k n s)) := a0c (a0c (Below.refl _ _) _) _
 go_enter Tryz.func105, Tryz.ntmps105
 go_wp2_with (first | (go_at_call 47; refine (a5v k n s _ hn hn' h).mono ?_; rintro e w1 ⟨rfl, rfl⟩))
 go_ret
 exact ⟨rfl, E1⟩
theorem a7z (k n : Int) (s : ByteArray) (w : World) (hn : -9223372036854775808 ≤ n) (hn' : n ≤ 9223372036854775807) :
  Calls Tryz.prog 105 #[val k n s] w fun e w' => e = .returned (.string (a3n k n s)) ∧ Below w.heap.size w w' := by
 unfold a3n
 rcases Bool.eq_false_or_eq_true (mayB k n s) with h | h
 ·rw [if_neg (by rw [h]; decide)]
  by_cases k0 : k = 0
  ·rw [if_pos k0]; exact c0b k n s w hn hn' h (by simpa using k0)
  have k0' : (k == 0) = false := by simpa using k0
  by_cases k1 : k = 1
  ·rw [if_neg k0, if_pos k1]
   by_cases n1 : n = 1
   ·rw [if_pos n1]; exact b7c k n s w hn hn' h k0' (by simpa using k1) (by simpa using n1)
   ·rw [if_neg n1]; exact b4e k n s w hn hn' h k0' (by simpa using k1) (by simpa using n1)
  have k1' : (k == 1) = false := by simpa using k1
  by_cases k2 : k = 2
  ·rw [if_neg k0, if_neg k1, if_pos k2]; exact c0c k n s w hn hn' h k0' k1' (by simpa using k2)
  have k2' : (k == 2) = false := by simpa using k2
  by_cases k3 : k = 3
  ·rw [if_neg k0, if_neg k1, if_neg k2, if_pos k3]; exact c0d k n s w hn hn' h k0' k1' k2' (by simpa using k3)
  have k3' : (k == 3) = false := by simpa using k3
  by_cases k4 : k = 4
  ·rw [if_neg k0, if_neg k1, if_neg k2, if_neg k3, if_pos k4]; exact c0e k n s w hn hn' h k0' k1' k2' k3' (by simpa using k4)
  ·rw [if_neg k0, if_neg k1, if_neg k2, if_neg k3, if_neg k4]
   exact c0f k n s w hn hn' h k0' k1' k2' k3' (by simpa using k4)
 ·rw [if_pos h]; exact c9g k n s w hn hn' h
end Go.Proofs.YthpgbienakcbeaaGreatDoor
