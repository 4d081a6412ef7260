/- Walks of the value package: what is told of a value; and the document's own. -/
import Derived.Test.YthpgbienakcbeaaGreatDoorR19
import Derived.Test.YthpgbienakcbeaaGreatDoorR09
namespace Go.Proofs.YthpgbienakcbeaaGreatDoor
open Go.RowKit Go
set_option maxRecDepth 100000
set_option maxHeartbeats 8000000
set_option linter.all false
theorem rtext_f (k n : Int) (s : ByteArray) (w : World) (hn : -9223372036854775808 ≤ n) (hn' : n ≤ 9223372036854775807) (h : mayB k n s = false) :
  Calls Tryz.prog 105 #[val k n s] w fun e w' => e = .returned (.string ⟨#[]⟩) ∧ Below w.heap.size w w' := by
 have E1 : Below w.heap.size w ((w.alloc (box k n s)).alloc (box k n s)) := ext_alloc (ext_alloc (Below.refl _ _) _) _
 go_enter Tryz.func105, Tryz.ntmps105
 go_wp2_with (first | (go_at_call 47; refine (rmay_f k n s _ hn hn' h).mono ?_; rintro e w1 ⟨rfl, rfl⟩))
 go_ret
 exact ⟨rfl, E1⟩
theorem rtext_nil (k n : Int) (s : ByteArray) (w : World) (hn : -9223372036854775808 ≤ n) (hn' : n ≤ 9223372036854775807) (h : mayB k n s = true) (k0 : (k == 0) = true) :
  Calls Tryz.prog 105 #[val k n s] w fun e w' => e = .returned (.string sNil) ∧ Below w.heap.size w w' := by
 have E1 : Below w.heap.size w ((w.alloc (box k n s)).alloc (box k n s)) := ext_alloc (ext_alloc (Below.refl _ _) _) _
 go_enter Tryz.func105, Tryz.ntmps105
 go_wp2_with (first | (go_at_call 47; refine (rmay_t k n s _ hn hn' h).mono ?_; rintro e w1 ⟨rfl, rfl⟩))
 go_ret
 exact ⟨rfl, E1⟩
theorem rtext_true (k n : Int) (s : ByteArray) (w : World) (hn : -9223372036854775808 ≤ n) (hn' : n ≤ 9223372036854775807) (h : mayB k n s = true) (k0 : (k == 0) = false) (k1 : (k == 1) = true) (n1 : (n == 1) = true) :
  Calls Tryz.prog 105 #[val k n s] w fun e w' => e = .returned (.string sTrue) ∧ Below w.heap.size w w' := by
 have E1 : Below w.heap.size w ((w.alloc (box k n s)).alloc (box k n s)) := ext_alloc (ext_alloc (Below.refl _ _) _) _
 go_enter Tryz.func105, Tryz.ntmps105
 go_wp2_with (first | (go_at_call 47; refine (rmay_t k n s _ hn hn' h).mono ?_; rintro e w1 ⟨rfl, rfl⟩))
 go_ret
 exact ⟨rfl, E1⟩
theorem rtext_false (k n : Int) (s : ByteArray) (w : World) (hn : -9223372036854775808 ≤ n) (hn' : n ≤ 9223372036854775807) (h : mayB k n s = true) (k0 : (k == 0) = false) (k1 : (k == 1) = true) (n1 : (n == 1) = false) :
  Calls Tryz.prog 105 #[val k n s] w fun e w' => e = .returned (.string sFalse) ∧ Below w.heap.size w w' := by
 have E1 : Below w.heap.size w ((w.alloc (box k n s)).alloc (box k n s)) := ext_alloc (ext_alloc (Below.refl _ _) _) _
 go_enter Tryz.func105, Tryz.ntmps105
 go_wp2_with (first | (go_at_call 47; refine (rmay_t k n s _ hn hn' h).mono ?_; rintro e w1 ⟨rfl, rfl⟩))
 go_ret
 exact ⟨rfl, E1⟩
theorem rtext_int (k n : Int) (s : ByteArray) (w : World) (hn : -9223372036854775808 ≤ n) (hn' : n ≤ 9223372036854775807) (h : mayB k n s = true) (k0 : (k == 0) = false) (k1 : (k == 1) = false) (k2 : (k == 2) = true) :
  Calls Tryz.prog 105 #[val k n s] w fun e w' => e = .returned (.string ⟨(Lib.itoa n).toArray⟩) ∧ Below w.heap.size w w' := by
 have E1 : Below w.heap.size w ((w.alloc (box k n s)).alloc (box k n s)) := ext_alloc (ext_alloc (Below.refl _ _) _) _
 go_enter Tryz.func105, Tryz.ntmps105
 go_wp2_with (first | (go_at_call 47; refine (rmay_t k n s _ hn hn' h).mono ?_; rintro e w1 ⟨rfl, rfl⟩) | (go_at_call 123; refine (digits_any _ _ hn hn').mono ?_; rintro e w2 ⟨rfl, hb2⟩))
 go_ret
 exact ⟨rfl, ext_trans E1 hb2⟩
theorem rtext_txt (k n : Int) (s : ByteArray) (w : World) (hn : -9223372036854775808 ≤ n) (hn' : n ≤ 9223372036854775807) (h : mayB k n s = true) (k0 : (k == 0) = false) (k1 : (k == 1) = false) (k2 : (k == 2) = false) (k3 : (k == 3) = true) :
  Calls Tryz.prog 105 #[val k n s] w fun e w' => e = .returned (.string s) ∧ Below w.heap.size w w' := by
 have E1 : Below w.heap.size w ((w.alloc (box k n s)).alloc (box k n s)) := ext_alloc (ext_alloc (Below.refl _ _) _) _
 go_enter Tryz.func105, Tryz.ntmps105
 go_wp2_with (first | (go_at_call 47; refine (rmay_t k n s _ hn hn' h).mono ?_; rintro e w1 ⟨rfl, rfl⟩))
 go_ret
 exact ⟨rfl, E1⟩
theorem rtext_tab (k n : Int) (s : ByteArray) (w : World) (hn : -9223372036854775808 ≤ n) (hn' : n ≤ 9223372036854775807) (h : mayB k n s = true) (k0 : (k == 0) = false) (k1 : (k == 1) = false) (k2 : (k == 2) = false) (k3 : (k == 3) = false) (k4 : (k == 4) = true) :
  Calls Tryz.prog 105 #[val k n s] w fun e w' => e = .returned (.string sTable) ∧ Below w.heap.size w w' := by
 have E1 : Below w.heap.size w ((w.alloc (box k n s)).alloc (box k n s)) := ext_alloc (ext_alloc (Below.refl _ _) _) _
 go_enter Tryz.func105, Tryz.ntmps105
 go_wp2_with (first | (go_at_call 47; refine (rmay_t k n s _ hn hn' h).mono ?_; rintro e w1 ⟨rfl, rfl⟩))
 go_ret
 exact ⟨rfl, E1⟩
theorem rtext_fun (k n : Int) (s : ByteArray) (w : World) (hn : -9223372036854775808 ≤ n) (hn' : n ≤ 9223372036854775807) (h : mayB k n s = true) (k0 : (k == 0) = false) (k1 : (k == 1) = false) (k2 : (k == 2) = false) (k3 : (k == 3) = false) (k4 : (k == 4) = false) :
  Calls Tryz.prog 105 #[val k n s] w fun e w' => e = .returned (.string sFun) ∧ Below w.heap.size w w' := by
 have E1 : Below w.heap.size w ((w.alloc (box k n s)).alloc (box k n s)) := ext_alloc (ext_alloc (Below.refl _ _) _) _
 go_enter Tryz.func105, Tryz.ntmps105
 go_wp2_with (first | (go_at_call 47; refine (rmay_t k n s _ hn hn' h).mono ?_; rintro e w1 ⟨rfl, rfl⟩))
 go_ret
 exact ⟨rfl, E1⟩
theorem rtext_any (k n : Int) (s : ByteArray) (w : World) (hn : -9223372036854775808 ≤ n) (hn' : n ≤ 9223372036854775807) :
  Calls Tryz.prog 105 #[val k n s] w fun e w' => e = .returned (.string (textB k n s)) ∧ Below w.heap.size w w' := by
 unfold textB
 rcases Bool.eq_false_or_eq_true (mayB k n s) with h | h
 ·rw [if_neg (by rw [h]; decide)]
  by_cases k0 : k = 0
  ·rw [if_pos k0]; exact rtext_nil k n s w hn hn' h (by simpa using k0)
  have k0' : (k == 0) = false := by simpa using k0
  by_cases k1 : k = 1
  ·rw [if_neg k0, if_pos k1]
   by_cases n1 : n = 1
   ·rw [if_pos n1]; exact rtext_true k n s w hn hn' h k0' (by simpa using k1) (by simpa using n1)
   ·rw [if_neg n1]; exact rtext_false k n s w hn hn' h k0' (by simpa using k1) (by simpa using n1)
  have k1' : (k == 1) = false := by simpa using k1
  by_cases k2 : k = 2
  ·rw [if_neg k0, if_neg k1, if_pos k2]; exact rtext_int k n s w hn hn' h k0' k1' (by simpa using k2)
  have k2' : (k == 2) = false := by simpa using k2
  by_cases k3 : k = 3
  ·rw [if_neg k0, if_neg k1, if_neg k2, if_pos k3]; exact rtext_txt k n s w hn hn' h k0' k1' k2' (by simpa using k3)
  have k3' : (k == 3) = false := by simpa using k3
  by_cases k4 : k = 4
  ·rw [if_neg k0, if_neg k1, if_neg k2, if_neg k3, if_pos k4]; exact rtext_tab k n s w hn hn' h k0' k1' k2' k3' (by simpa using k4)
  ·rw [if_neg k0, if_neg k1, if_neg k2, if_neg k3, if_neg k4]
   exact rtext_fun k n s w hn hn' h k0' k1' k2' k3' (by simpa using k4)
 ·rw [if_pos h]; exact rtext_f k n s w hn hn' h
end Go.Proofs.YthpgbienakcbeaaGreatDoor
