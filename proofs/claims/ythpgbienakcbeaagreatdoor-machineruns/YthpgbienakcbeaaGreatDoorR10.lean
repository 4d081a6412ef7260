/- Walks of the value package: what counts as true. -/
import Derived.Test.YthpgbienakcbeaaGreatDoorR08
import Derived.Deep.RegionHeld3
namespace Go.Proofs.YthpgbienakcbeaaGreatDoor
open Go.RowKit Go
set_option maxRecDepth 100000
set_option maxHeartbeats 8000000
set_option linter.all false
def Box1 (b : Nat) (k n : Int) (s : ByteArray) (w : World) : Prop :=
 w.cell? ⟨b, 0, none⟩ = some (.int .i64 k) ∧ w.cell? ⟨b, 1, none⟩ = some (.int .i64 n) ∧ w.cell? ⟨b, 2, none⟩ = some (.string s)
theorem Box1.on {b : Nat} {k n : Int} {s : ByteArray} {w w1 : World} (h : Box1 b k n s w) (hb : Below w.heap.size w w1) : Box1 b k n s w1 := ⟨cell_later hb h.1, cell_later hb h.2.1, cell_later hb h.2.2⟩
theorem Box1.alloc {b : Nat} {k n : Int} {s : ByteArray} {w : World} (h : Box1 b k n s w) (o : Obj) : Box1 b k n s (w.alloc o) := h.on (ext_alloc (Below.refl _ _) o)
theorem box1_0 (w : World) (k n : Int) (s : ByteArray) : Box1 w.heap.size k n s (w.alloc (box k n s)) :=
 ⟨by rw [World.cell?_alloc_at _ _ _ _ rfl]; rfl, by rw [World.cell?_alloc_at _ _ _ _ rfl]; rfl, by rw [World.cell?_alloc_at _ _ _ _ rfl]; rfl⟩
theorem Box1.drew {b : Nat} {k n : Int} {s : ByteArray} {w : World} (h : Box1 b k n s w) : Box1 b k n s w.drew := h
theorem ext_drew {a w : World} (h : Below a.heap.size a w) : Below a.heap.size a w.drew := h.drew
theorem each_any (a : Addr) (m : Nat) (w : World) :
  Calls Tryz.prog 92 #[.slice (some a) m m] w fun e w' => e = .returned (.func (.func 107) #[] #[.pointer (some ⟨w.heap.size, 0, none⟩)]) ∧ w' = w.alloc (.cells #[.slice (some a) m m] 48) := by
 have hmf := hmf
 go_enter Tryz.func92, Tryz.ntmps92
 go_wp2
 go_ret
 exact ⟨rfl, rfl⟩
theorem truth_f (k n : Int) (s : ByteArray) (w : World) (h : mayB k n s = false) :
  Calls Tryz.prog 77 #[val k n s] w fun e w' => e = .returned (.bool false) ∧ Below w.heap.size w w' := by
 have hmf := hmf
 go_enter Tryz.func77, Tryz.ntmps77
 go_wp2
 go_region_with (go_at_call 60; refine (may_f _ _ _ _ h).mono ?_; rintro e w1 ⟨rfl, hb1⟩)
 all_goals
  go_wp2
  go_ret
  exact ⟨rfl, ext_trans (ext_drew (ext_alloc (Below.refl _ _) _)) hb1⟩
theorem each_letter (v : Nat) (k n : Int) (s : ByteArray) (w : World) (h : Box1 v k n s w) :
  Calls Tryz.prog 92 #[.slice (some ⟨v, 0, none⟩) 1 1] w fun e w' => e = .returned (.func (.func 107) #[] #[.pointer (some ⟨w.heap.size, 0, none⟩)]) ∧ Asks w.heap.size v k n s w' ∧ Below w.heap.size w w' := by
 refine (each_any _ _ _).mono ?_
 rintro e w' ⟨rfl, rfl⟩
 obtain ⟨h0, h1, h2⟩ := h.alloc (.cells #[.slice (some ⟨v, 0, none⟩) 1 1] 48)
 exact ⟨rfl, ⟨by rw [World.cell?_alloc_at _ _ _ _ rfl]; rfl, h0, h1, h2⟩, ext_alloc (Below.refl _ _) _⟩
theorem late (y k n : Int) (s : ByteArray) (c v : Nat) (w : World) (h : Asks c v k n s w) :
  Calls Tryz.prog 107 #[.slice (some ⟨w.heap.size, 0, none⟩) 1 1, .pointer (some ⟨c, 0, none⟩)] (w.alloc (.cells #[.int .i64 y] 3)) fun e w' =>
   e = .returned (.bool (k == y)) ∧ Below (w.alloc (.cells #[.int .i64 y] 3)).heap.size (w.alloc (.cells #[.int .i64 y] 3)) w' := by
 refine (ask1 y k n s _ c v w rfl h).mono ?_
 rintro e w' ⟨rfl, rfl⟩
 exact ⟨rfl, ext_alloc (Below.refl _ _) _⟩
theorem early (y k n : Int) (s : ByteArray) (b c v : Nat) (w : World) (h : Asks c v k n s w) (hc : w.cell? ⟨b, 0, none⟩ = some (.int .i64 y)) :
  Calls Tryz.prog 107 #[.slice (some ⟨b, 0, none⟩) 1 1, .pointer (some ⟨c, 0, none⟩)] w fun e w' => e = .returned (.bool (k == y)) ∧ Below w.heap.size w w' := by
 refine (each11 b c v y k n s w hc h.1 h.2.1 h.2.2.1 h.2.2.2 (World.block_lt_of_cell? _ _ hc)).mono ?_
 rintro e w' ⟨rfl, rfl⟩
 exact ⟨rfl, ext_alloc (Below.refl _ _) _⟩
theorem truth_nil (k n : Int) (s : ByteArray) (w : World) (h : mayB k n s = true) (hk : (k == 0) = true) :
  Calls Tryz.prog 77 #[val k n s] w fun e w' => e = .returned (.bool false) ∧ Below w.heap.size w w' := by
 have hmf := hmf
 go_enter Tryz.func77, Tryz.ntmps77
 go_wp2
 go_region_with (first | (go_at_call 60; refine (may_t _ _ _ _ h).mono ?_; rintro e w1 ⟨rfl, hb1⟩; have E1 : Below w.heap.size w w1 := ext_trans (ext_drew (ext_alloc (Below.refl _ _) _)) hb1; have X1 : Box1 w.heap.size k n s w1 := (box1_0 w k n s).drew.on hb1; obtain ⟨c0, c1, c2⟩ := id X1; have z1 := World.block_lt_of_cell? _ _ c0; dsimp only at z1) | (go_at_call 92; refine (each_letter _ k n s _ (by simp [Box1, go_sem])).mono ?_; rintro e w2 ⟨rfl, hA, hb2⟩; simp only [World.size_alloc] at hA; have E2 : Below w.heap.size w w2 := ext_trans (by repeat (first | exact E1 | refine ext_alloc ?_ _)) hb2; have X2 : Box1 w.heap.size k n s w2 := Box1.on (by repeat (first | exact X1 | refine Box1.alloc ?_ _)) hb2) | (go_at_call_of 107 w2; refine (late 0 k n s _ _ _ hA).mono ?_; rw [hk]; rintro e w3 ⟨rfl, hb3⟩; have E3 : Below w.heap.size w w3 := ext_trans (ext_alloc E2 _) hb3; obtain ⟨d0, d1, d2⟩ := (X2.alloc _).on hb3; have z3 := World.block_lt_of_cell? _ _ d0; dsimp only at z3) | (go_at_call 107; refine (early 0 k n s _ _ _ _ hA (cell_later hb2 (by simp [go_sem]))).mono ?_; rw [hk]; rintro e w3 ⟨rfl, hb3⟩; have E3 : Below w.heap.size w w3 := ext_trans E2 hb3; obtain ⟨d0, d1, d2⟩ := X2.on hb3; have z3 := World.block_lt_of_cell? _ _ d0; dsimp only at z3) | (go_at_call 96; refine (boolean_any false _).mono ?_; rintro e w4 ⟨rfl, rfl⟩))
 all_goals
  go_wp2
  go_ret
  refine ⟨rfl, ?_⟩
  first | exact E3 | exact ext_alloc E3 _
theorem truth_k (k n : Int) (s : ByteArray) (w : World) (h : mayB k n s = true) (hk : (k == 0) = false) (h1 : ¬ k = 1) :
  Calls Tryz.prog 77 #[val k n s] w fun e w' => e = .returned (.bool true) ∧ Below w.heap.size w w' := by
 have hmf := hmf
 go_enter Tryz.func77, Tryz.ntmps77
 go_wp2
 go_region_with (first | (go_at_call 60; refine (may_t _ _ _ _ h).mono ?_; rintro e w1 ⟨rfl, hb1⟩; have E1 : Below w.heap.size w w1 := ext_trans (ext_drew (ext_alloc (Below.refl _ _) _)) hb1; have X1 : Box1 w.heap.size k n s w1 := (box1_0 w k n s).drew.on hb1; obtain ⟨c0, c1, c2⟩ := id X1; have z1 := World.block_lt_of_cell? _ _ c0; dsimp only at z1) | (go_at_call 92; refine (each_letter _ k n s _ (by simp [Box1, go_sem])).mono ?_; rintro e w2 ⟨rfl, hA, hb2⟩; simp only [World.size_alloc] at hA; have E2 : Below w.heap.size w w2 := ext_trans (by repeat (first | exact E1 | refine ext_alloc ?_ _)) hb2; have X2 : Box1 w.heap.size k n s w2 := Box1.on (by repeat (first | exact X1 | refine Box1.alloc ?_ _)) hb2) | (go_at_call_of 107 w2; refine (late 0 k n s _ _ _ hA).mono ?_; rw [hk]; rintro e w3 ⟨rfl, hb3⟩; have E3 : Below w.heap.size w w3 := ext_trans (ext_alloc E2 _) hb3; obtain ⟨d0, d1, d2⟩ := (X2.alloc _).on hb3; have z3 := World.block_lt_of_cell? _ _ d0; dsimp only at z3) | (go_at_call 107; refine (early 0 k n s _ _ _ _ hA (cell_later hb2 (by simp [go_sem]))).mono ?_; rw [hk]; rintro e w3 ⟨rfl, hb3⟩; have E3 : Below w.heap.size w w3 := ext_trans E2 hb3; obtain ⟨d0, d1, d2⟩ := X2.on hb3; have z3 := World.block_lt_of_cell? _ _ d0; dsimp only at z3) | (go_at_call 96; refine (boolean_any false _).mono ?_; rintro e w4 ⟨rfl, rfl⟩))
 all_goals
  go_wp2
  go_ret
  refine ⟨rfl, ?_⟩
  first | exact E3 | exact ext_alloc E3 _
theorem truth_n (n : Int) (s : ByteArray) (w : World) (h : mayB 1 n s = true) (hk : ((1 : Int) == 0) = false) (h1 : ¬ n = 0) :
  Calls Tryz.prog 77 #[val 1 n s] w fun e w' => e = .returned (.bool true) ∧ Below w.heap.size w w' := by
 have hmf := hmf
 go_enter Tryz.func77, Tryz.ntmps77
 go_wp2
 go_region_with (first | (go_at_call 60; refine (may_t _ _ _ _ h).mono ?_; rintro e w1 ⟨rfl, hb1⟩; have E1 : Below w.heap.size w w1 := ext_trans (ext_drew (ext_alloc (Below.refl _ _) _)) hb1; have X1 : Box1 w.heap.size 1 n s w1 := (box1_0 w 1 n s).drew.on hb1; obtain ⟨c0, c1, c2⟩ := id X1; have z1 := World.block_lt_of_cell? _ _ c0; dsimp only at z1) | (go_at_call 92; refine (each_letter _ 1 n s _ (by simp [Box1, go_sem])).mono ?_; rintro e w2 ⟨rfl, hA, hb2⟩; simp only [World.size_alloc] at hA; have E2 : Below w.heap.size w w2 := ext_trans (by repeat (first | exact E1 | refine ext_alloc ?_ _)) hb2; have X2 : Box1 w.heap.size 1 n s w2 := Box1.on (by repeat (first | exact X1 | refine Box1.alloc ?_ _)) hb2) | (go_at_call_of 107 w2; refine (late 0 1 n s _ _ _ hA).mono ?_; rw [hk]; rintro e w3 ⟨rfl, hb3⟩; have E3 : Below w.heap.size w w3 := ext_trans (ext_alloc E2 _) hb3; obtain ⟨d0, d1, d2⟩ := (X2.alloc _).on hb3; have z3 := World.block_lt_of_cell? _ _ d0; dsimp only at z3) | (go_at_call 107; refine (early 0 1 n s _ _ _ _ hA (cell_later hb2 (by simp [go_sem]))).mono ?_; rw [hk]; rintro e w3 ⟨rfl, hb3⟩; have E3 : Below w.heap.size w w3 := ext_trans E2 hb3; obtain ⟨d0, d1, d2⟩ := X2.on hb3; have z3 := World.block_lt_of_cell? _ _ d0; dsimp only at z3) | (go_at_call 96; refine (boolean_any false _).mono ?_; rintro e w4 ⟨rfl, rfl⟩))
 all_goals
  go_wp2
  go_ret
  refine ⟨rfl, ?_⟩
  first | exact E3 | exact ext_alloc E3 _
theorem truth_e (s : ByteArray) (w : World) (h : mayB 1 0 s = true) (hk : ((1 : Int) == 0) = false) (h1 : s.toList = []) :
  Calls Tryz.prog 77 #[val 1 0 s] w fun e w' => e = .returned (.bool false) ∧ Below w.heap.size w w' := by
 have hmf := hmf
 go_enter Tryz.func77, Tryz.ntmps77
 go_wp2
 go_region_with (first | (go_at_call 60; refine (may_t _ _ _ _ h).mono ?_; rintro e w1 ⟨rfl, hb1⟩; have E1 : Below w.heap.size w w1 := ext_trans (ext_drew (ext_alloc (Below.refl _ _) _)) hb1; have X1 : Box1 w.heap.size 1 0 s w1 := (box1_0 w 1 0 s).drew.on hb1; obtain ⟨c0, c1, c2⟩ := id X1; have z1 := World.block_lt_of_cell? _ _ c0; dsimp only at z1) | (go_at_call 92; refine (each_letter _ 1 0 s _ (by simp [Box1, go_sem])).mono ?_; rintro e w2 ⟨rfl, hA, hb2⟩; simp only [World.size_alloc] at hA; have E2 : Below w.heap.size w w2 := ext_trans (by repeat (first | exact E1 | refine ext_alloc ?_ _)) hb2; have X2 : Box1 w.heap.size 1 0 s w2 := Box1.on (by repeat (first | exact X1 | refine Box1.alloc ?_ _)) hb2) | (go_at_call_of 107 w2; refine (late 0 1 0 s _ _ _ hA).mono ?_; rw [hk]; rintro e w3 ⟨rfl, hb3⟩; have E3 : Below w.heap.size w w3 := ext_trans (ext_alloc E2 _) hb3; obtain ⟨d0, d1, d2⟩ := (X2.alloc _).on hb3; have z3 := World.block_lt_of_cell? _ _ d0; dsimp only at z3) | (go_at_call 107; refine (early 0 1 0 s _ _ _ _ hA (cell_later hb2 (by simp [go_sem]))).mono ?_; rw [hk]; rintro e w3 ⟨rfl, hb3⟩; have E3 : Below w.heap.size w w3 := ext_trans E2 hb3; obtain ⟨d0, d1, d2⟩ := X2.on hb3; have z3 := World.block_lt_of_cell? _ _ d0; dsimp only at z3) | (go_at_call 96; refine (boolean_any false _).mono ?_; rintro e w4 ⟨rfl, rfl⟩))
 all_goals
  go_wp2
  go_ret
  refine ⟨rfl, ?_⟩
  first | exact E3 | exact ext_alloc E3 _
def truthB (k n : Int) (s : ByteArray) : Bool := mayB k n s && !(k == 0) && !(k == 1 && n == 0)
theorem truth_any (k n : Int) (s : ByteArray) (w : World) : Calls Tryz.prog 77 #[val k n s] w fun e w' => e = .returned (.bool (truthB k n s)) ∧ Below w.heap.size w w' := by
 unfold truthB
 rcases Bool.eq_false_or_eq_true (mayB k n s) with h | h
 ·rcases Bool.eq_false_or_eq_true (k == 0) with k0 | k0
  ·rw [h, k0]; exact truth_nil k n s w h k0
  ·by_cases k1 : k = 1
   ·subst k1
    by_cases n0 : n = 0
    ·subst n0
     have he : s.toList = [] := by
      unfold mayB at h
      rw [if_neg (by decide)] at h
      rcases Bool.eq_false_or_eq_true s.toList.isEmpty with e | e
      ·simpa using e
      ·rw [if_pos e] at h; cases h
     rw [h]; exact truth_e s w h rfl he
    ·have e : (n == 0) = false := by simpa using n0
     rw [h, e]; exact truth_n n s w h rfl n0
   ·have e : (k == 1) = false := by simpa using k1
    rw [h, k0, e]; exact truth_k k n s w h k0 k1
 ·rw [h]; exact truth_f k n s w h
theorem rtruth_f (k n : Int) (s : ByteArray) (w : World) (hn : -9223372036854775808 ≤ n) (hn' : n ≤ 9223372036854775807) (h : mayB k n s = false) :
  Calls Tryz.prog 82 #[val k n s] w fun e w' => e = .returned (.bool false) ∧ Below w.heap.size w w' := by
 go_enter Tryz.func82, Tryz.ntmps82
 go_wp2_with (go_at_call 47; refine (rmay_f k n s _ hn hn' h).mono ?_; rintro e w1 ⟨rfl, rfl⟩)
 go_ret
 exact ⟨rfl, ext_alloc (ext_alloc (Below.refl _ _) _) _⟩
theorem rtruth_nil (k n : Int) (s : ByteArray) (w : World) (hn : -9223372036854775808 ≤ n) (hn' : n ≤ 9223372036854775807) (h : mayB k n s = true) (k0 : (k == 0) = true) :
  Calls Tryz.prog 82 #[val k n s] w fun e w' => e = .returned (.bool false) ∧ Below w.heap.size w w' := by
 go_enter Tryz.func82, Tryz.ntmps82
 go_wp2_with (go_at_call 47; refine (rmay_t k n s _ hn hn' h).mono ?_; rintro e w1 ⟨rfl, rfl⟩)
 go_ret
 exact ⟨rfl, ext_alloc (ext_alloc (Below.refl _ _) _) _⟩
theorem rtruth_k (k n : Int) (s : ByteArray) (w : World) (hn : -9223372036854775808 ≤ n) (hn' : n ≤ 9223372036854775807) (h : mayB k n s = true) (k0 : (k == 0) = false) (k1 : ¬ k = 1) :
  Calls Tryz.prog 82 #[val k n s] w fun e w' => e = .returned (.bool true) ∧ Below w.heap.size w w' := by
 go_enter Tryz.func82, Tryz.ntmps82
 go_wp2_with (go_at_call 47; refine (rmay_t k n s _ hn hn' h).mono ?_; rintro e w1 ⟨rfl, rfl⟩)
 go_ret
 exact ⟨rfl, ext_alloc (ext_alloc (Below.refl _ _) _) _⟩
theorem rtruth_b (n : Int) (s : ByteArray) (w : World) (hn : -9223372036854775808 ≤ n) (hn' : n ≤ 9223372036854775807) (h : mayB 1 n s = true) :
  Calls Tryz.prog 82 #[val 1 n s] w fun e w' => e = .returned (.bool (n == 1)) ∧ Below w.heap.size w w' := by
 go_enter Tryz.func82, Tryz.ntmps82
 go_wp2_with (go_at_call 47; refine (rmay_t 1 n s _ hn hn' h).mono ?_; rintro e w1 ⟨rfl, rfl⟩)
 go_ret
 exact ⟨rfl, ext_alloc (ext_alloc (Below.refl _ _) _) _⟩
theorem rtruth_any (k n : Int) (s : ByteArray) (w : World) (hn : -9223372036854775808 ≤ n) (hn' : n ≤ 9223372036854775807) : Calls Tryz.prog 82 #[val k n s] w fun e w' => e = .returned (.bool (truthB k n s)) ∧ Below w.heap.size w w' := by
 unfold truthB
 rcases Bool.eq_false_or_eq_true (mayB k n s) with h | h
 ·rcases Bool.eq_false_or_eq_true (k == 0) with k0 | k0
  ·rw [h, k0]; exact rtruth_nil k n s w hn hn' h k0
  ·rcases Bool.eq_false_or_eq_true (k == 1) with k1 | k1
   ·have e : (true && !false && !(true && n == 0)) = (n == 1) := by
     obtain rfl : k = 1 := by simpa using k1
     unfold mayB at h
     rw [if_neg (by decide)] at h
     rcases Bool.eq_false_or_eq_true s.toList.isEmpty with e | e
     ·simp [e] at h
      rcases h with rfl | rfl <;> rfl
     ·rw [if_pos e] at h; cases h
    obtain rfl : k = 1 := by simpa using k1
    rw [h, k0, k1, e]; exact rtruth_b n s w hn hn' h
   ·rw [h, k0, k1]; exact rtruth_k k n s w hn hn' h k0 (by simpa using k1)
 ·rw [h]; exact rtruth_f k n s w hn hn' h
end Go.Proofs.YthpgbienakcbeaaGreatDoor
