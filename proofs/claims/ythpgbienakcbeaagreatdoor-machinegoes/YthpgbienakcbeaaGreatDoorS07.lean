/- Walks of the value package, on the way to the statements of chapter 1. -/
import Derived.Test.YthpgbienakcbeaaGreatDoorS01
import Derived.Lib.Hide
namespace Go.Proofs.YthpgbienakcbeaaGreatDoor
open Go.RowKit Go
set_option maxRecDepth 100000
set_option maxHeartbeats 8000000
set_option linter.all false
variable {a w : World}
def mayB (k n : Int) (s : ByteArray) : Bool :=
 if k = 3 then n == 0 && decide ((s.size : Int) ≤ 300)
 else if s.toList.isEmpty = false then false
 else if k = 0 then n == 0
 else if k = 1 then n == 0 || n == 1
 else if k = 4 ∨ k = 5 then decide (0 ≤ n) && decide (n ≤ 2147483647)
 else k == 2
abbrev val (k n : Int) (s : ByteArray) : Value := .agg #[.int .i64 k, .int .i64 n, .string s]
theorem hmf : ∀ (fn : Fn) (first cap : Array Value) (w : World), (Instr.makeFunc fn first cap).run Tryz.prog w = .ok (.func fn first cap) w := fun _ _ _ _ => rfl
theorem a0c (h : Below a.heap.size a w) (o : Obj) : Below a.heap.size a (w.alloc o) := h.alloc h.size o
theorem a0b {b c : World} (h : Below a.heap.size a b) (k : Below b.heap.size b c) : Below a.heap.size a c := h.trans (k.mono h.size)
theorem a5a (w : World) (o1 : Obj) (k n : Int) (s : ByteArray) : Asks (w.heap.size + 1 + 1) (w.heap.size + 1) k n s
  (((w.alloc o1).alloc (.cells #[.int .i64 k, .int .i64 n, .string s] 30)).alloc (.cells #[.slice (some ⟨w.heap.size + 1, 0, none⟩) 1 1] 48)) := by
 refine ⟨?_, ?_, ?_, ?_⟩
 ·rw [World.cell?_alloc_at _ _ _ _ (by simp)]; rfl
 all_goals rw [World.cell?_alloc_past _ _ _ (by simp), World.cell?_alloc_at _ _ _ _ (by simp)]; rfl
theorem Asks.alloc {c v : Nat} {k n : Int} {s : ByteArray} (h : Asks c v k n s w) (o : Obj) : Asks c v k n s (w.alloc o) := by
 obtain ⟨hp, h0, h1, h2⟩ := h
 have hc := World.block_lt_of_cell? _ _ hp
 have hv := World.block_lt_of_cell? _ _ h0
 exact ⟨(World.cell?_alloc_past _ _ _ hc).trans hp, (World.cell?_alloc_past _ _ _ hv).trans h0, (World.cell?_alloc_past _ _ _ hv).trans h1, (World.cell?_alloc_past _ _ _ hv).trans h2⟩
theorem c2h (k n : Int) (s : ByteArray) (w : World) (hk : (k == 3) = true) :
  Calls Tryz.prog 60 #[val k n s] w fun e w' => e = .returned (.bool (n == 0 && decide ((s.size : Int) ≤ 300))) ∧ Below w.heap.size w w' := by
 have hmf := hmf
 rcases (Bool.eq_false_or_eq_true (n == 0)) with hn | hn
 all_goals
  go_enter Tryz.func60, Tryz.ntmps60
  go_wp2_with (first | (go_at_call 92; go_in) | (go_at_call 107; refine (ask1 _ k n s _ _ (w.heap.size + 1) _ (by simp) (a5a _ _ _ _ _)).mono ?_; rw [hk]; rintro e w' ⟨rfl, rfl⟩))
  go_ret
  refine ⟨a1b (by simp [hn]), ?_⟩
  repeat (first | exact Below.refl _ _ | refine a0c ?_ _)
theorem c2i (k n : Int) (s : ByteArray) (w : World) (hk : (k == 3) = false) (he : s.toList.isEmpty = false) :
  Calls Tryz.prog 60 #[val k n s] w fun e w' => e = .returned (.bool (false)) ∧ Below w.heap.size w w' := by
 have hmf := hmf
 go_enter Tryz.func60, Tryz.ntmps60
 go_wp2_with (first | (go_at_call 92; go_in) | (go_at_call 107; refine (ask1 _ k n s _ _ (w.heap.size + 1) _ (by simp) (a5a _ _ _ _ _)).mono ?_; rw [hk]; rintro e w' ⟨rfl, rfl⟩))
 go_ret
 refine ⟨a1b (by rfl), ?_⟩
 repeat (first | exact Below.refl _ _ | refine a0c ?_ _)
theorem c7n (k n : Int) (s : ByteArray) (w : World) (hk : (k == 3) = false) (he : s.toList.isEmpty = true) (h0 : (k == 0) = true) :
  Calls Tryz.prog 60 #[val k n s] w fun e w' => e = .returned (.bool (n == 0)) ∧ Below w.heap.size w w' := by
 have hmf := hmf
 go_enter Tryz.func60, Tryz.ntmps60
 go_wp2_with (first | (go_at_call 92; go_in) | (go_at_call 107; refine (ask1 _ k n s _ _ (w.heap.size + 1) _ (by simp) (a5a _ _ _ _ _)).mono ?_; rw [hk]; rintro e w' ⟨rfl, rfl⟩; refine Hid.out ?_))
 refine Lib.hid ?_
 go_wp2_with (first | (go_at_call 107; refine (ask1 _ k n s _ _ (w.heap.size + 1) _ (by simp) (((a5a _ _ _ _ _).alloc _).alloc _)).mono ?_; rw [h0]; rintro e w' ⟨rfl, rfl⟩))
 go_ret
 refine ⟨a1b (by rfl), ?_⟩
 repeat (first | exact Below.refl _ _ | refine a0c ?_ _)
theorem c2j (k n : Int) (s : ByteArray) (w : World) (hk : (k == 3) = false) (he : s.toList.isEmpty = true) (h0 : (k == 0) = false) (h1 : (k == 1) = true) :
  Calls Tryz.prog 60 #[val k n s] w fun e w' => e = .returned (.bool (n == 0 || n == 1)) ∧ Below w.heap.size w w' := by
 have hmf := hmf
 rcases (Bool.eq_false_or_eq_true (n == 0)) with hn | hn
 all_goals
  go_enter Tryz.func60, Tryz.ntmps60
  go_wp2_with (first | (go_at_call 92; go_in) | (go_at_call 107; refine (ask1 _ k n s _ _ (w.heap.size + 1) _ (by simp) (a5a _ _ _ _ _)).mono ?_; rw [hk]; rintro e w' ⟨rfl, rfl⟩; refine Hid.out ?_))
  refine Lib.hid ?_
  go_wp2_with (first | (go_at_call 107; refine (ask1 _ k n s _ _ (w.heap.size + 1) _ (by simp) (((a5a _ _ _ _ _).alloc _).alloc _)).mono ?_; rw [h0]; rintro e w' ⟨rfl, rfl⟩; refine Hid.out ?_))
  refine Lib.hid ?_
  go_wp2_with (first | (go_at_call 107; refine (ask1 _ k n s _ _ (w.heap.size + 1) _ (by simp) (((((a5a _ _ _ _ _).alloc _).alloc _).alloc _).alloc _)).mono ?_; rw [h1]; rintro e w' ⟨rfl, rfl⟩))
  go_ret
  refine ⟨a1b (by simp [hn]), ?_⟩
  repeat (first | exact Below.refl _ _ | refine a0c ?_ _)
theorem c7o (k n : Int) (s : ByteArray) (w : World) (hk : (k == 3) = false) (he : s.toList.isEmpty = true) (h0 : (k == 0) = false) (h1 : (k == 1) = false) (h4 : (k == 4 || k == 5) = true) :
  Calls Tryz.prog 60 #[val k n s] w fun e w' => e = .returned (.bool (decide (0 ≤ n) && decide (n ≤ 2147483647))) ∧ Below w.heap.size w w' := by
 have hmf := hmf
 rcases (Bool.eq_false_or_eq_true (decide (0 ≤ n))) with hn | hn
 all_goals
  go_enter Tryz.func60, Tryz.ntmps60
  go_wp2_with (first | (go_at_call 92; go_in) | (go_at_call 107; refine (ask1 _ k n s _ _ (w.heap.size + 1) _ (by simp) (a5a _ _ _ _ _)).mono ?_; rw [hk]; rintro e w' ⟨rfl, rfl⟩; refine Hid.out ?_))
  refine Lib.hid ?_
  go_wp2_with (first | (go_at_call 107; refine (ask1 _ k n s _ _ (w.heap.size + 1) _ (by simp) (((a5a _ _ _ _ _).alloc _).alloc _)).mono ?_; rw [h0]; rintro e w' ⟨rfl, rfl⟩; refine Hid.out ?_))
  refine Lib.hid ?_
  go_wp2_with (first | (go_at_call 107; refine (ask1 _ k n s _ _ (w.heap.size + 1) _ (by simp) (((((a5a _ _ _ _ _).alloc _).alloc _).alloc _).alloc _)).mono ?_; rw [h1]; rintro e w' ⟨rfl, rfl⟩; refine Hid.out ?_))
  refine Lib.hid ?_
  go_wp2_with (first | (go_at_call 107; refine (ask2 _ _ k n s _ _ (w.heap.size + 1) _ (by simp) (((((((a5a _ _ _ _ _).alloc _).alloc _).alloc _).alloc _).alloc _).alloc _)).mono ?_; rw [h4]; rintro e w' ⟨rfl, rfl⟩))
  go_ret
  refine ⟨a1b (by simp [hn]), ?_⟩
  repeat (first | exact Below.refl _ _ | refine a0c ?_ _)
theorem c7p (k n : Int) (s : ByteArray) (w : World) (hk : (k == 3) = false) (he : s.toList.isEmpty = true) (h0 : (k == 0) = false) (h1 : (k == 1) = false) (h4 : (k == 4 || k == 5) = false) (h2 : (k == 2) = true) :
  Calls Tryz.prog 60 #[val k n s] w fun e w' => e = .returned (.bool (true)) ∧ Below w.heap.size w w' := by
 have hmf := hmf
 go_enter Tryz.func60, Tryz.ntmps60
 go_wp2_with (first | (go_at_call 92; go_in) | (go_at_call 107; refine (ask1 _ k n s _ _ (w.heap.size + 1) _ (by simp) (a5a _ _ _ _ _)).mono ?_; rw [hk]; rintro e w' ⟨rfl, rfl⟩; refine Hid.out ?_))
 refine Lib.hid ?_
 go_wp2_with (first | (go_at_call 107; refine (ask1 _ k n s _ _ (w.heap.size + 1) _ (by simp) (((a5a _ _ _ _ _).alloc _).alloc _)).mono ?_; rw [h0]; rintro e w' ⟨rfl, rfl⟩; refine Hid.out ?_))
 refine Lib.hid ?_
 go_wp2_with (first | (go_at_call 107; refine (ask1 _ k n s _ _ (w.heap.size + 1) _ (by simp) (((((a5a _ _ _ _ _).alloc _).alloc _).alloc _).alloc _)).mono ?_; rw [h1]; rintro e w' ⟨rfl, rfl⟩; refine Hid.out ?_))
 refine Lib.hid ?_
 go_wp2_with (first | (go_at_call 107; refine (ask2 _ _ k n s _ _ (w.heap.size + 1) _ (by simp) (((((((a5a _ _ _ _ _).alloc _).alloc _).alloc _).alloc _).alloc _).alloc _)).mono ?_; rw [h4]; rintro e w' ⟨rfl, rfl⟩; refine Hid.out ?_))
 refine Lib.hid ?_
 go_wp2_with (first | (go_at_call 107; refine (ask1 _ k n s _ _ (w.heap.size + 1) _ (by simp) (((((((((a5a _ _ _ _ _).alloc _).alloc _).alloc _).alloc _).alloc _).alloc _).alloc _).alloc _)).mono ?_; rw [h2]; rintro e w' ⟨rfl, rfl⟩))
 go_ret
 refine ⟨a1b (by rfl), ?_⟩
 repeat (first | exact Below.refl _ _ | refine a0c ?_ _)
theorem c2k (k n : Int) (s : ByteArray) (w : World) (hk : (k == 3) = false) (he : s.toList.isEmpty = true) (h0 : (k == 0) = false) (h1 : (k == 1) = false) (h4 : (k == 4 || k == 5) = false) (h2 : (k == 2) = false) :
  Calls Tryz.prog 60 #[val k n s] w fun e w' => e = .returned (.bool (false)) ∧ Below w.heap.size w w' := by
 have hmf := hmf
 go_enter Tryz.func60, Tryz.ntmps60
 go_wp2_with (first | (go_at_call 92; go_in) | (go_at_call 107; refine (ask1 _ k n s _ _ (w.heap.size + 1) _ (by simp) (a5a _ _ _ _ _)).mono ?_; rw [hk]; rintro e w' ⟨rfl, rfl⟩; refine Hid.out ?_))
 refine Lib.hid ?_
 go_wp2_with (first | (go_at_call 107; refine (ask1 _ k n s _ _ (w.heap.size + 1) _ (by simp) (((a5a _ _ _ _ _).alloc _).alloc _)).mono ?_; rw [h0]; rintro e w' ⟨rfl, rfl⟩; refine Hid.out ?_))
 refine Lib.hid ?_
 go_wp2_with (first | (go_at_call 107; refine (ask1 _ k n s _ _ (w.heap.size + 1) _ (by simp) (((((a5a _ _ _ _ _).alloc _).alloc _).alloc _).alloc _)).mono ?_; rw [h1]; rintro e w' ⟨rfl, rfl⟩; refine Hid.out ?_))
 refine Lib.hid ?_
 go_wp2_with (first | (go_at_call 107; refine (ask2 _ _ k n s _ _ (w.heap.size + 1) _ (by simp) (((((((a5a _ _ _ _ _).alloc _).alloc _).alloc _).alloc _).alloc _).alloc _)).mono ?_; rw [h4]; rintro e w' ⟨rfl, rfl⟩; refine Hid.out ?_))
 refine Lib.hid ?_
 go_wp2_with (first | (go_at_call 107; refine (ask1 _ k n s _ _ (w.heap.size + 1) _ (by simp) (((((((((a5a _ _ _ _ _).alloc _).alloc _).alloc _).alloc _).alloc _).alloc _).alloc _).alloc _)).mono ?_; rw [h2]; rintro e w' ⟨rfl, rfl⟩))
 go_ret
 refine ⟨a1b (by rfl), ?_⟩
 repeat (first | exact Below.refl _ _ | refine a0c ?_ _)
theorem a4o (k n : Int) (s : ByteArray) (w : World) : Calls Tryz.prog 60 #[val k n s] w fun e w' => e = .returned (.bool (mayB k n s)) ∧ Below w.heap.size w w' := by
 unfold mayB
 by_cases h3 : k = 3
 ·rw [if_pos h3]; exact c2h k n s w (by simpa using h3)
 rw [if_neg h3]
 have h3' : (k == 3) = false := by simpa using h3
 rcases Bool.eq_false_or_eq_true s.toList.isEmpty with he | he
 ·rw [if_neg (by rw [he]; decide)]
  by_cases h0 : k = 0
  ·rw [if_pos h0]; exact c7n k n s w h3' he (by simpa using h0)
  rw [if_neg h0]
  have h0' : (k == 0) = false := by simpa using h0
  by_cases h1 : k = 1
  ·rw [if_pos h1]; exact c2j k n s w h3' he h0' (by simpa using h1)
  rw [if_neg h1]
  have h1' : (k == 1) = false := by simpa using h1
  by_cases h4 : k = 4 ∨ k = 5
  ·rw [if_pos h4]; exact c7o k n s w h3' he h0' h1' (by simpa using h4)
  rw [if_neg h4]
  have h4' : (k == 4 || k == 5) = false := by simpa using h4
  rcases Bool.eq_false_or_eq_true (k == 2) with h2 | h2
  ·rw [h2]; exact c7p k n s w h3' he h0' h1' h4' h2
  ·rw [h2]; exact c2k k n s w h3' he h0' h1' h4' h2
 ·rw [if_pos he]; exact c2i k n s w h3' he
theorem a2r (k n : Int) (s : ByteArray) (w : World) (h : mayB k n s = true) : Calls Tryz.prog 60 #[val k n s] w fun e w' => e = .returned (.bool true) ∧ Below w.heap.size w w' := h ▸ a4o k n s w
theorem b6l (k n : Int) (s : ByteArray) (w : World) (h : mayB k n s = false) : Calls Tryz.prog 60 #[val k n s] w fun e w' => e = .returned (.bool false) ∧ Below w.heap.size w w' := h ▸ a4o k n s w
abbrev box (k n : Int) (s : ByteArray) : Obj := .cells #[.int .i64 k, .int .i64 n, .string s] 30
abbrev E0 : ByteArray := ⟨#[]⟩
theorem b3k (k n : Int) (s : ByteArray) (w : World) (k0 : (k == 0) = true) (hn : n < 0) :
  Calls Tryz.prog 47 #[val k n s] w fun e w' => e = .returned (.bool false) ∧ w' = w.alloc (box k n s) := by
 go_enter Tryz.func47, Tryz.ntmps47
 go_wp2
 go_ret
 exact ⟨by simp_all, rfl⟩
theorem b3l (k n : Int) (s : ByteArray) (w : World) (k0 : (k == 0) = true) (hn : 0 < n) :
  Calls Tryz.prog 47 #[val k n s] w fun e w' => e = .returned (.bool false) ∧ w' = w.alloc (box k n s) := by
 go_enter Tryz.func47, Tryz.ntmps47
 go_wp2
 go_ret
 exact ⟨by simp_all, rfl⟩
theorem c2l (k n : Int) (s : ByteArray) (w : World) (k0 : (k == 0) = true) (hn : 0 ≤ n) (hn' : n ≤ 0) :
  Calls Tryz.prog 47 #[val k n s] w fun e w' => e = .returned (.bool s.toList.isEmpty) ∧ w' = w.alloc (box k n s) := by
 go_enter Tryz.func47, Tryz.ntmps47
 go_wp2
 go_ret
 exact ⟨by simp_all, rfl⟩
theorem b2b (k n : Int) (s : ByteArray) (w : World) (k0 : (k == 0) = false) (k1 : (k == 1) = true) (hn : n < 0) :
  Calls Tryz.prog 47 #[val k n s] w fun e w' => e = .returned (.bool false) ∧ w' = w.alloc (box k n s) := by
 go_enter Tryz.func47, Tryz.ntmps47
 go_wp2
 go_ret
 exact ⟨by simp_all, rfl⟩
theorem b2c (k n : Int) (s : ByteArray) (w : World) (k0 : (k == 0) = false) (k1 : (k == 1) = true) (hn : 1 < n) :
  Calls Tryz.prog 47 #[val k n s] w fun e w' => e = .returned (.bool false) ∧ w' = w.alloc (box k n s) := by
 go_enter Tryz.func47, Tryz.ntmps47
 go_wp2
 go_ret
 exact ⟨by simp_all, rfl⟩
theorem b7t (k n : Int) (s : ByteArray) (w : World) (k0 : (k == 0) = false) (k1 : (k == 1) = true) (hn : 0 ≤ n) (hn' : n ≤ 1) :
  Calls Tryz.prog 47 #[val k n s] w fun e w' => e = .returned (.bool s.toList.isEmpty) ∧ w' = w.alloc (box k n s) := by
 go_enter Tryz.func47, Tryz.ntmps47
 go_wp2
 go_ret
 exact ⟨by simp_all, rfl⟩
theorem c2m (k n : Int) (s : ByteArray) (w : World) (k0 : (k == 0) = false) (k1 : (k == 1) = false) (k2 : (k == 2) = true) (hn : -9223372036854775808 ≤ n) (hn' : n ≤ 9223372036854775807) :
  Calls Tryz.prog 47 #[val k n s] w fun e w' => e = .returned (.bool s.toList.isEmpty) ∧ w' = w.alloc (box k n s) := by
 go_enter Tryz.func47, Tryz.ntmps47
 go_wp2
 go_ret
 exact ⟨by simp_all, rfl⟩
theorem b3m (k n : Int) (s : ByteArray) (w : World) (k0 : (k == 0) = false) (k1 : (k == 1) = false) (k2 : (k == 2) = false) (k3 : (k == 3) = true) (hn : n < 0) :
  Calls Tryz.prog 47 #[val k n s] w fun e w' => e = .returned (.bool false) ∧ w' = w.alloc (box k n s) := by
 go_enter Tryz.func47, Tryz.ntmps47
 go_wp2
 go_ret
 exact ⟨by simp_all, rfl⟩
theorem b3n (k n : Int) (s : ByteArray) (w : World) (k0 : (k == 0) = false) (k1 : (k == 1) = false) (k2 : (k == 2) = false) (k3 : (k == 3) = true) (hn : 0 < n) :
  Calls Tryz.prog 47 #[val k n s] w fun e w' => e = .returned (.bool false) ∧ w' = w.alloc (box k n s) := by
 go_enter Tryz.func47, Tryz.ntmps47
 go_wp2
 go_ret
 exact ⟨by simp_all, rfl⟩
theorem c2n (k n : Int) (s : ByteArray) (w : World) (k0 : (k == 0) = false) (k1 : (k == 1) = false) (k2 : (k == 2) = false) (k3 : (k == 3) = true) (hn : 0 ≤ n) (hn' : n ≤ 0) :
  Calls Tryz.prog 47 #[val k n s] w fun e w' => e = .returned (.bool (decide ((s.size : Int) ≤ 300))) ∧ w' = w.alloc (box k n s) := by
 go_enter Tryz.func47, Tryz.ntmps47
 go_wp2
 go_ret
 exact ⟨by simp_all, rfl⟩
theorem b3o (k n : Int) (s : ByteArray) (w : World) (k0 : (k == 0) = false) (k1 : (k == 1) = false) (k2 : (k == 2) = false) (k3 : (k == 3) = false) (k4 : (k == 4) = true) (hn : n < 0) :
  Calls Tryz.prog 47 #[val k n s] w fun e w' => e = .returned (.bool false) ∧ w' = w.alloc (box k n s) := by
 go_enter Tryz.func47, Tryz.ntmps47
 go_wp2
 go_ret
 exact ⟨by simp_all, rfl⟩
theorem b3p (k n : Int) (s : ByteArray) (w : World) (k0 : (k == 0) = false) (k1 : (k == 1) = false) (k2 : (k == 2) = false) (k3 : (k == 3) = false) (k4 : (k == 4) = true) (hn : 2147483647 < n) :
  Calls Tryz.prog 47 #[val k n s] w fun e w' => e = .returned (.bool false) ∧ w' = w.alloc (box k n s) := by
 go_enter Tryz.func47, Tryz.ntmps47
 go_wp2
 go_ret
 exact ⟨by simp_all, rfl⟩
theorem c2o (k n : Int) (s : ByteArray) (w : World) (k0 : (k == 0) = false) (k1 : (k == 1) = false) (k2 : (k == 2) = false) (k3 : (k == 3) = false) (k4 : (k == 4) = true) (hn : 0 ≤ n) (hn' : n ≤ 2147483647) :
  Calls Tryz.prog 47 #[val k n s] w fun e w' => e = .returned (.bool s.toList.isEmpty) ∧ w' = w.alloc (box k n s) := by
 go_enter Tryz.func47, Tryz.ntmps47
 go_wp2
 go_ret
 exact ⟨by simp_all, rfl⟩
theorem b3q (k n : Int) (s : ByteArray) (w : World) (k0 : (k == 0) = false) (k1 : (k == 1) = false) (k2 : (k == 2) = false) (k3 : (k == 3) = false) (k4 : (k == 4) = false) (k5 : (k == 5) = true) (hn : n < 0) :
  Calls Tryz.prog 47 #[val k n s] w fun e w' => e = .returned (.bool false) ∧ w' = w.alloc (box k n s) := by
 go_enter Tryz.func47, Tryz.ntmps47
 go_wp2
 go_ret
 exact ⟨by simp_all, rfl⟩
theorem b3r (k n : Int) (s : ByteArray) (w : World) (k0 : (k == 0) = false) (k1 : (k == 1) = false) (k2 : (k == 2) = false) (k3 : (k == 3) = false) (k4 : (k == 4) = false) (k5 : (k == 5) = true) (hn : 2147483647 < n) :
  Calls Tryz.prog 47 #[val k n s] w fun e w' => e = .returned (.bool false) ∧ w' = w.alloc (box k n s) := by
 go_enter Tryz.func47, Tryz.ntmps47
 go_wp2
 go_ret
 exact ⟨by simp_all, rfl⟩
theorem c2p (k n : Int) (s : ByteArray) (w : World) (k0 : (k == 0) = false) (k1 : (k == 1) = false) (k2 : (k == 2) = false) (k3 : (k == 3) = false) (k4 : (k == 4) = false) (k5 : (k == 5) = true) (hn : 0 ≤ n) (hn' : n ≤ 2147483647) :
  Calls Tryz.prog 47 #[val k n s] w fun e w' => e = .returned (.bool s.toList.isEmpty) ∧ w' = w.alloc (box k n s) := by
 go_enter Tryz.func47, Tryz.ntmps47
 go_wp2
 go_ret
 exact ⟨by simp_all, rfl⟩
theorem b7u (k n : Int) (s : ByteArray) (w : World) (k0 : (k == 0) = false) (k1 : (k == 1) = false) (k2 : (k == 2) = false) (k3 : (k == 3) = false) (k4 : (k == 4) = false) (k5 : (k == 5) = false) :
  Calls Tryz.prog 47 #[val k n s] w fun e w' => e = .returned (.bool false) ∧ w' = w.alloc (box k n s) := by
 go_enter Tryz.func47, Tryz.ntmps47
 go_wp2
 go_ret
 exact ⟨by simp_all, rfl⟩
theorem b1d (k n : Int) (s : ByteArray) (w : World) (hn : -9223372036854775808 ≤ n) (hn' : n ≤ 9223372036854775807) :
  Calls Tryz.prog 47 #[val k n s] w fun e w' => e = .returned (.bool (mayB k n s)) ∧ w' = w.alloc (box k n s) := by
 have key : ∀ b : Bool, mayB k n s = b → (Calls Tryz.prog 47 #[val k n s] w fun e w' => e = .returned (.bool b) ∧ w' = w.alloc (box k n s)) → Calls Tryz.prog 47 #[val k n s] w fun e w' => e = .returned (.bool (mayB k n s)) ∧ w' = w.alloc (box k n s) := by
  intro b hb h; rw [hb]; exact h
 have he : s.toList.isEmpty = true ∨ s.toList.isEmpty = false := (Bool.eq_false_or_eq_true _)
 by_cases k0 : k = 0
 ·subst k0
  by_cases a : n < 0
  ·exact key false (by unfold mayB; rcases he with e | e <;> simp [e]; omega) (b3k 0 n s w rfl a)
  ·by_cases b : 0 < n
   ·exact key false (by unfold mayB; rcases he with e | e <;> simp [e]; omega) (b3l 0 n s w rfl b)
   ·exact key _ (by unfold mayB; rcases he with e | e <;> simp [e]; omega) (c2l 0 n s w rfl (by omega) (by omega))
 have k0' : (k == 0) = false := by simpa using k0
 by_cases k1 : k = 1
 ·subst k1
  by_cases a : n < 0
  ·exact key false (by unfold mayB; rcases he with e | e <;> simp [e]; omega) (b2b 1 n s w rfl rfl a)
  ·by_cases b : 1 < n
   ·exact key false (by unfold mayB; rcases he with e | e <;> simp [e]; omega) (b2c 1 n s w rfl rfl b)
   ·exact key _ (by unfold mayB; rcases he with e | e <;> simp [e]; omega) (b7t 1 n s w rfl rfl (by omega) (by omega))
 have k1' : (k == 1) = false := by simpa using k1
 by_cases k2 : k = 2
 ·subst k2
  exact key _ (by unfold mayB; rcases he with e | e <;> simp [e]) (c2m 2 n s w rfl rfl rfl hn hn')
 have k2' : (k == 2) = false := by simpa using k2
 by_cases k3 : k = 3
 ·subst k3
  by_cases a : n < 0
  ·exact key false (by unfold mayB; simp; omega) (b3m 3 n s w rfl rfl rfl rfl a)
  ·by_cases b : 0 < n
   ·exact key false (by unfold mayB; simp; omega) (b3n 3 n s w rfl rfl rfl rfl b)
   ·obtain rfl : n = 0 := by omega
    exact key _ (by unfold mayB; simp) (c2n 3 0 s w rfl rfl rfl rfl (by omega) (by omega))
 have k3' : (k == 3) = false := by simpa using k3
 by_cases k4 : k = 4
 ·subst k4
  by_cases a : n < 0
  ·exact key false (by unfold mayB; rcases he with e | e <;> simp [e]; omega) (b3o 4 n s w rfl rfl rfl rfl rfl a)
  ·by_cases b : 2147483647 < n
   ·exact key false (by unfold mayB; rcases he with e | e <;> simp [e]; omega) (b3p 4 n s w rfl rfl rfl rfl rfl b)
   ·exact key _ (by unfold mayB; rcases he with e | e <;> simp [e]; omega) (c2o 4 n s w rfl rfl rfl rfl rfl (by omega) (by omega))
 have k4' : (k == 4) = false := by simpa using k4
 by_cases k5 : k = 5
 ·subst k5
  by_cases a : n < 0
  ·exact key false (by unfold mayB; rcases he with e | e <;> simp [e]; omega) (b3q 5 n s w rfl rfl rfl rfl rfl rfl a)
  ·by_cases b : 2147483647 < n
   ·exact key false (by unfold mayB; rcases he with e | e <;> simp [e]; omega) (b3r 5 n s w rfl rfl rfl rfl rfl rfl b)
   ·exact key _ (by unfold mayB; rcases he with e | e <;> simp [e]; omega) (c2p 5 n s w rfl rfl rfl rfl rfl rfl (by omega) (by omega))
 have k5' : (k == 5) = false := by simpa using k5
 exact key false (by unfold mayB; rcases he with e | e <;> simp [e, k0, k1, k2, k3, k4, k5]) (b7u k n s w k0' k1' k2' k3' k4' k5')
theorem a5v (k n : Int) (s : ByteArray) (w : World) (hn : -9223372036854775808 ≤ n) (hn' : n ≤ 9223372036854775807) (h : mayB k n s = true) :
  Calls Tryz.prog 47 #[val k n s] w fun e w' => e = .returned (.bool true) ∧ w' = w.alloc (box k n s) := h ▸ b1d k n s w hn hn'
theorem b5a (k n : Int) (s : ByteArray) (w : World) (hn : -9223372036854775808 ≤ n) (hn' : n ≤ 9223372036854775807) (h : mayB k n s = false) :
  Calls Tryz.prog 47 #[val k n s] w fun e w' => e = .returned (.bool false) ∧ w' = w.alloc (box k n s) := h ▸ b1d k n s w hn hn'
theorem a7d (n : Int) (w : World) :
  Calls Tryz.prog 85 #[.int .i64 n] w fun e w' => e = .returned (val 2 n E0) ∧ w' = w.alloc (box 2 n E0) := by
 go_enter Tryz.func85, Tryz.ntmps85
 go_wp2
 exact bodyPost_ret (v := val 2 n E0) (by simp [results, Tryz.results85, go_sem]) rfl ⟨rfl, rfl⟩
theorem b7v (k n : Int) (s : ByteArray) (w : World) :
  Calls Tryz.prog 23 #[val k n s, val k n s] w fun e w' => e = .returned (.bool true) ∧ w' = (w.alloc (box k n s)).alloc (box k n s) := by
 go_enter Tryz.func23, Tryz.ntmps23
 go_wp2
 go_ret
 exact ⟨rfl, rfl⟩
theorem c7q (k n k' n' : Int) (s s' : ByteArray) (w : World) (h : (k == k') = false) :
  Calls Tryz.prog 23 #[val k n s, val k' n' s'] w fun e w' => e = .returned (.bool false) ∧ w' = (w.alloc (box k n s)).alloc (box k' n' s') := by
 go_enter Tryz.func23, Tryz.ntmps23
 go_wp2
 go_ret
 exact ⟨rfl, rfl⟩
theorem c7r (k n n' : Int) (s s' : ByteArray) (w : World) (h : (n == n') = false) :
  Calls Tryz.prog 23 #[val k n s, val k n' s'] w fun e w' => e = .returned (.bool false) ∧ w' = (w.alloc (box k n s)).alloc (box k n' s') := by
 go_enter Tryz.func23, Tryz.ntmps23
 go_wp2
 go_ret
 exact ⟨rfl, rfl⟩
theorem c7s (k n : Int) (s s' : ByteArray) (w : World) (h : (s.toList == s'.toList) = false) :
  Calls Tryz.prog 23 #[val k n s, val k n s'] w fun e w' => e = .returned (.bool false) ∧ w' = (w.alloc (box k n s)).alloc (box k n s') := by
 go_enter Tryz.func23, Tryz.ntmps23
 go_wp2
 go_ret
 exact ⟨by simp_all, rfl⟩
theorem b7w (k n k' n' : Int) (s s' : ByteArray) (w : World) (h : ¬ (k = k' ∧ n = n' ∧ s.toList = s'.toList)) :
  Calls Tryz.prog 23 #[val k n s, val k' n' s'] w fun e w' => e = .returned (.bool false) ∧ w' = (w.alloc (box k n s)).alloc (box k' n' s') := by
 by_cases hk : k = k'
 ·subst hk
  by_cases hn : n = n'
  ·subst hn
   exact c7s k n s s' w (by simpa using fun hs => h ⟨rfl, rfl, hs⟩)
  ·exact c7r k n n' s s' w (by simpa using hn)
 ·exact c7q k n k' n' s s' w (by simpa using hk)
end Go.Proofs.YthpgbienakcbeaaGreatDoor
