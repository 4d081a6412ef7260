/- Walks of the value package, on the way to the statements of chapter 1. -/
import Derived.Test.YthpgbienakcbeaaGreatDoorS09
namespace Go.Proofs.YthpgbienakcbeaaGreatDoor
open Go.RowKit Go
set_option maxRecDepth 100000
set_option maxHeartbeats 8000000
set_option linter.all false
theorem a1p (w : World) (c v : Nat) (hv : v = w.heap.size) (hc : c = w.heap.size + 1) (k n k' n' : Int) (s s' : ByteArray) : a6k c v k n k' n' s s'
  ((w.alloc (.cells #[.int .i64 k, .int .i64 n, .string s, .int .i64 k', .int .i64 n', .string s'] 30)).alloc (.cells #[.slice (some ⟨v, 0, none⟩) 2 2] 48)) := by
 subst hv; subst hc
 constructor
 ·rw [World.cell?_alloc_at _ _ _ _ (by simp)]; rfl
 all_goals rw [World.cell?_alloc_past _ _ _ (by simp), World.cell?_alloc_at _ _ _ _ rfl]; rfl
theorem a4q (y k n k' n' : Int) (s s' : ByteArray) (b c v : Nat) (w : World) (hb : b = w.heap.size) (ha : a6k c v k n k' n' s s' w) (h : (k == y) = true) (h' : (k' == y) = true) :
  Calls Tryz.prog 107 #[.slice (some ⟨b, 0, none⟩) 1 1, .pointer (some ⟨c, 0, none⟩)] (w.alloc (.cells #[.int .i64 y] 3)) fun e w' => e = .returned (.bool true) ∧ w' = ((w.alloc (.cells #[.int .i64 y] 3)).alloc (box k n s)).alloc (box k' n' s') :=
 c7v b c v y k n k' n' s s' _ (by rw [World.cell?_alloc_at _ _ _ _ hb]; rfl) (ha.alloc _) h h'
theorem a7e (y k n k' n' : Int) (s s' : ByteArray) (b c v : Nat) (w : World) (hb : b = w.heap.size) (ha : a6k c v k n k' n' s s' w) (h : (k == y) = false) :
  Calls Tryz.prog 107 #[.slice (some ⟨b, 0, none⟩) 1 1, .pointer (some ⟨c, 0, none⟩)] (w.alloc (.cells #[.int .i64 y] 3)) fun e w' => e = .returned (.bool false) ∧ w' = (w.alloc (.cells #[.int .i64 y] 3)).alloc (box k n s) :=
 c7w b c v y k n k' n' s s' _ (by rw [World.cell?_alloc_at _ _ _ _ hb]; rfl) (ha.alloc _) h
theorem b8f (y k n k' n' : Int) (s s' : ByteArray) (b c v : Nat) (w : World) (hb : b = w.heap.size) (ha : a6k c v k n k' n' s s' w) (h : (k == y) = true) (h' : (k' == y) = false) :
  Calls Tryz.prog 107 #[.slice (some ⟨b, 0, none⟩) 1 1, .pointer (some ⟨c, 0, none⟩)] (w.alloc (.cells #[.int .i64 y] 3)) fun e w' => e = .returned (.bool false) ∧ w' = ((w.alloc (.cells #[.int .i64 y] 3)).alloc (box k n s)).alloc (box k' n' s') :=
 c7x b c v y k n k' n' s s' _ (by rw [World.cell?_alloc_at _ _ _ _ hb]; rfl) (ha.alloc _) h h'
theorem c7b (y z k n k' n' : Int) (s s' : ByteArray) (b c v : Nat) (w : World) (hb : b = w.heap.size) (ha : a6k c v k n k' n' s s' w) (h : (k == y || k == z) = true) (h' : (k' == y || k' == z) = true) :
  Calls Tryz.prog 107 #[.slice (some ⟨b, 0, none⟩) 2 2, .pointer (some ⟨c, 0, none⟩)] (w.alloc (.cells #[.int .i64 y, .int .i64 z] 3)) fun e w' => e = .returned (.bool true) ∧ w' = ((w.alloc (.cells #[.int .i64 y, .int .i64 z] 3)).alloc (box k n s)).alloc (box k' n' s') :=
 c7y b c v y z k n k' n' s s' _ (by rw [World.cell?_alloc_at _ _ _ _ hb]; rfl) (by rw [World.cell?_alloc_at _ _ _ _ hb]; rfl) (ha.alloc _) h h'
theorem d1i (y z k n k' n' : Int) (s s' : ByteArray) (b c v : Nat) (w : World) (hb : b = w.heap.size) (ha : a6k c v k n k' n' s s' w) (h : (k == y || k == z) = false) :
  Calls Tryz.prog 107 #[.slice (some ⟨b, 0, none⟩) 2 2, .pointer (some ⟨c, 0, none⟩)] (w.alloc (.cells #[.int .i64 y, .int .i64 z] 3)) fun e w' => e = .returned (.bool false) ∧ w' = (w.alloc (.cells #[.int .i64 y, .int .i64 z] 3)).alloc (box k n s) :=
 c7z b c v y z k n k' n' s s' _ (by rw [World.cell?_alloc_at _ _ _ _ hb]; rfl) (by rw [World.cell?_alloc_at _ _ _ _ hb]; rfl) (ha.alloc _) h
theorem d1j (y z k n k' n' : Int) (s s' : ByteArray) (b c v : Nat) (w : World) (hb : b = w.heap.size) (ha : a6k c v k n k' n' s s' w) (h : (k == y || k == z) = true) (h' : (k' == y || k' == z) = false) :
  Calls Tryz.prog 107 #[.slice (some ⟨b, 0, none⟩) 2 2, .pointer (some ⟨c, 0, none⟩)] (w.alloc (.cells #[.int .i64 y, .int .i64 z] 3)) fun e w' => e = .returned (.bool false) ∧ w' = ((w.alloc (.cells #[.int .i64 y, .int .i64 z] 3)).alloc (box k n s)).alloc (box k' n' s') :=
 c8a b c v y z k n k' n' s s' _ (by rw [World.cell?_alloc_at _ _ _ _ hb]; rfl) (by rw [World.cell?_alloc_at _ _ _ _ hb]; rfl) (ha.alloc _) h h'
theorem a3r (op : Int) (k n k' n' : Int) (s s' : ByteArray) (w : World) (h : (k == 2) = false) :
  Calls Tryz.prog 128 #[.int .i64 op, val k n s, val k' n' s'] w fun e w' => e = .returned (.tuple #[val 0 0 ⟨#[]⟩, .int .i64 3]) ∧ Below w.heap.size w w' := by
 have hmf := hmf
 go_enter Tryz.func128, Tryz.ntmps128
 go_wp2_with (first | (go_at_call 92; go_in) | (go_at_call 107; refine (a7e _ k n k' n' s s' _ _ _ _ (by simp) (a1p _ _ _ (by simp) (by simp) _ _ _ _ _ _) h).mono ?_; rintro e w' ⟨rfl, rfl⟩))
 refine bodyPost_ret (v := .tuple #[val 0 0 ⟨#[]⟩, .int .i64 3]) (by simp [results, Tryz.results128, go_sem]) rfl ⟨rfl, ?_⟩
 repeat (first | exact Below.refl _ _ | refine a0c ?_ _)
theorem a2x (op : Int) (k n k' n' : Int) (s s' : ByteArray) (w : World) (h : (k == 2) = true) (h' : (k' == 2) = false) :
  Calls Tryz.prog 128 #[.int .i64 op, val k n s, val k' n' s'] w fun e w' => e = .returned (.tuple #[val 0 0 ⟨#[]⟩, .int .i64 3]) ∧ Below w.heap.size w w' := by
 have hmf := hmf
 go_enter Tryz.func128, Tryz.ntmps128
 go_wp2_with (first | (go_at_call 92; go_in) | (go_at_call 107; refine (b8f _ k n k' n' s s' _ _ _ _ (by simp) (a1p _ _ _ (by simp) (by simp) _ _ _ _ _ _) h h').mono ?_; rintro e w' ⟨rfl, rfl⟩))
 refine bodyPost_ret (v := .tuple #[val 0 0 ⟨#[]⟩, .int .i64 3]) (by simp [results, Tryz.results128, go_sem]) rfl ⟨rfl, ?_⟩
 repeat (first | exact Below.refl _ _ | refine a0c ?_ _)
theorem b0i (k n k' n' : Int) (s s' : ByteArray) (w : World) (h : (k == 2) = true) (h' : (k' == 2) = true) :
  Calls Tryz.prog 128 #[.int .i64 1, val k n s, val k' n' s'] w fun e w' => e = .returned (.tuple #[val 2 (wrap64 (n + n')) ⟨#[]⟩, .int .i64 0]) ∧ Below w.heap.size w w' := by
 have hmf := hmf
 go_enter Tryz.func128, Tryz.ntmps128
 go_wp2_with (first | (go_at_call 92; go_in) | (go_at_call 107; refine (a4q _ k n k' n' s s' _ _ _ _ (by simp) (a1p _ _ _ (by simp) (by simp) _ _ _ _ _ _) h h').mono ?_; rintro e w' ⟨rfl, rfl⟩) | (go_at_call 118; refine (a3b _ _).mono ?_; rintro e w' ⟨rfl, rfl⟩))
 refine bodyPost_ret (v := .tuple #[val 2 (wrap64 (n + n')) ⟨#[]⟩, .int .i64 0]) (by simp [results, Tryz.results128, go_sem]) rfl ⟨rfl, ?_⟩
 repeat (first | exact Below.refl _ _ | refine a0c ?_ _)
theorem a6h (k n k' n' : Int) (s s' : ByteArray) (w : World) (h : (k == 2) = true) (h' : (k' == 2) = true) :
  Calls Tryz.prog 128 #[.int .i64 2, val k n s, val k' n' s'] w fun e w' => e = .returned (.tuple #[val 2 (wrap64 (n - n')) ⟨#[]⟩, .int .i64 0]) ∧ Below w.heap.size w w' := by
 have hmf := hmf
 go_enter Tryz.func128, Tryz.ntmps128
 go_wp2_with (first | (go_at_call 92; go_in) | (go_at_call 107; refine (a4q _ k n k' n' s s' _ _ _ _ (by simp) (a1p _ _ _ (by simp) (by simp) _ _ _ _ _ _) h h').mono ?_; rintro e w' ⟨rfl, rfl⟩) | (go_at_call 118; refine (a3b _ _).mono ?_; rintro e w' ⟨rfl, rfl⟩))
 refine bodyPost_ret (v := .tuple #[val 2 (wrap64 (n - n')) ⟨#[]⟩, .int .i64 0]) (by simp [results, Tryz.results128, go_sem]) rfl ⟨rfl, ?_⟩
 repeat (first | exact Below.refl _ _ | refine a0c ?_ _)
theorem b0j (k n k' n' : Int) (s s' : ByteArray) (w : World) (h : (k == 2) = true) (h' : (k' == 2) = true) :
  Calls Tryz.prog 128 #[.int .i64 3, val k n s, val k' n' s'] w fun e w' => e = .returned (.tuple #[val 2 (wrap64 (n * n')) ⟨#[]⟩, .int .i64 0]) ∧ Below w.heap.size w w' := by
 have hmf := hmf
 go_enter Tryz.func128, Tryz.ntmps128
 go_wp2_with (first | (go_at_call 92; go_in) | (go_at_call 107; refine (a4q _ k n k' n' s s' _ _ _ _ (by simp) (a1p _ _ _ (by simp) (by simp) _ _ _ _ _ _) h h').mono ?_; rintro e w' ⟨rfl, rfl⟩) | (go_at_call 118; refine (a3b _ _).mono ?_; rintro e w' ⟨rfl, rfl⟩))
 refine bodyPost_ret (v := .tuple #[val 2 (wrap64 (n * n')) ⟨#[]⟩, .int .i64 0]) (by simp [results, Tryz.results128, go_sem]) rfl ⟨rfl, ?_⟩
 repeat (first | exact Below.refl _ _ | refine a0c ?_ _)
theorem a9i (k n k' n' : Int) (s s' : ByteArray) (w : World) (h : (k == 2) = true) (h' : (k' == 2) = true) (hz : (n' == 0) = true) :
  Calls Tryz.prog 128 #[.int .i64 4, val k n s, val k' n' s'] w fun e w' => e = .returned (.tuple #[val 0 0 ⟨#[]⟩, .int .i64 7]) ∧ Below w.heap.size w w' := by
 have hmf := hmf
 go_enter Tryz.func128, Tryz.ntmps128
 go_wp2_with (first | (go_at_call 92; go_in) | (go_at_call 107; refine (a4q _ k n k' n' s s' _ _ _ _ (by simp) (a1p _ _ _ (by simp) (by simp) _ _ _ _ _ _) h h').mono ?_; rintro e w' ⟨rfl, rfl⟩))
 refine bodyPost_ret (v := .tuple #[val 0 0 ⟨#[]⟩, .int .i64 7]) (by simp [results, Tryz.results128, go_sem]) rfl ⟨rfl, ?_⟩
 repeat (first | exact Below.refl _ _ | refine a0c ?_ _)
theorem a9j (k n k' n' : Int) (s s' : ByteArray) (w : World) (h : (k == 2) = true) (h' : (k' == 2) = true) (hz : (n' == 0) = true) :
  Calls Tryz.prog 128 #[.int .i64 5, val k n s, val k' n' s'] w fun e w' => e = .returned (.tuple #[val 0 0 ⟨#[]⟩, .int .i64 7]) ∧ Below w.heap.size w w' := by
 have hmf := hmf
 go_enter Tryz.func128, Tryz.ntmps128
 go_wp2_with (first | (go_at_call 92; go_in) | (go_at_call 107; refine (a4q _ k n k' n' s s' _ _ _ _ (by simp) (a1p _ _ _ (by simp) (by simp) _ _ _ _ _ _) h h').mono ?_; rintro e w' ⟨rfl, rfl⟩))
 refine bodyPost_ret (v := .tuple #[val 0 0 ⟨#[]⟩, .int .i64 7]) (by simp [results, Tryz.results128, go_sem]) rfl ⟨rfl, ?_⟩
 repeat (first | exact Below.refl _ _ | refine a0c ?_ _)
theorem b0k (k n k' n' : Int) (s s' : ByteArray) (w : World) (h : (k == 2) = true) (h' : (k' == 2) = true) (hz : (n' == 0) = false) :
  Calls Tryz.prog 128 #[.int .i64 4, val k n s, val k' n' s'] w fun e w' => e = .returned (.tuple #[val 2 (divV n n') ⟨#[]⟩, .int .i64 0]) ∧ Below w.heap.size w w' := by
 have hmf := hmf
 go_enter Tryz.func128, Tryz.ntmps128
 go_wp2_with (first | (go_at_call 92; go_in) | (go_at_call 107; refine (a4q _ k n k' n' s s' _ _ _ _ (by simp) (a1p _ _ _ (by simp) (by simp) _ _ _ _ _ _) h h').mono ?_; rintro e w' ⟨rfl, rfl⟩) | (go_at_call 118; refine (a3b _ _).mono ?_; rintro e w' ⟨rfl, rfl⟩) | (go_at_call 133; refine (b2f _ _ _ hz).mono ?_; rintro e w' ⟨rfl, rfl⟩))
 refine bodyPost_ret (v := .tuple #[val 2 (divV n n') ⟨#[]⟩, .int .i64 0]) (by simp [results, Tryz.results128, go_sem]) rfl ⟨rfl, ?_⟩
 repeat (first | exact Below.refl _ _ | refine a0c ?_ _)
theorem b0l (k n k' n' : Int) (s s' : ByteArray) (w : World) (h : (k == 2) = true) (h' : (k' == 2) = true) (hz : (n' == 0) = false) :
  Calls Tryz.prog 128 #[.int .i64 5, val k n s, val k' n' s'] w fun e w' => e = .returned (.tuple #[val 2 (modV n n') ⟨#[]⟩, .int .i64 0]) ∧ Below w.heap.size w w' := by
 have hmf := hmf
 go_enter Tryz.func128, Tryz.ntmps128
 go_wp2_with (first | (go_at_call 92; go_in) | (go_at_call 107; refine (a4q _ k n k' n' s s' _ _ _ _ (by simp) (a1p _ _ _ (by simp) (by simp) _ _ _ _ _ _) h h').mono ?_; rintro e w' ⟨rfl, rfl⟩) | (go_at_call 118; refine (a3b _ _).mono ?_; rintro e w' ⟨rfl, rfl⟩) | (go_at_call 133; refine (b2f _ _ _ hz).mono ?_; rintro e w' ⟨rfl, rfl⟩))
 refine bodyPost_ret (v := .tuple #[val 2 (modV n n') ⟨#[]⟩, .int .i64 0]) (by simp [results, Tryz.results128, go_sem]; rfl) rfl ⟨rfl, ?_⟩
 repeat (first | exact Below.refl _ _ | refine a0c ?_ _)
theorem c8d (x y : Int) (w : World) (h : x < y) : Calls Tryz.prog 134 #[.int .i64 x, .int .i64 y] w fun e w' => e = .returned (.int .i64 (-1)) ∧ w' = w := by
 go_enter Tryz.func134, Tryz.ntmps134
 go_wp2
 go_ret
 exact ⟨rfl, rfl⟩
theorem c8e (x y : Int) (w : World) (h : y < x) : Calls Tryz.prog 134 #[.int .i64 x, .int .i64 y] w fun e w' => e = .returned (.int .i64 1) ∧ w' = w := by
 go_enter Tryz.func134, Tryz.ntmps134
 go_wp2
 go_ret
 exact ⟨rfl, rfl⟩
theorem b8g (x : Int) (w : World) : Calls Tryz.prog 134 #[.int .i64 x, .int .i64 x] w fun e w' => e = .returned (.int .i64 0) ∧ w' = w := by
 go_enter Tryz.func134, Tryz.ntmps134
 go_wp2
 go_ret
 exact ⟨rfl, rfl⟩
theorem c8f (x y : ByteArray) (w : World) (h : Op.bytesLess x.toList y.toList = true) : Calls Tryz.prog 135 #[.string x, .string y] w fun e w' => e = .returned (.int .i64 (-1)) ∧ w' = w := by
 go_enter Tryz.func135, Tryz.ntmps135
 go_wp2
 go_ret
 exact ⟨rfl, rfl⟩
theorem c8g (x y : ByteArray) (w : World) (h : Op.bytesLess x.toList y.toList = false) (h' : (x.toList == y.toList) = false) : Calls Tryz.prog 135 #[.string x, .string y] w fun e w' => e = .returned (.int .i64 1) ∧ w' = w := by
 go_enter Tryz.func135, Tryz.ntmps135
 go_wp2
 go_ret
 exact ⟨rfl, rfl⟩
theorem b8h (x y : ByteArray) (w : World) (h : Op.bytesLess x.toList y.toList = false) (h' : (x.toList == y.toList) = true) : Calls Tryz.prog 135 #[.string x, .string y] w fun e w' => e = .returned (.int .i64 0) ∧ w' = w := by
 go_enter Tryz.func135, Tryz.ntmps135
 go_wp2
 go_ret
 exact ⟨rfl, rfl⟩
theorem a8v (w : World) : Calls Tryz.prog 96 #[.bool true] w fun e w' => e = .returned (val 1 1 ⟨#[]⟩) ∧ w' = w.alloc (box 1 1 ⟨#[]⟩) := a2a true w
theorem a7f (w : World) : Calls Tryz.prog 96 #[.bool false] w fun e w' => e = .returned (val 1 0 ⟨#[]⟩) ∧ w' = w.alloc (box 1 0 ⟨#[]⟩) := a2a false w
theorem a7g (op : Int) (hop : op = 8 ∨ op = 9) (k n k' n' : Int) (s s' : ByteArray) (w : World) (h : (k == 2) = true) (h' : (k' == 2) = true) (hl : n < n') :
  Calls Tryz.prog 129 #[.int .i64 op, val k n s, val k' n' s'] w fun e w' => e = .returned (.tuple #[val 1 1 ⟨#[]⟩, .int .i64 0]) ∧ Below w.heap.size w w' := by
 rcases hop with rfl | rfl
 all_goals
  have hmf := hmf
  go_enter Tryz.func129, Tryz.ntmps129
  go_wp2_with (first | (go_at_call 92; go_in) | (go_at_call 107; refine (a4q _ k n k' n' s s' _ _ _ _ (by simp) (a1p _ _ _ (by simp) (by simp) _ _ _ _ _ _) h h').mono ?_; rintro e w' ⟨rfl, rfl⟩) | (go_at_call 134; refine (c8d _ _ _ hl).mono ?_; rintro e w' ⟨rfl, rfl⟩) | (go_at_call 96; refine (a8v _).mono ?_; rintro e w' ⟨rfl, rfl⟩))
  refine bodyPost_ret (v := .tuple #[val 1 1 ⟨#[]⟩, .int .i64 0]) (by simp [results, Tryz.results129, go_sem]) rfl ⟨rfl, ?_⟩
  repeat (first | exact Below.refl _ _ | refine a0c ?_ _)
abbrev a7h := a7g 8 (by simp)
abbrev a7i := a7g 9 (by simp)
theorem a7j (op : Int) (hop : op = 8 ∨ op = 9) (k n k' n' : Int) (s s' : ByteArray) (w : World) (h : (k == 2) = true) (h' : (k' == 2) = true) (hl : n' < n) :
  Calls Tryz.prog 129 #[.int .i64 op, val k n s, val k' n' s'] w fun e w' => e = .returned (.tuple #[val 1 0 ⟨#[]⟩, .int .i64 0]) ∧ Below w.heap.size w w' := by
 rcases hop with rfl | rfl
 all_goals
  have hmf := hmf
  go_enter Tryz.func129, Tryz.ntmps129
  go_wp2_with (first | (go_at_call 92; go_in) | (go_at_call 107; refine (a4q _ k n k' n' s s' _ _ _ _ (by simp) (a1p _ _ _ (by simp) (by simp) _ _ _ _ _ _) h h').mono ?_; rintro e w' ⟨rfl, rfl⟩) | (go_at_call 134; refine (c8e _ _ _ hl).mono ?_; rintro e w' ⟨rfl, rfl⟩) | (go_at_call 96; refine (a7f _).mono ?_; rintro e w' ⟨rfl, rfl⟩))
  refine bodyPost_ret (v := .tuple #[val 1 0 ⟨#[]⟩, .int .i64 0]) (by simp [results, Tryz.results129, go_sem]) rfl ⟨rfl, ?_⟩
  repeat (first | exact Below.refl _ _ | refine a0c ?_ _)
abbrev a7k := a7j 8 (by simp)
abbrev a7l := a7j 9 (by simp)
theorem a7m (k n k' : Int) (s s' : ByteArray) (w : World) (h : (k == 2) = true) (h' : (k' == 2) = true) :
  Calls Tryz.prog 129 #[.int .i64 8, val k n s, val k' n s'] w fun e w' => e = .returned (.tuple #[val 1 0 ⟨#[]⟩, .int .i64 0]) ∧ Below w.heap.size w w' := by
 have hmf := hmf
 go_enter Tryz.func129, Tryz.ntmps129
 go_wp2_with (first | (go_at_call 92; go_in) | (go_at_call 107; refine (a4q _ k n k' n s s' _ _ _ _ (by simp) (a1p _ _ _ (by simp) (by simp) _ _ _ _ _ _) h h').mono ?_; rintro e w' ⟨rfl, rfl⟩) | (go_at_call 134; refine (b8g _ _).mono ?_; rintro e w' ⟨rfl, rfl⟩) | (go_at_call 96; refine (a7f _).mono ?_; rintro e w' ⟨rfl, rfl⟩))
 refine bodyPost_ret (v := .tuple #[val 1 0 ⟨#[]⟩, .int .i64 0]) (by simp [results, Tryz.results129, go_sem]) rfl ⟨rfl, ?_⟩
 repeat (first | exact Below.refl _ _ | refine a0c ?_ _)
theorem a7n (op : Int) (hop : op = 8 ∨ op = 9) (k n k' n' : Int) (s s' : ByteArray) (w : World) (h : (k == 3) = true) (h' : (k' == 3) = true) (g : (k == 2) = false) (hl : Op.bytesLess s.toList s'.toList = true) :
  Calls Tryz.prog 129 #[.int .i64 op, val k n s, val k' n' s'] w fun e w' => e = .returned (.tuple #[val 1 1 ⟨#[]⟩, .int .i64 0]) ∧ Below w.heap.size w w' := by
 rcases hop with rfl | rfl
 all_goals
  have hmf := hmf
  go_enter Tryz.func129, Tryz.ntmps129
  go_wp2_with (first | (go_at_call 92; go_in) | (go_at_call 107; refine (a7e _ k n k' n' s s' _ _ _ _ (by simp) (a1p _ _ _ (by simp) (by simp) _ _ _ _ _ _) g).mono ?_; rintro e w' ⟨rfl, rfl⟩; refine Hid.out ?_))
  refine Lib.hid ?_
  go_wp2_with (first | (go_at_call 107; refine (a4q _ k n k' n' s s' _ _ _ _ (by simp) (((a1p _ _ _ (by simp) (by simp) _ _ _ _ _ _).alloc _).alloc _) h h').mono ?_; rintro e w' ⟨rfl, rfl⟩) | (go_at_call 135; refine (c8f _ _ _ hl).mono ?_; rintro e w' ⟨rfl, rfl⟩) | (go_at_call 96; refine (a8v _).mono ?_; rintro e w' ⟨rfl, rfl⟩))
  refine bodyPost_ret (v := .tuple #[val 1 1 ⟨#[]⟩, .int .i64 0]) (by simp [results, Tryz.results129, go_sem]) rfl ⟨rfl, ?_⟩
  repeat (first | exact Below.refl _ _ | refine a0c ?_ _)
abbrev a7o := a7n 8 (by simp)
abbrev a7p := a7n 9 (by simp)
theorem a7q (op : Int) (hop : op = 8 ∨ op = 9) (k n k' n' : Int) (s s' : ByteArray) (w : World) (h : (k == 3) = true) (h' : (k' == 3) = true) (g : (k == 2) = false) (hl : Op.bytesLess s.toList s'.toList = false) (he : (s.toList == s'.toList) = false) :
  Calls Tryz.prog 129 #[.int .i64 op, val k n s, val k' n' s'] w fun e w' => e = .returned (.tuple #[val 1 0 ⟨#[]⟩, .int .i64 0]) ∧ Below w.heap.size w w' := by
 rcases hop with rfl | rfl
 all_goals
  have hmf := hmf
  go_enter Tryz.func129, Tryz.ntmps129
  go_wp2_with (first | (go_at_call 92; go_in) | (go_at_call 107; refine (a7e _ k n k' n' s s' _ _ _ _ (by simp) (a1p _ _ _ (by simp) (by simp) _ _ _ _ _ _) g).mono ?_; rintro e w' ⟨rfl, rfl⟩; refine Hid.out ?_))
  refine Lib.hid ?_
  go_wp2_with (first | (go_at_call 107; refine (a4q _ k n k' n' s s' _ _ _ _ (by simp) (((a1p _ _ _ (by simp) (by simp) _ _ _ _ _ _).alloc _).alloc _) h h').mono ?_; rintro e w' ⟨rfl, rfl⟩) | (go_at_call 135; refine (c8g _ _ _ hl he).mono ?_; rintro e w' ⟨rfl, rfl⟩) | (go_at_call 96; refine (a7f _).mono ?_; rintro e w' ⟨rfl, rfl⟩))
  refine bodyPost_ret (v := .tuple #[val 1 0 ⟨#[]⟩, .int .i64 0]) (by simp [results, Tryz.results129, go_sem]) rfl ⟨rfl, ?_⟩
  repeat (first | exact Below.refl _ _ | refine a0c ?_ _)
abbrev a7r := a7q 8 (by simp)
abbrev a7s := a7q 9 (by simp)
theorem a7t (k n k' n' : Int) (s s' : ByteArray) (w : World) (h : (k == 3) = true) (h' : (k' == 3) = true) (g : (k == 2) = false) (hl : Op.bytesLess s.toList s'.toList = false) (he : (s.toList == s'.toList) = true) :
  Calls Tryz.prog 129 #[.int .i64 8, val k n s, val k' n' s'] w fun e w' => e = .returned (.tuple #[val 1 0 ⟨#[]⟩, .int .i64 0]) ∧ Below w.heap.size w w' := by
 have hmf := hmf
 go_enter Tryz.func129, Tryz.ntmps129
 go_wp2_with (first | (go_at_call 92; go_in) | (go_at_call 107; refine (a7e _ k n k' n' s s' _ _ _ _ (by simp) (a1p _ _ _ (by simp) (by simp) _ _ _ _ _ _) g).mono ?_; rintro e w' ⟨rfl, rfl⟩; refine Hid.out ?_))
 refine Lib.hid ?_
 go_wp2_with (first | (go_at_call 107; refine (a4q _ k n k' n' s s' _ _ _ _ (by simp) (((a1p _ _ _ (by simp) (by simp) _ _ _ _ _ _).alloc _).alloc _) h h').mono ?_; rintro e w' ⟨rfl, rfl⟩) | (go_at_call 135; refine (b8h _ _ _ hl he).mono ?_; rintro e w' ⟨rfl, rfl⟩) | (go_at_call 96; refine (a7f _).mono ?_; rintro e w' ⟨rfl, rfl⟩))
 refine bodyPost_ret (v := .tuple #[val 1 0 ⟨#[]⟩, .int .i64 0]) (by simp [results, Tryz.results129, go_sem]) rfl ⟨rfl, ?_⟩
 repeat (first | exact Below.refl _ _ | refine a0c ?_ _)
theorem a7u (k n k' : Int) (s s' : ByteArray) (w : World) (h : (k == 2) = true) (h' : (k' == 2) = true) :
  Calls Tryz.prog 129 #[.int .i64 9, val k n s, val k' n s'] w fun e w' => e = .returned (.tuple #[val 1 1 ⟨#[]⟩, .int .i64 0]) ∧ Below w.heap.size w w' := by
 have hmf := hmf
 go_enter Tryz.func129, Tryz.ntmps129
 go_wp2_with (first | (go_at_call 92; go_in) | (go_at_call 107; refine (a4q _ k n k' n s s' _ _ _ _ (by simp) (a1p _ _ _ (by simp) (by simp) _ _ _ _ _ _) h h').mono ?_; rintro e w' ⟨rfl, rfl⟩) | (go_at_call 134; refine (b8g _ _).mono ?_; rintro e w' ⟨rfl, rfl⟩) | (go_at_call 96; refine (a8v _).mono ?_; rintro e w' ⟨rfl, rfl⟩))
 refine bodyPost_ret (v := .tuple #[val 1 1 ⟨#[]⟩, .int .i64 0]) (by simp [results, Tryz.results129, go_sem]) rfl ⟨rfl, ?_⟩
 repeat (first | exact Below.refl _ _ | refine a0c ?_ _)
theorem a7v (k n k' n' : Int) (s s' : ByteArray) (w : World) (h : (k == 3) = true) (h' : (k' == 3) = true) (g : (k == 2) = false) (hl : Op.bytesLess s.toList s'.toList = false) (he : (s.toList == s'.toList) = true) :
  Calls Tryz.prog 129 #[.int .i64 9, val k n s, val k' n' s'] w fun e w' => e = .returned (.tuple #[val 1 1 ⟨#[]⟩, .int .i64 0]) ∧ Below w.heap.size w w' := by
 have hmf := hmf
 go_enter Tryz.func129, Tryz.ntmps129
 go_wp2_with (first | (go_at_call 92; go_in) | (go_at_call 107; refine (a7e _ k n k' n' s s' _ _ _ _ (by simp) (a1p _ _ _ (by simp) (by simp) _ _ _ _ _ _) g).mono ?_; rintro e w' ⟨rfl, rfl⟩; refine Hid.out ?_))
 refine Lib.hid ?_
 go_wp2_with (first | (go_at_call 107; refine (a4q _ k n k' n' s s' _ _ _ _ (by simp) (((a1p _ _ _ (by simp) (by simp) _ _ _ _ _ _).alloc _).alloc _) h h').mono ?_; rintro e w' ⟨rfl, rfl⟩) | (go_at_call 135; refine (b8h _ _ _ hl he).mono ?_; rintro e w' ⟨rfl, rfl⟩) | (go_at_call 96; refine (a8v _).mono ?_; rintro e w' ⟨rfl, rfl⟩))
 refine bodyPost_ret (v := .tuple #[val 1 1 ⟨#[]⟩, .int .i64 0]) (by simp [results, Tryz.results129, go_sem]) rfl ⟨rfl, ?_⟩
 repeat (first | exact Below.refl _ _ | refine a0c ?_ _)
theorem a8w (op : Int) (k n k' n' : Int) (s s' : ByteArray) (w : World) (g : (k == 2) = false) (h : (k == 3) = false) :
  Calls Tryz.prog 129 #[.int .i64 op, val k n s, val k' n' s'] w fun e w' => e = .returned (.tuple #[val 0 0 ⟨#[]⟩, .int .i64 3]) ∧ Below w.heap.size w w' := by
 have hmf := hmf
 go_enter Tryz.func129, Tryz.ntmps129
 go_wp2_with (first | (go_at_call 92; go_in) | (go_at_call 107; refine (a7e _ k n k' n' s s' _ _ _ _ (by simp) (a1p _ _ _ (by simp) (by simp) _ _ _ _ _ _) g).mono ?_; rintro e w' ⟨rfl, rfl⟩; refine Hid.out ?_))
 refine Lib.hid ?_
 go_wp2_with (first | (go_at_call 107; refine (a7e _ k n k' n' s s' _ _ _ _ (by simp) (((a1p _ _ _ (by simp) (by simp) _ _ _ _ _ _).alloc _).alloc _) h).mono ?_; rintro e w' ⟨rfl, rfl⟩))
 refine bodyPost_ret (v := .tuple #[val 0 0 ⟨#[]⟩, .int .i64 3]) (by simp [results, Tryz.results129, go_sem]) rfl ⟨rfl, ?_⟩
 repeat (first | exact Below.refl _ _ | refine a0c ?_ _)
theorem a8x (op : Int) (k n k' n' : Int) (s s' : ByteArray) (w : World) (g : (k == 2) = false) (h : (k == 3) = true) (h' : (k' == 3) = false) :
  Calls Tryz.prog 129 #[.int .i64 op, val k n s, val k' n' s'] w fun e w' => e = .returned (.tuple #[val 0 0 ⟨#[]⟩, .int .i64 3]) ∧ Below w.heap.size w w' := by
 have hmf := hmf
 go_enter Tryz.func129, Tryz.ntmps129
 go_wp2_with (first | (go_at_call 92; go_in) | (go_at_call 107; refine (a7e _ k n k' n' s s' _ _ _ _ (by simp) (a1p _ _ _ (by simp) (by simp) _ _ _ _ _ _) g).mono ?_; rintro e w' ⟨rfl, rfl⟩; refine Hid.out ?_))
 refine Lib.hid ?_
 go_wp2_with (first | (go_at_call 107; refine (b8f _ k n k' n' s s' _ _ _ _ (by simp) (((a1p _ _ _ (by simp) (by simp) _ _ _ _ _ _).alloc _).alloc _) h h').mono ?_; rintro e w' ⟨rfl, rfl⟩))
 refine bodyPost_ret (v := .tuple #[val 0 0 ⟨#[]⟩, .int .i64 3]) (by simp [results, Tryz.results129, go_sem]) rfl ⟨rfl, ?_⟩
 repeat (first | exact Below.refl _ _ | refine a0c ?_ _)
theorem a8y (op : Int) (k n k' n' : Int) (s s' : ByteArray) (w : World) (g : (k == 2) = true) (g' : (k' == 2) = false) (h : (k == 3) = false) :
  Calls Tryz.prog 129 #[.int .i64 op, val k n s, val k' n' s'] w fun e w' => e = .returned (.tuple #[val 0 0 ⟨#[]⟩, .int .i64 3]) ∧ Below w.heap.size w w' := by
 have hmf := hmf
 go_enter Tryz.func129, Tryz.ntmps129
 go_wp2_with (first | (go_at_call 92; go_in) | (go_at_call 107; refine (b8f _ k n k' n' s s' _ _ _ _ (by simp) (a1p _ _ _ (by simp) (by simp) _ _ _ _ _ _) g g').mono ?_; rintro e w' ⟨rfl, rfl⟩; refine Hid.out ?_))
 refine Lib.hid ?_
 go_wp2_with (first | (go_at_call 107; refine (a7e _ k n k' n' s s' _ _ _ _ (by simp) ((((a1p _ _ _ (by simp) (by simp) _ _ _ _ _ _).alloc _).alloc _).alloc _) h).mono ?_; rintro e w' ⟨rfl, rfl⟩))
 refine bodyPost_ret (v := .tuple #[val 0 0 ⟨#[]⟩, .int .i64 3]) (by simp [results, Tryz.results129, go_sem]) rfl ⟨rfl, ?_⟩
 repeat (first | exact Below.refl _ _ | refine a0c ?_ _)
end Go.Proofs.YthpgbienakcbeaaGreatDoor
