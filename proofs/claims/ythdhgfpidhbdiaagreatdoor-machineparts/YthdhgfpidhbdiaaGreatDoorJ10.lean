/- Walks of the value package, on the way to the statements of chapter 1. -/
import Derived.Test.YthdhgfpidhbdiaaGreatDoorJ08
namespace Go.Proofs.YthdhgfpidhbdiaaGreatDoor
open Go.RowKit
open Go

theorem asks2_0 (w : World) (c v : Nat) (hv : v = w.heap.size) (hc : c = w.heap.size + 1) (k n k' n' : Int) (s s' : ByteArray) : Asks2 c v k n k' n' s s'
    ((w.alloc (.cells #[.int .i64 k, .int .i64 n, .string s, .int .i64 k', .int .i64 n', .string s'] 30)).alloc (.cells #[.slice (some ⟨v, 0, none⟩) 2 2] 48)) := by
  subst hv; subst hc
  constructor
  · rw [World.cell?_alloc_at _ _ _ _ (by simp)]; rfl
  all_goals rw [World.cell?_alloc_past _ _ _ (by simp), World.cell?_alloc_at _ _ _ _ rfl]; rfl

theorem ask21t (y k n k' n' : Int) (s s' : ByteArray) (b c v : Nat) (w : World) (hb : b = w.heap.size) (ha : Asks2 c v k n k' n' s s' w) (h : (k == y) = true) (h' : (k' == y) = true) :
    Calls Tryz.prog 107 #[.slice (some ⟨b, 0, none⟩) 1 1, .pointer (some ⟨c, 0, none⟩)] (w.alloc (.cells #[.int .i64 y] 3)) fun e w' => e = .returned (.bool true) ∧ w' = ((w.alloc (.cells #[.int .i64 y] 3)).alloc (box k n s)).alloc (box k' n' s') :=
  each21t b c v y k n k' n' s s' _ (by rw [World.cell?_alloc_at _ _ _ _ hb]; rfl) (ha.alloc _) h h'
theorem ask21f (y k n k' n' : Int) (s s' : ByteArray) (b c v : Nat) (w : World) (hb : b = w.heap.size) (ha : Asks2 c v k n k' n' s s' w) (h : (k == y) = false) :
    Calls Tryz.prog 107 #[.slice (some ⟨b, 0, none⟩) 1 1, .pointer (some ⟨c, 0, none⟩)] (w.alloc (.cells #[.int .i64 y] 3)) fun e w' => e = .returned (.bool false) ∧ w' = (w.alloc (.cells #[.int .i64 y] 3)).alloc (box k n s) :=
  each21f b c v y k n k' n' s s' _ (by rw [World.cell?_alloc_at _ _ _ _ hb]; rfl) (ha.alloc _) h
theorem ask21g (y k n k' n' : Int) (s s' : ByteArray) (b c v : Nat) (w : World) (hb : b = w.heap.size) (ha : Asks2 c v k n k' n' s s' w) (h : (k == y) = true) (h' : (k' == y) = false) :
    Calls Tryz.prog 107 #[.slice (some ⟨b, 0, none⟩) 1 1, .pointer (some ⟨c, 0, none⟩)] (w.alloc (.cells #[.int .i64 y] 3)) fun e w' => e = .returned (.bool false) ∧ w' = ((w.alloc (.cells #[.int .i64 y] 3)).alloc (box k n s)).alloc (box k' n' s') :=
  each21g b c v y k n k' n' s s' _ (by rw [World.cell?_alloc_at _ _ _ _ hb]; rfl) (ha.alloc _) h h'
theorem ask22t (y z k n k' n' : Int) (s s' : ByteArray) (b c v : Nat) (w : World) (hb : b = w.heap.size) (ha : Asks2 c v k n k' n' s s' w) (h : (k == y || k == z) = true) (h' : (k' == y || k' == z) = true) :
    Calls Tryz.prog 107 #[.slice (some ⟨b, 0, none⟩) 2 2, .pointer (some ⟨c, 0, none⟩)] (w.alloc (.cells #[.int .i64 y, .int .i64 z] 3)) fun e w' => e = .returned (.bool true) ∧ w' = ((w.alloc (.cells #[.int .i64 y, .int .i64 z] 3)).alloc (box k n s)).alloc (box k' n' s') :=
  each22t b c v y z k n k' n' s s' _ (by rw [World.cell?_alloc_at _ _ _ _ hb]; rfl) (by rw [World.cell?_alloc_at _ _ _ _ hb]; rfl) (ha.alloc _) h h'
theorem ask22f (y z k n k' n' : Int) (s s' : ByteArray) (b c v : Nat) (w : World) (hb : b = w.heap.size) (ha : Asks2 c v k n k' n' s s' w) (h : (k == y || k == z) = false) :
    Calls Tryz.prog 107 #[.slice (some ⟨b, 0, none⟩) 2 2, .pointer (some ⟨c, 0, none⟩)] (w.alloc (.cells #[.int .i64 y, .int .i64 z] 3)) fun e w' => e = .returned (.bool false) ∧ w' = (w.alloc (.cells #[.int .i64 y, .int .i64 z] 3)).alloc (box k n s) :=
  each22f b c v y z k n k' n' s s' _ (by rw [World.cell?_alloc_at _ _ _ _ hb]; rfl) (by rw [World.cell?_alloc_at _ _ _ _ hb]; rfl) (ha.alloc _) h
theorem ask22g (y z k n k' n' : Int) (s s' : ByteArray) (b c v : Nat) (w : World) (hb : b = w.heap.size) (ha : Asks2 c v k n k' n' s s' w) (h : (k == y || k == z) = true) (h' : (k' == y || k' == z) = false) :
    Calls Tryz.prog 107 #[.slice (some ⟨b, 0, none⟩) 2 2, .pointer (some ⟨c, 0, none⟩)] (w.alloc (.cells #[.int .i64 y, .int .i64 z] 3)) fun e w' => e = .returned (.bool false) ∧ w' = ((w.alloc (.cells #[.int .i64 y, .int .i64 z] 3)).alloc (box k n s)).alloc (box k' n' s') :=
  each22g b c v y z k n k' n' s s' _ (by rw [World.cell?_alloc_at _ _ _ _ hb]; rfl) (by rw [World.cell?_alloc_at _ _ _ _ hb]; rfl) (ha.alloc _) h h'

set_option maxHeartbeats 800000 in
theorem reckon_f (op : Int) (k n k' n' : Int) (s s' : ByteArray) (w : World) (h : (k == 2) = false) :
    Calls Tryz.prog 128 #[.int .i64 op, val k n s, val k' n' s'] w fun e w' => e = .returned (.tuple #[val 0 0 ⟨#[]⟩, .int .i64 3]) ∧ Below w.heap.size w w' := by
  have hmf := hmf
  go_enter Tryz.func128, Tryz.ntmps128
  go_wp2_with (first | (go_at_call 92; go_in) | (go_at_call 107; refine (ask21f _ k n k' n' s s' _ _ _ _ (by simp) (asks2_0 _ _ _ (by simp) (by simp) _ _ _ _ _ _) h).mono ?_; rintro e w' ⟨rfl, rfl⟩))
  refine bodyPost_ret (v := .tuple #[val 0 0 ⟨#[]⟩, .int .i64 3]) (by simp [results, Tryz.results128, go_sem]) rfl ⟨rfl, ?_⟩
  repeat (first | exact Below.refl _ _ | refine ext_alloc ?_ _)

set_option maxHeartbeats 800000 in
theorem reckon_g (op : Int) (k n k' n' : Int) (s s' : ByteArray) (w : World) (h : (k == 2) = true) (h' : (k' == 2) = false) :
    Calls Tryz.prog 128 #[.int .i64 op, val k n s, val k' n' s'] w fun e w' => e = .returned (.tuple #[val 0 0 ⟨#[]⟩, .int .i64 3]) ∧ Below w.heap.size w w' := by
  have hmf := hmf
  go_enter Tryz.func128, Tryz.ntmps128
  go_wp2_with (first | (go_at_call 92; go_in) | (go_at_call 107; refine (ask21g _ k n k' n' s s' _ _ _ _ (by simp) (asks2_0 _ _ _ (by simp) (by simp) _ _ _ _ _ _) h h').mono ?_; rintro e w' ⟨rfl, rfl⟩))
  refine bodyPost_ret (v := .tuple #[val 0 0 ⟨#[]⟩, .int .i64 3]) (by simp [results, Tryz.results128, go_sem]) rfl ⟨rfl, ?_⟩
  repeat (first | exact Below.refl _ _ | refine ext_alloc ?_ _)

set_option maxHeartbeats 800000 in
theorem reckon_add (k n k' n' : Int) (s s' : ByteArray) (w : World) (h : (k == 2) = true) (h' : (k' == 2) = true) :
    Calls Tryz.prog 128 #[.int .i64 1, val k n s, val k' n' s'] w fun e w' => e = .returned (.tuple #[val 2 (wrap64 (n + n')) ⟨#[]⟩, .int .i64 0]) ∧ Below w.heap.size w w' := by
  have hmf := hmf
  go_enter Tryz.func128, Tryz.ntmps128
  go_wp2_with (first | (go_at_call 92; go_in) | (go_at_call 107; refine (ask21t _ k n k' n' s s' _ _ _ _ (by simp) (asks2_0 _ _ _ (by simp) (by simp) _ _ _ _ _ _) h h').mono ?_; rintro e w' ⟨rfl, rfl⟩) | (go_at_call 118; refine (vnumber_any _ _).mono ?_; rintro e w' ⟨rfl, rfl⟩))
  refine bodyPost_ret (v := .tuple #[val 2 (wrap64 (n + n')) ⟨#[]⟩, .int .i64 0]) (by simp [results, Tryz.results128, go_sem]) rfl ⟨rfl, ?_⟩
  repeat (first | exact Below.refl _ _ | refine ext_alloc ?_ _)

set_option maxHeartbeats 800000 in
theorem reckon_sub (k n k' n' : Int) (s s' : ByteArray) (w : World) (h : (k == 2) = true) (h' : (k' == 2) = true) :
    Calls Tryz.prog 128 #[.int .i64 2, val k n s, val k' n' s'] w fun e w' => e = .returned (.tuple #[val 2 (wrap64 (n - n')) ⟨#[]⟩, .int .i64 0]) ∧ Below w.heap.size w w' := by
  have hmf := hmf
  go_enter Tryz.func128, Tryz.ntmps128
  go_wp2_with (first | (go_at_call 92; go_in) | (go_at_call 107; refine (ask21t _ k n k' n' s s' _ _ _ _ (by simp) (asks2_0 _ _ _ (by simp) (by simp) _ _ _ _ _ _) h h').mono ?_; rintro e w' ⟨rfl, rfl⟩) | (go_at_call 118; refine (vnumber_any _ _).mono ?_; rintro e w' ⟨rfl, rfl⟩))
  refine bodyPost_ret (v := .tuple #[val 2 (wrap64 (n - n')) ⟨#[]⟩, .int .i64 0]) (by simp [results, Tryz.results128, go_sem]) rfl ⟨rfl, ?_⟩
  repeat (first | exact Below.refl _ _ | refine ext_alloc ?_ _)

set_option maxHeartbeats 800000 in
theorem reckon_mul (k n k' n' : Int) (s s' : ByteArray) (w : World) (h : (k == 2) = true) (h' : (k' == 2) = true) :
    Calls Tryz.prog 128 #[.int .i64 3, val k n s, val k' n' s'] w fun e w' => e = .returned (.tuple #[val 2 (wrap64 (n * n')) ⟨#[]⟩, .int .i64 0]) ∧ Below w.heap.size w w' := by
  have hmf := hmf
  go_enter Tryz.func128, Tryz.ntmps128
  go_wp2_with (first | (go_at_call 92; go_in) | (go_at_call 107; refine (ask21t _ k n k' n' s s' _ _ _ _ (by simp) (asks2_0 _ _ _ (by simp) (by simp) _ _ _ _ _ _) h h').mono ?_; rintro e w' ⟨rfl, rfl⟩) | (go_at_call 118; refine (vnumber_any _ _).mono ?_; rintro e w' ⟨rfl, rfl⟩))
  refine bodyPost_ret (v := .tuple #[val 2 (wrap64 (n * n')) ⟨#[]⟩, .int .i64 0]) (by simp [results, Tryz.results128, go_sem]) rfl ⟨rfl, ?_⟩
  repeat (first | exact Below.refl _ _ | refine ext_alloc ?_ _)

set_option maxHeartbeats 800000 in
theorem reckon_div0 (k n k' n' : Int) (s s' : ByteArray) (w : World) (h : (k == 2) = true) (h' : (k' == 2) = true) (hz : (n' == 0) = true) :
    Calls Tryz.prog 128 #[.int .i64 4, val k n s, val k' n' s'] w fun e w' => e = .returned (.tuple #[val 0 0 ⟨#[]⟩, .int .i64 7]) ∧ Below w.heap.size w w' := by
  have hmf := hmf
  go_enter Tryz.func128, Tryz.ntmps128
  go_wp2_with (first | (go_at_call 92; go_in) | (go_at_call 107; refine (ask21t _ k n k' n' s s' _ _ _ _ (by simp) (asks2_0 _ _ _ (by simp) (by simp) _ _ _ _ _ _) h h').mono ?_; rintro e w' ⟨rfl, rfl⟩))
  refine bodyPost_ret (v := .tuple #[val 0 0 ⟨#[]⟩, .int .i64 7]) (by simp [results, Tryz.results128, go_sem]) rfl ⟨rfl, ?_⟩
  repeat (first | exact Below.refl _ _ | refine ext_alloc ?_ _)

set_option maxHeartbeats 800000 in
theorem reckon_mod0 (k n k' n' : Int) (s s' : ByteArray) (w : World) (h : (k == 2) = true) (h' : (k' == 2) = true) (hz : (n' == 0) = true) :
    Calls Tryz.prog 128 #[.int .i64 5, val k n s, val k' n' s'] w fun e w' => e = .returned (.tuple #[val 0 0 ⟨#[]⟩, .int .i64 7]) ∧ Below w.heap.size w w' := by
  have hmf := hmf
  go_enter Tryz.func128, Tryz.ntmps128
  go_wp2_with (first | (go_at_call 92; go_in) | (go_at_call 107; refine (ask21t _ k n k' n' s s' _ _ _ _ (by simp) (asks2_0 _ _ _ (by simp) (by simp) _ _ _ _ _ _) h h').mono ?_; rintro e w' ⟨rfl, rfl⟩))
  refine bodyPost_ret (v := .tuple #[val 0 0 ⟨#[]⟩, .int .i64 7]) (by simp [results, Tryz.results128, go_sem]) rfl ⟨rfl, ?_⟩
  repeat (first | exact Below.refl _ _ | refine ext_alloc ?_ _)

set_option maxHeartbeats 800000 in
theorem reckon_div (k n k' n' : Int) (s s' : ByteArray) (w : World) (h : (k == 2) = true) (h' : (k' == 2) = true) (hz : (n' == 0) = false) :
    Calls Tryz.prog 128 #[.int .i64 4, val k n s, val k' n' s'] w fun e w' => e = .returned (.tuple #[val 2 (divV n n') ⟨#[]⟩, .int .i64 0]) ∧ Below w.heap.size w w' := by
  have hmf := hmf
  go_enter Tryz.func128, Tryz.ntmps128
  go_wp2_with (first | (go_at_call 92; go_in) | (go_at_call 107; refine (ask21t _ k n k' n' s s' _ _ _ _ (by simp) (asks2_0 _ _ _ (by simp) (by simp) _ _ _ _ _ _) h h').mono ?_; rintro e w' ⟨rfl, rfl⟩) | (go_at_call 118; refine (vnumber_any _ _).mono ?_; rintro e w' ⟨rfl, rfl⟩) | (go_at_call 133; refine (floor_any _ _ _ hz).mono ?_; rintro e w' ⟨rfl, rfl⟩))
  refine bodyPost_ret (v := .tuple #[val 2 (divV n n') ⟨#[]⟩, .int .i64 0]) (by simp [results, Tryz.results128, go_sem]) rfl ⟨rfl, ?_⟩
  repeat (first | exact Below.refl _ _ | refine ext_alloc ?_ _)

set_option maxHeartbeats 800000 in
theorem reckon_mod (k n k' n' : Int) (s s' : ByteArray) (w : World) (h : (k == 2) = true) (h' : (k' == 2) = true) (hz : (n' == 0) = false) :
    Calls Tryz.prog 128 #[.int .i64 5, val k n s, val k' n' s'] w fun e w' => e = .returned (.tuple #[val 2 (modV n n') ⟨#[]⟩, .int .i64 0]) ∧ Below w.heap.size w w' := by
  have hmf := hmf
  go_enter Tryz.func128, Tryz.ntmps128
  go_wp2_with (first | (go_at_call 92; go_in) | (go_at_call 107; refine (ask21t _ k n k' n' s s' _ _ _ _ (by simp) (asks2_0 _ _ _ (by simp) (by simp) _ _ _ _ _ _) h h').mono ?_; rintro e w' ⟨rfl, rfl⟩) | (go_at_call 118; refine (vnumber_any _ _).mono ?_; rintro e w' ⟨rfl, rfl⟩) | (go_at_call 133; refine (floor_any _ _ _ hz).mono ?_; rintro e w' ⟨rfl, rfl⟩))
  refine bodyPost_ret (v := .tuple #[val 2 (modV n n') ⟨#[]⟩, .int .i64 0]) (by simp [results, Tryz.results128, go_sem]; rfl) rfl ⟨rfl, ?_⟩
  repeat (first | exact Below.refl _ _ | refine ext_alloc ?_ _)

end Go.Proofs.YthdhgfpidhbdiaaGreatDoor
