/- Walks of the value package: the order of two values. -/
import Derived.Test.YthpgbienakcbeaaGreatDoorR08
namespace Go.Proofs.YthpgbienakcbeaaGreatDoor
open Go.RowKit Go
set_option maxRecDepth 100000
set_option maxHeartbeats 8000000
set_option linter.all false
theorem cmpi_lt (x y : Int) (w : World) (h : x < y) : Calls Tryz.prog 134 #[.int .i64 x, .int .i64 y] w fun e w' => e = .returned (.int .i64 (-1)) ∧ w' = w := by
 go_enter Tryz.func134, Tryz.ntmps134
 go_wp2
 go_ret
 exact ⟨rfl, rfl⟩
theorem cmpi_gt (x y : Int) (w : World) (h : y < x) : Calls Tryz.prog 134 #[.int .i64 x, .int .i64 y] w fun e w' => e = .returned (.int .i64 1) ∧ w' = w := by
 go_enter Tryz.func134, Tryz.ntmps134
 go_wp2
 go_ret
 exact ⟨rfl, rfl⟩
theorem cmpi_eq (x : Int) (w : World) : Calls Tryz.prog 134 #[.int .i64 x, .int .i64 x] w fun e w' => e = .returned (.int .i64 0) ∧ w' = w := by
 go_enter Tryz.func134, Tryz.ntmps134
 go_wp2
 go_ret
 exact ⟨rfl, rfl⟩
theorem cmps_lt (x y : ByteArray) (w : World) (h : Op.bytesLess x.toList y.toList = true) : Calls Tryz.prog 135 #[.string x, .string y] w fun e w' => e = .returned (.int .i64 (-1)) ∧ w' = w := by
 go_enter Tryz.func135, Tryz.ntmps135
 go_wp2
 go_ret
 exact ⟨rfl, rfl⟩
theorem cmps_gt (x y : ByteArray) (w : World) (h : Op.bytesLess x.toList y.toList = false) (h' : (x.toList == y.toList) = false) : Calls Tryz.prog 135 #[.string x, .string y] w fun e w' => e = .returned (.int .i64 1) ∧ w' = w := by
 go_enter Tryz.func135, Tryz.ntmps135
 go_wp2
 go_ret
 exact ⟨rfl, rfl⟩
theorem cmps_eq (x y : ByteArray) (w : World) (h : Op.bytesLess x.toList y.toList = false) (h' : (x.toList == y.toList) = true) : Calls Tryz.prog 135 #[.string x, .string y] w fun e w' => e = .returned (.int .i64 0) ∧ w' = w := by
 go_enter Tryz.func135, Tryz.ntmps135
 go_wp2
 go_ret
 exact ⟨rfl, rfl⟩
theorem true_any (w : World) : Calls Tryz.prog 96 #[.bool true] w fun e w' => e = .returned (val 1 1 ⟨#[]⟩) ∧ w' = w.alloc (box 1 1 ⟨#[]⟩) := boolean_any true w
theorem false_any (w : World) : Calls Tryz.prog 96 #[.bool false] w fun e w' => e = .returned (val 1 0 ⟨#[]⟩) ∧ w' = w.alloc (box 1 0 ⟨#[]⟩) := boolean_any false w
theorem order_int_ltN (op : Int) (hop : op = 8 ∨ op = 9) (k n k' n' : Int) (s s' : ByteArray) (w : World) (h : (k == 2) = true) (h' : (k' == 2) = true) (hl : n < n') :
  Calls Tryz.prog 129 #[.int .i64 op, val k n s, val k' n' s'] w fun e w' => e = .returned (.tuple #[val 1 1 ⟨#[]⟩, .int .i64 0]) ∧ Below w.heap.size w w' := by
 rcases hop with rfl | rfl
 all_goals
  have hmf := hmf
  go_enter Tryz.func129, Tryz.ntmps129
  go_wp2_with (first | (go_at_call 92; go_in) | (go_at_call 107; refine (ask21t _ k n k' n' s s' _ _ _ _ (by simp) (asks2_0 _ _ _ (by simp) (by simp) _ _ _ _ _ _) h h').mono ?_; rintro e w' ⟨rfl, rfl⟩) | (go_at_call 134; refine (cmpi_lt _ _ _ hl).mono ?_; rintro e w' ⟨rfl, rfl⟩) | (go_at_call 96; refine (true_any _).mono ?_; rintro e w' ⟨rfl, rfl⟩))
  refine bodyPost_ret (v := .tuple #[val 1 1 ⟨#[]⟩, .int .i64 0]) (by simp [results, Tryz.results129, go_sem]) rfl ⟨rfl, ?_⟩
  repeat (first | exact Below.refl _ _ | refine ext_alloc ?_ _)
abbrev order_int_lt8 := order_int_ltN 8 (by simp)
abbrev order_int_lt9 := order_int_ltN 9 (by simp)
theorem order_int_gtN (op : Int) (hop : op = 8 ∨ op = 9) (k n k' n' : Int) (s s' : ByteArray) (w : World) (h : (k == 2) = true) (h' : (k' == 2) = true) (hl : n' < n) :
  Calls Tryz.prog 129 #[.int .i64 op, val k n s, val k' n' s'] w fun e w' => e = .returned (.tuple #[val 1 0 ⟨#[]⟩, .int .i64 0]) ∧ Below w.heap.size w w' := by
 rcases hop with rfl | rfl
 all_goals
  have hmf := hmf
  go_enter Tryz.func129, Tryz.ntmps129
  go_wp2_with (first | (go_at_call 92; go_in) | (go_at_call 107; refine (ask21t _ k n k' n' s s' _ _ _ _ (by simp) (asks2_0 _ _ _ (by simp) (by simp) _ _ _ _ _ _) h h').mono ?_; rintro e w' ⟨rfl, rfl⟩) | (go_at_call 134; refine (cmpi_gt _ _ _ hl).mono ?_; rintro e w' ⟨rfl, rfl⟩) | (go_at_call 96; refine (false_any _).mono ?_; rintro e w' ⟨rfl, rfl⟩))
  refine bodyPost_ret (v := .tuple #[val 1 0 ⟨#[]⟩, .int .i64 0]) (by simp [results, Tryz.results129, go_sem]) rfl ⟨rfl, ?_⟩
  repeat (first | exact Below.refl _ _ | refine ext_alloc ?_ _)
abbrev order_int_gt8 := order_int_gtN 8 (by simp)
abbrev order_int_gt9 := order_int_gtN 9 (by simp)
theorem order_int_eq8 (k n k' : Int) (s s' : ByteArray) (w : World) (h : (k == 2) = true) (h' : (k' == 2) = true) :
  Calls Tryz.prog 129 #[.int .i64 8, val k n s, val k' n s'] w fun e w' => e = .returned (.tuple #[val 1 0 ⟨#[]⟩, .int .i64 0]) ∧ Below w.heap.size w w' := by
 have hmf := hmf
 go_enter Tryz.func129, Tryz.ntmps129
 go_wp2_with (first | (go_at_call 92; go_in) | (go_at_call 107; refine (ask21t _ k n k' n s s' _ _ _ _ (by simp) (asks2_0 _ _ _ (by simp) (by simp) _ _ _ _ _ _) h h').mono ?_; rintro e w' ⟨rfl, rfl⟩) | (go_at_call 134; refine (cmpi_eq _ _).mono ?_; rintro e w' ⟨rfl, rfl⟩) | (go_at_call 96; refine (false_any _).mono ?_; rintro e w' ⟨rfl, rfl⟩))
 refine bodyPost_ret (v := .tuple #[val 1 0 ⟨#[]⟩, .int .i64 0]) (by simp [results, Tryz.results129, go_sem]) rfl ⟨rfl, ?_⟩
 repeat (first | exact Below.refl _ _ | refine ext_alloc ?_ _)
theorem order_txt_ltN (op : Int) (hop : op = 8 ∨ op = 9) (k n k' n' : Int) (s s' : ByteArray) (w : World) (h : (k == 3) = true) (h' : (k' == 3) = true) (g : (k == 2) = false) (hl : Op.bytesLess s.toList s'.toList = true) :
  Calls Tryz.prog 129 #[.int .i64 op, val k n s, val k' n' s'] w fun e w' => e = .returned (.tuple #[val 1 1 ⟨#[]⟩, .int .i64 0]) ∧ Below w.heap.size w w' := by
 rcases hop with rfl | rfl
 all_goals
  have hmf := hmf
  go_enter Tryz.func129, Tryz.ntmps129
  go_wp2_with (first | (go_at_call 92; go_in) | (go_at_call 107; refine (ask21f _ k n k' n' s s' _ _ _ _ (by simp) (asks2_0 _ _ _ (by simp) (by simp) _ _ _ _ _ _) g).mono ?_; rintro e w' ⟨rfl, rfl⟩; refine Hid.out ?_))
  refine Lib.hid ?_
  go_wp2_with (first | (go_at_call 107; refine (ask21t _ k n k' n' s s' _ _ _ _ (by simp) (((asks2_0 _ _ _ (by simp) (by simp) _ _ _ _ _ _).alloc _).alloc _) h h').mono ?_; rintro e w' ⟨rfl, rfl⟩) | (go_at_call 135; refine (cmps_lt _ _ _ hl).mono ?_; rintro e w' ⟨rfl, rfl⟩) | (go_at_call 96; refine (true_any _).mono ?_; rintro e w' ⟨rfl, rfl⟩))
  refine bodyPost_ret (v := .tuple #[val 1 1 ⟨#[]⟩, .int .i64 0]) (by simp [results, Tryz.results129, go_sem]) rfl ⟨rfl, ?_⟩
  repeat (first | exact Below.refl _ _ | refine ext_alloc ?_ _)
abbrev order_txt_lt8 := order_txt_ltN 8 (by simp)
abbrev order_txt_lt9 := order_txt_ltN 9 (by simp)
theorem order_txt_gtN (op : Int) (hop : op = 8 ∨ op = 9) (k n k' n' : Int) (s s' : ByteArray) (w : World) (h : (k == 3) = true) (h' : (k' == 3) = true) (g : (k == 2) = false) (hl : Op.bytesLess s.toList s'.toList = false) (he : (s.toList == s'.toList) = false) :
  Calls Tryz.prog 129 #[.int .i64 op, val k n s, val k' n' s'] w fun e w' => e = .returned (.tuple #[val 1 0 ⟨#[]⟩, .int .i64 0]) ∧ Below w.heap.size w w' := by
 rcases hop with rfl | rfl
 all_goals
  have hmf := hmf
  go_enter Tryz.func129, Tryz.ntmps129
  go_wp2_with (first | (go_at_call 92; go_in) | (go_at_call 107; refine (ask21f _ k n k' n' s s' _ _ _ _ (by simp) (asks2_0 _ _ _ (by simp) (by simp) _ _ _ _ _ _) g).mono ?_; rintro e w' ⟨rfl, rfl⟩; refine Hid.out ?_))
  refine Lib.hid ?_
  go_wp2_with (first | (go_at_call 107; refine (ask21t _ k n k' n' s s' _ _ _ _ (by simp) (((asks2_0 _ _ _ (by simp) (by simp) _ _ _ _ _ _).alloc _).alloc _) h h').mono ?_; rintro e w' ⟨rfl, rfl⟩) | (go_at_call 135; refine (cmps_gt _ _ _ hl he).mono ?_; rintro e w' ⟨rfl, rfl⟩) | (go_at_call 96; refine (false_any _).mono ?_; rintro e w' ⟨rfl, rfl⟩))
  refine bodyPost_ret (v := .tuple #[val 1 0 ⟨#[]⟩, .int .i64 0]) (by simp [results, Tryz.results129, go_sem]) rfl ⟨rfl, ?_⟩
  repeat (first | exact Below.refl _ _ | refine ext_alloc ?_ _)
abbrev order_txt_gt8 := order_txt_gtN 8 (by simp)
abbrev order_txt_gt9 := order_txt_gtN 9 (by simp)
theorem order_txt_eq8 (k n k' n' : Int) (s s' : ByteArray) (w : World) (h : (k == 3) = true) (h' : (k' == 3) = true) (g : (k == 2) = false) (hl : Op.bytesLess s.toList s'.toList = false) (he : (s.toList == s'.toList) = true) :
  Calls Tryz.prog 129 #[.int .i64 8, val k n s, val k' n' s'] w fun e w' => e = .returned (.tuple #[val 1 0 ⟨#[]⟩, .int .i64 0]) ∧ Below w.heap.size w w' := by
 have hmf := hmf
 go_enter Tryz.func129, Tryz.ntmps129
 go_wp2_with (first | (go_at_call 92; go_in) | (go_at_call 107; refine (ask21f _ k n k' n' s s' _ _ _ _ (by simp) (asks2_0 _ _ _ (by simp) (by simp) _ _ _ _ _ _) g).mono ?_; rintro e w' ⟨rfl, rfl⟩; refine Hid.out ?_))
 refine Lib.hid ?_
 go_wp2_with (first | (go_at_call 107; refine (ask21t _ k n k' n' s s' _ _ _ _ (by simp) (((asks2_0 _ _ _ (by simp) (by simp) _ _ _ _ _ _).alloc _).alloc _) h h').mono ?_; rintro e w' ⟨rfl, rfl⟩) | (go_at_call 135; refine (cmps_eq _ _ _ hl he).mono ?_; rintro e w' ⟨rfl, rfl⟩) | (go_at_call 96; refine (false_any _).mono ?_; rintro e w' ⟨rfl, rfl⟩))
 refine bodyPost_ret (v := .tuple #[val 1 0 ⟨#[]⟩, .int .i64 0]) (by simp [results, Tryz.results129, go_sem]) rfl ⟨rfl, ?_⟩
 repeat (first | exact Below.refl _ _ | refine ext_alloc ?_ _)
theorem order_int_eq9 (k n k' : Int) (s s' : ByteArray) (w : World) (h : (k == 2) = true) (h' : (k' == 2) = true) :
  Calls Tryz.prog 129 #[.int .i64 9, val k n s, val k' n s'] w fun e w' => e = .returned (.tuple #[val 1 1 ⟨#[]⟩, .int .i64 0]) ∧ Below w.heap.size w w' := by
 have hmf := hmf
 go_enter Tryz.func129, Tryz.ntmps129
 go_wp2_with (first | (go_at_call 92; go_in) | (go_at_call 107; refine (ask21t _ k n k' n s s' _ _ _ _ (by simp) (asks2_0 _ _ _ (by simp) (by simp) _ _ _ _ _ _) h h').mono ?_; rintro e w' ⟨rfl, rfl⟩) | (go_at_call 134; refine (cmpi_eq _ _).mono ?_; rintro e w' ⟨rfl, rfl⟩) | (go_at_call 96; refine (true_any _).mono ?_; rintro e w' ⟨rfl, rfl⟩))
 refine bodyPost_ret (v := .tuple #[val 1 1 ⟨#[]⟩, .int .i64 0]) (by simp [results, Tryz.results129, go_sem]) rfl ⟨rfl, ?_⟩
 repeat (first | exact Below.refl _ _ | refine ext_alloc ?_ _)
theorem order_txt_eq9 (k n k' n' : Int) (s s' : ByteArray) (w : World) (h : (k == 3) = true) (h' : (k' == 3) = true) (g : (k == 2) = false) (hl : Op.bytesLess s.toList s'.toList = false) (he : (s.toList == s'.toList) = true) :
  Calls Tryz.prog 129 #[.int .i64 9, val k n s, val k' n' s'] w fun e w' => e = .returned (.tuple #[val 1 1 ⟨#[]⟩, .int .i64 0]) ∧ Below w.heap.size w w' := by
 have hmf := hmf
 go_enter Tryz.func129, Tryz.ntmps129
 go_wp2_with (first | (go_at_call 92; go_in) | (go_at_call 107; refine (ask21f _ k n k' n' s s' _ _ _ _ (by simp) (asks2_0 _ _ _ (by simp) (by simp) _ _ _ _ _ _) g).mono ?_; rintro e w' ⟨rfl, rfl⟩; refine Hid.out ?_))
 refine Lib.hid ?_
 go_wp2_with (first | (go_at_call 107; refine (ask21t _ k n k' n' s s' _ _ _ _ (by simp) (((asks2_0 _ _ _ (by simp) (by simp) _ _ _ _ _ _).alloc _).alloc _) h h').mono ?_; rintro e w' ⟨rfl, rfl⟩) | (go_at_call 135; refine (cmps_eq _ _ _ hl he).mono ?_; rintro e w' ⟨rfl, rfl⟩) | (go_at_call 96; refine (true_any _).mono ?_; rintro e w' ⟨rfl, rfl⟩))
 refine bodyPost_ret (v := .tuple #[val 1 1 ⟨#[]⟩, .int .i64 0]) (by simp [results, Tryz.results129, go_sem]) rfl ⟨rfl, ?_⟩
 repeat (first | exact Below.refl _ _ | refine ext_alloc ?_ _)
theorem order_ff (op : Int) (k n k' n' : Int) (s s' : ByteArray) (w : World) (g : (k == 2) = false) (h : (k == 3) = false) :
  Calls Tryz.prog 129 #[.int .i64 op, val k n s, val k' n' s'] w fun e w' => e = .returned (.tuple #[val 0 0 ⟨#[]⟩, .int .i64 3]) ∧ Below w.heap.size w w' := by
 have hmf := hmf
 go_enter Tryz.func129, Tryz.ntmps129
 go_wp2_with (first | (go_at_call 92; go_in) | (go_at_call 107; refine (ask21f _ k n k' n' s s' _ _ _ _ (by simp) (asks2_0 _ _ _ (by simp) (by simp) _ _ _ _ _ _) g).mono ?_; rintro e w' ⟨rfl, rfl⟩; refine Hid.out ?_))
 refine Lib.hid ?_
 go_wp2_with (first | (go_at_call 107; refine (ask21f _ k n k' n' s s' _ _ _ _ (by simp) (((asks2_0 _ _ _ (by simp) (by simp) _ _ _ _ _ _).alloc _).alloc _) h).mono ?_; rintro e w' ⟨rfl, rfl⟩))
 refine bodyPost_ret (v := .tuple #[val 0 0 ⟨#[]⟩, .int .i64 3]) (by simp [results, Tryz.results129, go_sem]) rfl ⟨rfl, ?_⟩
 repeat (first | exact Below.refl _ _ | refine ext_alloc ?_ _)
theorem order_fg (op : Int) (k n k' n' : Int) (s s' : ByteArray) (w : World) (g : (k == 2) = false) (h : (k == 3) = true) (h' : (k' == 3) = false) :
  Calls Tryz.prog 129 #[.int .i64 op, val k n s, val k' n' s'] w fun e w' => e = .returned (.tuple #[val 0 0 ⟨#[]⟩, .int .i64 3]) ∧ Below w.heap.size w w' := by
 have hmf := hmf
 go_enter Tryz.func129, Tryz.ntmps129
 go_wp2_with (first | (go_at_call 92; go_in) | (go_at_call 107; refine (ask21f _ k n k' n' s s' _ _ _ _ (by simp) (asks2_0 _ _ _ (by simp) (by simp) _ _ _ _ _ _) g).mono ?_; rintro e w' ⟨rfl, rfl⟩; refine Hid.out ?_))
 refine Lib.hid ?_
 go_wp2_with (first | (go_at_call 107; refine (ask21g _ k n k' n' s s' _ _ _ _ (by simp) (((asks2_0 _ _ _ (by simp) (by simp) _ _ _ _ _ _).alloc _).alloc _) h h').mono ?_; rintro e w' ⟨rfl, rfl⟩))
 refine bodyPost_ret (v := .tuple #[val 0 0 ⟨#[]⟩, .int .i64 3]) (by simp [results, Tryz.results129, go_sem]) rfl ⟨rfl, ?_⟩
 repeat (first | exact Below.refl _ _ | refine ext_alloc ?_ _)
theorem order_gf (op : Int) (k n k' n' : Int) (s s' : ByteArray) (w : World) (g : (k == 2) = true) (g' : (k' == 2) = false) (h : (k == 3) = false) :
  Calls Tryz.prog 129 #[.int .i64 op, val k n s, val k' n' s'] w fun e w' => e = .returned (.tuple #[val 0 0 ⟨#[]⟩, .int .i64 3]) ∧ Below w.heap.size w w' := by
 have hmf := hmf
 go_enter Tryz.func129, Tryz.ntmps129
 go_wp2_with (first | (go_at_call 92; go_in) | (go_at_call 107; refine (ask21g _ k n k' n' s s' _ _ _ _ (by simp) (asks2_0 _ _ _ (by simp) (by simp) _ _ _ _ _ _) g g').mono ?_; rintro e w' ⟨rfl, rfl⟩; refine Hid.out ?_))
 refine Lib.hid ?_
 go_wp2_with (first | (go_at_call 107; refine (ask21f _ k n k' n' s s' _ _ _ _ (by simp) ((((asks2_0 _ _ _ (by simp) (by simp) _ _ _ _ _ _).alloc _).alloc _).alloc _) h).mono ?_; rintro e w' ⟨rfl, rfl⟩))
 refine bodyPost_ret (v := .tuple #[val 0 0 ⟨#[]⟩, .int .i64 3]) (by simp [results, Tryz.results129, go_sem]) rfl ⟨rfl, ?_⟩
 repeat (first | exact Below.refl _ _ | refine ext_alloc ?_ _)
end Go.Proofs.YthpgbienakcbeaaGreatDoor
