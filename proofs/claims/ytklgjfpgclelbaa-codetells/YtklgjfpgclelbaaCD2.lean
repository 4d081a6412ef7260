/- The document's instr: an order at its place. -/
import Derived.Test.YtklgjfpgclelbaaCD
namespace Go.Proofs.Ytklgjfpgclelbaa
open Go.RowKit
open Go

set_option maxRecDepth 100000 in
set_option maxHeartbeats 1000000 in
theorem ri_9_0 (f : Fd) (a b c : Int) (i : Nat) (w : World) (h0 : (belB a f.r) = false) :
    Calls Try.prog 15 #[f.v, .agg #[.int .i64 9, .int .i64 a, .int .i64 b, .int .i64 c], .int .i64 i] w fun e w' => e = .returned (.bool false) ∧ Below w.heap.size w w' := by
  go_enter Try.func15, Try.ntmps15
  go_wp2_with (go_at_call 19; refine (rreg_any f _ _).mono ?_; (first | rw [h0] | skip); rintro e w' ⟨rfl, rfl⟩)
  go_ret
  refine ⟨ret_bool (by simp_all), ?_⟩
  repeat (first | exact Below.refl _ _ | refine ext_alloc ?_ _)
set_option maxRecDepth 100000 in
set_option maxHeartbeats 1000000 in
theorem ri_9_1 (f : Fd) (a b c : Int) (i : Nat) (w : World) (h0 : (belB a f.r) = true) (h1 : (belB b f.is.length) = false) :
    Calls Try.prog 15 #[f.v, .agg #[.int .i64 9, .int .i64 a, .int .i64 b, .int .i64 c], .int .i64 i] w fun e w' => e = .returned (.bool false) ∧ Below w.heap.size w w' := by
  go_enter Try.func15, Try.ntmps15
  go_wp2_with (first | (go_at_call 19; refine (rreg_any f _ _).mono ?_; (first | rw [h0] | rw [h1] | skip); rintro e w' ⟨rfl, rfl⟩) | (go_at_call 20; refine (rord_any f _ _).mono ?_; (first | rw [h0] | rw [h1] | skip); rintro e w' ⟨rfl, rfl⟩))
  go_ret
  refine ⟨ret_bool (by simp_all), ?_⟩
  repeat (first | exact Below.refl _ _ | refine ext_alloc ?_ _)
set_option maxRecDepth 100000 in
set_option maxHeartbeats 1000000 in
theorem ri_9_2 (f : Fd) (a b c : Int) (i : Nat) (w : World) (h0 : (belB a f.r) = true) (h1 : (belB b f.is.length) = true) :
    Calls Try.prog 15 #[f.v, .agg #[.int .i64 9, .int .i64 a, .int .i64 b, .int .i64 c], .int .i64 i] w fun e w' => e = .returned (.bool (c == 0)) ∧ Below w.heap.size w w' := by
  go_enter Try.func15, Try.ntmps15
  go_wp2_with (first | (go_at_call 19; refine (rreg_any f _ _).mono ?_; (first | rw [h0] | rw [h1] | skip); rintro e w' ⟨rfl, rfl⟩) | (go_at_call 20; refine (rord_any f _ _).mono ?_; (first | rw [h0] | rw [h1] | skip); rintro e w' ⟨rfl, rfl⟩))
  go_ret
  refine ⟨ret_bool (by simp_all), ?_⟩
  repeat (first | exact Below.refl _ _ | refine ext_alloc ?_ _)
set_option maxRecDepth 100000 in
set_option maxHeartbeats 1000000 in
theorem ri_10_0 (f : Fd) (a b c : Int) (i : Nat) (w : World) (h0 : (decide (0 ≤ a)) = false) :
    Calls Try.prog 15 #[f.v, .agg #[.int .i64 10, .int .i64 a, .int .i64 b, .int .i64 c], .int .i64 i] w fun e w' => e = .returned (.bool false) ∧ Below w.heap.size w w' := by
  go_enter Try.func15, Try.ntmps15
  go_wp2
  go_ret
  refine ⟨ret_bool (by simp_all), ?_⟩
  repeat (first | exact Below.refl _ _ | refine ext_alloc ?_ _)
set_option maxRecDepth 100000 in
set_option maxHeartbeats 1000000 in
theorem ri_10_1 (f : Fd) (a b c : Int) (i : Nat) (w : World) (h0 : (decide (0 ≤ a)) = true) (h1 : (decide (a ≤ i)) = false) :
    Calls Try.prog 15 #[f.v, .agg #[.int .i64 10, .int .i64 a, .int .i64 b, .int .i64 c], .int .i64 i] w fun e w' => e = .returned (.bool false) ∧ Below w.heap.size w w' := by
  go_enter Try.func15, Try.ntmps15
  go_wp2
  go_ret
  refine ⟨ret_bool (by simp_all), ?_⟩
  repeat (first | exact Below.refl _ _ | refine ext_alloc ?_ _)
set_option maxRecDepth 100000 in
set_option maxHeartbeats 1000000 in
theorem ri_10_2 (f : Fd) (a b c : Int) (i : Nat) (w : World) (h0 : (decide (0 ≤ a)) = true) (h1 : (decide (a ≤ i)) = true) (h2 : (b == 0) = false) :
    Calls Try.prog 15 #[f.v, .agg #[.int .i64 10, .int .i64 a, .int .i64 b, .int .i64 c], .int .i64 i] w fun e w' => e = .returned (.bool false) ∧ Below w.heap.size w w' := by
  go_enter Try.func15, Try.ntmps15
  go_wp2
  go_ret
  refine ⟨ret_bool (by simp_all), ?_⟩
  repeat (first | exact Below.refl _ _ | refine ext_alloc ?_ _)
set_option maxRecDepth 100000 in
set_option maxHeartbeats 1000000 in
theorem ri_10_3 (f : Fd) (a b c : Int) (i : Nat) (w : World) (h0 : (decide (0 ≤ a)) = true) (h1 : (decide (a ≤ i)) = true) (h2 : (b == 0) = true) :
    Calls Try.prog 15 #[f.v, .agg #[.int .i64 10, .int .i64 a, .int .i64 b, .int .i64 c], .int .i64 i] w fun e w' => e = .returned (.bool (c == 0)) ∧ Below w.heap.size w w' := by
  go_enter Try.func15, Try.ntmps15
  go_wp2
  go_ret
  refine ⟨ret_bool (by simp_all), ?_⟩
  repeat (first | exact Below.refl _ _ | refine ext_alloc ?_ _)
set_option maxRecDepth 100000 in
set_option maxHeartbeats 1000000 in
theorem ri_11_0 (f : Fd) (a b c : Int) (i : Nat) (w : World) (h0 : (belB a f.r) = false) :
    Calls Try.prog 15 #[f.v, .agg #[.int .i64 11, .int .i64 a, .int .i64 b, .int .i64 c], .int .i64 i] w fun e w' => e = .returned (.bool false) ∧ Below w.heap.size w w' := by
  go_enter Try.func15, Try.ntmps15
  go_wp2_with (go_at_call 19; refine (rreg_any f _ _).mono ?_; (first | rw [h0] | skip); rintro e w' ⟨rfl, rfl⟩)
  go_ret
  refine ⟨ret_bool (by simp_all), ?_⟩
  repeat (first | exact Below.refl _ _ | refine ext_alloc ?_ _)
set_option maxRecDepth 100000 in
set_option maxHeartbeats 1000000 in
theorem ri_11_1 (f : Fd) (a b c : Int) (i : Nat) (w : World) (h0 : (belB a f.r) = true) (h1 : (belB b f.r) = false) :
    Calls Try.prog 15 #[f.v, .agg #[.int .i64 11, .int .i64 a, .int .i64 b, .int .i64 c], .int .i64 i] w fun e w' => e = .returned (.bool false) ∧ Below w.heap.size w w' := by
  go_enter Try.func15, Try.ntmps15
  go_wp2_with (go_at_call 19; refine (rreg_any f _ _).mono ?_; (first | rw [h0] | rw [h1] | skip); rintro e w' ⟨rfl, rfl⟩)
  go_ret
  refine ⟨ret_bool (by simp_all), ?_⟩
  repeat (first | exact Below.refl _ _ | refine ext_alloc ?_ _)
set_option maxRecDepth 100000 in
set_option maxHeartbeats 1000000 in
theorem ri_11_2 (f : Fd) (a b c : Int) (i : Nat) (w : World) (h0 : (belB a f.r) = true) (h1 : (belB b f.r) = true) (h2 : (decide (0 ≤ c)) = false) :
    Calls Try.prog 15 #[f.v, .agg #[.int .i64 11, .int .i64 a, .int .i64 b, .int .i64 c], .int .i64 i] w fun e w' => e = .returned (.bool false) ∧ Below w.heap.size w w' := by
  go_enter Try.func15, Try.ntmps15
  go_wp2_with (go_at_call 19; refine (rreg_any f _ _).mono ?_; (first | rw [h0] | rw [h1] | skip); rintro e w' ⟨rfl, rfl⟩)
  go_ret
  refine ⟨ret_bool (by simp_all), ?_⟩
  repeat (first | exact Below.refl _ _ | refine ext_alloc ?_ _)
set_option maxRecDepth 100000 in
set_option maxHeartbeats 1000000 in
theorem ri_11_3 (f : Fd) (a b c : Int) (i : Nat) (w : World) (h0 : (belB a f.r) = true) (h1 : (belB b f.r) = true) (h2 : (decide (0 ≤ c)) = true) (h3 : (decide (c ≤ 5)) = false) :
    Calls Try.prog 15 #[f.v, .agg #[.int .i64 11, .int .i64 a, .int .i64 b, .int .i64 c], .int .i64 i] w fun e w' => e = .returned (.bool false) ∧ Below w.heap.size w w' := by
  go_enter Try.func15, Try.ntmps15
  go_wp2_with (go_at_call 19; refine (rreg_any f _ _).mono ?_; (first | rw [h0] | rw [h1] | skip); rintro e w' ⟨rfl, rfl⟩)
  go_ret
  refine ⟨ret_bool (by simp_all), ?_⟩
  repeat (first | exact Below.refl _ _ | refine ext_alloc ?_ _)
set_option maxRecDepth 100000 in
set_option maxHeartbeats 1000000 in
theorem ri_11_4 (f : Fd) (a b c : Int) (i : Nat) (w : World) (h0 : (belB a f.r) = true) (h1 : (belB b f.r) = true) (h2 : (decide (0 ≤ c)) = true) (h3 : (decide (c ≤ 5)) = true) :
    Calls Try.prog 15 #[f.v, .agg #[.int .i64 11, .int .i64 a, .int .i64 b, .int .i64 c], .int .i64 i] w fun e w' => e = .returned (.bool (belB (wrap64 (b + c)) f.r)) ∧ Below w.heap.size w w' := by
  go_enter Try.func15, Try.ntmps15
  go_wp2_with (go_at_call 19; refine (rreg_any f _ _).mono ?_; (first | rw [h0] | rw [h1] | skip); rintro e w' ⟨rfl, rfl⟩)
  go_ret
  refine ⟨ret_bool (by simp_all), ?_⟩
  repeat (first | exact Below.refl _ _ | refine ext_alloc ?_ _)
set_option maxRecDepth 100000 in
set_option maxHeartbeats 1000000 in
theorem ri_12_0 (f : Fd) (a b c : Int) (i : Nat) (w : World) (h0 : (belB a f.r) = false) :
    Calls Try.prog 15 #[f.v, .agg #[.int .i64 12, .int .i64 a, .int .i64 b, .int .i64 c], .int .i64 i] w fun e w' => e = .returned (.bool false) ∧ Below w.heap.size w w' := by
  go_enter Try.func15, Try.ntmps15
  go_wp2_with (go_at_call 19; refine (rreg_any f _ _).mono ?_; (first | rw [h0] | skip); rintro e w' ⟨rfl, rfl⟩)
  go_ret
  refine ⟨ret_bool (by simp_all), ?_⟩
  repeat (first | exact Below.refl _ _ | refine ext_alloc ?_ _)
set_option maxRecDepth 100000 in
set_option maxHeartbeats 1000000 in
theorem ri_12_1 (f : Fd) (a b c : Int) (i : Nat) (w : World) (h0 : (belB a f.r) = true) (h1 : (b == 0) = false) :
    Calls Try.prog 15 #[f.v, .agg #[.int .i64 12, .int .i64 a, .int .i64 b, .int .i64 c], .int .i64 i] w fun e w' => e = .returned (.bool false) ∧ Below w.heap.size w w' := by
  go_enter Try.func15, Try.ntmps15
  go_wp2_with (go_at_call 19; refine (rreg_any f _ _).mono ?_; (first | rw [h0] | skip); rintro e w' ⟨rfl, rfl⟩)
  go_ret
  refine ⟨ret_bool (by simp_all), ?_⟩
  repeat (first | exact Below.refl _ _ | refine ext_alloc ?_ _)
set_option maxRecDepth 100000 in
set_option maxHeartbeats 1000000 in
theorem ri_12_2 (f : Fd) (a b c : Int) (i : Nat) (w : World) (h0 : (belB a f.r) = true) (h1 : (b == 0) = true) :
    Calls Try.prog 15 #[f.v, .agg #[.int .i64 12, .int .i64 a, .int .i64 b, .int .i64 c], .int .i64 i] w fun e w' => e = .returned (.bool (c == 0)) ∧ Below w.heap.size w w' := by
  go_enter Try.func15, Try.ntmps15
  go_wp2_with (go_at_call 19; refine (rreg_any f _ _).mono ?_; (first | rw [h0] | skip); rintro e w' ⟨rfl, rfl⟩)
  go_ret
  refine ⟨ret_bool (by simp_all), ?_⟩
  repeat (first | exact Below.refl _ _ | refine ext_alloc ?_ _)
set_option maxRecDepth 100000 in
set_option maxHeartbeats 1000000 in
theorem ri_13_0 (f : Fd) (a b c : Int) (i : Nat) (w : World) (h0 : (belB a f.r) = false) :
    Calls Try.prog 15 #[f.v, .agg #[.int .i64 13, .int .i64 a, .int .i64 b, .int .i64 c], .int .i64 i] w fun e w' => e = .returned (.bool false) ∧ Below w.heap.size w w' := by
  go_enter Try.func15, Try.ntmps15
  go_wp2_with (go_at_call 19; refine (rreg_any f _ _).mono ?_; (first | rw [h0] | skip); rintro e w' ⟨rfl, rfl⟩)
  go_ret
  refine ⟨ret_bool (by simp_all), ?_⟩
  repeat (first | exact Below.refl _ _ | refine ext_alloc ?_ _)
set_option maxRecDepth 100000 in
set_option maxHeartbeats 1000000 in
theorem ri_13_1 (f : Fd) (a b c : Int) (i : Nat) (w : World) (h0 : (belB a f.r) = true) (h1 : (b == 0) = false) :
    Calls Try.prog 15 #[f.v, .agg #[.int .i64 13, .int .i64 a, .int .i64 b, .int .i64 c], .int .i64 i] w fun e w' => e = .returned (.bool false) ∧ Below w.heap.size w w' := by
  go_enter Try.func15, Try.ntmps15
  go_wp2_with (go_at_call 19; refine (rreg_any f _ _).mono ?_; (first | rw [h0] | skip); rintro e w' ⟨rfl, rfl⟩)
  go_ret
  refine ⟨ret_bool (by simp_all), ?_⟩
  repeat (first | exact Below.refl _ _ | refine ext_alloc ?_ _)
set_option maxRecDepth 100000 in
set_option maxHeartbeats 1000000 in
theorem ri_13_2 (f : Fd) (a b c : Int) (i : Nat) (w : World) (h0 : (belB a f.r) = true) (h1 : (b == 0) = true) :
    Calls Try.prog 15 #[f.v, .agg #[.int .i64 13, .int .i64 a, .int .i64 b, .int .i64 c], .int .i64 i] w fun e w' => e = .returned (.bool (c == 0)) ∧ Below w.heap.size w w' := by
  go_enter Try.func15, Try.ntmps15
  go_wp2_with (go_at_call 19; refine (rreg_any f _ _).mono ?_; (first | rw [h0] | skip); rintro e w' ⟨rfl, rfl⟩)
  go_ret
  refine ⟨ret_bool (by simp_all), ?_⟩
  repeat (first | exact Below.refl _ _ | refine ext_alloc ?_ _)
set_option maxRecDepth 100000 in
set_option maxHeartbeats 1000000 in
theorem ri_21_0 (f : Fd) (a b c : Int) (i : Nat) (w : World) (h0 : (belB a f.r) = false) :
    Calls Try.prog 15 #[f.v, .agg #[.int .i64 21, .int .i64 a, .int .i64 b, .int .i64 c], .int .i64 i] w fun e w' => e = .returned (.bool false) ∧ Below w.heap.size w w' := by
  go_enter Try.func15, Try.ntmps15
  go_wp2_with (go_at_call 19; refine (rreg_any f _ _).mono ?_; (first | rw [h0] | skip); rintro e w' ⟨rfl, rfl⟩)
  go_ret
  refine ⟨ret_bool (by simp_all), ?_⟩
  repeat (first | exact Below.refl _ _ | refine ext_alloc ?_ _)
set_option maxRecDepth 100000 in
set_option maxHeartbeats 1000000 in
theorem ri_21_1 (f : Fd) (a b c : Int) (i : Nat) (w : World) (h0 : (belB a f.r) = true) (h1 : (belB b f.r) = false) :
    Calls Try.prog 15 #[f.v, .agg #[.int .i64 21, .int .i64 a, .int .i64 b, .int .i64 c], .int .i64 i] w fun e w' => e = .returned (.bool false) ∧ Below w.heap.size w w' := by
  go_enter Try.func15, Try.ntmps15
  go_wp2_with (go_at_call 19; refine (rreg_any f _ _).mono ?_; (first | rw [h0] | rw [h1] | skip); rintro e w' ⟨rfl, rfl⟩)
  go_ret
  refine ⟨ret_bool (by simp_all), ?_⟩
  repeat (first | exact Below.refl _ _ | refine ext_alloc ?_ _)
set_option maxRecDepth 100000 in
set_option maxHeartbeats 1000000 in
theorem ri_21_2 (f : Fd) (a b c : Int) (i : Nat) (w : World) (h0 : (belB a f.r) = true) (h1 : (belB b f.r) = true) :
    Calls Try.prog 15 #[f.v, .agg #[.int .i64 21, .int .i64 a, .int .i64 b, .int .i64 c], .int .i64 i] w fun e w' => e = .returned (.bool (belB c f.r)) ∧ Below w.heap.size w w' := by
  go_enter Try.func15, Try.ntmps15
  go_wp2_with (go_at_call 19; refine (rreg_any f _ _).mono ?_; (first | rw [h0] | rw [h1] | skip); rintro e w' ⟨rfl, rfl⟩)
  go_ret
  refine ⟨ret_bool (by simp_all), ?_⟩
  repeat (first | exact Below.refl _ _ | refine ext_alloc ?_ _)
set_option maxRecDepth 100000 in
set_option maxHeartbeats 1000000 in
theorem ri_22_0 (f : Fd) (a b c : Int) (i : Nat) (w : World) (h0 : (belB a f.r) = false) :
    Calls Try.prog 15 #[f.v, .agg #[.int .i64 22, .int .i64 a, .int .i64 b, .int .i64 c], .int .i64 i] w fun e w' => e = .returned (.bool false) ∧ Below w.heap.size w w' := by
  go_enter Try.func15, Try.ntmps15
  go_wp2_with (go_at_call 19; refine (rreg_any f _ _).mono ?_; (first | rw [h0] | skip); rintro e w' ⟨rfl, rfl⟩)
  go_ret
  refine ⟨ret_bool (by simp_all), ?_⟩
  repeat (first | exact Below.refl _ _ | refine ext_alloc ?_ _)
set_option maxRecDepth 100000 in
set_option maxHeartbeats 1000000 in
theorem ri_22_1 (f : Fd) (a b c : Int) (i : Nat) (w : World) (h0 : (belB a f.r) = true) (h1 : (belB b f.r) = false) :
    Calls Try.prog 15 #[f.v, .agg #[.int .i64 22, .int .i64 a, .int .i64 b, .int .i64 c], .int .i64 i] w fun e w' => e = .returned (.bool false) ∧ Below w.heap.size w w' := by
  go_enter Try.func15, Try.ntmps15
  go_wp2_with (go_at_call 19; refine (rreg_any f _ _).mono ?_; (first | rw [h0] | rw [h1] | skip); rintro e w' ⟨rfl, rfl⟩)
  go_ret
  refine ⟨ret_bool (by simp_all), ?_⟩
  repeat (first | exact Below.refl _ _ | refine ext_alloc ?_ _)
set_option maxRecDepth 100000 in
set_option maxHeartbeats 1000000 in
theorem ri_22_2 (f : Fd) (a b c : Int) (i : Nat) (w : World) (h0 : (belB a f.r) = true) (h1 : (belB b f.r) = true) :
    Calls Try.prog 15 #[f.v, .agg #[.int .i64 22, .int .i64 a, .int .i64 b, .int .i64 c], .int .i64 i] w fun e w' => e = .returned (.bool (belB c f.r)) ∧ Below w.heap.size w w' := by
  go_enter Try.func15, Try.ntmps15
  go_wp2_with (go_at_call 19; refine (rreg_any f _ _).mono ?_; (first | rw [h0] | rw [h1] | skip); rintro e w' ⟨rfl, rfl⟩)
  go_ret
  refine ⟨ret_bool (by simp_all), ?_⟩
  repeat (first | exact Below.refl _ _ | refine ext_alloc ?_ _)
set_option maxRecDepth 100000 in
set_option maxHeartbeats 1000000 in
theorem ri_23_0 (f : Fd) (a b c : Int) (i : Nat) (w : World) (h0 : (belB a f.r) = false) :
    Calls Try.prog 15 #[f.v, .agg #[.int .i64 23, .int .i64 a, .int .i64 b, .int .i64 c], .int .i64 i] w fun e w' => e = .returned (.bool false) ∧ Below w.heap.size w w' := by
  go_enter Try.func15, Try.ntmps15
  go_wp2_with (go_at_call 19; refine (rreg_any f _ _).mono ?_; (first | rw [h0] | skip); rintro e w' ⟨rfl, rfl⟩)
  go_ret
  refine ⟨ret_bool (by simp_all), ?_⟩
  repeat (first | exact Below.refl _ _ | refine ext_alloc ?_ _)
set_option maxRecDepth 100000 in
set_option maxHeartbeats 1000000 in
theorem ri_23_1 (f : Fd) (a b c : Int) (i : Nat) (w : World) (h0 : (belB a f.r) = true) (h1 : (belB b f.r) = false) :
    Calls Try.prog 15 #[f.v, .agg #[.int .i64 23, .int .i64 a, .int .i64 b, .int .i64 c], .int .i64 i] w fun e w' => e = .returned (.bool false) ∧ Below w.heap.size w w' := by
  go_enter Try.func15, Try.ntmps15
  go_wp2_with (go_at_call 19; refine (rreg_any f _ _).mono ?_; (first | rw [h0] | rw [h1] | skip); rintro e w' ⟨rfl, rfl⟩)
  go_ret
  refine ⟨ret_bool (by simp_all), ?_⟩
  repeat (first | exact Below.refl _ _ | refine ext_alloc ?_ _)
set_option maxRecDepth 100000 in
set_option maxHeartbeats 1000000 in
theorem ri_23_2 (f : Fd) (a b c : Int) (i : Nat) (w : World) (h0 : (belB a f.r) = true) (h1 : (belB b f.r) = true) :
    Calls Try.prog 15 #[f.v, .agg #[.int .i64 23, .int .i64 a, .int .i64 b, .int .i64 c], .int .i64 i] w fun e w' => e = .returned (.bool (belB c f.r)) ∧ Below w.heap.size w w' := by
  go_enter Try.func15, Try.ntmps15
  go_wp2_with (go_at_call 19; refine (rreg_any f _ _).mono ?_; (first | rw [h0] | rw [h1] | skip); rintro e w' ⟨rfl, rfl⟩)
  go_ret
  refine ⟨ret_bool (by simp_all), ?_⟩
  repeat (first | exact Below.refl _ _ | refine ext_alloc ?_ _)
set_option maxRecDepth 100000 in
set_option maxHeartbeats 1000000 in
theorem ri_24_0 (f : Fd) (a b c : Int) (i : Nat) (w : World) (h0 : (belB a f.r) = false) :
    Calls Try.prog 15 #[f.v, .agg #[.int .i64 24, .int .i64 a, .int .i64 b, .int .i64 c], .int .i64 i] w fun e w' => e = .returned (.bool false) ∧ Below w.heap.size w w' := by
  go_enter Try.func15, Try.ntmps15
  go_wp2_with (go_at_call 19; refine (rreg_any f _ _).mono ?_; (first | rw [h0] | skip); rintro e w' ⟨rfl, rfl⟩)
  go_ret
  refine ⟨ret_bool (by simp_all), ?_⟩
  repeat (first | exact Below.refl _ _ | refine ext_alloc ?_ _)
set_option maxRecDepth 100000 in
set_option maxHeartbeats 1000000 in
theorem ri_24_1 (f : Fd) (a b c : Int) (i : Nat) (w : World) (h0 : (belB a f.r) = true) (h1 : (belB b f.r) = false) :
    Calls Try.prog 15 #[f.v, .agg #[.int .i64 24, .int .i64 a, .int .i64 b, .int .i64 c], .int .i64 i] w fun e w' => e = .returned (.bool false) ∧ Below w.heap.size w w' := by
  go_enter Try.func15, Try.ntmps15
  go_wp2_with (go_at_call 19; refine (rreg_any f _ _).mono ?_; (first | rw [h0] | rw [h1] | skip); rintro e w' ⟨rfl, rfl⟩)
  go_ret
  refine ⟨ret_bool (by simp_all), ?_⟩
  repeat (first | exact Below.refl _ _ | refine ext_alloc ?_ _)
set_option maxRecDepth 100000 in
set_option maxHeartbeats 1000000 in
theorem ri_24_2 (f : Fd) (a b c : Int) (i : Nat) (w : World) (h0 : (belB a f.r) = true) (h1 : (belB b f.r) = true) :
    Calls Try.prog 15 #[f.v, .agg #[.int .i64 24, .int .i64 a, .int .i64 b, .int .i64 c], .int .i64 i] w fun e w' => e = .returned (.bool (belB c f.r)) ∧ Below w.heap.size w w' := by
  go_enter Try.func15, Try.ntmps15
  go_wp2_with (go_at_call 19; refine (rreg_any f _ _).mono ?_; (first | rw [h0] | rw [h1] | skip); rintro e w' ⟨rfl, rfl⟩)
  go_ret
  refine ⟨ret_bool (by simp_all), ?_⟩
  repeat (first | exact Below.refl _ _ | refine ext_alloc ?_ _)
end Go.Proofs.Ytklgjfpgclelbaa
