/- The document's instr: an order at its place. -/
import Derived.Test.YtklgjfpgclelbaaCD
namespace Go.Proofs.Ytklgjfpgclelbaa
open Go.RowKit
open Go

set_option maxRecDepth 100000 in
set_option maxHeartbeats 1000000 in
theorem ri_1_0 (f : Fd) (a b c : Int) (i : Nat) (w : World) (h0 : (belB a f.r) = false) :
    Calls Try.prog 15 #[f.v, .agg #[.int .i64 1, .int .i64 a, .int .i64 b, .int .i64 c], .int .i64 i] w fun e w' => e = .returned (.bool false) ∧ Below w.heap.size w w' := by
  go_enter Try.func15, Try.ntmps15
  go_wp2_with (go_at_call 19; refine (rreg_any f _ _).mono ?_; (first | rw [h0] | skip); rintro e w' ⟨rfl, rfl⟩)
  go_ret
  refine ⟨ret_bool (by simp_all), ?_⟩
  repeat (first | exact Below.refl _ _ | refine ext_alloc ?_ _)
set_option maxRecDepth 100000 in
set_option maxHeartbeats 1000000 in
theorem ri_1_1 (f : Fd) (a b c : Int) (i : Nat) (w : World) (h0 : (belB a f.r) = true) (h1 : (belB b f.r) = false) :
    Calls Try.prog 15 #[f.v, .agg #[.int .i64 1, .int .i64 a, .int .i64 b, .int .i64 c], .int .i64 i] w fun e w' => e = .returned (.bool false) ∧ Below w.heap.size w w' := by
  go_enter Try.func15, Try.ntmps15
  go_wp2_with (go_at_call 19; refine (rreg_any f _ _).mono ?_; (first | rw [h0] | rw [h1] | skip); rintro e w' ⟨rfl, rfl⟩)
  go_ret
  refine ⟨ret_bool (by simp_all), ?_⟩
  repeat (first | exact Below.refl _ _ | refine ext_alloc ?_ _)
set_option maxRecDepth 100000 in
set_option maxHeartbeats 1000000 in
theorem ri_1_2 (f : Fd) (a b c : Int) (i : Nat) (w : World) (h0 : (belB a f.r) = true) (h1 : (belB b f.r) = true) :
    Calls Try.prog 15 #[f.v, .agg #[.int .i64 1, .int .i64 a, .int .i64 b, .int .i64 c], .int .i64 i] w fun e w' => e = .returned (.bool (c == 0)) ∧ Below w.heap.size w w' := by
  go_enter Try.func15, Try.ntmps15
  go_wp2_with (go_at_call 19; refine (rreg_any f _ _).mono ?_; (first | rw [h0] | rw [h1] | skip); rintro e w' ⟨rfl, rfl⟩)
  go_ret
  refine ⟨ret_bool (by simp_all), ?_⟩
  repeat (first | exact Below.refl _ _ | refine ext_alloc ?_ _)
set_option maxRecDepth 100000 in
set_option maxHeartbeats 1000000 in
theorem ri_2_0 (f : Fd) (a b c : Int) (i : Nat) (w : World) (h0 : (belB a f.r) = false) :
    Calls Try.prog 15 #[f.v, .agg #[.int .i64 2, .int .i64 a, .int .i64 b, .int .i64 c], .int .i64 i] w fun e w' => e = .returned (.bool false) ∧ Below w.heap.size w w' := by
  go_enter Try.func15, Try.ntmps15
  go_wp2_with (go_at_call 19; refine (rreg_any f _ _).mono ?_; (first | rw [h0] | skip); rintro e w' ⟨rfl, rfl⟩)
  go_ret
  refine ⟨ret_bool (by simp_all), ?_⟩
  repeat (first | exact Below.refl _ _ | refine ext_alloc ?_ _)
set_option maxRecDepth 100000 in
set_option maxHeartbeats 1000000 in
theorem ri_2_1 (f : Fd) (a b c : Int) (i : Nat) (w : World) (h0 : (belB a f.r) = true) (h1 : (decide (0 ≤ b)) = false) :
    Calls Try.prog 15 #[f.v, .agg #[.int .i64 2, .int .i64 a, .int .i64 b, .int .i64 c], .int .i64 i] w fun e w' => e = .returned (.bool false) ∧ Below w.heap.size w w' := by
  go_enter Try.func15, Try.ntmps15
  go_wp2_with (go_at_call 19; refine (rreg_any f _ _).mono ?_; (first | rw [h0] | skip); rintro e w' ⟨rfl, rfl⟩)
  go_ret
  refine ⟨ret_bool (by simp_all), ?_⟩
  repeat (first | exact Below.refl _ _ | refine ext_alloc ?_ _)
set_option maxRecDepth 100000 in
set_option maxHeartbeats 1000000 in
theorem ri_2_2 (f : Fd) (a b c : Int) (i : Nat) (w : World) (h0 : (belB a f.r) = true) (h1 : (decide (0 ≤ b)) = true) (h2 : (decide (b < f.cs.length)) = false) :
    Calls Try.prog 15 #[f.v, .agg #[.int .i64 2, .int .i64 a, .int .i64 b, .int .i64 c], .int .i64 i] w fun e w' => e = .returned (.bool false) ∧ Below w.heap.size w w' := by
  go_enter Try.func15, Try.ntmps15
  go_wp2_with (go_at_call 19; refine (rreg_any f _ _).mono ?_; (first | rw [h0] | skip); rintro e w' ⟨rfl, rfl⟩)
  go_ret
  refine ⟨ret_bool (by simp_all), ?_⟩
  repeat (first | exact Below.refl _ _ | refine ext_alloc ?_ _)
set_option maxRecDepth 100000 in
set_option maxHeartbeats 1000000 in
theorem ri_2_3 (f : Fd) (a b c : Int) (i : Nat) (w : World) (h0 : (belB a f.r) = true) (h1 : (decide (0 ≤ b)) = true) (h2 : (decide (b < f.cs.length)) = true) :
    Calls Try.prog 15 #[f.v, .agg #[.int .i64 2, .int .i64 a, .int .i64 b, .int .i64 c], .int .i64 i] w fun e w' => e = .returned (.bool (c == 0)) ∧ Below w.heap.size w w' := by
  go_enter Try.func15, Try.ntmps15
  go_wp2_with (go_at_call 19; refine (rreg_any f _ _).mono ?_; (first | rw [h0] | skip); rintro e w' ⟨rfl, rfl⟩)
  go_ret
  refine ⟨ret_bool (by simp_all), ?_⟩
  repeat (first | exact Below.refl _ _ | refine ext_alloc ?_ _)
set_option maxRecDepth 100000 in
set_option maxHeartbeats 1000000 in
theorem ri_3_0 (f : Fd) (a b c : Int) (i : Nat) (w : World) (h0 : (belB a f.r) = false) :
    Calls Try.prog 15 #[f.v, .agg #[.int .i64 3, .int .i64 a, .int .i64 b, .int .i64 c], .int .i64 i] w fun e w' => e = .returned (.bool false) ∧ Below w.heap.size w w' := by
  go_enter Try.func15, Try.ntmps15
  go_wp2_with (go_at_call 19; refine (rreg_any f _ _).mono ?_; (first | rw [h0] | skip); rintro e w' ⟨rfl, rfl⟩)
  go_ret
  refine ⟨ret_bool (by simp_all), ?_⟩
  repeat (first | exact Below.refl _ _ | refine ext_alloc ?_ _)
set_option maxRecDepth 100000 in
set_option maxHeartbeats 1000000 in
theorem ri_3_1 (f : Fd) (a b c : Int) (i : Nat) (w : World) (h0 : (belB a f.r) = true) (h1 : (b == 0) = false) :
    Calls Try.prog 15 #[f.v, .agg #[.int .i64 3, .int .i64 a, .int .i64 b, .int .i64 c], .int .i64 i] w fun e w' => e = .returned (.bool false) ∧ Below w.heap.size w w' := by
  go_enter Try.func15, Try.ntmps15
  go_wp2_with (go_at_call 19; refine (rreg_any f _ _).mono ?_; (first | rw [h0] | skip); rintro e w' ⟨rfl, rfl⟩)
  go_ret
  refine ⟨ret_bool (by simp_all), ?_⟩
  repeat (first | exact Below.refl _ _ | refine ext_alloc ?_ _)
set_option maxRecDepth 100000 in
set_option maxHeartbeats 1000000 in
theorem ri_3_2 (f : Fd) (a b c : Int) (i : Nat) (w : World) (h0 : (belB a f.r) = true) (h1 : (b == 0) = true) :
    Calls Try.prog 15 #[f.v, .agg #[.int .i64 3, .int .i64 a, .int .i64 b, .int .i64 c], .int .i64 i] w fun e w' => e = .returned (.bool (c == 0)) ∧ Below w.heap.size w w' := by
  go_enter Try.func15, Try.ntmps15
  go_wp2_with (go_at_call 19; refine (rreg_any f _ _).mono ?_; (first | rw [h0] | skip); rintro e w' ⟨rfl, rfl⟩)
  go_ret
  refine ⟨ret_bool (by simp_all), ?_⟩
  repeat (first | exact Below.refl _ _ | refine ext_alloc ?_ _)
set_option maxRecDepth 100000 in
set_option maxHeartbeats 1000000 in
theorem ri_4_0 (f : Fd) (a b c : Int) (i : Nat) (w : World) (h0 : (belB a f.r) = false) :
    Calls Try.prog 15 #[f.v, .agg #[.int .i64 4, .int .i64 a, .int .i64 b, .int .i64 c], .int .i64 i] w fun e w' => e = .returned (.bool false) ∧ Below w.heap.size w w' := by
  go_enter Try.func15, Try.ntmps15
  go_wp2_with (go_at_call 19; refine (rreg_any f _ _).mono ?_; (first | rw [h0] | skip); rintro e w' ⟨rfl, rfl⟩)
  go_ret
  refine ⟨ret_bool (by simp_all), ?_⟩
  repeat (first | exact Below.refl _ _ | refine ext_alloc ?_ _)
set_option maxRecDepth 100000 in
set_option maxHeartbeats 1000000 in
theorem ri_4_1 (f : Fd) (a b c : Int) (i : Nat) (w : World) (h0 : (belB a f.r) = true) (h1 : (belB b f.r) = false) :
    Calls Try.prog 15 #[f.v, .agg #[.int .i64 4, .int .i64 a, .int .i64 b, .int .i64 c], .int .i64 i] w fun e w' => e = .returned (.bool false) ∧ Below w.heap.size w w' := by
  go_enter Try.func15, Try.ntmps15
  go_wp2_with (go_at_call 19; refine (rreg_any f _ _).mono ?_; (first | rw [h0] | rw [h1] | skip); rintro e w' ⟨rfl, rfl⟩)
  go_ret
  refine ⟨ret_bool (by simp_all), ?_⟩
  repeat (first | exact Below.refl _ _ | refine ext_alloc ?_ _)
set_option maxRecDepth 100000 in
set_option maxHeartbeats 1000000 in
theorem ri_4_2 (f : Fd) (a b c : Int) (i : Nat) (w : World) (h0 : (belB a f.r) = true) (h1 : (belB b f.r) = true) :
    Calls Try.prog 15 #[f.v, .agg #[.int .i64 4, .int .i64 a, .int .i64 b, .int .i64 c], .int .i64 i] w fun e w' => e = .returned (.bool (belB c f.r)) ∧ Below w.heap.size w w' := by
  go_enter Try.func15, Try.ntmps15
  go_wp2_with (go_at_call 19; refine (rreg_any f _ _).mono ?_; (first | rw [h0] | rw [h1] | skip); rintro e w' ⟨rfl, rfl⟩)
  go_ret
  refine ⟨ret_bool (by simp_all), ?_⟩
  repeat (first | exact Below.refl _ _ | refine ext_alloc ?_ _)
set_option maxRecDepth 100000 in
set_option maxHeartbeats 1000000 in
theorem ri_5_0 (f : Fd) (a b c : Int) (i : Nat) (w : World) (h0 : (belB a f.r) = false) :
    Calls Try.prog 15 #[f.v, .agg #[.int .i64 5, .int .i64 a, .int .i64 b, .int .i64 c], .int .i64 i] w fun e w' => e = .returned (.bool false) ∧ Below w.heap.size w w' := by
  go_enter Try.func15, Try.ntmps15
  go_wp2_with (go_at_call 19; refine (rreg_any f _ _).mono ?_; (first | rw [h0] | skip); rintro e w' ⟨rfl, rfl⟩)
  go_ret
  refine ⟨ret_bool (by simp_all), ?_⟩
  repeat (first | exact Below.refl _ _ | refine ext_alloc ?_ _)
set_option maxRecDepth 100000 in
set_option maxHeartbeats 1000000 in
theorem ri_5_1 (f : Fd) (a b c : Int) (i : Nat) (w : World) (h0 : (belB a f.r) = true) (h1 : (belB b f.r) = false) :
    Calls Try.prog 15 #[f.v, .agg #[.int .i64 5, .int .i64 a, .int .i64 b, .int .i64 c], .int .i64 i] w fun e w' => e = .returned (.bool false) ∧ Below w.heap.size w w' := by
  go_enter Try.func15, Try.ntmps15
  go_wp2_with (go_at_call 19; refine (rreg_any f _ _).mono ?_; (first | rw [h0] | rw [h1] | skip); rintro e w' ⟨rfl, rfl⟩)
  go_ret
  refine ⟨ret_bool (by simp_all), ?_⟩
  repeat (first | exact Below.refl _ _ | refine ext_alloc ?_ _)
set_option maxRecDepth 100000 in
set_option maxHeartbeats 1000000 in
theorem ri_5_2 (f : Fd) (a b c : Int) (i : Nat) (w : World) (h0 : (belB a f.r) = true) (h1 : (belB b f.r) = true) :
    Calls Try.prog 15 #[f.v, .agg #[.int .i64 5, .int .i64 a, .int .i64 b, .int .i64 c], .int .i64 i] w fun e w' => e = .returned (.bool (belB c f.r)) ∧ Below w.heap.size w w' := by
  go_enter Try.func15, Try.ntmps15
  go_wp2_with (go_at_call 19; refine (rreg_any f _ _).mono ?_; (first | rw [h0] | rw [h1] | skip); rintro e w' ⟨rfl, rfl⟩)
  go_ret
  refine ⟨ret_bool (by simp_all), ?_⟩
  repeat (first | exact Below.refl _ _ | refine ext_alloc ?_ _)
set_option maxRecDepth 100000 in
set_option maxHeartbeats 1000000 in
theorem ri_6_0 (f : Fd) (a b c : Int) (i : Nat) (w : World) (h0 : (belB a f.r) = false) :
    Calls Try.prog 15 #[f.v, .agg #[.int .i64 6, .int .i64 a, .int .i64 b, .int .i64 c], .int .i64 i] w fun e w' => e = .returned (.bool false) ∧ Below w.heap.size w w' := by
  go_enter Try.func15, Try.ntmps15
  go_wp2_with (go_at_call 19; refine (rreg_any f _ _).mono ?_; (first | rw [h0] | skip); rintro e w' ⟨rfl, rfl⟩)
  go_ret
  refine ⟨ret_bool (by simp_all), ?_⟩
  repeat (first | exact Below.refl _ _ | refine ext_alloc ?_ _)
set_option maxRecDepth 100000 in
set_option maxHeartbeats 1000000 in
theorem ri_6_1 (f : Fd) (a b c : Int) (i : Nat) (w : World) (h0 : (belB a f.r) = true) (h1 : (belB b f.r) = false) :
    Calls Try.prog 15 #[f.v, .agg #[.int .i64 6, .int .i64 a, .int .i64 b, .int .i64 c], .int .i64 i] w fun e w' => e = .returned (.bool false) ∧ Below w.heap.size w w' := by
  go_enter Try.func15, Try.ntmps15
  go_wp2_with (go_at_call 19; refine (rreg_any f _ _).mono ?_; (first | rw [h0] | rw [h1] | skip); rintro e w' ⟨rfl, rfl⟩)
  go_ret
  refine ⟨ret_bool (by simp_all), ?_⟩
  repeat (first | exact Below.refl _ _ | refine ext_alloc ?_ _)
set_option maxRecDepth 100000 in
set_option maxHeartbeats 1000000 in
theorem ri_6_2 (f : Fd) (a b c : Int) (i : Nat) (w : World) (h0 : (belB a f.r) = true) (h1 : (belB b f.r) = true) :
    Calls Try.prog 15 #[f.v, .agg #[.int .i64 6, .int .i64 a, .int .i64 b, .int .i64 c], .int .i64 i] w fun e w' => e = .returned (.bool (c == 0)) ∧ Below w.heap.size w w' := by
  go_enter Try.func15, Try.ntmps15
  go_wp2_with (go_at_call 19; refine (rreg_any f _ _).mono ?_; (first | rw [h0] | rw [h1] | skip); rintro e w' ⟨rfl, rfl⟩)
  go_ret
  refine ⟨ret_bool (by simp_all), ?_⟩
  repeat (first | exact Below.refl _ _ | refine ext_alloc ?_ _)
set_option maxRecDepth 100000 in
set_option maxHeartbeats 1000000 in
theorem ri_7_0 (f : Fd) (a b c : Int) (i : Nat) (w : World) (h0 : (belB a f.r) = false) :
    Calls Try.prog 15 #[f.v, .agg #[.int .i64 7, .int .i64 a, .int .i64 b, .int .i64 c], .int .i64 i] w fun e w' => e = .returned (.bool false) ∧ Below w.heap.size w w' := by
  go_enter Try.func15, Try.ntmps15
  go_wp2_with (go_at_call 19; refine (rreg_any f _ _).mono ?_; (first | rw [h0] | skip); rintro e w' ⟨rfl, rfl⟩)
  go_ret
  refine ⟨ret_bool (by simp_all), ?_⟩
  repeat (first | exact Below.refl _ _ | refine ext_alloc ?_ _)
set_option maxRecDepth 100000 in
set_option maxHeartbeats 1000000 in
theorem ri_7_1 (f : Fd) (a b c : Int) (i : Nat) (w : World) (h0 : (belB a f.r) = true) (h1 : (belB b f.r) = false) :
    Calls Try.prog 15 #[f.v, .agg #[.int .i64 7, .int .i64 a, .int .i64 b, .int .i64 c], .int .i64 i] w fun e w' => e = .returned (.bool false) ∧ Below w.heap.size w w' := by
  go_enter Try.func15, Try.ntmps15
  go_wp2_with (go_at_call 19; refine (rreg_any f _ _).mono ?_; (first | rw [h0] | rw [h1] | skip); rintro e w' ⟨rfl, rfl⟩)
  go_ret
  refine ⟨ret_bool (by simp_all), ?_⟩
  repeat (first | exact Below.refl _ _ | refine ext_alloc ?_ _)
set_option maxRecDepth 100000 in
set_option maxHeartbeats 1000000 in
theorem ri_7_2 (f : Fd) (a b c : Int) (i : Nat) (w : World) (h0 : (belB a f.r) = true) (h1 : (belB b f.r) = true) :
    Calls Try.prog 15 #[f.v, .agg #[.int .i64 7, .int .i64 a, .int .i64 b, .int .i64 c], .int .i64 i] w fun e w' => e = .returned (.bool (belB c f.r)) ∧ Below w.heap.size w w' := by
  go_enter Try.func15, Try.ntmps15
  go_wp2_with (go_at_call 19; refine (rreg_any f _ _).mono ?_; (first | rw [h0] | rw [h1] | skip); rintro e w' ⟨rfl, rfl⟩)
  go_ret
  refine ⟨ret_bool (by simp_all), ?_⟩
  repeat (first | exact Below.refl _ _ | refine ext_alloc ?_ _)
set_option maxRecDepth 100000 in
set_option maxHeartbeats 1000000 in
theorem ri_8_0 (f : Fd) (a b c : Int) (i : Nat) (w : World) (h0 : (belB a f.is.length) = false) :
    Calls Try.prog 15 #[f.v, .agg #[.int .i64 8, .int .i64 a, .int .i64 b, .int .i64 c], .int .i64 i] w fun e w' => e = .returned (.bool false) ∧ Below w.heap.size w w' := by
  go_enter Try.func15, Try.ntmps15
  go_wp2_with (go_at_call 20; refine (rord_any f _ _).mono ?_; (first | rw [h0] | skip); rintro e w' ⟨rfl, rfl⟩)
  go_ret
  refine ⟨ret_bool (by simp_all), ?_⟩
  repeat (first | exact Below.refl _ _ | refine ext_alloc ?_ _)
set_option maxRecDepth 100000 in
set_option maxHeartbeats 1000000 in
theorem ri_8_1 (f : Fd) (a b c : Int) (i : Nat) (w : World) (h0 : (belB a f.is.length) = true) (h1 : (b == 0) = false) :
    Calls Try.prog 15 #[f.v, .agg #[.int .i64 8, .int .i64 a, .int .i64 b, .int .i64 c], .int .i64 i] w fun e w' => e = .returned (.bool false) ∧ Below w.heap.size w w' := by
  go_enter Try.func15, Try.ntmps15
  go_wp2_with (go_at_call 20; refine (rord_any f _ _).mono ?_; (first | rw [h0] | skip); rintro e w' ⟨rfl, rfl⟩)
  go_ret
  refine ⟨ret_bool (by simp_all), ?_⟩
  repeat (first | exact Below.refl _ _ | refine ext_alloc ?_ _)
set_option maxRecDepth 100000 in
set_option maxHeartbeats 1000000 in
theorem ri_8_2 (f : Fd) (a b c : Int) (i : Nat) (w : World) (h0 : (belB a f.is.length) = true) (h1 : (b == 0) = true) :
    Calls Try.prog 15 #[f.v, .agg #[.int .i64 8, .int .i64 a, .int .i64 b, .int .i64 c], .int .i64 i] w fun e w' => e = .returned (.bool (c == 0)) ∧ Below w.heap.size w w' := by
  go_enter Try.func15, Try.ntmps15
  go_wp2_with (go_at_call 20; refine (rord_any f _ _).mono ?_; (first | rw [h0] | skip); rintro e w' ⟨rfl, rfl⟩)
  go_ret
  refine ⟨ret_bool (by simp_all), ?_⟩
  repeat (first | exact Below.refl _ _ | refine ext_alloc ?_ _)
end Go.Proofs.Ytklgjfpgclelbaa
