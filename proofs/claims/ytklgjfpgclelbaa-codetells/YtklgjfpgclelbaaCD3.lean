/- The document's instr: an order at its place. -/
import Derived.Test.YtklgjfpgclelbaaCD
namespace Go.Proofs.Ytklgjfpgclelbaa
open Go.RowKit
open Go

set_option maxRecDepth 100000 in
set_option maxHeartbeats 1000000 in
theorem ri_25_0 (f : Fd) (a b c : Int) (i : Nat) (w : World) (h0 : (belB a f.r) = false) :
    Calls Try.prog 15 #[f.v, .agg #[.int .i64 25, .int .i64 a, .int .i64 b, .int .i64 c], .int .i64 i] w fun e w' => e = .returned (.bool false) ∧ Below w.heap.size w w' := by
  go_enter Try.func15, Try.ntmps15
  go_wp2_with (go_at_call 19; refine (rreg_any f _ _).mono ?_; (first | rw [h0] | skip); rintro e w' ⟨rfl, rfl⟩)
  go_ret
  refine ⟨ret_bool (by simp_all), ?_⟩
  repeat (first | exact Below.refl _ _ | refine ext_alloc ?_ _)
set_option maxRecDepth 100000 in
set_option maxHeartbeats 1000000 in
theorem ri_25_1 (f : Fd) (a b c : Int) (i : Nat) (w : World) (h0 : (belB a f.r) = true) (h1 : (belB b f.r) = false) :
    Calls Try.prog 15 #[f.v, .agg #[.int .i64 25, .int .i64 a, .int .i64 b, .int .i64 c], .int .i64 i] w fun e w' => e = .returned (.bool false) ∧ Below w.heap.size w w' := by
  go_enter Try.func15, Try.ntmps15
  go_wp2_with (go_at_call 19; refine (rreg_any f _ _).mono ?_; (first | rw [h0] | rw [h1] | skip); rintro e w' ⟨rfl, rfl⟩)
  go_ret
  refine ⟨ret_bool (by simp_all), ?_⟩
  repeat (first | exact Below.refl _ _ | refine ext_alloc ?_ _)
set_option maxRecDepth 100000 in
set_option maxHeartbeats 1000000 in
theorem ri_25_2 (f : Fd) (a b c : Int) (i : Nat) (w : World) (h0 : (belB a f.r) = true) (h1 : (belB b f.r) = true) :
    Calls Try.prog 15 #[f.v, .agg #[.int .i64 25, .int .i64 a, .int .i64 b, .int .i64 c], .int .i64 i] w fun e w' => e = .returned (.bool (belB c f.r)) ∧ Below w.heap.size w w' := by
  go_enter Try.func15, Try.ntmps15
  go_wp2_with (go_at_call 19; refine (rreg_any f _ _).mono ?_; (first | rw [h0] | rw [h1] | skip); rintro e w' ⟨rfl, rfl⟩)
  go_ret
  refine ⟨ret_bool (by simp_all), ?_⟩
  repeat (first | exact Below.refl _ _ | refine ext_alloc ?_ _)
set_option maxRecDepth 100000 in
set_option maxHeartbeats 1000000 in
theorem ri_26_0 (f : Fd) (a b c : Int) (i : Nat) (w : World) (h0 : (belB a f.r) = false) :
    Calls Try.prog 15 #[f.v, .agg #[.int .i64 26, .int .i64 a, .int .i64 b, .int .i64 c], .int .i64 i] w fun e w' => e = .returned (.bool false) ∧ Below w.heap.size w w' := by
  go_enter Try.func15, Try.ntmps15
  go_wp2_with (go_at_call 19; refine (rreg_any f _ _).mono ?_; (first | rw [h0] | skip); rintro e w' ⟨rfl, rfl⟩)
  go_ret
  refine ⟨ret_bool (by simp_all), ?_⟩
  repeat (first | exact Below.refl _ _ | refine ext_alloc ?_ _)
set_option maxRecDepth 100000 in
set_option maxHeartbeats 1000000 in
theorem ri_26_1 (f : Fd) (a b c : Int) (i : Nat) (w : World) (h0 : (belB a f.r) = true) (h1 : (belB b f.r) = false) :
    Calls Try.prog 15 #[f.v, .agg #[.int .i64 26, .int .i64 a, .int .i64 b, .int .i64 c], .int .i64 i] w fun e w' => e = .returned (.bool false) ∧ Below w.heap.size w w' := by
  go_enter Try.func15, Try.ntmps15
  go_wp2_with (go_at_call 19; refine (rreg_any f _ _).mono ?_; (first | rw [h0] | rw [h1] | skip); rintro e w' ⟨rfl, rfl⟩)
  go_ret
  refine ⟨ret_bool (by simp_all), ?_⟩
  repeat (first | exact Below.refl _ _ | refine ext_alloc ?_ _)
set_option maxRecDepth 100000 in
set_option maxHeartbeats 1000000 in
theorem ri_26_2 (f : Fd) (a b c : Int) (i : Nat) (w : World) (h0 : (belB a f.r) = true) (h1 : (belB b f.r) = true) :
    Calls Try.prog 15 #[f.v, .agg #[.int .i64 26, .int .i64 a, .int .i64 b, .int .i64 c], .int .i64 i] w fun e w' => e = .returned (.bool (belB c f.r)) ∧ Below w.heap.size w w' := by
  go_enter Try.func15, Try.ntmps15
  go_wp2_with (go_at_call 19; refine (rreg_any f _ _).mono ?_; (first | rw [h0] | rw [h1] | skip); rintro e w' ⟨rfl, rfl⟩)
  go_ret
  refine ⟨ret_bool (by simp_all), ?_⟩
  repeat (first | exact Below.refl _ _ | refine ext_alloc ?_ _)
set_option maxRecDepth 100000 in
set_option maxHeartbeats 1000000 in
theorem ri_27_0 (f : Fd) (a b c : Int) (i : Nat) (w : World) (h0 : (belB a f.r) = false) :
    Calls Try.prog 15 #[f.v, .agg #[.int .i64 27, .int .i64 a, .int .i64 b, .int .i64 c], .int .i64 i] w fun e w' => e = .returned (.bool false) ∧ Below w.heap.size w w' := by
  go_enter Try.func15, Try.ntmps15
  go_wp2_with (go_at_call 19; refine (rreg_any f _ _).mono ?_; (first | rw [h0] | skip); rintro e w' ⟨rfl, rfl⟩)
  go_ret
  refine ⟨ret_bool (by simp_all), ?_⟩
  repeat (first | exact Below.refl _ _ | refine ext_alloc ?_ _)
set_option maxRecDepth 100000 in
set_option maxHeartbeats 1000000 in
theorem ri_27_1 (f : Fd) (a b c : Int) (i : Nat) (w : World) (h0 : (belB a f.r) = true) (h1 : (belB b f.r) = false) :
    Calls Try.prog 15 #[f.v, .agg #[.int .i64 27, .int .i64 a, .int .i64 b, .int .i64 c], .int .i64 i] w fun e w' => e = .returned (.bool false) ∧ Below w.heap.size w w' := by
  go_enter Try.func15, Try.ntmps15
  go_wp2_with (go_at_call 19; refine (rreg_any f _ _).mono ?_; (first | rw [h0] | rw [h1] | skip); rintro e w' ⟨rfl, rfl⟩)
  go_ret
  refine ⟨ret_bool (by simp_all), ?_⟩
  repeat (first | exact Below.refl _ _ | refine ext_alloc ?_ _)
set_option maxRecDepth 100000 in
set_option maxHeartbeats 1000000 in
theorem ri_27_2 (f : Fd) (a b c : Int) (i : Nat) (w : World) (h0 : (belB a f.r) = true) (h1 : (belB b f.r) = true) :
    Calls Try.prog 15 #[f.v, .agg #[.int .i64 27, .int .i64 a, .int .i64 b, .int .i64 c], .int .i64 i] w fun e w' => e = .returned (.bool (belB c f.r)) ∧ Below w.heap.size w w' := by
  go_enter Try.func15, Try.ntmps15
  go_wp2_with (go_at_call 19; refine (rreg_any f _ _).mono ?_; (first | rw [h0] | rw [h1] | skip); rintro e w' ⟨rfl, rfl⟩)
  go_ret
  refine ⟨ret_bool (by simp_all), ?_⟩
  repeat (first | exact Below.refl _ _ | refine ext_alloc ?_ _)
set_option maxRecDepth 100000 in
set_option maxHeartbeats 1000000 in
theorem ri_28_0 (f : Fd) (a b c : Int) (i : Nat) (w : World) (h0 : (belB a f.r) = false) :
    Calls Try.prog 15 #[f.v, .agg #[.int .i64 28, .int .i64 a, .int .i64 b, .int .i64 c], .int .i64 i] w fun e w' => e = .returned (.bool false) ∧ Below w.heap.size w w' := by
  go_enter Try.func15, Try.ntmps15
  go_wp2_with (go_at_call 19; refine (rreg_any f _ _).mono ?_; (first | rw [h0] | skip); rintro e w' ⟨rfl, rfl⟩)
  go_ret
  refine ⟨ret_bool (by simp_all), ?_⟩
  repeat (first | exact Below.refl _ _ | refine ext_alloc ?_ _)
set_option maxRecDepth 100000 in
set_option maxHeartbeats 1000000 in
theorem ri_28_1 (f : Fd) (a b c : Int) (i : Nat) (w : World) (h0 : (belB a f.r) = true) (h1 : (belB b f.r) = false) :
    Calls Try.prog 15 #[f.v, .agg #[.int .i64 28, .int .i64 a, .int .i64 b, .int .i64 c], .int .i64 i] w fun e w' => e = .returned (.bool false) ∧ Below w.heap.size w w' := by
  go_enter Try.func15, Try.ntmps15
  go_wp2_with (go_at_call 19; refine (rreg_any f _ _).mono ?_; (first | rw [h0] | rw [h1] | skip); rintro e w' ⟨rfl, rfl⟩)
  go_ret
  refine ⟨ret_bool (by simp_all), ?_⟩
  repeat (first | exact Below.refl _ _ | refine ext_alloc ?_ _)
set_option maxRecDepth 100000 in
set_option maxHeartbeats 1000000 in
theorem ri_28_2 (f : Fd) (a b c : Int) (i : Nat) (w : World) (h0 : (belB a f.r) = true) (h1 : (belB b f.r) = true) :
    Calls Try.prog 15 #[f.v, .agg #[.int .i64 28, .int .i64 a, .int .i64 b, .int .i64 c], .int .i64 i] w fun e w' => e = .returned (.bool (belB c f.r)) ∧ Below w.heap.size w w' := by
  go_enter Try.func15, Try.ntmps15
  go_wp2_with (go_at_call 19; refine (rreg_any f _ _).mono ?_; (first | rw [h0] | rw [h1] | skip); rintro e w' ⟨rfl, rfl⟩)
  go_ret
  refine ⟨ret_bool (by simp_all), ?_⟩
  repeat (first | exact Below.refl _ _ | refine ext_alloc ?_ _)
set_option maxRecDepth 100000 in
set_option maxHeartbeats 1000000 in
theorem ri_29_0 (f : Fd) (a b c : Int) (i : Nat) (w : World) (h0 : (belB a f.r) = false) :
    Calls Try.prog 15 #[f.v, .agg #[.int .i64 29, .int .i64 a, .int .i64 b, .int .i64 c], .int .i64 i] w fun e w' => e = .returned (.bool false) ∧ Below w.heap.size w w' := by
  go_enter Try.func15, Try.ntmps15
  go_wp2_with (go_at_call 19; refine (rreg_any f _ _).mono ?_; (first | rw [h0] | skip); rintro e w' ⟨rfl, rfl⟩)
  go_ret
  refine ⟨ret_bool (by simp_all), ?_⟩
  repeat (first | exact Below.refl _ _ | refine ext_alloc ?_ _)
set_option maxRecDepth 100000 in
set_option maxHeartbeats 1000000 in
theorem ri_29_1 (f : Fd) (a b c : Int) (i : Nat) (w : World) (h0 : (belB a f.r) = true) (h1 : (belB b f.r) = false) :
    Calls Try.prog 15 #[f.v, .agg #[.int .i64 29, .int .i64 a, .int .i64 b, .int .i64 c], .int .i64 i] w fun e w' => e = .returned (.bool false) ∧ Below w.heap.size w w' := by
  go_enter Try.func15, Try.ntmps15
  go_wp2_with (go_at_call 19; refine (rreg_any f _ _).mono ?_; (first | rw [h0] | rw [h1] | skip); rintro e w' ⟨rfl, rfl⟩)
  go_ret
  refine ⟨ret_bool (by simp_all), ?_⟩
  repeat (first | exact Below.refl _ _ | refine ext_alloc ?_ _)
set_option maxRecDepth 100000 in
set_option maxHeartbeats 1000000 in
theorem ri_29_2 (f : Fd) (a b c : Int) (i : Nat) (w : World) (h0 : (belB a f.r) = true) (h1 : (belB b f.r) = true) :
    Calls Try.prog 15 #[f.v, .agg #[.int .i64 29, .int .i64 a, .int .i64 b, .int .i64 c], .int .i64 i] w fun e w' => e = .returned (.bool (belB c f.r)) ∧ Below w.heap.size w w' := by
  go_enter Try.func15, Try.ntmps15
  go_wp2_with (go_at_call 19; refine (rreg_any f _ _).mono ?_; (first | rw [h0] | rw [h1] | skip); rintro e w' ⟨rfl, rfl⟩)
  go_ret
  refine ⟨ret_bool (by simp_all), ?_⟩
  repeat (first | exact Below.refl _ _ | refine ext_alloc ?_ _)
set_option maxRecDepth 100000 in
set_option maxHeartbeats 1000000 in
theorem ri_30_0 (f : Fd) (a b c : Int) (i : Nat) (w : World) (h0 : (belB a f.r) = false) :
    Calls Try.prog 15 #[f.v, .agg #[.int .i64 30, .int .i64 a, .int .i64 b, .int .i64 c], .int .i64 i] w fun e w' => e = .returned (.bool false) ∧ Below w.heap.size w w' := by
  go_enter Try.func15, Try.ntmps15
  go_wp2_with (go_at_call 19; refine (rreg_any f _ _).mono ?_; (first | rw [h0] | skip); rintro e w' ⟨rfl, rfl⟩)
  go_ret
  refine ⟨ret_bool (by simp_all), ?_⟩
  repeat (first | exact Below.refl _ _ | refine ext_alloc ?_ _)
set_option maxRecDepth 100000 in
set_option maxHeartbeats 1000000 in
theorem ri_30_1 (f : Fd) (a b c : Int) (i : Nat) (w : World) (h0 : (belB a f.r) = true) (h1 : (belB b f.r) = false) :
    Calls Try.prog 15 #[f.v, .agg #[.int .i64 30, .int .i64 a, .int .i64 b, .int .i64 c], .int .i64 i] w fun e w' => e = .returned (.bool false) ∧ Below w.heap.size w w' := by
  go_enter Try.func15, Try.ntmps15
  go_wp2_with (go_at_call 19; refine (rreg_any f _ _).mono ?_; (first | rw [h0] | rw [h1] | skip); rintro e w' ⟨rfl, rfl⟩)
  go_ret
  refine ⟨ret_bool (by simp_all), ?_⟩
  repeat (first | exact Below.refl _ _ | refine ext_alloc ?_ _)
set_option maxRecDepth 100000 in
set_option maxHeartbeats 1000000 in
theorem ri_30_2 (f : Fd) (a b c : Int) (i : Nat) (w : World) (h0 : (belB a f.r) = true) (h1 : (belB b f.r) = true) :
    Calls Try.prog 15 #[f.v, .agg #[.int .i64 30, .int .i64 a, .int .i64 b, .int .i64 c], .int .i64 i] w fun e w' => e = .returned (.bool (c == 0)) ∧ Below w.heap.size w w' := by
  go_enter Try.func15, Try.ntmps15
  go_wp2_with (go_at_call 19; refine (rreg_any f _ _).mono ?_; (first | rw [h0] | rw [h1] | skip); rintro e w' ⟨rfl, rfl⟩)
  go_ret
  refine ⟨ret_bool (by simp_all), ?_⟩
  repeat (first | exact Below.refl _ _ | refine ext_alloc ?_ _)
set_option maxRecDepth 100000 in
set_option maxHeartbeats 1000000 in
theorem ri_31_0 (f : Fd) (a b c : Int) (i : Nat) (w : World) (h0 : (belB a f.r) = false) :
    Calls Try.prog 15 #[f.v, .agg #[.int .i64 31, .int .i64 a, .int .i64 b, .int .i64 c], .int .i64 i] w fun e w' => e = .returned (.bool false) ∧ Below w.heap.size w w' := by
  go_enter Try.func15, Try.ntmps15
  go_wp2_with (go_at_call 19; refine (rreg_any f _ _).mono ?_; (first | rw [h0] | skip); rintro e w' ⟨rfl, rfl⟩)
  go_ret
  refine ⟨ret_bool (by simp_all), ?_⟩
  repeat (first | exact Below.refl _ _ | refine ext_alloc ?_ _)
set_option maxRecDepth 100000 in
set_option maxHeartbeats 1000000 in
theorem ri_31_1 (f : Fd) (a b c : Int) (i : Nat) (w : World) (h0 : (belB a f.r) = true) (h1 : (belB b f.r) = false) :
    Calls Try.prog 15 #[f.v, .agg #[.int .i64 31, .int .i64 a, .int .i64 b, .int .i64 c], .int .i64 i] w fun e w' => e = .returned (.bool false) ∧ Below w.heap.size w w' := by
  go_enter Try.func15, Try.ntmps15
  go_wp2_with (go_at_call 19; refine (rreg_any f _ _).mono ?_; (first | rw [h0] | rw [h1] | skip); rintro e w' ⟨rfl, rfl⟩)
  go_ret
  refine ⟨ret_bool (by simp_all), ?_⟩
  repeat (first | exact Below.refl _ _ | refine ext_alloc ?_ _)
set_option maxRecDepth 100000 in
set_option maxHeartbeats 1000000 in
theorem ri_31_2 (f : Fd) (a b c : Int) (i : Nat) (w : World) (h0 : (belB a f.r) = true) (h1 : (belB b f.r) = true) :
    Calls Try.prog 15 #[f.v, .agg #[.int .i64 31, .int .i64 a, .int .i64 b, .int .i64 c], .int .i64 i] w fun e w' => e = .returned (.bool (c == 0)) ∧ Below w.heap.size w w' := by
  go_enter Try.func15, Try.ntmps15
  go_wp2_with (go_at_call 19; refine (rreg_any f _ _).mono ?_; (first | rw [h0] | rw [h1] | skip); rintro e w' ⟨rfl, rfl⟩)
  go_ret
  refine ⟨ret_bool (by simp_all), ?_⟩
  repeat (first | exact Below.refl _ _ | refine ext_alloc ?_ _)
end Go.Proofs.Ytklgjfpgclelbaa
