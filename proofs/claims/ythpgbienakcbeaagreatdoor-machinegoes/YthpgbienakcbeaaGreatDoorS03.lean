/- Plain arithmetic: Go's 64-bit wrap, and division that rounds down. Nothing of the program stands here. -/
import Derived.RowKit
namespace Go.Proofs.YthpgbienakcbeaaGreatDoor
set_option maxRecDepth 100000
set_option maxHeartbeats 8000000
set_option linter.all false
open Go.RowKit (wrap64)
variable {a b : Int}
theorem b1b {x : Int} (h : -9223372036854775808 ≤ x) (h' : x ≤ 9223372036854775807) : wrap64 x = x := by unfold wrap64; omega
theorem b1z (x : Int) : wrap64 (wrap64 x - 1) = wrap64 (x - 1) := by unfold wrap64; omega
theorem b2a (hb : b ≠ 0) (h : a.tmod b = 0) : a.tdiv b = a.fdiv b := by
 have e := Int.tmod_add_mul_tdiv a b
 rcases Int.lt_or_gt_of_ne hb with hb | hb
 ·exact ((Int.fdiv_fmod_unique' hb).2 ⟨by rw [h] at e; exact e, by omega, by omega⟩).1.symm
 ·exact ((Int.fdiv_fmod_unique hb).2 ⟨by rw [h] at e; exact e, by omega, by omega⟩).1.symm
theorem b4y (a : Int) (hb : b ≠ 0) (h : 0 ≤ a) : a.tmod b < b.natAbs := by
 obtain ⟨m, rfl⟩ := Int.eq_ofNat_of_zero_le h
 rcases Int.lt_or_gt_of_ne hb with hb | hb
 ·have := Int.tmod_lt_of_pos (m : Int) (show 0 < -b by omega)
  rw [Int.tmod_neg] at this
  omega
 ·have := Int.tmod_lt_of_pos (m : Int) hb
  omega
theorem a6m (a : Int) (hb : b ≠ 0) : (0 ≤ a → 0 ≤ a.tmod b ∧ a.tmod b < b.natAbs) ∧ (a < 0 → a.tmod b ≤ 0 ∧ -(b.natAbs : Int) < a.tmod b) := by
 constructor
 ·intro h
  exact ⟨Int.tmod_nonneg b h, b4y a hb h⟩
 ·intro h
  have h1 := Int.tmod_nonneg b (show 0 ≤ -a by omega)
  have h2 := b4y (-a) hb (by omega)
  rw [Int.neg_tmod] at h1 h2
  omega
theorem a7b (hb : b ≠ 0) (h : (a < 0) ↔ (b < 0)) : a.tdiv b = a.fdiv b := by
 have e := Int.tmod_add_mul_tdiv a b
 obtain ⟨h1, h2⟩ := a6m a hb
 rcases Int.lt_or_gt_of_ne hb with hb | hb
 ·have := h2 (by omega)
  exact ((Int.fdiv_fmod_unique' hb).2 ⟨e, by omega, by omega⟩).1.symm
 ·have := h1 (by omega)
  exact ((Int.fdiv_fmod_unique hb).2 ⟨e, by omega, by omega⟩).1.symm
theorem a7c (hb : b ≠ 0) (hm : a.tmod b ≠ 0) (h : ¬ ((a < 0) ↔ (b < 0))) : a.tdiv b - 1 = a.fdiv b := by
 have e := Int.tmod_add_mul_tdiv a b
 obtain ⟨h1, h2⟩ := a6m a hb
 have e' : (a.tmod b + b) + b * (a.tdiv b - 1) = a := by rw [Int.mul_sub]; omega
 rcases Int.lt_or_gt_of_ne hb with hb | hb
 ·have := h1 (by omega)
  exact ((Int.fdiv_fmod_unique' hb).2 ⟨e', by omega, by omega⟩).1.symm
 ·have := h2 (by omega)
  exact ((Int.fdiv_fmod_unique hb).2 ⟨e', by omega, by omega⟩).1.symm
def divV (a b : Int) : Int := wrap64 (a.fdiv b)
def modV (a b : Int) : Int := wrap64 (a - wrap64 (divV a b * b))
end Go.Proofs.YthpgbienakcbeaaGreatDoor
