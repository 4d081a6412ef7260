/- Walks of the value package: what counts as true. -/
import Derived.Test.YthpgbienakcbeaaGreatDoorS11
namespace Go.Proofs.YthpgbienakcbeaaGreatDoor
open Go.RowKit Go
set_option maxRecDepth 100000
set_option maxHeartbeats 8000000
set_option linter.all false
theorem c9a (k n : Int) (s : ByteArray) (w : World) (h : mayB k n s = true) (hk : (k == 0) = false) (h1 : ¬ k = 1) :
  Calls Tryz.prog 77 #[val k n s] w fun e w' => e = .returned (.bool true) ∧ Below w.heap.size w w' := by
 have hmf := hmf
 go_enter Tryz.func77, Tryz.ntmps77
 go_wp2
 go_region_with (first | (go_at_call 60; refine (a2r _ _ _ _ h).mono ?_; rintro e w1 ⟨rfl, hb1⟩; have E1 : Below w.heap.size w w1 := a0b (a0i (a0c (Below.refl _ _) _)) hb1; have X1 : Box1 w.heap.size k n s w1 := (a4p w k n s).drew.on hb1; obtain ⟨c0, c1, c2⟩ := id X1; have z1 := World.block_lt_of_cell? _ _ c0; dsimp only at z1) | (go_at_call 92; refine (a5m _ k n s _ (by simp [Box1, go_sem])).mono ?_; rintro e w2 ⟨rfl, hA, hb2⟩; simp only [World.size_alloc] at hA; have E2 : Below w.heap.size w w2 := a0b (by repeat (first | exact E1 | refine a0c ?_ _)) hb2; have X2 : Box1 w.heap.size k n s w2 := Box1.on (by repeat (first | exact X1 | refine Box1.alloc ?_ _)) hb2) | (go_at_call_of 107 w2; refine (late 0 k n s _ _ _ hA).mono ?_; rw [hk]; rintro e w3 ⟨rfl, hb3⟩; have E3 : Below w.heap.size w w3 := a0b (a0c E2 _) hb3; obtain ⟨d0, d1, d2⟩ := (X2.alloc _).on hb3; have z3 := World.block_lt_of_cell? _ _ d0; dsimp only at z3) | (go_at_call 107; refine (c2s 0 k n s _ _ _ _ hA (cell_later hb2 (by simp [go_sem]))).mono ?_; rw [hk]; rintro e w3 ⟨rfl, hb3⟩; have E3 : Below w.heap.size w w3 := a0b E2 hb3; obtain ⟨d0, d1, d2⟩ := X2.on hb3; have z3 := World.block_lt_of_cell? _ _ d0; dsimp only at z3) | (go_at_call 96; refine (a2a false _).mono ?_; rintro e w4 ⟨rfl, rfl⟩))
 all_goals
  go_wp2
  go_ret
  refine ⟨rfl, ?_⟩
  first | exact E3 | exact a0c E3 _
end Go.Proofs.YthpgbienakcbeaaGreatDoor
