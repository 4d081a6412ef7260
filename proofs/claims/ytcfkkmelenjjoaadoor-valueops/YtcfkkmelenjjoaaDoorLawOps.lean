/- The law ValueOps, walked over whatever both calls of Op answer, if they answer alike. -/
import Derived.Test.YtcfkkmelenjjoaaDoorRopA
namespace Go.Proofs.YtcfkkmelenjjoaaDoor
open Go.RowKit
open Go

theorem pair0 (w : World) (k n k' n' : Int) (s s' : ByteArray) : Box1 w.heap.size k n s ((w.alloc (box k n s)).alloc (box k' n' s')) ∧ Box1 (w.heap.size + 1) k' n' s' ((w.alloc (box k n s)).alloc (box k' n' s')) :=
  ⟨(box1_0 w k n s).alloc _, by
    have := box1_0 (w.alloc (box k n s)) k' n' s'
    rwa [World.size_alloc] at this⟩

set_option maxHeartbeats 1600000 in
theorem ops_walk (op k n k' n' k3 n3 er : Int) (s s' s3 : ByteArray) (w : World)
    (C1 : ∀ w1, Below w.heap.size w w1 → Calls Tryd.prog 13 #[.int .i64 op, val k n s, val k' n' s'] w1 fun e w' => e = .returned (.tuple #[val k3 n3 s3, .int .i64 er]) ∧ Below w1.heap.size w1 w')
    (C2 : ∀ w1, Calls Tryd.prog 14 #[.int .i64 op, val k n s, val k' n' s'] w1 fun e w' => e = .returned (.tuple #[val k3 n3 s3, .int .i64 er]) ∧ Below w1.heap.size w1 w') :
    Calls Tryd.prog 4 #[.int .i64 op, val k n s, val k' n' s'] w fun e w' => e = .returned (.bool true) ∧ Below w.heap.size w w' := by
  obtain ⟨P0, Q0⟩ := pair0 w k n k' n' s s'
  have E0 : Below w.heap.size w ((w.alloc (box k n s)).alloc (box k' n' s')) := ext_alloc (ext_alloc (Below.refl _ _) _) _
  go_enter Tryd.func4, Tryd.ntmps4
  go_wp2_with (go_at_call 13; refine (C1 _ E0).mono ?_; rintro e w1 ⟨rfl, hb1⟩; refine Hid.out ?_)
  refine Lib.hid ?_
  have P1 := P0.on hb1
  have Q1 := Q0.on hb1
  obtain ⟨a0, a1, a2⟩ := id P1
  obtain ⟨b0, b1, b2⟩ := id Q1
  have z0 := World.block_lt_of_cell? _ _ a0
  have z1 := World.block_lt_of_cell? _ _ b0
  dsimp only at z0 z1
  have E1 := ext_trans E0 hb1
  go_wp2_with (go_at_call 14; refine (C2 _).mono ?_; rintro e w2 ⟨rfl, hb2⟩; refine Hid.out ?_)
  refine Lib.hid ?_
  obtain ⟨q0, q1, q2⟩ := (box1_0 w1 k3 n3 s3).on hb2
  have y1 := World.block_lt_of_cell? _ _ q0
  dsimp only at y1
  have E2 := ext_trans (ext_alloc E1 _) hb2
  go_wp2_with (go_at_call 15; refine (rsame_t _ _ _ _).mono ?_; rintro e w3 ⟨rfl, rfl⟩)
  go_ret
  exact ⟨by simp, ext_alloc (ext_alloc (ext_alloc E2 _) _) _⟩
end Go.Proofs.YtcfkkmelenjjoaaDoor
