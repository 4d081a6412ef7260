/- Plain orders, as far as memory goes: Next. -/
import Derived.Test.YthpgbienakcbeaaGreatDoorS32
namespace Go.Proofs.YthpgbienakcbeaaGreatDoor
open Go.RowKit Go
set_option maxRecDepth 100000
set_option maxHeartbeats 8000000
set_option linter.all false
section
variable [DecidableEq Vl]
theorem d0a (B g n cp a b c : Nat) (va vb vc : Vl) (R : Int ⊕ Vl) (W : World) (ha : a3g W g a va) (hb : a3g W g b vb) (hc : a3g W g c vc) (hla : a < n) (hlb : b < n) (hlc : c < n)
  (hq : ∀ w2, Below W.heap.size W w2 → Calls Tryz.prog 102 #[.pointer (some ⟨B, 0, none⟩), vb.v, vc.v] w2 (VQ w2 R)) :
  Calls Tryz.prog 80 #[.pointer (some ⟨B, 0, none⟩), .slice (some ⟨g, 0, none⟩) n cp, .agg #[.int .i64 7, .int .i64 (a : Nat), .int .i64 (b : Nat), .int .i64 (c : Nat)]] W (PQ W g a R) := by
 have hg := World.block_lt_of_cell? _ _ ha.t.k
 simp only at hg
 have hb1 := a0c (Below.refl W.heap.size W) (.cells #[.int .i64 7, .int .i64 (a : Nat), .int .i64 (b : Nat), .int .i64 (c : Nat)] 82)
 have g1 : (W.alloc (.cells #[.int .i64 7, .int .i64 (a : Nat), .int .i64 (b : Nat), .int .i64 (c : Nat)] 82)).heap[W.heap.size]? = some (.cells #[.int .i64 7, .int .i64 (a : Nat), .int .i64 (b : Nat), .int .i64 (c : Nat)] 82) := a0h _ _
 obtain ⟨w1, hw1⟩ := exq (W.alloc (.cells #[.int .i64 7, .int .i64 (a : Nat), .int .i64 (b : Nat), .int .i64 (c : Nat)] 82))
 rw [hw1] at hb1 g1
 have o0 : w1.cell? ⟨W.heap.size, 0, none⟩ = some (.int .i64 7) := a0a g1 rfl
 have o1 : w1.cell? ⟨W.heap.size, 1, none⟩ = some (.int .i64 (a : Nat)) := a0a g1 rfl
 have o2 : w1.cell? ⟨W.heap.size, 2, none⟩ = some (.int .i64 (b : Nat)) := a0a g1 rfl
 have o3 : w1.cell? ⟨W.heap.size, 3, none⟩ = some (.int .i64 (c : Nat)) := a0a g1 rfl
 obtain ⟨⟨b0, b1, b2⟩, _, _, _⟩ := hb.on hb1
 obtain ⟨⟨c0, c1, c2⟩, _, _, _⟩ := hc.on hb1
 have hS : ∀ u, Below w1.heap.size w1 u → u.cell? ⟨W.heap.size, 1, none⟩ = some (.int .i64 (a : Nat)) ∧ a3g u g a va := fun u h => ⟨a0l h o1, (ha.on hb1).on h⟩
 have hq' : ∀ w2, Below W.heap.size W w2 → Calls Tryz.prog 102 #[.pointer (some ⟨B, 0, none⟩), vb.v, vc.v] w2 (VT w2 R) := fun w2 h => (hq w2 h).mono fun _ _ k => k.two
 replace hq' : Hid _ := hq'
 replace hS : Hid _ := hS
 clear hq g1 ha hb hc
 go_enter Tryz.func80, Tryz.ntmps80
 go_wp2
 go_region_with (first | (go_at_call 102; refine (hq'.out _ (a0i hb1)).mono ?_; rintro e w2 ⟨hb2, (⟨cc, hR, rfl⟩ | ⟨r, hR, rfl⟩)⟩; (exact ⟨rfl, .inl ⟨cc, hR, rfl, a0b (a0i hb1) hb2⟩⟩); obtain ⟨k1, ⟨_, _, _⟩, fa0, fa1, fa2⟩ := hS.out w2 (a0b (a0i (Below.refl _ _)) hb2)))
 all_goals
  go_wp2
  go_end0
  exact .inr ⟨r, hR, rfl, w2, a0b (a0i hb1) hb2, rfl⟩
end
end Go.Proofs.YthpgbienakcbeaaGreatDoor
