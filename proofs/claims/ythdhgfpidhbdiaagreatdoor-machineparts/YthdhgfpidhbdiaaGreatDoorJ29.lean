/- Plain orders, as far as memory goes: a register becomes another one's value, or what a method gives. -/
import Derived.Test.YthdhgfpidhbdiaaGreatDoorJ27
namespace Go.Proofs.YthdhgfpidhbdiaaGreatDoor
open Go.RowKit
open Go

set_option linter.unusedSectionVars false
variable [DecidableEq Vl]

/-- A register becomes a value. -/
abbrev putg (W : World) (g a : Nat) (v : Vl) : World := ((W.setCell ⟨g, a * 3, none⟩ (.int .i64 v.k)).setCell ⟨g, a * 3 + 1, none⟩ (.int .i64 v.n)).setCell ⟨g, a * 3 + 2, none⟩ (.string v.s)
/-- A register may be written. -/
structure RegAt (W : World) (g a : Nat) (v : Vl) : Prop where
  t : Three W g (a * 3) v
  f0 : W.frozen? ⟨g, a * 3, none⟩ = false
  f1 : W.frozen? ⟨g, a * 3 + 1, none⟩ = false
  f2 : W.frozen? ⟨g, a * 3 + 2, none⟩ = false
theorem RegAt.on {W W' : World} {g a : Nat} {v : Vl} (h : RegAt W g a v) (hb : Below W.heap.size W W') : RegAt W' g a v := by
  have hg := World.block_lt_of_cell? _ _ h.t.k
  exact ⟨h.t.below hb hg, (hb.frozen (p := ⟨g, a * 3, none⟩) hg).trans h.f0, (hb.frozen (p := ⟨g, a * 3 + 1, none⟩) hg).trans h.f1, (hb.frozen (p := ⟨g, a * 3 + 2, none⟩) hg).trans h.f2⟩
set_option maxRecDepth 20000 in
set_option maxHeartbeats 4000000 in
theorem pl_move (pt : Value) (g n cp a b : Nat) (c : Int) (va vb : Vl) (W : World) (ha : RegAt W g a va) (hb : RegAt W g b vb) (hla : a < n) (hlb : b < n) :
    Calls Tryz.prog 80 #[pt, .slice (some ⟨g, 0, none⟩) n cp, .agg #[.int .i64 1, .int .i64 (a : Nat), .int .i64 (b : Nat), .int .i64 c]] W fun e W' => e = .returned (.tuple #[]) ∧ ∃ V, Below W.heap.size W V ∧ W' = putg V g a vb := by
  have hg := World.block_lt_of_cell? _ _ ha.t.k
  simp only at hg
  have hb1 := ext_alloc (Below.refl W.heap.size W) (.cells #[.int .i64 1, .int .i64 (a : Nat), .int .i64 (b : Nat), .int .i64 c] 82)
  have g1 : (W.alloc (.cells #[.int .i64 1, .int .i64 (a : Nat), .int .i64 (b : Nat), .int .i64 c] 82)).heap[W.heap.size]? = _ := heap_new _ _
  obtain ⟨w1, hw1⟩ : ∃ w1, W.alloc (.cells #[.int .i64 1, .int .i64 (a : Nat), .int .i64 (b : Nat), .int .i64 c] 82) = w1 := ⟨_, rfl⟩
  rw [hw1] at hb1 g1
  have o0 : w1.cell? ⟨W.heap.size, 0, none⟩ = some (.int .i64 1) := cell_block g1 rfl
  have o1 : w1.cell? ⟨W.heap.size, 1, none⟩ = some (.int .i64 (a : Nat)) := cell_block g1 rfl
  have o2 : w1.cell? ⟨W.heap.size, 2, none⟩ = some (.int .i64 (b : Nat)) := cell_block g1 rfl
  obtain ⟨⟨a0, a1, a2⟩, fa0, fa1, fa2⟩ := ha.on hb1
  obtain ⟨⟨b0, b1, b2⟩, _, _, _⟩ := hb.on hb1
  go_enter Tryz.func80, Tryz.ntmps80
  go_wp2
  go_region
  all_goals
    go_wp2
    go_end0
    exact ⟨rfl, w1.drew, ext_drew hb1, rfl⟩
/-- What a method that gives a value leaves, way by way. -/
structure VT (W : World) (R : Int ⊕ Vl) (e : Ending) (W' : World) : Prop where
  b : Below W.heap.size W W'
  w : (∃ c, R = .inl c ∧ e = .panicked (pan (flr c))) ∨ (∃ r, R = .inr r ∧ e = .returned r.v)
theorem VQ.two {W W' : World} {R : Int ⊕ Vl} {e : Ending} (h : VQ W R e W') : VT W R e W' := by
  obtain ⟨h1, h2⟩ := h
  cases R with
  | inl c => exact ⟨h1, .inl ⟨c, rfl, h2⟩⟩
  | inr r => exact ⟨h1, .inr ⟨r, rfl, h2⟩⟩
/-- What a plain order leaves that puts a value into a register. -/
def PQ (W : World) (g a : Nat) (R : Int ⊕ Vl) (e : Ending) (W' : World) : Prop :=
  (∃ c, R = .inl c ∧ e = .panicked (pan (flr c)) ∧ Below W.heap.size W W') ∨ (∃ r, R = .inr r ∧ e = .returned (.tuple #[]) ∧ ∃ V, Below W.heap.size W V ∧ W' = putg V g a r)
set_option maxRecDepth 20000 in
set_option maxHeartbeats 8000000 in
theorem pl_len (B g n cp a b : Nat) (c : Int) (va vb : Vl) (R : Int ⊕ Vl) (W : World) (ha : RegAt W g a va) (hb : RegAt W g b vb) (hla : a < n) (hlb : b < n)
    (hq : ∀ w2, Below W.heap.size W w2 → Calls Tryz.prog 101 #[.pointer (some ⟨B, 0, none⟩), vb.v] w2 (VQ w2 R)) :
    Calls Tryz.prog 80 #[.pointer (some ⟨B, 0, none⟩), .slice (some ⟨g, 0, none⟩) n cp, .agg #[.int .i64 6, .int .i64 (a : Nat), .int .i64 (b : Nat), .int .i64 c]] W (PQ W g a R) := by
  have hg := World.block_lt_of_cell? _ _ ha.t.k
  simp only at hg
  have hb1 := ext_alloc (Below.refl W.heap.size W) (.cells #[.int .i64 6, .int .i64 (a : Nat), .int .i64 (b : Nat), .int .i64 c] 82)
  have g1 : (W.alloc (.cells #[.int .i64 6, .int .i64 (a : Nat), .int .i64 (b : Nat), .int .i64 c] 82)).heap[W.heap.size]? = some (.cells #[.int .i64 6, .int .i64 (a : Nat), .int .i64 (b : Nat), .int .i64 c] 82) := heap_new _ _
  obtain ⟨w1, hw1⟩ : ∃ w1, W.alloc (.cells #[.int .i64 6, .int .i64 (a : Nat), .int .i64 (b : Nat), .int .i64 c] 82) = w1 := ⟨_, rfl⟩
  rw [hw1] at hb1 g1
  have o0 : w1.cell? ⟨W.heap.size, 0, none⟩ = some (.int .i64 6) := cell_block g1 rfl
  have o1 : w1.cell? ⟨W.heap.size, 1, none⟩ = some (.int .i64 (a : Nat)) := cell_block g1 rfl
  have o2 : w1.cell? ⟨W.heap.size, 2, none⟩ = some (.int .i64 (b : Nat)) := cell_block g1 rfl
  have o3 : w1.cell? ⟨W.heap.size, 3, none⟩ = some (.int .i64 c) := cell_block g1 rfl
  obtain ⟨⟨b0, b1, b2⟩, _, _, _⟩ := hb.on hb1
  have hS : ∀ u, Below w1.heap.size w1 u → u.cell? ⟨W.heap.size, 1, none⟩ = some (.int .i64 (a : Nat)) ∧ RegAt u g a va := fun u h => ⟨cellB h o1, (ha.on hb1).on h⟩
  have hq' : ∀ w2, Below W.heap.size W w2 → Calls Tryz.prog 101 #[.pointer (some ⟨B, 0, none⟩), vb.v] w2 (VT w2 R) := fun w2 h => (hq w2 h).mono fun _ _ k => k.two
  replace hq' : Hid _ := hq'
  replace hS : Hid _ := hS
  clear hq g1 ha hb
  go_enter Tryz.func80, Tryz.ntmps80
  go_wp2
  go_region_with (first | (go_at_call 101; refine (hq'.out _ (ext_drew hb1)).mono ?_; rintro e w2 ⟨hb2, (⟨cc, hR, rfl⟩ | ⟨r, hR, rfl⟩)⟩; (exact ⟨rfl, .inl ⟨cc, hR, rfl, ext_trans (ext_drew hb1) hb2⟩⟩); obtain ⟨k1, ⟨_, _, _⟩, fa0, fa1, fa2⟩ := hS.out w2 (ext_trans (ext_drew (Below.refl _ _)) hb2)))
  all_goals
    go_wp2
    go_end0
    exact .inr ⟨r, hR, rfl, w2, ext_trans (ext_drew hb1) hb2, rfl⟩
end Go.Proofs.YthdhgfpidhbdiaaGreatDoor
