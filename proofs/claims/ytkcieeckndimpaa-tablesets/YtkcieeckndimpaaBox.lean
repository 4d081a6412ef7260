/- Boxes of three cells and of two: what a store makes of them. -/
import Derived.Test.YtkcieeckndimpaaTMay
namespace Go.Proofs.Ytkcieeckndimpaa
open Go.RowKit Go.Shelf
open Go

set_option linter.unusedSectionVars false
variable [DecidableEq Vl]

/-- The value nil. -/
def nilV : Vl := ⟨0, 0, ⟨#[]⟩, by decide, by decide, by decide⟩

/-- A value's box. -/
abbrev bx (x : Vl) : Obj := .cells #[.int .i64 x.k, .int .i64 x.n, .string x.s] 26

theorem set_block {W : World} {B i : Nat} {c : Array Value} {t : TypeId} {z : Nat × Nat} (v : Value) (h : W.heap[B]? = some (.cells c t z)) : (W.setCell ⟨B, i, none⟩ v).heap[B]? = some (.cells (c.setIfInBounds i v) t z) := by
  obtain ⟨hlt, hk⟩ := Array.getElem?_eq_some_iff.1 h
  show (W.heap.modify B _)[B]? = _
  rw [Array.getElem?_eq_getElem (by rw [Array.size_modify]; exact hlt), Array.getElem_modify_self, hk]
  rfl

theorem cell_block {W : World} {B i : Nat} {c : Array Value} {t : TypeId} {z : Nat × Nat} {v : Value} (h : W.heap[B]? = some (.cells c t z)) (hv : c[i]? = some v) : W.cell? ⟨B, i, none⟩ = some v := by
  simp [World.cell?, h, hv]
theorem frozen_block {W : World} {B i : Nat} {c : Array Value} {t : TypeId} (h : W.heap[B]? = some (.cells c t)) : W.frozen? ⟨B, i, none⟩ = false := by
  simp [World.frozen?, h]

theorem three_of {W : World} {B : Nat} {x : Vl} (h : W.heap[B]? = some (bx x)) : Three W B 0 x := ⟨cell_block h rfl, cell_block h rfl, cell_block h rfl⟩

/-- What a value's box says, for the walk. -/
structure In3 (W : World) (B : Nat) (x : Vl) : Prop where
  c0 : W.cell? ⟨B, 0, none⟩ = some (.int .i64 x.k)
  c1 : W.cell? ⟨B, 1, none⟩ = some (.int .i64 x.n)
  c2 : W.cell? ⟨B, 2, none⟩ = some (.string x.s)
  f0 : W.frozen? ⟨B, 0, none⟩ = false
  f1 : W.frozen? ⟨B, 1, none⟩ = false
  f2 : W.frozen? ⟨B, 2, none⟩ = false
theorem in3 {W : World} {B : Nat} {x : Vl} (h : W.heap[B]? = some (bx x)) : In3 W B x := ⟨cell_block h rfl, cell_block h rfl, cell_block h rfl, frozen_block h, frozen_block h, frozen_block h⟩

/-- x is stored into the box B. -/
abbrev put3 (W : World) (B : Nat) (x : Vl) : World := ((W.setCell ⟨B, 0, none⟩ (.int .i64 x.k)).setCell ⟨B, 1, none⟩ (.int .i64 x.n)).setCell ⟨B, 2, none⟩ (.string x.s)
theorem put3_same {W : World} {B : Nat} {x : Vl} (y : Vl) (h : W.heap[B]? = some (bx x)) : (put3 W B y).heap[B]? = some (bx y) := set_block _ (set_block _ (set_block _ h))
theorem put3_other (W : World) {B C : Nat} (y : Vl) (h : C ≠ B) : (put3 W B y).heap[C]? = W.heap[C]? := by
  unfold put3
  rw [Below.heap_setCell _ ⟨B, 2, none⟩ _ C h, Below.heap_setCell _ ⟨B, 1, none⟩ _ C h, Below.heap_setCell _ ⟨B, 0, none⟩ _ C h]
theorem put3_size (W : World) (B : Nat) (y : Vl) : (put3 W B y).heap.size = W.heap.size := by simp [put3, World.setCell]
theorem put3_keeps (W : World) (B : Nat) (y : Vl) : KeepsOthers W (put3 W B y) := ((KeepsOthers.setCell _ _ _).trans (KeepsOthers.setCell _ _ _)).trans (KeepsOthers.setCell _ _ _)
theorem put3_below {m : Nat} {w W : World} {B : Nat} (y : Vl) (h : Below m w W) (hB : m ≤ B) : Below m w (put3 W B y) := ((h.setCell (p := ⟨B, 0, none⟩) hB _).setCell (p := ⟨B, 1, none⟩) hB _).setCell (p := ⟨B, 2, none⟩) hB _

theorem set1_other (W : World) {B i C : Nat} (v : Value) (h : C ≠ B) : (W.setCell ⟨B, i, none⟩ v).heap[C]? = W.heap[C]? := Below.heap_setCell _ ⟨B, i, none⟩ _ C h

/-- The block of deferred calls is taken up: all other blocks lie as they lay. -/
theorem block_put {W : World} {B D : Nat} {o o' : Obj} (h : W.heap[B]? = some o) (hne : B ≠ D) : (W.putObj D o').heap[B]? = some o := (World.putObj_heap_other hne).trans h

/-- Are they the same? -/
theorem same_val (x y : Vl) : (x.k == y.k && x.n == y.n && x.s.toList == y.s.toList) = decide (x = y) := by
  by_cases h : x = y
  · subst h; simp
  · rw [decide_eq_false h]
    cases h1 : (x.k == y.k) <;> cases h2 : (x.n == y.n) <;> cases h3 : (x.s.toList == y.s.toList) <;> try rfl
    exact absurd (Vl.ext' (by simpa using h1) (by simpa using h2) (by simpa using h3)) h

/-- What stands under a key. -/
def look (zs : List (Vl × Vl)) (k : Vl) : Vl := ((zs.find? (fun p => decide (p.1 = k))).map (·.2)).getD nilV
def getT (xs ys : List Vl) (k : Vl) : Vl := if mayT xs ys = true then look (xs.zip ys) k else nilV

theorem look_none {zs : List (Vl × Vl)} {k : Vl} (h : ∀ p ∈ zs, p.1 ≠ k) : look zs k = nilV := by
  unfold look
  rw [List.find?_eq_none.2 (fun p hp => by simpa using h p hp)]
  rfl
theorem look_at {zs ini : List (Vl × Vl)} {k y : Vl} (h : ini ++ [(k, y)] <+: zs) (hi : ∀ p ∈ ini, p.1 ≠ k) : look zs k = y := by
  obtain ⟨r, rfl⟩ := h
  unfold look
  rw [List.find?_append, List.find?_append, List.find?_eq_none.2 (fun p hp => by simpa using hi p hp)]
  simp

end Go.Proofs.Ytkcieeckndimpaa
