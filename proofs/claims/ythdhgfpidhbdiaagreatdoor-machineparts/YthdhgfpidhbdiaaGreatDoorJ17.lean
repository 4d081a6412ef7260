/- mayOrder: an order at its place. mayOrder: an order at its place, whatever row of questions is asked of it. -/
import Derived.Test.YthdhgfpidhbdiaaGreatDoorJ11
import Derived.Deep.RegionWith
import Derived.Deep.QuietTactic
import Derived.BigQuiet
import Derived.Lib.Hide
namespace Go.Proofs.YthdhgfpidhbdiaaGreatDoor
open Go.RowKit
open Go

theorem cell_blk {W : World} {B i : Nat} {c : Array Value} {t : TypeId} {z : Nat × Nat} {v : Value} (h : W.heap[B]? = some (.cells c t z)) (hv : c[i]? = some v) : W.cell? ⟨B, i, none⟩ = some v := by
  simp [World.cell?, h, hv]
theorem blk_below {W W' : World} {B : Nat} {o : Obj} (hb : Below W.heap.size W W') (h : W.heap[B]? = some o) : W'.heap[B]? = some o := (hb.block B (Array.getElem?_eq_some_iff.1 h).1).trans h
theorem heap_new (w : World) (o : Obj) : (w.alloc o).heap[w.heap.size]? = some o := by
  show (w.heap.push o)[w.heap.size]? = some o
  simp
theorem idx0 (a b c : Value) (w : World) : (Instr.index 132 (.agg #[a, b, c]) (.int .i64 0)).run Tryz.prog w = .ok a w := by
  simp [Instr.index, run_underlying Tryz.underlying132, asIntOf, go_sem]
theorem idx1 (a b c : Value) (w : World) : (Instr.index 132 (.agg #[a, b, c]) (.int .i64 1)).run Tryz.prog w = .ok b w := by
  simp [Instr.index, run_underlying Tryz.underlying132, asIntOf, go_sem]
theorem idx2 (a b c : Value) (w : World) : (Instr.index 132 (.agg #[a, b, c]) (.int .i64 2)).run Tryz.prog w = .ok c w := by
  simp [Instr.index, run_underlying Tryz.underlying132, asIntOf, go_sem]
theorem drewN_below {m n : Nat} {w W : World} (h : Below m w W) : Below m w (W.drewN n) := ⟨h.os, h.tape, h.output, h.size, h.block⟩
theorem eql46 (w : World) (a : Option Addr) (n c : Nat) : (binOp .eql 130 (.slice a n c) (.slice none 0 0)).run Tryz.prog w = .ok (.bool a.isNone) w := Lib.run_eql_slice_nil w 130 134 a n c 0 0 Tryz.underlying130

theorem nine {W : World} {B : Nat} {t : TypeId} {v0 v1 v2 v3 v4 v5 v6 v7 v8 : Value} (h : W.heap[B]? = some (.cells #[v0, v1, v2, v3, v4, v5, v6, v7, v8] t)) :
    W.cell? ⟨B, 0, none⟩ = some v0 ∧ W.cell? ⟨B, 1, none⟩ = some v1 ∧ W.cell? ⟨B, 2, none⟩ = some v2 ∧ W.cell? ⟨B, 3, none⟩ = some v3 ∧ W.cell? ⟨B, 4, none⟩ = some v4 ∧ W.cell? ⟨B, 5, none⟩ = some v5 ∧ W.cell? ⟨B, 6, none⟩ = some v6 ∧ W.cell? ⟨B, 7, none⟩ = some v7 ∧ W.cell? ⟨B, 8, none⟩ = some v8 :=
  ⟨cell_blk h rfl, cell_blk h rfl, cell_blk h rfl, cell_blk h rfl, cell_blk h rfl, cell_blk h rfl, cell_blk h rfl, cell_blk h rfl, cell_blk h rfl⟩

end Go.Proofs.YthdhgfpidhbdiaaGreatDoor
namespace Go.Proofs.YthdhgfpidhbdiaaGreatDoor
open Go.RowKit
open Go

theorem wp_quiet {P : Program} {id : Nat} {Q : Exit → Act → World → Prop} {a : Act} {w : World} {l : List Oper} (C : World → Prop) (hm : P.follows .mixedOrders = true) (hB : Region.lexB .any l.toArray = true) (hC : C w.drew) (h : wpQuiet P l.toArray C (fun a' => ∀ w', C w' → Q .normal a' w') l a) : (Code.region id l.toArray true).wp P Q a w :=
  wp_region_quiet (C := C) hm hB hC (by simpa using h)
theorem quiet_want {P : Program} {ops : Array Oper} {C : World → Prop} {Q : Act → Prop} {a : Act} {o : Oper} {rest : List Oper} {v : Value} (hw : Region.wanted o (yielded ops a.tmps) = true) (hv : ∀ u, C u → o.quietAt P a C u v) (h : wpQuiet P ops C Q rest (a.put o.dst v)) : wpQuiet P ops C Q (o :: rest) a := BigFrame.wpQuiet_want hw fun _ hK => ⟨v, hv, hK _ h⟩

/-- What a question says of a number. -/
def qB (f : Fd) (x : Od) (i q : Nat) (n : Int) : Bool := if q = 109 then belB n f.r else if q = 110 then belB n f.cs.length else if q = 111 then belB n f.is.length else if q = 112 then frB 0 n i else argB f x n
def upTo (m : Nat) (B0 B1 B2 : Bool) : Prop := (1 ≤ m → B0 = true) ∧ (2 ≤ m → B1 = true) ∧ (3 ≤ m → B2 = true)
def isQ (q : Nat) : Prop := q = 109 ∨ q = 110 ∨ q = 111 ∨ q = 112 ∨ q = 113
theorem ask_any (f : Fd) (x : Od) (i q : Nat) (hq : isQ q) (n : Int) (w : World) : Calls Tryz.prog q #[plc f x i, .int .i64 n] w fun r w' => r = .returned (.bool (qB f x i q n)) ∧ Below w.heap.size w w' := by
  rcases hq with rfl | rfl | rfl | rfl | rfl
  · exact reg_any f x i n w
  · exact const_any f x i n w
  · exact order_any f x i n w
  · exact back_any f x i n w
  · exact args_any f x i n w
end Go.Proofs.YthdhgfpidhbdiaaGreatDoor
