/- Walks of the value package, on the way to the statements of chapter 1. -/
import Derived.Test.YthpgbienakcbeaaGreatDoorR06
import Derived.Test.YthpgbienakcbeaaGreatDoorR03
namespace Go.Proofs.YthpgbienakcbeaaGreatDoor
open Go.RowKit Go
set_option maxRecDepth 100000
set_option maxHeartbeats 8000000
set_option linter.all false
structure Asks2 (c v : Nat) (k n k' n' : Int) (s s' : ByteArray) (w : World) : Prop where
 hp : w.cell? ⟨c, 0, none⟩ = some (.slice (some ⟨v, 0, none⟩) 2 2)
 h0 : w.cell? ⟨v, 0, none⟩ = some (.int .i64 k)
 h1 : w.cell? ⟨v, 1, none⟩ = some (.int .i64 n)
 h2 : w.cell? ⟨v, 2, none⟩ = some (.string s)
 h3 : w.cell? ⟨v, 3, none⟩ = some (.int .i64 k')
 h4 : w.cell? ⟨v, 4, none⟩ = some (.int .i64 n')
 h5 : w.cell? ⟨v, 5, none⟩ = some (.string s')
theorem Asks2.alloc {c v : Nat} {k n k' n' : Int} {s s' : ByteArray} {w : World} (h : Asks2 c v k n k' n' s s' w) (o : Obj) : Asks2 c v k n k' n' s s' (w.alloc o) := by
 obtain ⟨hp, h0, h1, h2, h3, h4, h5⟩ := h
 have hc := World.block_lt_of_cell? _ _ hp
 have hv := World.block_lt_of_cell? _ _ h0
 exact ⟨(World.cell?_alloc_past _ _ _ hc).trans hp, (World.cell?_alloc_past _ _ _ hv).trans h0, (World.cell?_alloc_past _ _ _ hv).trans h1, (World.cell?_alloc_past _ _ _ hv).trans h2, (World.cell?_alloc_past _ _ _ hv).trans h3, (World.cell?_alloc_past _ _ _ hv).trans h4, (World.cell?_alloc_past _ _ _ hv).trans h5⟩
theorem each21t (b c v : Nat) (y k n k' n' : Int) (s s' : ByteArray) (w : World) (hc : w.cell? ⟨b, 0, none⟩ = some (.int .i64 y)) (ha : Asks2 c v k n k' n' s s' w) (h : (k == y) = true) (h' : (k' == y) = true) :
  Calls Tryz.prog 107 #[.slice (some ⟨b, 0, none⟩) 1 1, .pointer (some ⟨c, 0, none⟩)] w fun e w' => e = .returned (.bool true) ∧ w' = (w.alloc (box k n s)).alloc (box k' n' s') := by
 have hb := World.block_lt_of_cell? _ _ hc
 have hv := World.block_lt_of_cell? _ _ ha.h0
 obtain ⟨hp, h0, h1, h2, h3, h4, h5⟩ := ha
 have hb2 : b < w.heap.size + 1 := Nat.lt_succ_of_lt hb
 have hv2 : v < w.heap.size + 1 := Nat.lt_succ_of_lt hv
 go_enter Tryz.func107, Tryz.ntmps107
 go_wp2
 refine wp_loop_rounds 3 ?_
 rw [rounds_succ]
 go_wp2_with (go_at_call 108; refine (contains1 _ y _ _ ((World.cell?_alloc_past _ _ _ hb).trans hc)).mono ?_; rw [h]; rintro e w' ⟨rfl, rfl⟩)
 rw [rounds_succ]
 go_wp2_with (go_at_call 108; refine (contains1 _ y _ _ ((World.cell?_alloc_past _ _ _ (by simpa using hb2)).trans ((World.cell?_alloc_past _ _ _ hb).trans hc))).mono ?_; rw [h']; rintro e w' ⟨rfl, rfl⟩)
 rw [rounds_succ]
 go_wp2
 go_ret
 exact ⟨rfl, rfl⟩
theorem each21f (b c v : Nat) (y k n k' n' : Int) (s s' : ByteArray) (w : World) (hc : w.cell? ⟨b, 0, none⟩ = some (.int .i64 y)) (ha : Asks2 c v k n k' n' s s' w) (h : (k == y) = false) :
  Calls Tryz.prog 107 #[.slice (some ⟨b, 0, none⟩) 1 1, .pointer (some ⟨c, 0, none⟩)] w fun e w' => e = .returned (.bool false) ∧ w' = w.alloc (box k n s) := by
 have hb := World.block_lt_of_cell? _ _ hc
 have hv := World.block_lt_of_cell? _ _ ha.h0
 obtain ⟨hp, h0, h1, h2, h3, h4, h5⟩ := ha
 go_enter Tryz.func107, Tryz.ntmps107
 go_wp2
 refine wp_loop_rounds 3 ?_
 rw [rounds_succ]
 go_wp2_with (go_at_call 108; refine (contains1 _ y _ _ ((World.cell?_alloc_past _ _ _ hb).trans hc)).mono ?_; rw [h]; rintro e w' ⟨rfl, rfl⟩)
 go_ret
 exact ⟨rfl, rfl⟩
theorem each21g (b c v : Nat) (y k n k' n' : Int) (s s' : ByteArray) (w : World) (hc : w.cell? ⟨b, 0, none⟩ = some (.int .i64 y)) (ha : Asks2 c v k n k' n' s s' w) (h : (k == y) = true) (h' : (k' == y) = false) :
  Calls Tryz.prog 107 #[.slice (some ⟨b, 0, none⟩) 1 1, .pointer (some ⟨c, 0, none⟩)] w fun e w' => e = .returned (.bool false) ∧ w' = (w.alloc (box k n s)).alloc (box k' n' s') := by
 have hb := World.block_lt_of_cell? _ _ hc
 have hv := World.block_lt_of_cell? _ _ ha.h0
 obtain ⟨hp, h0, h1, h2, h3, h4, h5⟩ := ha
 have hb2 : b < w.heap.size + 1 := Nat.lt_succ_of_lt hb
 have hv2 : v < w.heap.size + 1 := Nat.lt_succ_of_lt hv
 go_enter Tryz.func107, Tryz.ntmps107
 go_wp2
 refine wp_loop_rounds 3 ?_
 rw [rounds_succ]
 go_wp2_with (go_at_call 108; refine (contains1 _ y _ _ ((World.cell?_alloc_past _ _ _ hb).trans hc)).mono ?_; rw [h]; rintro e w' ⟨rfl, rfl⟩)
 rw [rounds_succ]
 go_wp2_with (go_at_call 108; refine (contains1 _ y _ _ ((World.cell?_alloc_past _ _ _ (by simpa using hb2)).trans ((World.cell?_alloc_past _ _ _ hb).trans hc))).mono ?_; rw [h']; rintro e w' ⟨rfl, rfl⟩)
 go_ret
 exact ⟨rfl, rfl⟩
theorem each22t (b c v : Nat) (y z k n k' n' : Int) (s s' : ByteArray) (w : World) (hc : w.cell? ⟨b, 0, none⟩ = some (.int .i64 y)) (hd : w.cell? ⟨b, 1, none⟩ = some (.int .i64 z)) (ha : Asks2 c v k n k' n' s s' w) (h : (k == y || k == z) = true) (h' : (k' == y || k' == z) = true) :
  Calls Tryz.prog 107 #[.slice (some ⟨b, 0, none⟩) 2 2, .pointer (some ⟨c, 0, none⟩)] w fun e w' => e = .returned (.bool true) ∧ w' = (w.alloc (box k n s)).alloc (box k' n' s') := by
 have hb := World.block_lt_of_cell? _ _ hc
 have hv := World.block_lt_of_cell? _ _ ha.h0
 obtain ⟨hp, h0, h1, h2, h3, h4, h5⟩ := ha
 have hb2 : b < w.heap.size + 1 := Nat.lt_succ_of_lt hb
 have hv2 : v < w.heap.size + 1 := Nat.lt_succ_of_lt hv
 go_enter Tryz.func107, Tryz.ntmps107
 go_wp2
 refine wp_loop_rounds 3 ?_
 rw [rounds_succ]
 go_wp2_with (go_at_call 108; refine (contains2 _ y z _ _ ((World.cell?_alloc_past _ _ _ hb).trans hc) ((World.cell?_alloc_past _ _ _ hb).trans hd)).mono ?_; rw [h]; rintro e w' ⟨rfl, rfl⟩)
 rw [rounds_succ]
 go_wp2_with (go_at_call 108; refine (contains2 _ y z _ _ ((World.cell?_alloc_past _ _ _ (by simpa using hb2)).trans ((World.cell?_alloc_past _ _ _ hb).trans hc)) ((World.cell?_alloc_past _ _ _ (by simpa using hb2)).trans ((World.cell?_alloc_past _ _ _ hb).trans hd))).mono ?_; rw [h']; rintro e w' ⟨rfl, rfl⟩)
 rw [rounds_succ]
 go_wp2
 go_ret
 exact ⟨rfl, rfl⟩
theorem each22f (b c v : Nat) (y z k n k' n' : Int) (s s' : ByteArray) (w : World) (hc : w.cell? ⟨b, 0, none⟩ = some (.int .i64 y)) (hd : w.cell? ⟨b, 1, none⟩ = some (.int .i64 z)) (ha : Asks2 c v k n k' n' s s' w) (h : (k == y || k == z) = false) :
  Calls Tryz.prog 107 #[.slice (some ⟨b, 0, none⟩) 2 2, .pointer (some ⟨c, 0, none⟩)] w fun e w' => e = .returned (.bool false) ∧ w' = w.alloc (box k n s) := by
 have hb := World.block_lt_of_cell? _ _ hc
 have hv := World.block_lt_of_cell? _ _ ha.h0
 obtain ⟨hp, h0, h1, h2, h3, h4, h5⟩ := ha
 go_enter Tryz.func107, Tryz.ntmps107
 go_wp2
 refine wp_loop_rounds 3 ?_
 rw [rounds_succ]
 go_wp2_with (go_at_call 108; refine (contains2 _ y z _ _ ((World.cell?_alloc_past _ _ _ hb).trans hc) ((World.cell?_alloc_past _ _ _ hb).trans hd)).mono ?_; rw [h]; rintro e w' ⟨rfl, rfl⟩)
 go_ret
 exact ⟨rfl, rfl⟩
theorem each22g (b c v : Nat) (y z k n k' n' : Int) (s s' : ByteArray) (w : World) (hc : w.cell? ⟨b, 0, none⟩ = some (.int .i64 y)) (hd : w.cell? ⟨b, 1, none⟩ = some (.int .i64 z)) (ha : Asks2 c v k n k' n' s s' w) (h : (k == y || k == z) = true) (h' : (k' == y || k' == z) = false) :
  Calls Tryz.prog 107 #[.slice (some ⟨b, 0, none⟩) 2 2, .pointer (some ⟨c, 0, none⟩)] w fun e w' => e = .returned (.bool false) ∧ w' = (w.alloc (box k n s)).alloc (box k' n' s') := by
 have hb := World.block_lt_of_cell? _ _ hc
 have hv := World.block_lt_of_cell? _ _ ha.h0
 obtain ⟨hp, h0, h1, h2, h3, h4, h5⟩ := ha
 have hb2 : b < w.heap.size + 1 := Nat.lt_succ_of_lt hb
 have hv2 : v < w.heap.size + 1 := Nat.lt_succ_of_lt hv
 go_enter Tryz.func107, Tryz.ntmps107
 go_wp2
 refine wp_loop_rounds 3 ?_
 rw [rounds_succ]
 go_wp2_with (go_at_call 108; refine (contains2 _ y z _ _ ((World.cell?_alloc_past _ _ _ hb).trans hc) ((World.cell?_alloc_past _ _ _ hb).trans hd)).mono ?_; rw [h]; rintro e w' ⟨rfl, rfl⟩)
 rw [rounds_succ]
 go_wp2_with (go_at_call 108; refine (contains2 _ y z _ _ ((World.cell?_alloc_past _ _ _ (by simpa using hb2)).trans ((World.cell?_alloc_past _ _ _ hb).trans hc)) ((World.cell?_alloc_past _ _ _ (by simpa using hb2)).trans ((World.cell?_alloc_past _ _ _ hb).trans hd))).mono ?_; rw [h']; rintro e w' ⟨rfl, rfl⟩)
 go_ret
 exact ⟨rfl, rfl⟩
theorem vnumber_any (n : Int) (w : World) :
  Calls Tryz.prog 118 #[.int .i64 n] w fun e w' => e = .returned (val 2 n ⟨#[]⟩) ∧ w' = w.alloc (box 2 n ⟨#[]⟩) := by
 go_enter Tryz.func118, Tryz.ntmps118
 go_wp2
 exact bodyPost_ret (v := val 2 n ⟨#[]⟩) (by simp [results, Tryz.results118, go_sem]) rfl ⟨rfl, rfl⟩
theorem boolean_any (b : Bool) (w : World) :
  Calls Tryz.prog 96 #[.bool b] w fun e w' => e = .returned (val 1 (if b then 1 else 0) ⟨#[]⟩) ∧ w' = w.alloc (box 1 (if b then 1 else 0) ⟨#[]⟩) := by
 cases b
 all_goals
  go_enter Tryz.func96, Tryz.ntmps96
  go_wp2
  exact bodyPost_ret (v := val 1 _ ⟨#[]⟩) (by simp [results, Tryz.results96, go_sem]) rfl ⟨rfl, rfl⟩
theorem floor_any (a b : Int) (w : World) (hb : (b == 0) = false) :
  Calls Tryz.prog 133 #[.int .i64 a, .int .i64 b] w fun e w' => e = .returned (.int .i64 (divV a b)) ∧ w' = w := by
 have hb0 : b ≠ 0 := by simpa using hb
 rcases Bool.eq_false_or_eq_true (a.tmod b == 0) with hm | hm
 ·have hm0 : a.tmod b = 0 := by simpa using hm
  go_enter Tryz.func133, Tryz.ntmps133
  go_wp2
  go_ret
  exact ⟨ret_int (by unfold divV; rw [← fdiv_zero hb0 hm0]), rfl⟩
 ·have hm0 : ¬ a.tmod b = 0 := by simpa using hm
  clear hm
  by_cases ha : a < 0
  ·by_cases hc : b < 0
   ·go_enter Tryz.func133, Tryz.ntmps133
    go_wp2
    go_ret
    exact ⟨ret_int (by unfold divV; rw [← fdiv_same hb0 (by simp [ha, hc])]), rfl⟩
   ·go_enter Tryz.func133, Tryz.ntmps133
    go_wp2
    go_ret
    exact ⟨ret_int (by unfold divV; rw [← fdiv_less hb0 hm0 (by simp [ha]; omega), wrap_pred]), rfl⟩
  ·have hme : ¬ a % b = 0 := by rw [← Int.tmod_eq_emod_of_nonneg (by omega)]; exact hm0
   by_cases hc : b < 0
   ·go_enter Tryz.func133, Tryz.ntmps133
    go_wp2
    go_ret
    exact ⟨ret_int (by unfold divV; rw [← fdiv_less hb0 hm0 (by simp [hc]; omega), wrap_pred]), rfl⟩
   ·go_enter Tryz.func133, Tryz.ntmps133
    go_wp2
    go_ret
    exact ⟨ret_int (by unfold divV; rw [← fdiv_same hb0 (by omega)]), rfl⟩
structure Boxes (b : Nat) (k n k' n' k2 n2 : Int) (s s' s2 : ByteArray) (w : World) : Prop where
 a0 : w.cell? ⟨b, 0, none⟩ = some (.int .i64 k)
 a1 : w.cell? ⟨b, 1, none⟩ = some (.int .i64 n)
 a2 : w.cell? ⟨b, 2, none⟩ = some (.string s)
 b0 : w.cell? ⟨b + 1, 0, none⟩ = some (.int .i64 k')
 b1 : w.cell? ⟨b + 1, 1, none⟩ = some (.int .i64 n')
 b2 : w.cell? ⟨b + 1, 2, none⟩ = some (.string s')
 c0 : w.cell? ⟨b + 1 + 1, 0, none⟩ = some (.int .i64 k2)
 c1 : w.cell? ⟨b + 1 + 1, 1, none⟩ = some (.int .i64 n2)
 c2 : w.cell? ⟨b + 1 + 1, 2, none⟩ = some (.string s2)
 f0 : w.frozen? ⟨b + 1 + 1, 0, none⟩ = false
 f1 : w.frozen? ⟨b + 1 + 1, 1, none⟩ = false
 f2 : w.frozen? ⟨b + 1 + 1, 2, none⟩ = false
theorem boxes0 (w : World) (k n k' n' k2 n2 : Int) (s s' s2 : ByteArray) : Boxes w.heap.size k n k' n' k2 n2 s s' s2 (((w.alloc (box k n s)).alloc (box k' n' s')).alloc (box k2 n2 s2)) := by
 constructor
 ·rw [World.cell?_alloc_past _ _ _ (by simp; omega), World.cell?_alloc_past _ _ _ (by simp), World.cell?_alloc_at _ _ _ _ rfl]; rfl
 ·rw [World.cell?_alloc_past _ _ _ (by simp; omega), World.cell?_alloc_past _ _ _ (by simp), World.cell?_alloc_at _ _ _ _ rfl]; rfl
 ·rw [World.cell?_alloc_past _ _ _ (by simp; omega), World.cell?_alloc_past _ _ _ (by simp), World.cell?_alloc_at _ _ _ _ rfl]; rfl
 ·rw [World.cell?_alloc_past _ _ _ (by simp), World.cell?_alloc_at _ _ _ _ (by simp)]; rfl
 ·rw [World.cell?_alloc_past _ _ _ (by simp), World.cell?_alloc_at _ _ _ _ (by simp)]; rfl
 ·rw [World.cell?_alloc_past _ _ _ (by simp), World.cell?_alloc_at _ _ _ _ (by simp)]; rfl
 ·rw [World.cell?_alloc_at _ _ _ _ (by simp)]; rfl
 ·rw [World.cell?_alloc_at _ _ _ _ (by simp)]; rfl
 ·rw [World.cell?_alloc_at _ _ _ _ (by simp)]; rfl
 ·exact World.frozen?_alloc_at _ _ _ _ (by simp)
 ·exact World.frozen?_alloc_at _ _ _ _ (by simp)
 ·exact World.frozen?_alloc_at _ _ _ _ (by simp)
theorem Boxes.on {b : Nat} {k n k' n' k2 n2 : Int} {s s' s2 : ByteArray} {w w1 : World} (h : Boxes b k n k' n' k2 n2 s s' s2 w) (hb : Below w.heap.size w w1) : Boxes b k n k' n' k2 n2 s s' s2 w1 := by
 have lc := World.block_lt_of_cell? _ _ h.c0
 exact ⟨cell_later hb h.a0, cell_later hb h.a1, cell_later hb h.a2, cell_later hb h.b0, cell_later hb h.b1, cell_later hb h.b2, cell_later hb h.c0, cell_later hb h.c1, cell_later hb h.c2, (hb.frozen (p := ⟨b + 1 + 1, 0, none⟩) lc).trans h.f0, (hb.frozen (p := ⟨b + 1 + 1, 1, none⟩) lc).trans h.f1, (hb.frozen (p := ⟨b + 1 + 1, 2, none⟩) lc).trans h.f2⟩
theorem Boxes.size {b : Nat} {k n k' n' k2 n2 : Int} {s s' s2 : ByteArray} {w : World} (h : Boxes b k n k' n' k2 n2 s s' s2 w) : b + 1 + 1 < w.heap.size := World.block_lt_of_cell? _ _ h.c0
theorem below3 (w : World) (o1 o2 o3 : Obj) : Below w.heap.size w (((w.alloc o1).alloc o2).alloc o3) := ext_alloc (ext_alloc (ext_alloc (Below.refl _ _) _) _) _
theorem op_reckonN (op : Int) (hop : op = 1 ∨ op = 2 ∨ op = 3 ∨ op = 4 ∨ op = 5) (k n k' n' : Int) (s s' : ByteArray) (k3 n3 er : Int) (s3 : ByteArray) (w : World) (ha : mayB k n s = true) (hb : mayB k' n' s' = true)
  (hr : ∀ w, Calls Tryz.prog 128 #[.int .i64 op, val k n s, val k' n' s'] w fun e w' => e = .returned (.tuple #[val k3 n3 s3, .int .i64 er]) ∧ Below w.heap.size w w') :
  Calls Tryz.prog 122 #[.int .i64 op, val k n s, val k' n' s'] w fun e w' => e = .returned (.tuple #[val k3 n3 s3, .int .i64 er]) ∧ Below w.heap.size w w' := by
 rcases hop with rfl | rfl | rfl | rfl | rfl
 all_goals
  have B0 := boxes0 w k n k' n' 0 0 s s' ⟨#[]⟩
  go_enter Tryz.func122, Tryz.ntmps122
  go_wp2_with (go_at_call 60; refine (may_t _ _ _ _ ha).mono ?_; rintro e w1 ⟨rfl, hb1⟩; have B1 := B0.on hb1; obtain ⟨a0, a1, a2, b0, b1, b2, c0, c1, c2, f0, f1, f2⟩ := id B1; refine Hid.out ?_)
  refine Lib.hid ?_
  go_wp2_with (go_at_call 60; refine (may_t _ _ _ _ hb).mono ?_; rintro e w2 ⟨rfl, hb2⟩; clear a0 a1 a2 b0 b1 b2 c0 c1 c2 f0 f1 f2; have B2 := B1.on hb2; obtain ⟨a0, a1, a2, b0, b1, b2, c0, c1, c2, f0, f1, f2⟩ := id B2; refine Hid.out ?_)
  refine Lib.hid ?_
  go_wp2_with (go_at_call 128; refine (hr _).mono ?_; rintro e w3 ⟨rfl, hb3⟩; clear a0 a1 a2 b0 b1 b2 c0 c1 c2 f0 f1 f2; have B3 := B2.on hb3; obtain ⟨a0, a1, a2, b0, b1, b2, c0, c1, c2, f0, f1, f2⟩ := id B3; refine Hid.out ?_)
  refine Lib.hid ?_
  have hz := B3.size
  go_wp2
  refine bodyPost_ret (v := .tuple #[val k3 n3 s3, .int .i64 er]) (by simp [results, Tryz.results122, go_sem, c0, c1, c2]) rfl ⟨rfl, ?_⟩
  have hall := ext_trans (below3 w _ _ _) (ext_trans hb1 (ext_trans hb2 hb3))
  exact ((hall.setCell (by simp; omega) _).setCell (by simp; omega) _).setCell (by simp; omega) _
abbrev op_reckon1 := op_reckonN 1 (by simp)
abbrev op_reckon2 := op_reckonN 2 (by simp)
abbrev op_reckon3 := op_reckonN 3 (by simp)
abbrev op_reckon4 := op_reckonN 4 (by simp)
abbrev op_reckon5 := op_reckonN 5 (by simp)
theorem op_orderN (op : Int) (hop : op = 8 ∨ op = 9) (k n k' n' : Int) (s s' : ByteArray) (k3 n3 er : Int) (s3 : ByteArray) (w : World) (ha : mayB k n s = true) (hb : mayB k' n' s' = true)
  (hr : ∀ w, Calls Tryz.prog 129 #[.int .i64 op, val k n s, val k' n' s'] w fun e w' => e = .returned (.tuple #[val k3 n3 s3, .int .i64 er]) ∧ Below w.heap.size w w') :
  Calls Tryz.prog 122 #[.int .i64 op, val k n s, val k' n' s'] w fun e w' => e = .returned (.tuple #[val k3 n3 s3, .int .i64 er]) ∧ Below w.heap.size w w' := by
 rcases hop with rfl | rfl
 all_goals
  have B0 := boxes0 w k n k' n' 0 0 s s' ⟨#[]⟩
  go_enter Tryz.func122, Tryz.ntmps122
  go_wp2_with (go_at_call 60; refine (may_t _ _ _ _ ha).mono ?_; rintro e w1 ⟨rfl, hb1⟩; have B1 := B0.on hb1; obtain ⟨a0, a1, a2, b0, b1, b2, c0, c1, c2, f0, f1, f2⟩ := id B1; refine Hid.out ?_)
  refine Lib.hid ?_
  go_wp2_with (go_at_call 60; refine (may_t _ _ _ _ hb).mono ?_; rintro e w2 ⟨rfl, hb2⟩; clear a0 a1 a2 b0 b1 b2 c0 c1 c2 f0 f1 f2; have B2 := B1.on hb2; obtain ⟨a0, a1, a2, b0, b1, b2, c0, c1, c2, f0, f1, f2⟩ := id B2; refine Hid.out ?_)
  refine Lib.hid ?_
  go_wp2_with (go_at_call 129; refine (hr _).mono ?_; rintro e w3 ⟨rfl, hb3⟩; clear a0 a1 a2 b0 b1 b2 c0 c1 c2 f0 f1 f2; have B3 := B2.on hb3; obtain ⟨a0, a1, a2, b0, b1, b2, c0, c1, c2, f0, f1, f2⟩ := id B3; refine Hid.out ?_)
  refine Lib.hid ?_
  have hz := B3.size
  go_wp2
  refine bodyPost_ret (v := .tuple #[val k3 n3 s3, .int .i64 er]) (by simp [results, Tryz.results122, go_sem, c0, c1, c2]) rfl ⟨rfl, ?_⟩
  have hall := ext_trans (below3 w _ _ _) (ext_trans hb1 (ext_trans hb2 hb3))
  exact ((hall.setCell (by simp; omega) _).setCell (by simp; omega) _).setCell (by simp; omega) _
abbrev op_order8 := op_orderN 8 (by simp)
abbrev op_order9 := op_orderN 9 (by simp)
theorem op_low (op k n k' n' : Int) (s s' : ByteArray) (w : World) (h : op < 1) :
  Calls Tryz.prog 122 #[.int .i64 op, val k n s, val k' n' s'] w fun e w' => e = .returned (.tuple #[val 0 0 ⟨#[]⟩, .int .i64 2]) ∧ Below w.heap.size w w' := by
 go_enter Tryz.func122, Tryz.ntmps122
 go_wp2
 refine bodyPost_ret (v := .tuple #[val 0 0 ⟨#[]⟩, .int .i64 2]) (by simp [results, Tryz.results122, go_sem]) rfl ⟨rfl, ?_⟩
 exact below3 _ _ _ _
theorem op_high (op k n k' n' : Int) (s s' : ByteArray) (w : World) (h : 11 < op) :
  Calls Tryz.prog 122 #[.int .i64 op, val k n s, val k' n' s'] w fun e w' => e = .returned (.tuple #[val 0 0 ⟨#[]⟩, .int .i64 2]) ∧ Below w.heap.size w w' := by
 go_enter Tryz.func122, Tryz.ntmps122
 go_wp2
 refine bodyPost_ret (v := .tuple #[val 0 0 ⟨#[]⟩, .int .i64 2]) (by simp [results, Tryz.results122, go_sem]) rfl ⟨rfl, ?_⟩
 exact below3 _ _ _ _
theorem op_a (op k n k' n' : Int) (s s' : ByteArray) (w : World) (h1 : 1 ≤ op) (h2 : op ≤ 11) (ha : mayB k n s = false) :
  Calls Tryz.prog 122 #[.int .i64 op, val k n s, val k' n' s'] w fun e w' => e = .returned (.tuple #[val 0 0 ⟨#[]⟩, .int .i64 2]) ∧ Below w.heap.size w w' := by
 have B0 := boxes0 w k n k' n' 0 0 s s' ⟨#[]⟩
 go_enter Tryz.func122, Tryz.ntmps122
 go_wp2_with (go_at_call 60; refine (may_f _ _ _ _ ha).mono ?_; rintro e w1 ⟨rfl, hb1⟩; have B1 := B0.on hb1; obtain ⟨a0, a1, a2, b0, b1, b2, c0, c1, c2, f0, f1, f2⟩ := id B1; refine Hid.out ?_)
 refine Lib.hid ?_
 have hz := B1.size
 go_wp2
 refine bodyPost_ret (v := .tuple #[val 0 0 ⟨#[]⟩, .int .i64 2]) (by simp [results, Tryz.results122, go_sem, c0, c1, c2]) rfl ⟨rfl, ?_⟩
 have hall := ext_trans (below3 w _ _ _) hb1
 exact ((hall.setCell (by simp; omega) _).setCell (by simp; omega) _).setCell (by simp; omega) _
theorem op_b (op k n k' n' : Int) (s s' : ByteArray) (w : World) (h1 : 1 ≤ op) (h2 : op ≤ 11) (ha : mayB k n s = true) (hb : mayB k' n' s' = false) :
  Calls Tryz.prog 122 #[.int .i64 op, val k n s, val k' n' s'] w fun e w' => e = .returned (.tuple #[val 0 0 ⟨#[]⟩, .int .i64 2]) ∧ Below w.heap.size w w' := by
 have B0 := boxes0 w k n k' n' 0 0 s s' ⟨#[]⟩
 go_enter Tryz.func122, Tryz.ntmps122
 go_wp2_with (go_at_call 60; refine (may_t _ _ _ _ ha).mono ?_; rintro e w1 ⟨rfl, hb1⟩; have B1 := B0.on hb1; obtain ⟨a0, a1, a2, b0, b1, b2, c0, c1, c2, f0, f1, f2⟩ := id B1; refine Hid.out ?_)
 refine Lib.hid ?_
 go_wp2_with (go_at_call 60; refine (may_f _ _ _ _ hb).mono ?_; rintro e w2 ⟨rfl, hb2⟩; clear a0 a1 a2 b0 b1 b2 c0 c1 c2 f0 f1 f2; have B2 := B1.on hb2; obtain ⟨a0, a1, a2, b0, b1, b2, c0, c1, c2, f0, f1, f2⟩ := id B2; refine Hid.out ?_)
 refine Lib.hid ?_
 have hz := B2.size
 go_wp2
 refine bodyPost_ret (v := .tuple #[val 0 0 ⟨#[]⟩, .int .i64 2]) (by simp [results, Tryz.results122, go_sem, c0, c1, c2]) rfl ⟨rfl, ?_⟩
 have hall := ext_trans (below3 w _ _ _) (ext_trans hb1 hb2)
 exact ((hall.setCell (by simp; omega) _).setCell (by simp; omega) _).setCell (by simp; omega) _
theorem op_same_t (k n : Int) (s : ByteArray) (w : World) (ha : mayB k n s = true) (hb : mayB k n s = true) :
  Calls Tryz.prog 122 #[.int .i64 7, val k n s, val k n s] w fun e w' => e = .returned (.tuple #[val 1 1 ⟨#[]⟩, .int .i64 0]) ∧ Below w.heap.size w w' := by
 have B0 := boxes0 w k n k n 0 0 s s ⟨#[]⟩
 go_enter Tryz.func122, Tryz.ntmps122
 go_wp2_with (go_at_call 60; refine (may_t _ _ _ _ ha).mono ?_; rintro e w1 ⟨rfl, hb1⟩; have B1 := B0.on hb1; obtain ⟨a0, a1, a2, b0, b1, b2, c0, c1, c2, f0, f1, f2⟩ := id B1; refine Hid.out ?_)
 refine Lib.hid ?_
 go_wp2_with (go_at_call 60; refine (may_t _ _ _ _ hb).mono ?_; rintro e w2 ⟨rfl, hb2⟩; clear a0 a1 a2 b0 b1 b2 c0 c1 c2 f0 f1 f2; have B2 := B1.on hb2; obtain ⟨a0, a1, a2, b0, b1, b2, c0, c1, c2, f0, f1, f2⟩ := id B2; refine Hid.out ?_)
 refine Lib.hid ?_
 have hz := B2.size
 go_wp2_with (go_at_call 96; refine (boolean_any true _).mono ?_; rintro e w3 ⟨rfl, rfl⟩)
 refine bodyPost_ret (v := .tuple #[val 1 1 ⟨#[]⟩, .int .i64 0]) (by simp [results, Tryz.results122, go_sem, c0, c1, c2, hz]) rfl ⟨rfl, ?_⟩
 have hall := ext_trans (below3 w _ _ _) (ext_trans hb1 hb2)
 exact ext_alloc (((hall.setCell (by simp; omega) _).setCell (by simp; omega) _).setCell (by simp; omega) _) _
theorem op_same_k (k n k' n' : Int) (s s' : ByteArray) (w : World) (ha : mayB k n s = true) (hb : mayB k' n' s' = true) (hk : ¬ k = k') :
  Calls Tryz.prog 122 #[.int .i64 7, val k n s, val k' n' s'] w fun e w' => e = .returned (.tuple #[val 1 0 ⟨#[]⟩, .int .i64 0]) ∧ Below w.heap.size w w' := by
 have B0 := boxes0 w k n k' n' 0 0 s s' ⟨#[]⟩
 go_enter Tryz.func122, Tryz.ntmps122
 go_wp2_with (go_at_call 60; refine (may_t _ _ _ _ ha).mono ?_; rintro e w1 ⟨rfl, hb1⟩; have B1 := B0.on hb1; obtain ⟨a0, a1, a2, b0, b1, b2, c0, c1, c2, f0, f1, f2⟩ := id B1; refine Hid.out ?_)
 refine Lib.hid ?_
 go_wp2_with (go_at_call 60; refine (may_t _ _ _ _ hb).mono ?_; rintro e w2 ⟨rfl, hb2⟩; clear a0 a1 a2 b0 b1 b2 c0 c1 c2 f0 f1 f2; have B2 := B1.on hb2; obtain ⟨a0, a1, a2, b0, b1, b2, c0, c1, c2, f0, f1, f2⟩ := id B2; refine Hid.out ?_)
 refine Lib.hid ?_
 have hz := B2.size
 go_wp2_with (go_at_call 96; refine (boolean_any false _).mono ?_; rintro e w3 ⟨rfl, rfl⟩)
 refine bodyPost_ret (v := .tuple #[val 1 0 ⟨#[]⟩, .int .i64 0]) (by simp [results, Tryz.results122, go_sem, c0, c1, c2, hz]) rfl ⟨rfl, ?_⟩
 have hall := ext_trans (below3 w _ _ _) (ext_trans hb1 hb2)
 exact ext_alloc (((hall.setCell (by simp; omega) _).setCell (by simp; omega) _).setCell (by simp; omega) _) _
theorem op_same_n (k n n' : Int) (s s' : ByteArray) (w : World) (ha : mayB k n s = true) (hb : mayB k n' s' = true) (hk : ¬ n = n') :
  Calls Tryz.prog 122 #[.int .i64 7, val k n s, val k n' s'] w fun e w' => e = .returned (.tuple #[val 1 0 ⟨#[]⟩, .int .i64 0]) ∧ Below w.heap.size w w' := by
 have B0 := boxes0 w k n k n' 0 0 s s' ⟨#[]⟩
 go_enter Tryz.func122, Tryz.ntmps122
 go_wp2_with (go_at_call 60; refine (may_t _ _ _ _ ha).mono ?_; rintro e w1 ⟨rfl, hb1⟩; have B1 := B0.on hb1; obtain ⟨a0, a1, a2, b0, b1, b2, c0, c1, c2, f0, f1, f2⟩ := id B1; refine Hid.out ?_)
 refine Lib.hid ?_
 go_wp2_with (go_at_call 60; refine (may_t _ _ _ _ hb).mono ?_; rintro e w2 ⟨rfl, hb2⟩; clear a0 a1 a2 b0 b1 b2 c0 c1 c2 f0 f1 f2; have B2 := B1.on hb2; obtain ⟨a0, a1, a2, b0, b1, b2, c0, c1, c2, f0, f1, f2⟩ := id B2; refine Hid.out ?_)
 refine Lib.hid ?_
 have hz := B2.size
 go_wp2_with (go_at_call 96; refine (boolean_any false _).mono ?_; rintro e w3 ⟨rfl, rfl⟩)
 refine bodyPost_ret (v := .tuple #[val 1 0 ⟨#[]⟩, .int .i64 0]) (by simp [results, Tryz.results122, go_sem, c0, c1, c2, hz]) rfl ⟨rfl, ?_⟩
 have hall := ext_trans (below3 w _ _ _) (ext_trans hb1 hb2)
 exact ext_alloc (((hall.setCell (by simp; omega) _).setCell (by simp; omega) _).setCell (by simp; omega) _) _
theorem op_same_s (k n : Int) (s s' : ByteArray) (w : World) (ha : mayB k n s = true) (hb : mayB k n s' = true) (hk : ¬ s.toList = s'.toList) :
  Calls Tryz.prog 122 #[.int .i64 7, val k n s, val k n s'] w fun e w' => e = .returned (.tuple #[val 1 0 ⟨#[]⟩, .int .i64 0]) ∧ Below w.heap.size w w' := by
 have B0 := boxes0 w k n k n 0 0 s s' ⟨#[]⟩
 go_enter Tryz.func122, Tryz.ntmps122
 go_wp2_with (go_at_call 60; refine (may_t _ _ _ _ ha).mono ?_; rintro e w1 ⟨rfl, hb1⟩; have B1 := B0.on hb1; obtain ⟨a0, a1, a2, b0, b1, b2, c0, c1, c2, f0, f1, f2⟩ := id B1; refine Hid.out ?_)
 refine Lib.hid ?_
 go_wp2_with (go_at_call 60; refine (may_t _ _ _ _ hb).mono ?_; rintro e w2 ⟨rfl, hb2⟩; clear a0 a1 a2 b0 b1 b2 c0 c1 c2 f0 f1 f2; have B2 := B1.on hb2; obtain ⟨a0, a1, a2, b0, b1, b2, c0, c1, c2, f0, f1, f2⟩ := id B2; refine Hid.out ?_)
 refine Lib.hid ?_
 have hz := B2.size
 go_wp2_with (go_at_call 96; refine (boolean_any false _).mono ?_; rintro e w3 ⟨rfl, rfl⟩)
 refine bodyPost_ret (v := .tuple #[val 1 0 ⟨#[]⟩, .int .i64 0]) (by simp [results, Tryz.results122, go_sem, c0, c1, c2, hz]) rfl ⟨rfl, ?_⟩
 have hall := ext_trans (below3 w _ _ _) (ext_trans hb1 hb2)
 exact ext_alloc (((hall.setCell (by simp; omega) _).setCell (by simp; omega) _).setCell (by simp; omega) _) _
theorem asks2_0 (w : World) (c v : Nat) (hv : v = w.heap.size) (hc : c = w.heap.size + 1) (k n k' n' : Int) (s s' : ByteArray) : Asks2 c v k n k' n' s s'
  ((w.alloc (.cells #[.int .i64 k, .int .i64 n, .string s, .int .i64 k', .int .i64 n', .string s'] 30)).alloc (.cells #[.slice (some ⟨v, 0, none⟩) 2 2] 48)) := by
 subst hv; subst hc
 constructor
 ·rw [World.cell?_alloc_at _ _ _ _ (by simp)]; rfl
 all_goals rw [World.cell?_alloc_past _ _ _ (by simp), World.cell?_alloc_at _ _ _ _ rfl]; rfl
theorem ask21t (y k n k' n' : Int) (s s' : ByteArray) (b c v : Nat) (w : World) (hb : b = w.heap.size) (ha : Asks2 c v k n k' n' s s' w) (h : (k == y) = true) (h' : (k' == y) = true) :
  Calls Tryz.prog 107 #[.slice (some ⟨b, 0, none⟩) 1 1, .pointer (some ⟨c, 0, none⟩)] (w.alloc (.cells #[.int .i64 y] 3)) fun e w' => e = .returned (.bool true) ∧ w' = ((w.alloc (.cells #[.int .i64 y] 3)).alloc (box k n s)).alloc (box k' n' s') :=
 each21t b c v y k n k' n' s s' _ (by rw [World.cell?_alloc_at _ _ _ _ hb]; rfl) (ha.alloc _) h h'
theorem ask21f (y k n k' n' : Int) (s s' : ByteArray) (b c v : Nat) (w : World) (hb : b = w.heap.size) (ha : Asks2 c v k n k' n' s s' w) (h : (k == y) = false) :
  Calls Tryz.prog 107 #[.slice (some ⟨b, 0, none⟩) 1 1, .pointer (some ⟨c, 0, none⟩)] (w.alloc (.cells #[.int .i64 y] 3)) fun e w' => e = .returned (.bool false) ∧ w' = (w.alloc (.cells #[.int .i64 y] 3)).alloc (box k n s) :=
 each21f b c v y k n k' n' s s' _ (by rw [World.cell?_alloc_at _ _ _ _ hb]; rfl) (ha.alloc _) h
theorem ask21g (y k n k' n' : Int) (s s' : ByteArray) (b c v : Nat) (w : World) (hb : b = w.heap.size) (ha : Asks2 c v k n k' n' s s' w) (h : (k == y) = true) (h' : (k' == y) = false) :
  Calls Tryz.prog 107 #[.slice (some ⟨b, 0, none⟩) 1 1, .pointer (some ⟨c, 0, none⟩)] (w.alloc (.cells #[.int .i64 y] 3)) fun e w' => e = .returned (.bool false) ∧ w' = ((w.alloc (.cells #[.int .i64 y] 3)).alloc (box k n s)).alloc (box k' n' s') :=
 each21g b c v y k n k' n' s s' _ (by rw [World.cell?_alloc_at _ _ _ _ hb]; rfl) (ha.alloc _) h h'
theorem ask22t (y z k n k' n' : Int) (s s' : ByteArray) (b c v : Nat) (w : World) (hb : b = w.heap.size) (ha : Asks2 c v k n k' n' s s' w) (h : (k == y || k == z) = true) (h' : (k' == y || k' == z) = true) :
  Calls Tryz.prog 107 #[.slice (some ⟨b, 0, none⟩) 2 2, .pointer (some ⟨c, 0, none⟩)] (w.alloc (.cells #[.int .i64 y, .int .i64 z] 3)) fun e w' => e = .returned (.bool true) ∧ w' = ((w.alloc (.cells #[.int .i64 y, .int .i64 z] 3)).alloc (box k n s)).alloc (box k' n' s') :=
 each22t b c v y z k n k' n' s s' _ (by rw [World.cell?_alloc_at _ _ _ _ hb]; rfl) (by rw [World.cell?_alloc_at _ _ _ _ hb]; rfl) (ha.alloc _) h h'
theorem ask22f (y z k n k' n' : Int) (s s' : ByteArray) (b c v : Nat) (w : World) (hb : b = w.heap.size) (ha : Asks2 c v k n k' n' s s' w) (h : (k == y || k == z) = false) :
  Calls Tryz.prog 107 #[.slice (some ⟨b, 0, none⟩) 2 2, .pointer (some ⟨c, 0, none⟩)] (w.alloc (.cells #[.int .i64 y, .int .i64 z] 3)) fun e w' => e = .returned (.bool false) ∧ w' = (w.alloc (.cells #[.int .i64 y, .int .i64 z] 3)).alloc (box k n s) :=
 each22f b c v y z k n k' n' s s' _ (by rw [World.cell?_alloc_at _ _ _ _ hb]; rfl) (by rw [World.cell?_alloc_at _ _ _ _ hb]; rfl) (ha.alloc _) h
theorem ask22g (y z k n k' n' : Int) (s s' : ByteArray) (b c v : Nat) (w : World) (hb : b = w.heap.size) (ha : Asks2 c v k n k' n' s s' w) (h : (k == y || k == z) = true) (h' : (k' == y || k' == z) = false) :
  Calls Tryz.prog 107 #[.slice (some ⟨b, 0, none⟩) 2 2, .pointer (some ⟨c, 0, none⟩)] (w.alloc (.cells #[.int .i64 y, .int .i64 z] 3)) fun e w' => e = .returned (.bool false) ∧ w' = ((w.alloc (.cells #[.int .i64 y, .int .i64 z] 3)).alloc (box k n s)).alloc (box k' n' s') :=
 each22g b c v y z k n k' n' s s' _ (by rw [World.cell?_alloc_at _ _ _ _ hb]; rfl) (by rw [World.cell?_alloc_at _ _ _ _ hb]; rfl) (ha.alloc _) h h'
theorem reckon_f (op : Int) (k n k' n' : Int) (s s' : ByteArray) (w : World) (h : (k == 2) = false) :
  Calls Tryz.prog 128 #[.int .i64 op, val k n s, val k' n' s'] w fun e w' => e = .returned (.tuple #[val 0 0 ⟨#[]⟩, .int .i64 3]) ∧ Below w.heap.size w w' := by
 have hmf := hmf
 go_enter Tryz.func128, Tryz.ntmps128
 go_wp2_with (first | (go_at_call 92; go_in) | (go_at_call 107; refine (ask21f _ k n k' n' s s' _ _ _ _ (by simp) (asks2_0 _ _ _ (by simp) (by simp) _ _ _ _ _ _) h).mono ?_; rintro e w' ⟨rfl, rfl⟩))
 refine bodyPost_ret (v := .tuple #[val 0 0 ⟨#[]⟩, .int .i64 3]) (by simp [results, Tryz.results128, go_sem]) rfl ⟨rfl, ?_⟩
 repeat (first | exact Below.refl _ _ | refine ext_alloc ?_ _)
theorem reckon_g (op : Int) (k n k' n' : Int) (s s' : ByteArray) (w : World) (h : (k == 2) = true) (h' : (k' == 2) = false) :
  Calls Tryz.prog 128 #[.int .i64 op, val k n s, val k' n' s'] w fun e w' => e = .returned (.tuple #[val 0 0 ⟨#[]⟩, .int .i64 3]) ∧ Below w.heap.size w w' := by
 have hmf := hmf
 go_enter Tryz.func128, Tryz.ntmps128
 go_wp2_with (first | (go_at_call 92; go_in) | (go_at_call 107; refine (ask21g _ k n k' n' s s' _ _ _ _ (by simp) (asks2_0 _ _ _ (by simp) (by simp) _ _ _ _ _ _) h h').mono ?_; rintro e w' ⟨rfl, rfl⟩))
 refine bodyPost_ret (v := .tuple #[val 0 0 ⟨#[]⟩, .int .i64 3]) (by simp [results, Tryz.results128, go_sem]) rfl ⟨rfl, ?_⟩
 repeat (first | exact Below.refl _ _ | refine ext_alloc ?_ _)
theorem reckon_add (k n k' n' : Int) (s s' : ByteArray) (w : World) (h : (k == 2) = true) (h' : (k' == 2) = true) :
  Calls Tryz.prog 128 #[.int .i64 1, val k n s, val k' n' s'] w fun e w' => e = .returned (.tuple #[val 2 (wrap64 (n + n')) ⟨#[]⟩, .int .i64 0]) ∧ Below w.heap.size w w' := by
 have hmf := hmf
 go_enter Tryz.func128, Tryz.ntmps128
 go_wp2_with (first | (go_at_call 92; go_in) | (go_at_call 107; refine (ask21t _ k n k' n' s s' _ _ _ _ (by simp) (asks2_0 _ _ _ (by simp) (by simp) _ _ _ _ _ _) h h').mono ?_; rintro e w' ⟨rfl, rfl⟩) | (go_at_call 118; refine (vnumber_any _ _).mono ?_; rintro e w' ⟨rfl, rfl⟩))
 refine bodyPost_ret (v := .tuple #[val 2 (wrap64 (n + n')) ⟨#[]⟩, .int .i64 0]) (by simp [results, Tryz.results128, go_sem]) rfl ⟨rfl, ?_⟩
 repeat (first | exact Below.refl _ _ | refine ext_alloc ?_ _)
theorem reckon_sub (k n k' n' : Int) (s s' : ByteArray) (w : World) (h : (k == 2) = true) (h' : (k' == 2) = true) :
  Calls Tryz.prog 128 #[.int .i64 2, val k n s, val k' n' s'] w fun e w' => e = .returned (.tuple #[val 2 (wrap64 (n - n')) ⟨#[]⟩, .int .i64 0]) ∧ Below w.heap.size w w' := by
 have hmf := hmf
 go_enter Tryz.func128, Tryz.ntmps128
 go_wp2_with (first | (go_at_call 92; go_in) | (go_at_call 107; refine (ask21t _ k n k' n' s s' _ _ _ _ (by simp) (asks2_0 _ _ _ (by simp) (by simp) _ _ _ _ _ _) h h').mono ?_; rintro e w' ⟨rfl, rfl⟩) | (go_at_call 118; refine (vnumber_any _ _).mono ?_; rintro e w' ⟨rfl, rfl⟩))
 refine bodyPost_ret (v := .tuple #[val 2 (wrap64 (n - n')) ⟨#[]⟩, .int .i64 0]) (by simp [results, Tryz.results128, go_sem]) rfl ⟨rfl, ?_⟩
 repeat (first | exact Below.refl _ _ | refine ext_alloc ?_ _)
theorem reckon_mul (k n k' n' : Int) (s s' : ByteArray) (w : World) (h : (k == 2) = true) (h' : (k' == 2) = true) :
  Calls Tryz.prog 128 #[.int .i64 3, val k n s, val k' n' s'] w fun e w' => e = .returned (.tuple #[val 2 (wrap64 (n * n')) ⟨#[]⟩, .int .i64 0]) ∧ Below w.heap.size w w' := by
 have hmf := hmf
 go_enter Tryz.func128, Tryz.ntmps128
 go_wp2_with (first | (go_at_call 92; go_in) | (go_at_call 107; refine (ask21t _ k n k' n' s s' _ _ _ _ (by simp) (asks2_0 _ _ _ (by simp) (by simp) _ _ _ _ _ _) h h').mono ?_; rintro e w' ⟨rfl, rfl⟩) | (go_at_call 118; refine (vnumber_any _ _).mono ?_; rintro e w' ⟨rfl, rfl⟩))
 refine bodyPost_ret (v := .tuple #[val 2 (wrap64 (n * n')) ⟨#[]⟩, .int .i64 0]) (by simp [results, Tryz.results128, go_sem]) rfl ⟨rfl, ?_⟩
 repeat (first | exact Below.refl _ _ | refine ext_alloc ?_ _)
theorem reckon_div0 (k n k' n' : Int) (s s' : ByteArray) (w : World) (h : (k == 2) = true) (h' : (k' == 2) = true) (hz : (n' == 0) = true) :
  Calls Tryz.prog 128 #[.int .i64 4, val k n s, val k' n' s'] w fun e w' => e = .returned (.tuple #[val 0 0 ⟨#[]⟩, .int .i64 7]) ∧ Below w.heap.size w w' := by
 have hmf := hmf
 go_enter Tryz.func128, Tryz.ntmps128
 go_wp2_with (first | (go_at_call 92; go_in) | (go_at_call 107; refine (ask21t _ k n k' n' s s' _ _ _ _ (by simp) (asks2_0 _ _ _ (by simp) (by simp) _ _ _ _ _ _) h h').mono ?_; rintro e w' ⟨rfl, rfl⟩))
 refine bodyPost_ret (v := .tuple #[val 0 0 ⟨#[]⟩, .int .i64 7]) (by simp [results, Tryz.results128, go_sem]) rfl ⟨rfl, ?_⟩
 repeat (first | exact Below.refl _ _ | refine ext_alloc ?_ _)
theorem reckon_mod0 (k n k' n' : Int) (s s' : ByteArray) (w : World) (h : (k == 2) = true) (h' : (k' == 2) = true) (hz : (n' == 0) = true) :
  Calls Tryz.prog 128 #[.int .i64 5, val k n s, val k' n' s'] w fun e w' => e = .returned (.tuple #[val 0 0 ⟨#[]⟩, .int .i64 7]) ∧ Below w.heap.size w w' := by
 have hmf := hmf
 go_enter Tryz.func128, Tryz.ntmps128
 go_wp2_with (first | (go_at_call 92; go_in) | (go_at_call 107; refine (ask21t _ k n k' n' s s' _ _ _ _ (by simp) (asks2_0 _ _ _ (by simp) (by simp) _ _ _ _ _ _) h h').mono ?_; rintro e w' ⟨rfl, rfl⟩))
 refine bodyPost_ret (v := .tuple #[val 0 0 ⟨#[]⟩, .int .i64 7]) (by simp [results, Tryz.results128, go_sem]) rfl ⟨rfl, ?_⟩
 repeat (first | exact Below.refl _ _ | refine ext_alloc ?_ _)
theorem reckon_div (k n k' n' : Int) (s s' : ByteArray) (w : World) (h : (k == 2) = true) (h' : (k' == 2) = true) (hz : (n' == 0) = false) :
  Calls Tryz.prog 128 #[.int .i64 4, val k n s, val k' n' s'] w fun e w' => e = .returned (.tuple #[val 2 (divV n n') ⟨#[]⟩, .int .i64 0]) ∧ Below w.heap.size w w' := by
 have hmf := hmf
 go_enter Tryz.func128, Tryz.ntmps128
 go_wp2_with (first | (go_at_call 92; go_in) | (go_at_call 107; refine (ask21t _ k n k' n' s s' _ _ _ _ (by simp) (asks2_0 _ _ _ (by simp) (by simp) _ _ _ _ _ _) h h').mono ?_; rintro e w' ⟨rfl, rfl⟩) | (go_at_call 118; refine (vnumber_any _ _).mono ?_; rintro e w' ⟨rfl, rfl⟩) | (go_at_call 133; refine (floor_any _ _ _ hz).mono ?_; rintro e w' ⟨rfl, rfl⟩))
 refine bodyPost_ret (v := .tuple #[val 2 (divV n n') ⟨#[]⟩, .int .i64 0]) (by simp [results, Tryz.results128, go_sem]) rfl ⟨rfl, ?_⟩
 repeat (first | exact Below.refl _ _ | refine ext_alloc ?_ _)
theorem reckon_mod (k n k' n' : Int) (s s' : ByteArray) (w : World) (h : (k == 2) = true) (h' : (k' == 2) = true) (hz : (n' == 0) = false) :
  Calls Tryz.prog 128 #[.int .i64 5, val k n s, val k' n' s'] w fun e w' => e = .returned (.tuple #[val 2 (modV n n') ⟨#[]⟩, .int .i64 0]) ∧ Below w.heap.size w w' := by
 have hmf := hmf
 go_enter Tryz.func128, Tryz.ntmps128
 go_wp2_with (first | (go_at_call 92; go_in) | (go_at_call 107; refine (ask21t _ k n k' n' s s' _ _ _ _ (by simp) (asks2_0 _ _ _ (by simp) (by simp) _ _ _ _ _ _) h h').mono ?_; rintro e w' ⟨rfl, rfl⟩) | (go_at_call 118; refine (vnumber_any _ _).mono ?_; rintro e w' ⟨rfl, rfl⟩) | (go_at_call 133; refine (floor_any _ _ _ hz).mono ?_; rintro e w' ⟨rfl, rfl⟩))
 refine bodyPost_ret (v := .tuple #[val 2 (modV n n') ⟨#[]⟩, .int .i64 0]) (by simp [results, Tryz.results128, go_sem]; rfl) rfl ⟨rfl, ?_⟩
 repeat (first | exact Below.refl _ _ | refine ext_alloc ?_ _)
end Go.Proofs.YthpgbienakcbeaaGreatDoor
