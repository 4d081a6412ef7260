/- Walks of the value package, on the way to the statements of chapter 1. -/
import Derived.Test.YthpgbienakcbeaaGreatDoorS07
import Derived.Test.YthpgbienakcbeaaGreatDoorS03
namespace Go.Proofs.YthpgbienakcbeaaGreatDoor
open Go.RowKit Go
set_option maxRecDepth 100000
set_option maxHeartbeats 8000000
set_option linter.all false
variable {k n k' n' k2 n2 : Int} {s s' s2 : ByteArray} {w : World} {b : Nat}
structure a6k (c v : Nat) (k n k' n' : Int) (s s' : ByteArray) (w : World) : Prop where
 hp : w.cell? ⟨c, 0, none⟩ = some (.slice (some ⟨v, 0, none⟩) 2 2)
 h0 : w.cell? ⟨v, 0, none⟩ = some (.int .i64 k)
 h1 : w.cell? ⟨v, 1, none⟩ = some (.int .i64 n)
 h2 : w.cell? ⟨v, 2, none⟩ = some (.string s)
 h3 : w.cell? ⟨v, 3, none⟩ = some (.int .i64 k')
 h4 : w.cell? ⟨v, 4, none⟩ = some (.int .i64 n')
 h5 : w.cell? ⟨v, 5, none⟩ = some (.string s')
theorem a6k.alloc {c v : Nat} (h : a6k c v k n k' n' s s' w) (o : Obj) : a6k c v k n k' n' s s' (w.alloc o) := by
 obtain ⟨hp, h0, h1, h2, h3, h4, h5⟩ := h
 have hc := World.block_lt_of_cell? _ _ hp
 have hv := World.block_lt_of_cell? _ _ h0
 exact ⟨(World.cell?_alloc_past _ _ _ hc).trans hp, (World.cell?_alloc_past _ _ _ hv).trans h0, (World.cell?_alloc_past _ _ _ hv).trans h1, (World.cell?_alloc_past _ _ _ hv).trans h2, (World.cell?_alloc_past _ _ _ hv).trans h3, (World.cell?_alloc_past _ _ _ hv).trans h4, (World.cell?_alloc_past _ _ _ hv).trans h5⟩
theorem c7v (b c v : Nat) (y k n k' n' : Int) (s s' : ByteArray) (w : World) (hc : w.cell? ⟨b, 0, none⟩ = some (.int .i64 y)) (ha : a6k c v k n k' n' s s' w) (h : (k == y) = true) (h' : (k' == y) = true) :
  Calls Tryz.prog 107 #[.slice (some ⟨b, 0, none⟩) 1 1, .pointer (some ⟨c, 0, none⟩)] w fun e w' => e = .returned (.bool true) ∧ w' = (w.alloc (box k n s)).alloc (box k' n' s') := by
 have hb := World.block_lt_of_cell? _ _ hc
 have hv := World.block_lt_of_cell? _ _ ha.h0
 obtain ⟨hp, h0, h1, h2, h3, h4, h5⟩ := ha
 have hb2 : b < w.heap.size + 1 := Nat.lt_succ_of_lt hb
 have hv2 : v < w.heap.size + 1 := Nat.lt_succ_of_lt hv
 go_enter Tryz.func107, Tryz.ntmps107
 go_wp2
 refine wp_loop_rounds 3 ?_
 rw [rounds_succ]
 go_wp2_with (go_at_call 108; refine (a4l _ y _ _ ((World.cell?_alloc_past _ _ _ hb).trans hc)).mono ?_; rw [h]; rintro e w' ⟨rfl, rfl⟩)
 rw [rounds_succ]
 go_wp2_with (go_at_call 108; refine (a4l _ y _ _ ((World.cell?_alloc_past _ _ _ (by simpa using hb2)).trans ((World.cell?_alloc_past _ _ _ hb).trans hc))).mono ?_; rw [h']; rintro e w' ⟨rfl, rfl⟩)
 rw [rounds_succ]
 go_wp2
 go_ret
 exact ⟨rfl, rfl⟩
theorem c7w (b c v : Nat) (y k n k' n' : Int) (s s' : ByteArray) (w : World) (hc : w.cell? ⟨b, 0, none⟩ = some (.int .i64 y)) (ha : a6k c v k n k' n' s s' w) (h : (k == y) = false) :
  Calls Tryz.prog 107 #[.slice (some ⟨b, 0, none⟩) 1 1, .pointer (some ⟨c, 0, none⟩)] w fun e w' => e = .returned (.bool false) ∧ w' = w.alloc (box k n s) := by
 have hb := World.block_lt_of_cell? _ _ hc
 have hv := World.block_lt_of_cell? _ _ ha.h0
 obtain ⟨hp, h0, h1, h2, h3, h4, h5⟩ := ha
 go_enter Tryz.func107, Tryz.ntmps107
 go_wp2
 refine wp_loop_rounds 3 ?_
 rw [rounds_succ]
 go_wp2_with (go_at_call 108; refine (a4l _ y _ _ ((World.cell?_alloc_past _ _ _ hb).trans hc)).mono ?_; rw [h]; rintro e w' ⟨rfl, rfl⟩)
 go_ret
 exact ⟨rfl, rfl⟩
theorem c7x (b c v : Nat) (y k n k' n' : Int) (s s' : ByteArray) (w : World) (hc : w.cell? ⟨b, 0, none⟩ = some (.int .i64 y)) (ha : a6k c v k n k' n' s s' w) (h : (k == y) = true) (h' : (k' == y) = false) :
  Calls Tryz.prog 107 #[.slice (some ⟨b, 0, none⟩) 1 1, .pointer (some ⟨c, 0, none⟩)] w fun e w' => e = .returned (.bool false) ∧ w' = (w.alloc (box k n s)).alloc (box k' n' s') := by
 have hb := World.block_lt_of_cell? _ _ hc
 have hv := World.block_lt_of_cell? _ _ ha.h0
 obtain ⟨hp, h0, h1, h2, h3, h4, h5⟩ := ha
 have hb2 : b < w.heap.size + 1 := Nat.lt_succ_of_lt hb
 have hv2 : v < w.heap.size + 1 := Nat.lt_succ_of_lt hv
 go_enter Tryz.func107, Tryz.ntmps107
 go_wp2
 refine wp_loop_rounds 3 ?_
 rw [rounds_succ]
 go_wp2_with (go_at_call 108; refine (a4l _ y _ _ ((World.cell?_alloc_past _ _ _ hb).trans hc)).mono ?_; rw [h]; rintro e w' ⟨rfl, rfl⟩)
 rw [rounds_succ]
 go_wp2_with (go_at_call 108; refine (a4l _ y _ _ ((World.cell?_alloc_past _ _ _ (by simpa using hb2)).trans ((World.cell?_alloc_past _ _ _ hb).trans hc))).mono ?_; rw [h']; rintro e w' ⟨rfl, rfl⟩)
 go_ret
 exact ⟨rfl, rfl⟩
theorem c7y (b c v : Nat) (y z k n k' n' : Int) (s s' : ByteArray) (w : World) (hc : w.cell? ⟨b, 0, none⟩ = some (.int .i64 y)) (hd : w.cell? ⟨b, 1, none⟩ = some (.int .i64 z)) (ha : a6k c v k n k' n' s s' w) (h : (k == y || k == z) = true) (h' : (k' == y || k' == z) = true) :
  Calls Tryz.prog 107 #[.slice (some ⟨b, 0, none⟩) 2 2, .pointer (some ⟨c, 0, none⟩)] w fun e w' => e = .returned (.bool true) ∧ w' = (w.alloc (box k n s)).alloc (box k' n' s') := by
 have hb := World.block_lt_of_cell? _ _ hc
 have hv := World.block_lt_of_cell? _ _ ha.h0
 obtain ⟨hp, h0, h1, h2, h3, h4, h5⟩ := ha
 have hb2 : b < w.heap.size + 1 := Nat.lt_succ_of_lt hb
 have hv2 : v < w.heap.size + 1 := Nat.lt_succ_of_lt hv
 go_enter Tryz.func107, Tryz.ntmps107
 go_wp2
 refine wp_loop_rounds 3 ?_
 rw [rounds_succ]
 go_wp2_with (go_at_call 108; refine (a4m _ y z _ _ ((World.cell?_alloc_past _ _ _ hb).trans hc) ((World.cell?_alloc_past _ _ _ hb).trans hd)).mono ?_; rw [h]; rintro e w' ⟨rfl, rfl⟩)
 rw [rounds_succ]
 go_wp2_with (go_at_call 108; refine (a4m _ y z _ _ ((World.cell?_alloc_past _ _ _ (by simpa using hb2)).trans ((World.cell?_alloc_past _ _ _ hb).trans hc)) ((World.cell?_alloc_past _ _ _ (by simpa using hb2)).trans ((World.cell?_alloc_past _ _ _ hb).trans hd))).mono ?_; rw [h']; rintro e w' ⟨rfl, rfl⟩)
 rw [rounds_succ]
 go_wp2
 go_ret
 exact ⟨rfl, rfl⟩
theorem c7z (b c v : Nat) (y z k n k' n' : Int) (s s' : ByteArray) (w : World) (hc : w.cell? ⟨b, 0, none⟩ = some (.int .i64 y)) (hd : w.cell? ⟨b, 1, none⟩ = some (.int .i64 z)) (ha : a6k c v k n k' n' s s' w) (h : (k == y || k == z) = false) :
  Calls Tryz.prog 107 #[.slice (some ⟨b, 0, none⟩) 2 2, .pointer (some ⟨c, 0, none⟩)] w fun e w' => e = .returned (.bool false) ∧ w' = w.alloc (box k n s) := by
 have hb := World.block_lt_of_cell? _ _ hc
 have hv := World.block_lt_of_cell? _ _ ha.h0
 obtain ⟨hp, h0, h1, h2, h3, h4, h5⟩ := ha
 go_enter Tryz.func107, Tryz.ntmps107
 go_wp2
 refine wp_loop_rounds 3 ?_
 rw [rounds_succ]
 go_wp2_with (go_at_call 108; refine (a4m _ y z _ _ ((World.cell?_alloc_past _ _ _ hb).trans hc) ((World.cell?_alloc_past _ _ _ hb).trans hd)).mono ?_; rw [h]; rintro e w' ⟨rfl, rfl⟩)
 go_ret
 exact ⟨rfl, rfl⟩
theorem c8a (b c v : Nat) (y z k n k' n' : Int) (s s' : ByteArray) (w : World) (hc : w.cell? ⟨b, 0, none⟩ = some (.int .i64 y)) (hd : w.cell? ⟨b, 1, none⟩ = some (.int .i64 z)) (ha : a6k c v k n k' n' s s' w) (h : (k == y || k == z) = true) (h' : (k' == y || k' == z) = false) :
  Calls Tryz.prog 107 #[.slice (some ⟨b, 0, none⟩) 2 2, .pointer (some ⟨c, 0, none⟩)] w fun e w' => e = .returned (.bool false) ∧ w' = (w.alloc (box k n s)).alloc (box k' n' s') := by
 have hb := World.block_lt_of_cell? _ _ hc
 have hv := World.block_lt_of_cell? _ _ ha.h0
 obtain ⟨hp, h0, h1, h2, h3, h4, h5⟩ := ha
 have hb2 : b < w.heap.size + 1 := Nat.lt_succ_of_lt hb
 have hv2 : v < w.heap.size + 1 := Nat.lt_succ_of_lt hv
 go_enter Tryz.func107, Tryz.ntmps107
 go_wp2
 refine wp_loop_rounds 3 ?_
 rw [rounds_succ]
 go_wp2_with (go_at_call 108; refine (a4m _ y z _ _ ((World.cell?_alloc_past _ _ _ hb).trans hc) ((World.cell?_alloc_past _ _ _ hb).trans hd)).mono ?_; rw [h]; rintro e w' ⟨rfl, rfl⟩)
 rw [rounds_succ]
 go_wp2_with (go_at_call 108; refine (a4m _ y z _ _ ((World.cell?_alloc_past _ _ _ (by simpa using hb2)).trans ((World.cell?_alloc_past _ _ _ hb).trans hc)) ((World.cell?_alloc_past _ _ _ (by simpa using hb2)).trans ((World.cell?_alloc_past _ _ _ hb).trans hd))).mono ?_; rw [h']; rintro e w' ⟨rfl, rfl⟩)
 go_ret
 exact ⟨rfl, rfl⟩
theorem a3b (n : Int) (w : World) :
  Calls Tryz.prog 118 #[.int .i64 n] w fun e w' => e = .returned (val 2 n ⟨#[]⟩) ∧ w' = w.alloc (box 2 n ⟨#[]⟩) := by
 go_enter Tryz.func118, Tryz.ntmps118
 go_wp2
 exact bodyPost_ret (v := val 2 n ⟨#[]⟩) (by simp [results, Tryz.results118, go_sem]) rfl ⟨rfl, rfl⟩
theorem a2a (b : Bool) (w : World) :
  Calls Tryz.prog 96 #[.bool b] w fun e w' => e = .returned (val 1 (if b then 1 else 0) ⟨#[]⟩) ∧ w' = w.alloc (box 1 (if b then 1 else 0) ⟨#[]⟩) := by
 cases b
 all_goals
  go_enter Tryz.func96, Tryz.ntmps96
  go_wp2
  exact bodyPost_ret (v := val 1 _ ⟨#[]⟩) (by simp [results, Tryz.results96, go_sem]) rfl ⟨rfl, rfl⟩
theorem b2f (a b : Int) (w : World) (hb : (b == 0) = false) :
  Calls Tryz.prog 133 #[.int .i64 a, .int .i64 b] w fun e w' => e = .returned (.int .i64 (divV a b)) ∧ w' = w := by
 have hb0 : b ≠ 0 := by simpa using hb
 rcases Bool.eq_false_or_eq_true (a.tmod b == 0) with hm | hm
 ·have hm0 : a.tmod b = 0 := by simpa using hm
  go_enter Tryz.func133, Tryz.ntmps133
  go_wp2
  go_ret
  exact ⟨a4k (by unfold divV; rw [← b2a hb0 hm0]), rfl⟩
 ·have hm0 : ¬ a.tmod b = 0 := by simpa using hm
  clear hm
  by_cases ha : a < 0
  ·by_cases hc : b < 0
   ·go_enter Tryz.func133, Tryz.ntmps133
    go_wp2
    go_ret
    exact ⟨a4k (by unfold divV; rw [← a7b hb0 (by simp [ha, hc])]), rfl⟩
   ·go_enter Tryz.func133, Tryz.ntmps133
    go_wp2
    go_ret
    exact ⟨a4k (by unfold divV; rw [← a7c hb0 hm0 (by simp [ha]; omega), b1z]), rfl⟩
  ·have hme : ¬ a % b = 0 := by rw [← Int.tmod_eq_emod_of_nonneg (by omega)]; exact hm0
   by_cases hc : b < 0
   ·go_enter Tryz.func133, Tryz.ntmps133
    go_wp2
    go_ret
    exact ⟨a4k (by unfold divV; rw [← a7c hb0 hm0 (by simp [hc]; omega), b1z]), rfl⟩
   ·go_enter Tryz.func133, Tryz.ntmps133
    go_wp2
    go_ret
    exact ⟨a4k (by unfold divV; rw [← a7b hb0 (by omega)]), rfl⟩
structure a6p (b : Nat) (k n k' n' k2 n2 : Int) (s s' s2 : ByteArray) (w : World) : Prop where
 a0 : w.cell? ⟨b, 0, none⟩ = some (.int .i64 k)
 a1 : w.cell? ⟨b, 1, none⟩ = some (.int .i64 n)
 a2 : w.cell? ⟨b, 2, none⟩ = some (.string s)
 b0 : w.cell? ⟨b + 1, 0, none⟩ = some (.int .i64 k')
 b1 : w.cell? ⟨b + 1, 1, none⟩ = some (.int .i64 n')
 b2 : w.cell? ⟨b + 1, 2, none⟩ = some (.string s')
 c0 : w.cell? ⟨b + 1 + 1, 0, none⟩ = some (.int .i64 k2)
 c1 : w.cell? ⟨b + 1 + 1, 1, none⟩ = some (.int .i64 n2)
 c2 : w.cell? ⟨b + 1 + 1, 2, none⟩ = some (.string s2)
 f0 : w.frozen? ⟨b + 1 + 1, 0, none⟩ = false
 f1 : w.frozen? ⟨b + 1 + 1, 1, none⟩ = false
 f2 : w.frozen? ⟨b + 1 + 1, 2, none⟩ = false
theorem a3u (w : World) (k n k' n' k2 n2 : Int) (s s' s2 : ByteArray) : a6p w.heap.size k n k' n' k2 n2 s s' s2 (((w.alloc (box k n s)).alloc (box k' n' s')).alloc (box k2 n2 s2)) := by
 constructor
 ·rw [World.cell?_alloc_past _ _ _ (by simp; omega), World.cell?_alloc_past _ _ _ (by simp), World.cell?_alloc_at _ _ _ _ rfl]; rfl
 ·rw [World.cell?_alloc_past _ _ _ (by simp; omega), World.cell?_alloc_past _ _ _ (by simp), World.cell?_alloc_at _ _ _ _ rfl]; rfl
 ·rw [World.cell?_alloc_past _ _ _ (by simp; omega), World.cell?_alloc_past _ _ _ (by simp), World.cell?_alloc_at _ _ _ _ rfl]; rfl
 ·rw [World.cell?_alloc_past _ _ _ (by simp), World.cell?_alloc_at _ _ _ _ (by simp)]; rfl
 ·rw [World.cell?_alloc_past _ _ _ (by simp), World.cell?_alloc_at _ _ _ _ (by simp)]; rfl
 ·rw [World.cell?_alloc_past _ _ _ (by simp), World.cell?_alloc_at _ _ _ _ (by simp)]; rfl
 ·rw [World.cell?_alloc_at _ _ _ _ (by simp)]; rfl
 ·rw [World.cell?_alloc_at _ _ _ _ (by simp)]; rfl
 ·rw [World.cell?_alloc_at _ _ _ _ (by simp)]; rfl
 ·exact World.frozen?_alloc_at _ _ _ _ (by simp)
 ·exact World.frozen?_alloc_at _ _ _ _ (by simp)
 ·exact World.frozen?_alloc_at _ _ _ _ (by simp)
theorem a6p.on {w1 : World} (h : a6p b k n k' n' k2 n2 s s' s2 w) (hb : Below w.heap.size w w1) : a6p b k n k' n' k2 n2 s s' s2 w1 := by
 have lc := World.block_lt_of_cell? _ _ h.c0
 exact ⟨cell_later hb h.a0, cell_later hb h.a1, cell_later hb h.a2, cell_later hb h.b0, cell_later hb h.b1, cell_later hb h.b2, cell_later hb h.c0, cell_later hb h.c1, cell_later hb h.c2, (hb.frozen (p := ⟨b + 1 + 1, 0, none⟩) lc).trans h.f0, (hb.frozen (p := ⟨b + 1 + 1, 1, none⟩) lc).trans h.f1, (hb.frozen (p := ⟨b + 1 + 1, 2, none⟩) lc).trans h.f2⟩
theorem a6p.size (h : a6p b k n k' n' k2 n2 s s' s2 w) : b + 1 + 1 < w.heap.size := World.block_lt_of_cell? _ _ h.c0
theorem a2p (w : World) (o1 o2 o3 : Obj) : Below w.heap.size w (((w.alloc o1).alloc o2).alloc o3) := a0c (a0c (a0c (Below.refl _ _) _) _) _
theorem a5e (op : Int) (hop : op = 1 ∨ op = 2 ∨ op = 3 ∨ op = 4 ∨ op = 5) (k n k' n' : Int) (s s' : ByteArray) (k3 n3 er : Int) (s3 : ByteArray) (w : World) (ha : mayB k n s = true) (hb : mayB k' n' s' = true) (hr : ∀ w, Calls Tryz.prog 128 #[.int .i64 op, val k n s, val k' n' s'] w fun e w' => e = .returned (.tuple #[val k3 n3 s3, .int .i64 er]) ∧ Below w.heap.size w w') :
  Calls Tryz.prog 122 #[.int .i64 op, val k n s, val k' n' s'] w fun e w' => e = .returned (.tuple #[val k3 n3 s3, .int .i64 er]) ∧ Below w.heap.size w w' := by
 rcases hop with rfl | rfl | rfl | rfl | rfl
 all_goals
  have B0 := a3u w k n k' n' 0 0 s s' ⟨#[]⟩
  go_enter Tryz.func122, Tryz.ntmps122
  go_wp2_with (go_at_call 60; refine (a2r _ _ _ _ ha).mono ?_; rintro e w1 ⟨rfl, hb1⟩; have B1 := B0.on hb1; obtain ⟨a0, a1, a2, b0, b1, b2, c0, c1, c2, f0, f1, f2⟩ := id B1; refine Hid.out ?_)
  refine Lib.hid ?_
  go_wp2_with (go_at_call 60; refine (a2r _ _ _ _ hb).mono ?_; rintro e w2 ⟨rfl, hb2⟩; clear a0 a1 a2 b0 b1 b2 c0 c1 c2 f0 f1 f2; have B2 := B1.on hb2; obtain ⟨a0, a1, a2, b0, b1, b2, c0, c1, c2, f0, f1, f2⟩ := id B2; refine Hid.out ?_)
  refine Lib.hid ?_
  go_wp2_with (go_at_call 128; refine (hr _).mono ?_; rintro e w3 ⟨rfl, hb3⟩; clear a0 a1 a2 b0 b1 b2 c0 c1 c2 f0 f1 f2; have B3 := B2.on hb3; obtain ⟨a0, a1, a2, b0, b1, b2, c0, c1, c2, f0, f1, f2⟩ := id B3; refine Hid.out ?_)
  refine Lib.hid ?_
  have hz := B3.size
  go_wp2
  refine bodyPost_ret (v := .tuple #[val k3 n3 s3, .int .i64 er]) (by simp [results, Tryz.results122, go_sem, c0, c1, c2]) rfl ⟨rfl, ?_⟩
  have hall := a0b (a2p w _ _ _) (a0b hb1 (a0b hb2 hb3))
  exact ((hall.setCell (by simp; omega) _).setCell (by simp; omega) _).setCell (by simp; omega) _
abbrev a4f := a5e 1 (by simp)
abbrev a4g := a5e 2 (by simp)
abbrev a4h := a5e 3 (by simp)
abbrev a3c := a5e 4 (by simp)
abbrev a3d := a5e 5 (by simp)
theorem b2g (op : Int) (hop : op = 8 ∨ op = 9) (k n k' n' : Int) (s s' : ByteArray) (k3 n3 er : Int) (s3 : ByteArray) (w : World) (ha : mayB k n s = true) (hb : mayB k' n' s' = true) (hr : ∀ w, Calls Tryz.prog 129 #[.int .i64 op, val k n s, val k' n' s'] w fun e w' => e = .returned (.tuple #[val k3 n3 s3, .int .i64 er]) ∧ Below w.heap.size w w') :
  Calls Tryz.prog 122 #[.int .i64 op, val k n s, val k' n' s'] w fun e w' => e = .returned (.tuple #[val k3 n3 s3, .int .i64 er]) ∧ Below w.heap.size w w' := by
 rcases hop with rfl | rfl
 all_goals
  have B0 := a3u w k n k' n' 0 0 s s' ⟨#[]⟩
  go_enter Tryz.func122, Tryz.ntmps122
  go_wp2_with (go_at_call 60; refine (a2r _ _ _ _ ha).mono ?_; rintro e w1 ⟨rfl, hb1⟩; have B1 := B0.on hb1; obtain ⟨a0, a1, a2, b0, b1, b2, c0, c1, c2, f0, f1, f2⟩ := id B1; refine Hid.out ?_)
  refine Lib.hid ?_
  go_wp2_with (go_at_call 60; refine (a2r _ _ _ _ hb).mono ?_; rintro e w2 ⟨rfl, hb2⟩; clear a0 a1 a2 b0 b1 b2 c0 c1 c2 f0 f1 f2; have B2 := B1.on hb2; obtain ⟨a0, a1, a2, b0, b1, b2, c0, c1, c2, f0, f1, f2⟩ := id B2; refine Hid.out ?_)
  refine Lib.hid ?_
  go_wp2_with (go_at_call 129; refine (hr _).mono ?_; rintro e w3 ⟨rfl, hb3⟩; clear a0 a1 a2 b0 b1 b2 c0 c1 c2 f0 f1 f2; have B3 := B2.on hb3; obtain ⟨a0, a1, a2, b0, b1, b2, c0, c1, c2, f0, f1, f2⟩ := id B3; refine Hid.out ?_)
  refine Lib.hid ?_
  have hz := B3.size
  go_wp2
  refine bodyPost_ret (v := .tuple #[val k3 n3 s3, .int .i64 er]) (by simp [results, Tryz.results122, go_sem, c0, c1, c2]) rfl ⟨rfl, ?_⟩
  have hall := a0b (a2p w _ _ _) (a0b hb1 (a0b hb2 hb3))
  exact ((hall.setCell (by simp; omega) _).setCell (by simp; omega) _).setCell (by simp; omega) _
abbrev a1u := b2g 8 (by simp)
abbrev a1v := b2g 9 (by simp)
theorem c7a (op k n k' n' : Int) (s s' : ByteArray) (w : World) (h : op < 1) :
  Calls Tryz.prog 122 #[.int .i64 op, val k n s, val k' n' s'] w fun e w' => e = .returned (.tuple #[val 0 0 ⟨#[]⟩, .int .i64 2]) ∧ Below w.heap.size w w' := by
 go_enter Tryz.func122, Tryz.ntmps122
 go_wp2
 refine bodyPost_ret (v := .tuple #[val 0 0 ⟨#[]⟩, .int .i64 2]) (by simp [results, Tryz.results122, go_sem]) rfl ⟨rfl, ?_⟩
 exact a2p _ _ _ _
theorem b8a (op k n k' n' : Int) (s s' : ByteArray) (w : World) (h : 11 < op) :
  Calls Tryz.prog 122 #[.int .i64 op, val k n s, val k' n' s'] w fun e w' => e = .returned (.tuple #[val 0 0 ⟨#[]⟩, .int .i64 2]) ∧ Below w.heap.size w w' := by
 go_enter Tryz.func122, Tryz.ntmps122
 go_wp2
 refine bodyPost_ret (v := .tuple #[val 0 0 ⟨#[]⟩, .int .i64 2]) (by simp [results, Tryz.results122, go_sem]) rfl ⟨rfl, ?_⟩
 exact a2p _ _ _ _
theorem op_a (op k n k' n' : Int) (s s' : ByteArray) (w : World) (h1 : 1 ≤ op) (h2 : op ≤ 11) (ha : mayB k n s = false) :
  Calls Tryz.prog 122 #[.int .i64 op, val k n s, val k' n' s'] w fun e w' => e = .returned (.tuple #[val 0 0 ⟨#[]⟩, .int .i64 2]) ∧ Below w.heap.size w w' := by
 have B0 := a3u w k n k' n' 0 0 s s' ⟨#[]⟩
 go_enter Tryz.func122, Tryz.ntmps122
 go_wp2_with (go_at_call 60; refine (b6l _ _ _ _ ha).mono ?_; rintro e w1 ⟨rfl, hb1⟩; have B1 := B0.on hb1; obtain ⟨a0, a1, a2, b0, b1, b2, c0, c1, c2, f0, f1, f2⟩ := id B1; refine Hid.out ?_)
 refine Lib.hid ?_
 have hz := B1.size
 go_wp2
 refine bodyPost_ret (v := .tuple #[val 0 0 ⟨#[]⟩, .int .i64 2]) (by simp [results, Tryz.results122, go_sem, c0, c1, c2]) rfl ⟨rfl, ?_⟩
 have hall := a0b (a2p w _ _ _) hb1
 exact ((hall.setCell (by simp; omega) _).setCell (by simp; omega) _).setCell (by simp; omega) _
theorem op_b (op k n k' n' : Int) (s s' : ByteArray) (w : World) (h1 : 1 ≤ op) (h2 : op ≤ 11) (ha : mayB k n s = true) (hb : mayB k' n' s' = false) :
  Calls Tryz.prog 122 #[.int .i64 op, val k n s, val k' n' s'] w fun e w' => e = .returned (.tuple #[val 0 0 ⟨#[]⟩, .int .i64 2]) ∧ Below w.heap.size w w' := by
 have B0 := a3u w k n k' n' 0 0 s s' ⟨#[]⟩
 go_enter Tryz.func122, Tryz.ntmps122
 go_wp2_with (go_at_call 60; refine (a2r _ _ _ _ ha).mono ?_; rintro e w1 ⟨rfl, hb1⟩; have B1 := B0.on hb1; obtain ⟨a0, a1, a2, b0, b1, b2, c0, c1, c2, f0, f1, f2⟩ := id B1; refine Hid.out ?_)
 refine Lib.hid ?_
 go_wp2_with (go_at_call 60; refine (b6l _ _ _ _ hb).mono ?_; rintro e w2 ⟨rfl, hb2⟩; clear a0 a1 a2 b0 b1 b2 c0 c1 c2 f0 f1 f2; have B2 := B1.on hb2; obtain ⟨a0, a1, a2, b0, b1, b2, c0, c1, c2, f0, f1, f2⟩ := id B2; refine Hid.out ?_)
 refine Lib.hid ?_
 have hz := B2.size
 go_wp2
 refine bodyPost_ret (v := .tuple #[val 0 0 ⟨#[]⟩, .int .i64 2]) (by simp [results, Tryz.results122, go_sem, c0, c1, c2]) rfl ⟨rfl, ?_⟩
 have hall := a0b (a2p w _ _ _) (a0b hb1 hb2)
 exact ((hall.setCell (by simp; omega) _).setCell (by simp; omega) _).setCell (by simp; omega) _
theorem b2h (k n : Int) (s : ByteArray) (w : World) (ha : mayB k n s = true) (hb : mayB k n s = true) :
  Calls Tryz.prog 122 #[.int .i64 7, val k n s, val k n s] w fun e w' => e = .returned (.tuple #[val 1 1 ⟨#[]⟩, .int .i64 0]) ∧ Below w.heap.size w w' := by
 have B0 := a3u w k n k n 0 0 s s ⟨#[]⟩
 go_enter Tryz.func122, Tryz.ntmps122
 go_wp2_with (go_at_call 60; refine (a2r _ _ _ _ ha).mono ?_; rintro e w1 ⟨rfl, hb1⟩; have B1 := B0.on hb1; obtain ⟨a0, a1, a2, b0, b1, b2, c0, c1, c2, f0, f1, f2⟩ := id B1; refine Hid.out ?_)
 refine Lib.hid ?_
 go_wp2_with (go_at_call 60; refine (a2r _ _ _ _ hb).mono ?_; rintro e w2 ⟨rfl, hb2⟩; clear a0 a1 a2 b0 b1 b2 c0 c1 c2 f0 f1 f2; have B2 := B1.on hb2; obtain ⟨a0, a1, a2, b0, b1, b2, c0, c1, c2, f0, f1, f2⟩ := id B2; refine Hid.out ?_)
 refine Lib.hid ?_
 have hz := B2.size
 go_wp2_with (go_at_call 96; refine (a2a true _).mono ?_; rintro e w3 ⟨rfl, rfl⟩)
 refine bodyPost_ret (v := .tuple #[val 1 1 ⟨#[]⟩, .int .i64 0]) (by simp [results, Tryz.results122, go_sem, c0, c1, c2, hz]) rfl ⟨rfl, ?_⟩
 have hall := a0b (a2p w _ _ _) (a0b hb1 hb2)
 exact a0c (((hall.setCell (by simp; omega) _).setCell (by simp; omega) _).setCell (by simp; omega) _) _
theorem b2i (k n k' n' : Int) (s s' : ByteArray) (w : World) (ha : mayB k n s = true) (hb : mayB k' n' s' = true) (hk : ¬ k = k') :
  Calls Tryz.prog 122 #[.int .i64 7, val k n s, val k' n' s'] w fun e w' => e = .returned (.tuple #[val 1 0 ⟨#[]⟩, .int .i64 0]) ∧ Below w.heap.size w w' := by
 have B0 := a3u w k n k' n' 0 0 s s' ⟨#[]⟩
 go_enter Tryz.func122, Tryz.ntmps122
 go_wp2_with (go_at_call 60; refine (a2r _ _ _ _ ha).mono ?_; rintro e w1 ⟨rfl, hb1⟩; have B1 := B0.on hb1; obtain ⟨a0, a1, a2, b0, b1, b2, c0, c1, c2, f0, f1, f2⟩ := id B1; refine Hid.out ?_)
 refine Lib.hid ?_
 go_wp2_with (go_at_call 60; refine (a2r _ _ _ _ hb).mono ?_; rintro e w2 ⟨rfl, hb2⟩; clear a0 a1 a2 b0 b1 b2 c0 c1 c2 f0 f1 f2; have B2 := B1.on hb2; obtain ⟨a0, a1, a2, b0, b1, b2, c0, c1, c2, f0, f1, f2⟩ := id B2; refine Hid.out ?_)
 refine Lib.hid ?_
 have hz := B2.size
 go_wp2_with (go_at_call 96; refine (a2a false _).mono ?_; rintro e w3 ⟨rfl, rfl⟩)
 refine bodyPost_ret (v := .tuple #[val 1 0 ⟨#[]⟩, .int .i64 0]) (by simp [results, Tryz.results122, go_sem, c0, c1, c2, hz]) rfl ⟨rfl, ?_⟩
 have hall := a0b (a2p w _ _ _) (a0b hb1 hb2)
 exact a0c (((hall.setCell (by simp; omega) _).setCell (by simp; omega) _).setCell (by simp; omega) _) _
theorem b2j (k n n' : Int) (s s' : ByteArray) (w : World) (ha : mayB k n s = true) (hb : mayB k n' s' = true) (hk : ¬ n = n') :
  Calls Tryz.prog 122 #[.int .i64 7, val k n s, val k n' s'] w fun e w' => e = .returned (.tuple #[val 1 0 ⟨#[]⟩, .int .i64 0]) ∧ Below w.heap.size w w' := by
 have B0 := a3u w k n k n' 0 0 s s' ⟨#[]⟩
 go_enter Tryz.func122, Tryz.ntmps122
 go_wp2_with (go_at_call 60; refine (a2r _ _ _ _ ha).mono ?_; rintro e w1 ⟨rfl, hb1⟩; have B1 := B0.on hb1; obtain ⟨a0, a1, a2, b0, b1, b2, c0, c1, c2, f0, f1, f2⟩ := id B1; refine Hid.out ?_)
 refine Lib.hid ?_
 go_wp2_with (go_at_call 60; refine (a2r _ _ _ _ hb).mono ?_; rintro e w2 ⟨rfl, hb2⟩; clear a0 a1 a2 b0 b1 b2 c0 c1 c2 f0 f1 f2; have B2 := B1.on hb2; obtain ⟨a0, a1, a2, b0, b1, b2, c0, c1, c2, f0, f1, f2⟩ := id B2; refine Hid.out ?_)
 refine Lib.hid ?_
 have hz := B2.size
 go_wp2_with (go_at_call 96; refine (a2a false _).mono ?_; rintro e w3 ⟨rfl, rfl⟩)
 refine bodyPost_ret (v := .tuple #[val 1 0 ⟨#[]⟩, .int .i64 0]) (by simp [results, Tryz.results122, go_sem, c0, c1, c2, hz]) rfl ⟨rfl, ?_⟩
 have hall := a0b (a2p w _ _ _) (a0b hb1 hb2)
 exact a0c (((hall.setCell (by simp; omega) _).setCell (by simp; omega) _).setCell (by simp; omega) _) _
theorem b2k (k n : Int) (s s' : ByteArray) (w : World) (ha : mayB k n s = true) (hb : mayB k n s' = true) (hk : ¬ s.toList = s'.toList) :
  Calls Tryz.prog 122 #[.int .i64 7, val k n s, val k n s'] w fun e w' => e = .returned (.tuple #[val 1 0 ⟨#[]⟩, .int .i64 0]) ∧ Below w.heap.size w w' := by
 have B0 := a3u w k n k n 0 0 s s' ⟨#[]⟩
 go_enter Tryz.func122, Tryz.ntmps122
 go_wp2_with (go_at_call 60; refine (a2r _ _ _ _ ha).mono ?_; rintro e w1 ⟨rfl, hb1⟩; have B1 := B0.on hb1; obtain ⟨a0, a1, a2, b0, b1, b2, c0, c1, c2, f0, f1, f2⟩ := id B1; refine Hid.out ?_)
 refine Lib.hid ?_
 go_wp2_with (go_at_call 60; refine (a2r _ _ _ _ hb).mono ?_; rintro e w2 ⟨rfl, hb2⟩; clear a0 a1 a2 b0 b1 b2 c0 c1 c2 f0 f1 f2; have B2 := B1.on hb2; obtain ⟨a0, a1, a2, b0, b1, b2, c0, c1, c2, f0, f1, f2⟩ := id B2; refine Hid.out ?_)
 refine Lib.hid ?_
 have hz := B2.size
 go_wp2_with (go_at_call 96; refine (a2a false _).mono ?_; rintro e w3 ⟨rfl, rfl⟩)
 refine bodyPost_ret (v := .tuple #[val 1 0 ⟨#[]⟩, .int .i64 0]) (by simp [results, Tryz.results122, go_sem, c0, c1, c2, hz]) rfl ⟨rfl, ?_⟩
 have hall := a0b (a2p w _ _ _) (a0b hb1 hb2)
 exact a0c (((hall.setCell (by simp; omega) _).setCell (by simp; omega) _).setCell (by simp; omega) _) _
end Go.Proofs.YthpgbienakcbeaaGreatDoor
