/- Walks of the value package, on the way to the statements of chapter 1. -/
import Derived.Test.YtcfkkmelenjjoaaDoorMay
import Derived.Test.YtcfkkmelenjjoaaDoorMath
import Derived.Laws.ResultCell
namespace Go.Proofs.YtcfkkmelenjjoaaDoor
open Go.RowKit
open Go

/-- The closure's own memory at two values. -/
structure Asks2 (c v : Nat) (k n k' n' : Int) (s s' : ByteArray) (w : World) : Prop where
  hp : w.cell? ⟨c, 0, none⟩ = some (.slice (some ⟨v, 0, none⟩) 2 2)
  h0 : w.cell? ⟨v, 0, none⟩ = some (.int .i64 k)
  h1 : w.cell? ⟨v, 1, none⟩ = some (.int .i64 n)
  h2 : w.cell? ⟨v, 2, none⟩ = some (.string s)
  h3 : w.cell? ⟨v, 3, none⟩ = some (.int .i64 k')
  h4 : w.cell? ⟨v, 4, none⟩ = some (.int .i64 n')
  h5 : w.cell? ⟨v, 5, none⟩ = some (.string s')
theorem Asks2.alloc {c v : Nat} {k n k' n' : Int} {s s' : ByteArray} {w : World} (h : Asks2 c v k n k' n' s s' w) (o : Obj) : Asks2 c v k n k' n' s s' (w.alloc o) := by
  obtain ⟨hp, h0, h1, h2, h3, h4, h5⟩ := h
  have hc := World.block_lt_of_cell? _ _ hp
  have hv := World.block_lt_of_cell? _ _ h0
  exact ⟨(World.cell?_alloc_past _ _ _ hc).trans hp, (World.cell?_alloc_past _ _ _ hv).trans h0, (World.cell?_alloc_past _ _ _ hv).trans h1, (World.cell?_alloc_past _ _ _ hv).trans h2, (World.cell?_alloc_past _ _ _ hv).trans h3, (World.cell?_alloc_past _ _ _ hv).trans h4, (World.cell?_alloc_past _ _ _ hv).trans h5⟩

abbrev box (k n : Int) (s : ByteArray) : Obj := .cells #[.int .i64 k, .int .i64 n, .string s] 23

/-- Both are of one kind. -/
theorem each21t (b c v : Nat) (y k n k' n' : Int) (s s' : ByteArray) (w : World) (hc : w.cell? ⟨b, 0, none⟩ = some (.int .i64 y)) (ha : Asks2 c v k n k' n' s s' w) (h : (k == y) = true) (h' : (k' == y) = true) :
    Calls Tryd.prog 33 #[.slice (some ⟨b, 0, none⟩) 1 1, .pointer (some ⟨c, 0, none⟩)] w fun e w' => e = .returned (.bool true) ∧ w' = (w.alloc (box k n s)).alloc (box k' n' s') := by
  have hb := World.block_lt_of_cell? _ _ hc
  have hv := World.block_lt_of_cell? _ _ ha.h0
  obtain ⟨hp, h0, h1, h2, h3, h4, h5⟩ := ha
  have hb2 : b < w.heap.size + 1 := Nat.lt_succ_of_lt hb
  have hv2 : v < w.heap.size + 1 := Nat.lt_succ_of_lt hv
  go_enter Tryd.func33, Tryd.ntmps33
  go_wp2
  refine wp_loop_rounds 3 ?_
  rw [rounds_succ]
  go_wp2_with (go_at_call 34; refine (contains1 _ y _ _ ((World.cell?_alloc_past _ _ _ hb).trans hc)).mono ?_; rw [h]; rintro e w' ⟨rfl, rfl⟩)
  rw [rounds_succ]
  go_wp2_with (go_at_call 34; refine (contains1 _ y _ _ ((World.cell?_alloc_past _ _ _ (by simpa using hb2)).trans ((World.cell?_alloc_past _ _ _ hb).trans hc))).mono ?_; rw [h']; rintro e w' ⟨rfl, rfl⟩)
  rw [rounds_succ]
  go_wp2
  go_ret
  exact ⟨rfl, rfl⟩
theorem each21f (b c v : Nat) (y k n k' n' : Int) (s s' : ByteArray) (w : World) (hc : w.cell? ⟨b, 0, none⟩ = some (.int .i64 y)) (ha : Asks2 c v k n k' n' s s' w) (h : (k == y) = false) :
    Calls Tryd.prog 33 #[.slice (some ⟨b, 0, none⟩) 1 1, .pointer (some ⟨c, 0, none⟩)] w fun e w' => e = .returned (.bool false) ∧ w' = w.alloc (box k n s) := by
  have hb := World.block_lt_of_cell? _ _ hc
  have hv := World.block_lt_of_cell? _ _ ha.h0
  obtain ⟨hp, h0, h1, h2, h3, h4, h5⟩ := ha
  go_enter Tryd.func33, Tryd.ntmps33
  go_wp2
  refine wp_loop_rounds 3 ?_
  rw [rounds_succ]
  go_wp2_with (go_at_call 34; refine (contains1 _ y _ _ ((World.cell?_alloc_past _ _ _ hb).trans hc)).mono ?_; rw [h]; rintro e w' ⟨rfl, rfl⟩)
  go_ret
  exact ⟨rfl, rfl⟩
theorem each21g (b c v : Nat) (y k n k' n' : Int) (s s' : ByteArray) (w : World) (hc : w.cell? ⟨b, 0, none⟩ = some (.int .i64 y)) (ha : Asks2 c v k n k' n' s s' w) (h : (k == y) = true) (h' : (k' == y) = false) :
    Calls Tryd.prog 33 #[.slice (some ⟨b, 0, none⟩) 1 1, .pointer (some ⟨c, 0, none⟩)] w fun e w' => e = .returned (.bool false) ∧ w' = (w.alloc (box k n s)).alloc (box k' n' s') := by
  have hb := World.block_lt_of_cell? _ _ hc
  have hv := World.block_lt_of_cell? _ _ ha.h0
  obtain ⟨hp, h0, h1, h2, h3, h4, h5⟩ := ha
  have hb2 : b < w.heap.size + 1 := Nat.lt_succ_of_lt hb
  have hv2 : v < w.heap.size + 1 := Nat.lt_succ_of_lt hv
  go_enter Tryd.func33, Tryd.ntmps33
  go_wp2
  refine wp_loop_rounds 3 ?_
  rw [rounds_succ]
  go_wp2_with (go_at_call 34; refine (contains1 _ y _ _ ((World.cell?_alloc_past _ _ _ hb).trans hc)).mono ?_; rw [h]; rintro e w' ⟨rfl, rfl⟩)
  rw [rounds_succ]
  go_wp2_with (go_at_call 34; refine (contains1 _ y _ _ ((World.cell?_alloc_past _ _ _ (by simpa using hb2)).trans ((World.cell?_alloc_past _ _ _ hb).trans hc))).mono ?_; rw [h']; rintro e w' ⟨rfl, rfl⟩)
  go_ret
  exact ⟨rfl, rfl⟩

/-- Two kinds asked of two values. -/
theorem each22t (b c v : Nat) (y z k n k' n' : Int) (s s' : ByteArray) (w : World) (hc : w.cell? ⟨b, 0, none⟩ = some (.int .i64 y)) (hd : w.cell? ⟨b, 1, none⟩ = some (.int .i64 z)) (ha : Asks2 c v k n k' n' s s' w) (h : (k == y || k == z) = true) (h' : (k' == y || k' == z) = true) :
    Calls Tryd.prog 33 #[.slice (some ⟨b, 0, none⟩) 2 2, .pointer (some ⟨c, 0, none⟩)] w fun e w' => e = .returned (.bool true) ∧ w' = (w.alloc (box k n s)).alloc (box k' n' s') := by
  have hb := World.block_lt_of_cell? _ _ hc
  have hv := World.block_lt_of_cell? _ _ ha.h0
  obtain ⟨hp, h0, h1, h2, h3, h4, h5⟩ := ha
  have hb2 : b < w.heap.size + 1 := Nat.lt_succ_of_lt hb
  have hv2 : v < w.heap.size + 1 := Nat.lt_succ_of_lt hv
  go_enter Tryd.func33, Tryd.ntmps33
  go_wp2
  refine wp_loop_rounds 3 ?_
  rw [rounds_succ]
  go_wp2_with (go_at_call 34; refine (contains2 _ y z _ _ ((World.cell?_alloc_past _ _ _ hb).trans hc) ((World.cell?_alloc_past _ _ _ hb).trans hd)).mono ?_; rw [h]; rintro e w' ⟨rfl, rfl⟩)
  rw [rounds_succ]
  go_wp2_with (go_at_call 34; refine (contains2 _ y z _ _ ((World.cell?_alloc_past _ _ _ (by simpa using hb2)).trans ((World.cell?_alloc_past _ _ _ hb).trans hc)) ((World.cell?_alloc_past _ _ _ (by simpa using hb2)).trans ((World.cell?_alloc_past _ _ _ hb).trans hd))).mono ?_; rw [h']; rintro e w' ⟨rfl, rfl⟩)
  rw [rounds_succ]
  go_wp2
  go_ret
  exact ⟨rfl, rfl⟩
theorem each22f (b c v : Nat) (y z k n k' n' : Int) (s s' : ByteArray) (w : World) (hc : w.cell? ⟨b, 0, none⟩ = some (.int .i64 y)) (hd : w.cell? ⟨b, 1, none⟩ = some (.int .i64 z)) (ha : Asks2 c v k n k' n' s s' w) (h : (k == y || k == z) = false) :
    Calls Tryd.prog 33 #[.slice (some ⟨b, 0, none⟩) 2 2, .pointer (some ⟨c, 0, none⟩)] w fun e w' => e = .returned (.bool false) ∧ w' = w.alloc (box k n s) := by
  have hb := World.block_lt_of_cell? _ _ hc
  have hv := World.block_lt_of_cell? _ _ ha.h0
  obtain ⟨hp, h0, h1, h2, h3, h4, h5⟩ := ha
  go_enter Tryd.func33, Tryd.ntmps33
  go_wp2
  refine wp_loop_rounds 3 ?_
  rw [rounds_succ]
  go_wp2_with (go_at_call 34; refine (contains2 _ y z _ _ ((World.cell?_alloc_past _ _ _ hb).trans hc) ((World.cell?_alloc_past _ _ _ hb).trans hd)).mono ?_; rw [h]; rintro e w' ⟨rfl, rfl⟩)
  go_ret
  exact ⟨rfl, rfl⟩
theorem each22g (b c v : Nat) (y z k n k' n' : Int) (s s' : ByteArray) (w : World) (hc : w.cell? ⟨b, 0, none⟩ = some (.int .i64 y)) (hd : w.cell? ⟨b, 1, none⟩ = some (.int .i64 z)) (ha : Asks2 c v k n k' n' s s' w) (h : (k == y || k == z) = true) (h' : (k' == y || k' == z) = false) :
    Calls Tryd.prog 33 #[.slice (some ⟨b, 0, none⟩) 2 2, .pointer (some ⟨c, 0, none⟩)] w fun e w' => e = .returned (.bool false) ∧ w' = (w.alloc (box k n s)).alloc (box k' n' s') := by
  have hb := World.block_lt_of_cell? _ _ hc
  have hv := World.block_lt_of_cell? _ _ ha.h0
  obtain ⟨hp, h0, h1, h2, h3, h4, h5⟩ := ha
  have hb2 : b < w.heap.size + 1 := Nat.lt_succ_of_lt hb
  have hv2 : v < w.heap.size + 1 := Nat.lt_succ_of_lt hv
  go_enter Tryd.func33, Tryd.ntmps33
  go_wp2
  refine wp_loop_rounds 3 ?_
  rw [rounds_succ]
  go_wp2_with (go_at_call 34; refine (contains2 _ y z _ _ ((World.cell?_alloc_past _ _ _ hb).trans hc) ((World.cell?_alloc_past _ _ _ hb).trans hd)).mono ?_; rw [h]; rintro e w' ⟨rfl, rfl⟩)
  rw [rounds_succ]
  go_wp2_with (go_at_call 34; refine (contains2 _ y z _ _ ((World.cell?_alloc_past _ _ _ (by simpa using hb2)).trans ((World.cell?_alloc_past _ _ _ hb).trans hc)) ((World.cell?_alloc_past _ _ _ (by simpa using hb2)).trans ((World.cell?_alloc_past _ _ _ hb).trans hd))).mono ?_; rw [h']; rintro e w' ⟨rfl, rfl⟩)
  go_ret
  exact ⟨rfl, rfl⟩

theorem number_any (n : Int) (w : World) :
    Calls Tryd.prog 23 #[.int .i64 n] w fun e w' => e = .returned (val 2 n ⟨#[]⟩) ∧ w' = w.alloc (box 2 n ⟨#[]⟩) := by
  go_enter Tryd.func23, Tryd.ntmps23
  go_wp2
  exact bodyPost_ret (v := val 2 n ⟨#[]⟩) (by simp [results, Tryd.results23, go_sem]) rfl ⟨rfl, rfl⟩

theorem boolean_any (b : Bool) (w : World) :
    Calls Tryd.prog 21 #[.bool b] w fun e w' => e = .returned (val 1 (if b then 1 else 0) ⟨#[]⟩) ∧ w' = w.alloc (box 1 (if b then 1 else 0) ⟨#[]⟩) := by
  cases b
  all_goals
    go_enter Tryd.func21, Tryd.ntmps21
    go_wp2
    exact bodyPost_ret (v := val 1 _ ⟨#[]⟩) (by simp [results, Tryd.results21, go_sem]) rfl ⟨rfl, rfl⟩

theorem floor_any (a b : Int) (w : World) (hb : (b == 0) = false) :
    Calls Tryd.prog 35 #[.int .i64 a, .int .i64 b] w fun e w' => e = .returned (.int .i64 (divV a b)) ∧ w' = w := by
  have hb0 : b ≠ 0 := by simpa using hb
  rcases Bool.eq_false_or_eq_true (a.tmod b == 0) with hm | hm
  · have hm0 : a.tmod b = 0 := by simpa using hm
    go_enter Tryd.func35, Tryd.ntmps35
    go_wp2
    go_ret
    exact ⟨ret_int (by unfold divV; rw [← fdiv_zero hb0 hm0]), rfl⟩
  · have hm0 : ¬ a.tmod b = 0 := by simpa using hm
    clear hm
    by_cases ha : a < 0
    · by_cases hc : b < 0
      · go_enter Tryd.func35, Tryd.ntmps35
        go_wp2
        go_ret
        exact ⟨ret_int (by unfold divV; rw [← fdiv_same hb0 (by simp [ha, hc])]), rfl⟩
      · go_enter Tryd.func35, Tryd.ntmps35
        go_wp2
        go_ret
        exact ⟨ret_int (by unfold divV; rw [← fdiv_less hb0 hm0 (by simp [ha]; omega), wrap_pred]), rfl⟩
    · have hme : ¬ a % b = 0 := by rw [← Int.tmod_eq_emod_of_nonneg (by omega)]; exact hm0
      by_cases hc : b < 0
      · go_enter Tryd.func35, Tryd.ntmps35
        go_wp2
        go_ret
        exact ⟨ret_int (by unfold divV; rw [← fdiv_less hb0 hm0 (by simp [hc]; omega), wrap_pred]), rfl⟩
      · go_enter Tryd.func35, Tryd.ntmps35
        go_wp2
        go_ret
        exact ⟨ret_int (by unfold divV; rw [← fdiv_same hb0 (by omega)]), rfl⟩
end Go.Proofs.YtcfkkmelenjjoaaDoor
