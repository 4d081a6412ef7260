/- TableWalks: from nil on, Next goes over all keys. -/
import Derived.Test.YtkcieeckndimpaaLen
import Derived.BigQuiet
import Derived.Deep.QuietTactic
import Derived.Deep.RegionHeld3
namespace Go.Proofs.Ytkcieeckndimpaa
open Go.RowKit Go.Shelf
open Go

set_option linter.unusedSectionVars false
variable [DecidableEq Vl]

theorem mayT_parts {xs ys : List Vl} (h : mayT xs ys = true) : xs.length = ys.length ∧ xs.length ≤ 100 ∧ (∀ x ∈ xs, stB x = true) ∧ (∀ y ∈ ys, stB y = true) ∧ xs.Nodup := by
  unfold mayT at h
  simp only [Bool.and_eq_true, decide_eq_true_eq, List.all_eq_true] at h
  exact ⟨h.1.1.1, h.1.1.2, h.1.2.1, h.1.2.2, h.2⟩

theorem scan_skip {x : Vl} {pre : List Vl} (h : ¬ x ∈ pre) (r : List Vl) : scan false x (pre ++ r) = scan false x r := by
  induction pre with
  | nil => rfl
  | cons a pre ih =>
    simp at h
    rw [List.cons_append]
    show scan (decide (a = x)) x (pre ++ r) = _
    rw [decide_eq_false (fun e => h.1 e.symm)]
    exact ih h.2

theorem scan_true (k : Vl) (r : List Vl) : scan true k r = (r.getD 0 nilV, 0) := by cases r <;> rfl

theorem next_first {xs ys : List Vl} (h : mayT xs ys = true) : nextT xs ys nilV = (xs.getD 0 nilV, 0) := by
  unfold nextT
  rw [if_pos ⟨h, by simp [mayB, nilV]⟩]
  exact scan_true nilV xs

theorem next_step {xs ys : List Vl} (h : mayT xs ys = true) {m : Nat} {x : Vl} (hx : xs[m]? = some x) : nextT xs ys x = (xs.getD (m + 1) nilV, 0) := by
  obtain ⟨_, _, hs, _, hn⟩ := mayT_parts h
  have hst := hs x (List.mem_of_getElem? hx)
  simp only [stB, Bool.and_eq_true, bne_iff_ne, ne_eq] at hst
  unfold nextT
  rw [if_pos ⟨h, hst.2⟩, show (x.k == 0) = false by simpa using hst.1]
  obtain ⟨hm, e⟩ := List.getElem?_eq_some_iff.1 hx
  have hsplit : xs = xs.take m ++ x :: xs.drop (m + 1) := by
    rw [← e, List.getElem_cons_drop, List.take_append_drop]
  have hni : ¬ x ∈ xs.take m := by
    intro hin
    rw [hsplit] at hn
    exact (List.nodup_append.1 hn).2.2 x hin x (by simp) rfl
  conv => lhs; rw [hsplit]
  rw [scan_skip hni]
  show scan (decide (x = x)) x _ = _
  rw [decide_eq_true rfl, scan_true]
  simp [List.getD, List.getElem?_drop]

set_option maxRecDepth 100000 in
set_option maxHeartbeats 2000000 in
theorem walks_no (ks vs : Value) (xs ys : List Vl) (w : World) (hT : Tab w.heap.size w ks vs xs ys) (h : mayT xs ys = false) :
    Calls Try.prog 6 #[.agg #[ks, vs]] w fun e w' => e = .returned (.bool true) ∧ Below w.heap.size w w' := by
  obtain ⟨a, c1, rfl⟩ := hT.keys.slice
  obtain ⟨a', c2, rfl⟩ := hT.vals.slice
  have hb0 : Below w.heap.size w (w.alloc (.cells #[.slice a xs.length c1, .slice a' ys.length c2] 24)) := (Below.refl _ w).alloc (Nat.le_refl _) _
  have hN := next_any (.slice a xs.length c1) (.slice a' ys.length c2) xs ys nilV _ ((hT.below hb0).mono hb0.size)
  have e1 : nextT xs ys nilV = (nilV, 2) := by simp [nextT, h]
  rw [e1] at hN
  have ht0 := World.alloc_heap_new w (.cells #[.slice a xs.length c1, .slice a' ys.length c2] 24)
  go_enter Try.func6, Try.ntmps6
  go_wp2_with (go_at_call 9; refine hN.mono ?_; rintro e w1 ⟨rfl, hb1⟩; refine Hid.out ?_)
  have hb01 := hb0.trans (hb1.mono hb0.size)
  have ht1 := block_alloc (bx nilV) (block_below hb1 ht0)
  have hb2 : Below w.heap.size w (w1.alloc (bx nilV)) := hb01.alloc hb01.size _
  have hC := tmay_f h (.slice a xs.length c1) (.slice a' ys.length c2) _ ((hT.below hb2).mono hb2.size)
  have x0 : (w1.alloc (bx nilV)).cell? ⟨w.heap.size, 0, none⟩ = some (.slice a xs.length c1) := cell_block ht1 rfl
  have x1 : (w1.alloc (bx nilV)).cell? ⟨w.heap.size, 1, none⟩ = some (.slice a' ys.length c2) := cell_block ht1 rfl
  clear hN e1 h hb1 hb01 ht0 ht1 hT
  refine Lib.hid ?_
  go_wp2_with (go_at_call 12; refine hC.mono ?_; rintro e w2 ⟨rfl, hb3⟩)
  go_ret
  exact ⟨rfl, hb2.trans (hb3.mono hb2.size)⟩

set_option maxRecDepth 100000 in
set_option maxHeartbeats 2000000 in
theorem walks_yes (ks vs : Value) (xs ys : List Vl) (w : World) (hT : Tab w.heap.size w ks vs xs ys) (h : mayT xs ys = true) :
    Calls Try.prog 6 #[.agg #[ks, vs]] w fun e w' => e = .returned (.bool true) ∧ Below w.heap.size w w' := by
  have hl100 : xs.length ≤ 100 := (mayT_parts h).2.1
  obtain ⟨a, c1, rfl⟩ := hT.keys.slice
  obtain ⟨a', c2, rfl⟩ := hT.vals.slice
  have hb0 : Below w.heap.size w (w.alloc (.cells #[.slice a xs.length c1, .slice a' ys.length c2] 24)) := (Below.refl _ w).alloc (Nat.le_refl _) _
  have hN := next_any (.slice a xs.length c1) (.slice a' ys.length c2) xs ys nilV _ ((hT.below hb0).mono hb0.size)
  rw [next_first h] at hN
  obtain ⟨y0, hy0⟩ : ∃ y0, xs.getD 0 nilV = y0 := ⟨_, rfl⟩
  rw [hy0] at hN
  dsimp only at hN
  replace hy0 : Hid _ := hy0
  have ht0 := World.alloc_heap_new w (.cells #[.slice a xs.length c1, .slice a' ys.length c2] 24)
  go_enter Try.func6, Try.ntmps6
  go_wp2_with (go_at_call 9; refine hN.mono ?_; rintro e w1 ⟨rfl, hb1⟩; refine Hid.out ?_)
  have hb01 := hb0.trans (hb1.mono hb0.size)
  have ht1 := block_alloc (bx y0) (block_below hb1 ht0)
  have hz1 : w.heap.size < w1.heap.size := by have := hb1.size; simp at this; omega
  have hb2 : Below w.heap.size w (w1.alloc (bx y0)) := hb01.alloc hb01.size _
  have hy1 := World.alloc_heap_new w1 (bx y0)
  have hC := tmay_t h (.slice a xs.length c1) (.slice a' ys.length c2) _ ((hT.below hb2).mono hb2.size)
  have x0 : (w1.alloc (bx y0)).cell? ⟨w.heap.size, 0, none⟩ = some (.slice a xs.length c1) := cell_block ht1 rfl
  have x1 : (w1.alloc (bx y0)).cell? ⟨w.heap.size, 1, none⟩ = some (.slice a' ys.length c2) := cell_block ht1 rfl
  clear hN hb1 hb01 ht0
  refine Lib.hid ?_
  go_wp2_with (go_at_call 12; refine hC.mono ?_; rintro e w2 ⟨rfl, hb3⟩; refine Hid.out ?_)
  replace hb2 := hb2.trans (hb3.mono hb2.size)
  replace ht1 := block_below hb3 ht1
  replace hy1 := block_below hb3 hy1
  clear hC x0 x1 hb3
  refine Lib.hid ?_
  go_wp2
  go_loopw [4, 5] (fun e i wr => ∃ (m : Nat) (y : Vl), Hid (xs.getD m nilV = y) ∧ m ≤ xs.length ∧ i = .int .i64 m ∧ e = .int .i64 0 ∧ wr.heap[w.heap.size]? = some (.cells #[.slice a xs.length c1, .slice a' ys.length c2] 24) ∧ wr.heap[w1.heap.size]? = some (bx y) ∧ Below w.heap.size w wr) (fun _ i _ => xs.length - (intOf i).toNat)
  case atStart => exact ⟨0, y0, hy0, Nat.zero_le _, rfl, rfl, ht1, hy1, hb2⟩
  case round =>
    clear ht1 hy1 hb2 hy0
    obtain ⟨m, y, ey, hm, rfl, rfl, ht, hy, hb⟩ := hrel
    have x0 : wr.cell? ⟨w.heap.size, 0, none⟩ = some (.slice a xs.length c1) := cell_block ht rfl
    have x1 : wr.cell? ⟨w.heap.size, 1, none⟩ = some (.slice a' ys.length c2) := cell_block ht rfl
    by_cases hlt : m < xs.length
    · obtain ⟨x, hx⟩ : ∃ x, xs[m]? = some x := ⟨xs[m], by simp [hlt]⟩
      obtain rfl : x = y := by have := ey.out; simp [List.getD, hx] at this; exact this
      obtain ⟨q0, q1, q2, f0, f1, f2⟩ := in3 hy
      obtain ⟨_, _, ea, _, hrow⟩ := (hT.below hb).keys
      obtain ⟨b, off, rfl, hbl, hel⟩ := hrow (by intro e; subst e; simp at hlt)
      simp only [Value.slice.injEq, true_and] at ea
      obtain ⟨rfl, rfl⟩ := ea
      obtain ⟨t0, t1, t2⟩ := hel m x hx
      have hbq : ∀ nq, Below w.heap.size w (wr.drewN nq) := fun nq => ⟨hb.os, hb.tape, hb.output, hb.size, hb.block⟩
      obtain ⟨y', ey'⟩ : ∃ y', xs.getD (m + 1) nilV = y' := ⟨_, rfl⟩
      have hN := fun nq => next_any (.slice (some ⟨b, off, none⟩) xs.length c1) (.slice a' ys.length c2) xs ys x (wr.drewN nq) ((hT.below (hbq nq)).mono (hbq nq).size)
      rw [next_step h hx, ey'] at hN
      dsimp only at hN
      replace ey' : Hid _ := ey'
      replace h : Hid _ := h
      replace hN : Hid _ := hN
      clear hel hrow hT ey
      go_wp2
      go_quiet (fail)
      have hN' := hN.out nq
      clear hN
      go_wp2_with (go_at_call 9; refine hN'.mono ?_; rintro e w3 ⟨rfl, hb3⟩; refine Hid.out ?_)
      have ht3 := block_below (W := wr.drewN nq) hb3 ht
      have hy3 := block_below (W := wr.drewN nq) hb3 hy
      have hbw := (hbq nq).trans (hb3.mono (hbq nq).size)
      clear hN' ht hy x0 x1 q0 q1 q2 f0 f1 f2 t0 t1 t2 hb3 hbq hb
      obtain ⟨q0, q1, q2, f0, f1, f2⟩ := in3 hy3
      refine Lib.hid ?_
      go_wp2
      refine ⟨⟨m + 1, y', ey', hlt, by simp, rfl, (put3_other _ y' (by omega)).trans ht3, put3_same y' hy3, put3_below y' hbw (by omega)⟩, by simp [intOf]; omega⟩
    · obtain rfl : m = xs.length := by omega
      obtain rfl : nilV = y := by have := ey.out; simp [List.getD] at this; exact this
      have q0 : wr.cell? ⟨w1.heap.size, 0, none⟩ = some (.int .i64 0) := (in3 hy).c0
      have q1 : wr.cell? ⟨w1.heap.size, 1, none⟩ = some (.int .i64 0) := (in3 hy).c1
      have q2 : wr.cell? ⟨w1.heap.size, 2, none⟩ = some (.string ⟨#[]⟩) := (in3 hy).c2
      have hL := len_any (.slice a xs.length c1) (.slice a' ys.length c2) xs ys wr.drew ((hT.below hb.drew).mono hb.drew.size)
      have hle : ∀ ml : Nat, LenT xs ys ml → (ml : Int) ≤ (xs.length : Int) := fun ml hm => by
        unfold LenT at hm
        rw [if_pos h] at hm
        have := run_le hl100 hm.1
        omega
      have hL2 : Calls Try.prog 11 #[.agg #[.slice a xs.length c1, .slice a' ys.length c2]] wr.drew fun e w4 => ∃ ml : Nat, e = .returned (.int .i64 ml) ∧ (ml : Int) ≤ (xs.length : Int) ∧ Below w.heap.size w w4 ∧ w4.cell? ⟨w.heap.size, 0, none⟩ = some (.slice a xs.length c1) ∧ w4.cell? ⟨w.heap.size, 1, none⟩ = some (.slice a' ys.length c2) ∧
          w4.cell? ⟨w1.heap.size, 0, none⟩ = some (.int .i64 0) ∧ w4.cell? ⟨w1.heap.size, 1, none⟩ = some (.int .i64 0) ∧ w4.cell? ⟨w1.heap.size, 2, none⟩ = some (.string ⟨#[]⟩) := hL.mono (fun e w4 ⟨⟨ml, hml, he⟩, hb4⟩ => by
        have hy4 := block_below (W := wr.drew) hb4 hy
        exact ⟨ml, he, hle ml hml, hb.drew.trans (hb4.mono hb.size), cell_block (block_below (W := wr.drew) hb4 ht) rfl, cell_block (block_below (W := wr.drew) hb4 ht) rfl, (in3 hy4).c0, (in3 hy4).c1, (in3 hy4).c2⟩)
      clear hT ey h hL hle ht hy
      go_wp2
      go_region_held3 (fun w' => w'.cell? ⟨w.heap.size, 0, none⟩ = some (.slice a xs.length c1) ∧ w'.cell? ⟨w.heap.size, 1, none⟩ = some (.slice a' ys.length c2) ∧ w'.cell? ⟨w1.heap.size, 0, none⟩ = some (.int .i64 0) ∧ w'.cell? ⟨w1.heap.size, 1, none⟩ = some (.int .i64 0) ∧ w'.cell? ⟨w1.heap.size, 2, none⟩ = some (.string ⟨#[]⟩)) (go_keep) (first | (go_at_call 11; refine hL2.mono ?_; rintro e w4 ⟨ml, rfl, hle', hb4, x0', x1', q0', q1', q2'⟩))
      go_wp2
      go_ret
      exact ⟨rfl, hb4⟩

/-- TableWalks, whatever the table. -/
theorem walks_any (ks vs : Value) (xs ys : List Vl) (w : World) (hT : Tab w.heap.size w ks vs xs ys) :
    Calls Try.prog 6 #[.agg #[ks, vs]] w fun e w' => e = .returned (.bool true) ∧ Below w.heap.size w w' := by
  cases h : mayT xs ys
  · exact walks_no ks vs xs ys w hT h
  · exact walks_yes ks vs xs ys w hT h

end Go.Proofs.Ytkcieeckndimpaa
