/- The document's Same of two tables that are the same. -/
import Derived.Test.YtkcieeckndimpaaFind
namespace Go.Proofs.Ytkcieeckndimpaa
open Go.RowKit Go.Shelf
open Go

set_option linter.unusedSectionVars false
variable [DecidableEq Vl]

set_option maxRecDepth 100000 in
set_option maxHeartbeats 4000000 in
/-- Two tables of the same keys and values: Same says so. -/
theorem tsame_any (ks vs ks' vs' : Value) (xs ys : List Vl) (w : World) (hT : Tab w.heap.size w ks vs xs ys) (hT' : Tab w.heap.size w ks' vs' xs ys) (hx : xs.length ≤ 1000) (hy : ys.length ≤ 1000) :
    Calls Try.prog 18 #[.agg #[ks, vs], .agg #[ks', vs']] w fun e w' => e = .returned (.bool true) ∧ Below w.heap.size w w' := by
  obtain ⟨a, c1, rfl, _, hr1⟩ := hT.keys
  obtain ⟨a', c2, rfl, _, hr2⟩ := hT.vals
  obtain ⟨b, d1, rfl, _, hr3⟩ := hT'.keys
  obtain ⟨b', d2, rfl, _, hr4⟩ := hT'.vals
  have g1 : ((xs.length : Int) != (xs.length : Int)) = false := by simp
  have g2 : ((ys.length : Int) != (ys.length : Int)) = false := by simp
  obtain ⟨W0, hW0⟩ : ∃ W0, (w.alloc (.cells #[.slice a xs.length c1, .slice a' ys.length c2] 24)).alloc (.cells #[.slice b xs.length d1, .slice b' ys.length d2] 24) = W0 := ⟨_, rfl⟩
  have hb0 : Below w.heap.size w W0 := by rw [← hW0]; exact ((Below.refl _ w).alloc (Nat.le_refl _) _).alloc (by simp) _
  have ht0 : W0.heap[w.heap.size]? = some (.cells #[.slice a xs.length c1, .slice a' ys.length c2] 24) := by rw [← hW0]; exact block_alloc _ (World.alloc_heap_new w _)
  have hu0 : W0.heap[w.heap.size + 1]? = some (.cells #[.slice b xs.length d1, .slice b' ys.length d2] 24) := by
    have := World.alloc_heap_new (w.alloc (.cells #[.slice a xs.length c1, .slice a' ys.length c2] 24)) (.cells #[.slice b xs.length d1, .slice b' ys.length d2] 24)
    simp only [World.size_alloc] at this
    rw [← hW0]; exact this
  clear hT hT'
  replace hW0 : Hid _ := hW0
  go_enter Try.func18, Try.ntmps18
  go_wp2
  rw [hW0.out]
  clear hW0
  go_loopw [5] (fun i wr => ∃ m : Nat, m ≤ xs.length ∧ i = .int .i64 m ∧ wr.heap[w.heap.size]? = some (.cells #[.slice a xs.length c1, .slice a' ys.length c2] 24) ∧ wr.heap[w.heap.size + 1]? = some (.cells #[.slice b xs.length d1, .slice b' ys.length d2] 24) ∧ Below w.heap.size w wr) (fun i _ => xs.length - (intOf i).toNat)
  case atStart => exact ⟨0, Nat.zero_le _, rfl, ht0, hu0, hb0⟩
  case round =>
    clear ht0 hu0 hb0
    obtain ⟨m, hm, rfl, ht, hu, hb⟩ := hrel
    have t0 : wr.cell? ⟨w.heap.size, 0, none⟩ = some (.slice a xs.length c1) := cell_block ht rfl
    have t1 : wr.cell? ⟨w.heap.size, 1, none⟩ = some (.slice a' ys.length c2) := cell_block ht rfl
    have u0 : wr.cell? ⟨w.heap.size + 1, 0, none⟩ = some (.slice b xs.length d1) := cell_block hu rfl
    have u1 : wr.cell? ⟨w.heap.size + 1, 1, none⟩ = some (.slice b' ys.length d2) := cell_block hu rfl
    by_cases hlt : m < xs.length
    · obtain ⟨x, hx'⟩ : ∃ x, xs[m]? = some x := ⟨xs[m], by simp [hlt]⟩
      obtain ⟨ba, oa, rfl, hl1, he1⟩ := hr1 (by intro e; subst e; simp at hlt)
      obtain ⟨bb, ob, rfl, hl3, he3⟩ := hr3 (by intro e; subst e; simp at hlt)
      obtain ⟨r0, r1, r2⟩ := (he1 m x hx').below hb hl1
      obtain ⟨s0, s1, s2⟩ := (he3 m x hx').below hb hl3
      have hC := rsame_any x x wr.drew
      rw [decide_eq_true rfl] at hC
      have hb3 : Below w.heap.size w ((wr.drew.alloc (bx x)).alloc (bx x)) := (hb.drew.alloc hb.size _).alloc (by simp; exact Nat.le_succ_of_le hb.size) _
      have ht3 := block_alloc (bx x) (block_alloc (W := wr.drew) (bx x) ht)
      have hu3 := block_alloc (bx x) (block_alloc (W := wr.drew) (bx x) hu)
      replace hx' : Hid _ := hx'
      clear hr1 hr3 he1 he3 ht hu hr2 hr4
      go_wp2
      go_region_held3 (fun q => q.cell? ⟨w.heap.size, 0, none⟩ = some (.slice (some ⟨ba, oa, none⟩) xs.length c1) ∧ q.cell? ⟨w.heap.size + 1, 0, none⟩ = some (.slice (some ⟨bb, ob, none⟩) xs.length d1) ∧ q.cell? ⟨ba, oa + m * 3, none⟩ = some (.int .i64 x.k) ∧ q.cell? ⟨ba, oa + m * 3 + 1, none⟩ = some (.int .i64 x.n) ∧ q.cell? ⟨ba, oa + m * 3 + 2, none⟩ = some (.string x.s) ∧ q.cell? ⟨bb, ob + m * 3, none⟩ = some (.int .i64 x.k) ∧ q.cell? ⟨bb, ob + m * 3 + 1, none⟩ = some (.int .i64 x.n) ∧ q.cell? ⟨bb, ob + m * 3 + 2, none⟩ = some (.string x.s)) (go_keep) (first | (go_at_call 14; refine hC.mono ?_; rintro e w3 ⟨rfl, rfl⟩))
      all_goals
        go_wp2
        refine ⟨⟨m + 1, hlt, by simp, ht3, hu3, hb3⟩, by simp [intOf]; omega⟩
    · obtain rfl : m = xs.length := by omega
      go_wp2
      go_loopw [6] (fun i wr => ∃ m : Nat, m ≤ ys.length ∧ i = .int .i64 m ∧ wr.heap[w.heap.size]? = some (.cells #[.slice a xs.length c1, .slice a' ys.length c2] 24) ∧ wr.heap[w.heap.size + 1]? = some (.cells #[.slice b xs.length d1, .slice b' ys.length d2] 24) ∧ Below w.heap.size w wr) (fun i _ => ys.length - (intOf i).toNat)
      case atStart => exact ⟨0, Nat.zero_le _, rfl, ht, hu, hb⟩
      case round =>
        clear ht hu hb t0 t1 u0 u1
        obtain ⟨m, hm', rfl, ht, hu, hb⟩ := hrel
        have t0 : wr.cell? ⟨w.heap.size, 0, none⟩ = some (.slice a xs.length c1) := cell_block ht rfl
        have t1 : wr.cell? ⟨w.heap.size, 1, none⟩ = some (.slice a' ys.length c2) := cell_block ht rfl
        have u0 : wr.cell? ⟨w.heap.size + 1, 0, none⟩ = some (.slice b xs.length d1) := cell_block hu rfl
        have u1 : wr.cell? ⟨w.heap.size + 1, 1, none⟩ = some (.slice b' ys.length d2) := cell_block hu rfl
        by_cases hlt' : m < ys.length
        · obtain ⟨x, hx'⟩ : ∃ x, ys[m]? = some x := ⟨ys[m], by simp [hlt']⟩
          obtain ⟨ba, oa, rfl, hl1, he1⟩ := hr2 (by intro e; subst e; simp at hlt')
          obtain ⟨bb, ob, rfl, hl3, he3⟩ := hr4 (by intro e; subst e; simp at hlt')
          obtain ⟨r0, r1, r2⟩ := (he1 m x hx').below hb hl1
          obtain ⟨s0, s1, s2⟩ := (he3 m x hx').below hb hl3
          have hC := rsame_any x x wr.drew
          rw [decide_eq_true rfl] at hC
          have hb3 : Below w.heap.size w ((wr.drew.alloc (bx x)).alloc (bx x)) := (hb.drew.alloc hb.size _).alloc (by simp; exact Nat.le_succ_of_le hb.size) _
          have ht3 := block_alloc (bx x) (block_alloc (W := wr.drew) (bx x) ht)
          have hu3 := block_alloc (bx x) (block_alloc (W := wr.drew) (bx x) hu)
          replace hx' : Hid _ := hx'
          clear hr1 hr3 he1 he3 ht hu hr2 hr4
          go_wp2
          go_region_held3 (fun q => q.cell? ⟨w.heap.size, 1, none⟩ = some (.slice (some ⟨ba, oa, none⟩) ys.length c2) ∧ q.cell? ⟨w.heap.size + 1, 1, none⟩ = some (.slice (some ⟨bb, ob, none⟩) ys.length d2) ∧ q.cell? ⟨ba, oa + m * 3, none⟩ = some (.int .i64 x.k) ∧ q.cell? ⟨ba, oa + m * 3 + 1, none⟩ = some (.int .i64 x.n) ∧ q.cell? ⟨ba, oa + m * 3 + 2, none⟩ = some (.string x.s) ∧ q.cell? ⟨bb, ob + m * 3, none⟩ = some (.int .i64 x.k) ∧ q.cell? ⟨bb, ob + m * 3 + 1, none⟩ = some (.int .i64 x.n) ∧ q.cell? ⟨bb, ob + m * 3 + 2, none⟩ = some (.string x.s)) (go_keep) (first | (go_at_call 14; refine hC.mono ?_; rintro e w3 ⟨rfl, rfl⟩))
          all_goals
            go_wp2
            refine ⟨⟨m + 1, hlt', by simp, ht3, hu3, hb3⟩, by simp [intOf]; omega⟩
        · obtain rfl : m = ys.length := by omega
          go_wp2
          go_ret
          exact ⟨rfl, hb⟩

end Go.Proofs.Ytkcieeckndimpaa
