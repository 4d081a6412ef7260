/- The document's own answers: Same of two values, Find, May. -/
import Derived.Test.YtkcieeckndimpaaWalks
namespace Go.Proofs.Ytkcieeckndimpaa
open Go.RowKit Go.Shelf
open Go

set_option linter.unusedSectionVars false
variable [DecidableEq Vl]

theorem rsame_any (x y : Vl) (w : World) : Calls Try.prog 14 #[x.v, y.v] w fun e w' => e = .returned (.bool (decide (x = y))) ∧ w' = (w.alloc (bx x)).alloc (bx y) := by
  by_cases h : x = y
  · subst h
    rw [decide_eq_true rfl]
    exact rsame_t x.k x.n x.s w
  · rw [decide_eq_false h]
    exact rsame_f x.k x.n y.k y.n x.s y.s w (fun e => h (Vl.ext' e.1 e.2.1 e.2.2))

/-- A key's place. -/
def findI (xs : List Vl) (k : Vl) : Nat := xs.findIdx (fun x => decide (x = k))

theorem findI_none {xs : List Vl} {k : Vl} (h : ∀ j, j < xs.length → xs[j]? ≠ some k) : findI xs k = xs.length := by
  unfold findI
  rw [List.findIdx_eq_length]
  intro x hx
  obtain ⟨j, hj, rfl⟩ := List.mem_iff_getElem.1 hx
  have hne := h j hj
  rw [List.getElem?_eq_getElem hj] at hne
  simpa using hne

theorem findI_at {xs : List Vl} {k : Vl} {m : Nat} (h : ∀ j, j < m → xs[j]? ≠ some k) (hm : xs[m]? = some k) : findI xs k = m := by
  unfold findI
  obtain ⟨hlt, e⟩ := List.getElem?_eq_some_iff.1 hm
  rw [List.findIdx_eq hlt]
  refine ⟨by simp [e], fun j hj => ?_⟩
  have hne := h j hj
  rw [List.getElem?_eq_getElem (show j < xs.length by omega)] at hne
  simpa using hne

set_option maxRecDepth 100000 in
set_option maxHeartbeats 2000000 in
theorem find_any (ks vs : Value) (xs ys : List Vl) (k : Vl) (w : World) (hT : Tab w.heap.size w ks vs xs ys) :
    Calls Try.prog 20 #[.agg #[ks, vs], k.v] w fun e w' => e = .returned (.int .i64 (findI xs k)) ∧ Below w.heap.size w w' := by
  obtain ⟨a, c1, rfl, hml, hrow⟩ := hT.keys
  obtain ⟨a', c2, rfl⟩ := hT.vals.slice
  have hml' : xs.length ≤ 9223372036854775807 := hml
  clear hT hml
  obtain ⟨W0, hW0⟩ : ∃ W0, (w.alloc (.cells #[.slice a xs.length c1, .slice a' ys.length c2] 24)).alloc (bx k) = W0 := ⟨_, rfl⟩
  have hb0 : Below w.heap.size w W0 := by rw [← hW0]; exact ((Below.refl _ w).alloc (Nat.le_refl _) _).alloc (by simp) _
  have ht0 : W0.heap[w.heap.size]? = some (.cells #[.slice a xs.length c1, .slice a' ys.length c2] 24) := by rw [← hW0]; exact block_alloc _ (World.alloc_heap_new w _)
  have hk0 : W0.heap[w.heap.size + 1]? = some (bx k) := by
    have := World.alloc_heap_new (w.alloc (.cells #[.slice a xs.length c1, .slice a' ys.length c2] 24)) (bx k)
    simp only [World.size_alloc] at this
    rw [← hW0]; exact this
  go_enter Try.func20, Try.ntmps20
  go_wp2
  clear hW0
  go_loopw [5] (fun i wr => ∃ m : Nat, m ≤ xs.length ∧ i = .int .i64 m ∧ (∀ j, j < m → xs[j]? ≠ some k) ∧ wr.heap[w.heap.size]? = some (.cells #[.slice a xs.length c1, .slice a' ys.length c2] 24) ∧ wr.heap[w.heap.size + 1]? = some (bx k) ∧ Below w.heap.size w wr) (fun i _ => xs.length - (intOf i).toNat)
  case atStart => exact ⟨0, Nat.zero_le _, rfl, fun j hj => by omega, ht0, hk0, hb0⟩
  case round =>
    clear ht0 hk0 hb0
    obtain ⟨m, hm, rfl, hj, ht, hk, hb⟩ := hrel
    have x0 : wr.cell? ⟨w.heap.size, 0, none⟩ = some (.slice a xs.length c1) := cell_block ht rfl
    by_cases hlt : m < xs.length
    · obtain ⟨x, hx⟩ : ∃ x, xs[m]? = some x := ⟨xs[m], by simp [hlt]⟩
      obtain ⟨b, off, rfl, hbl, hel⟩ := hrow (by intro e; subst e; simp at hlt)
      obtain ⟨t0, t1, t2⟩ := (hel m x hx).below hb hbl
      obtain ⟨q0, q1, q2, _, _, _⟩ := in3 hk
      have hC := rsame_any x k wr.drew
      have hb3 : Below w.heap.size w ((wr.drew.alloc (bx x)).alloc (bx k)) := (hb.drew.alloc hb.size _).alloc (by simp; exact Nat.le_succ_of_le hb.size) _
      have ht3 : ((wr.drew.alloc (bx x)).alloc (bx k)).heap[w.heap.size]? = some (.cells #[.slice (some ⟨b, off, none⟩) xs.length c1, .slice a' ys.length c2] 24) := block_alloc _ (block_alloc (W := wr.drew) _ ht)
      have hk3 : ((wr.drew.alloc (bx x)).alloc (bx k)).heap[w.heap.size + 1]? = some (bx k) := block_alloc _ (block_alloc (W := wr.drew) _ hk)
      replace hj : Hid _ := hj
      replace hx : Hid _ := hx
      clear hrow hel ht hk
      by_cases he : x = k
      · rw [decide_eq_true he] at hC
        replace he : Hid _ := he
        go_wp2
        go_region_with (first | (go_at_call 14; refine hC.mono ?_; rintro e w3 ⟨rfl, rfl⟩))
        all_goals
          go_wp2
          go_ret
          exact ⟨by rw [findI_at hj.out (he.out ▸ hx.out)]; rfl, hb3⟩
      · rw [decide_eq_false he] at hC
        replace he : Hid _ := he
        go_wp2
        go_region_with (first | (go_at_call 14; refine hC.mono ?_; rintro e w3 ⟨rfl, rfl⟩))
        all_goals
          go_wp2
          refine ⟨⟨m + 1, hlt, by simp, fun j hlt' => ?_, ht3, hk3, hb3⟩, by simp [intOf]; omega⟩
          rcases Nat.lt_or_ge j m with h | h
          · exact hj.out j h
          · obtain rfl : j = m := by omega
            rw [hx.out]
            exact fun e => he.out (Option.some.inj e)
    · obtain rfl : m = xs.length := by omega
      replace hj : Hid _ := hj
      go_wp2
      go_ret
      exact ⟨by rw [findI_none hj.out]; rfl, hb⟩

end Go.Proofs.Ytkcieeckndimpaa
