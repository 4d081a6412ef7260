/- The document's own answer: Len. -/
import Derived.Test.YtcfkkmelenjjoaaRNext
namespace Go.Proofs.Ytcfkkmelenjjoaa
open Go.RowKit Go.Shelf
open Go

set_option linter.unusedSectionVars false
variable [DecidableEq Vl]

/-- A number that is not too great, as a value. -/
def mkNum (c : Int) (h : 0 ≤ c ∧ c ≤ 1000) : Vl := ⟨2, c, E0, by decide, WalkArith.wf_i64 (by omega), by decide⟩
theorem mkNum_eq {m : Nat} (h : 0 ≤ ((m : Int) + 1) ∧ ((m : Int) + 1) ≤ 1000) : mkNum ((m : Int) + 1) h = numV (m + 1) := by
  have : m + 1 ≤ 1000 := by omega
  simp [mkNum, numV, this]

theorem find_mem {xs : List Vl} {k : Vl} : findI xs k < xs.length ↔ k ∈ xs := by
  constructor
  · intro h
    exact List.mem_of_getElem? (findI_get h)
  · intro h
    obtain ⟨j, hj, e⟩ := List.mem_iff_getElem.1 h
    rcases Nat.lt_or_ge (findI xs k) xs.length with h' | h'
    · exact h'
    · exact absurd (by rw [List.getElem?_eq_getElem hj, e]) (findI_before (xs := xs) (k := k) (j := j) (by omega))

set_option maxRecDepth 100000 in
set_option maxHeartbeats 2000000 in
theorem rlen_no (ks vs : Value) (xs ys : List Vl) (w : World) (hT : Tab w.heap.size w ks vs xs ys) (h : mayT xs ys = false) :
    Calls Try.prog 15 #[.agg #[ks, vs]] w fun e w' => e = .returned (.int .i64 0) ∧ Below w.heap.size w w' := by
  obtain ⟨a, c1, rfl⟩ := hT.keys.slice
  obtain ⟨a', c2, rfl⟩ := hT.vals.slice
  have hb0 : Below w.heap.size w (w.alloc (.cells #[.slice a xs.length c1, .slice a' ys.length c2] 24)) := (Below.refl _ w).alloc (Nat.le_refl _) _
  have hC := rtmay_f h (.slice a xs.length c1) (.slice a' ys.length c2) _ ((hT.below hb0).mono hb0.size)
  clear hT h
  go_enter Try.func15, Try.ntmps15
  go_wp2_with (go_at_call 13; refine hC.mono ?_; rintro e w1 ⟨rfl, hb1⟩)
  go_ret
  exact ⟨rfl, hb0.trans (hb1.mono hb0.size)⟩

set_option maxRecDepth 100000 in
set_option maxHeartbeats 2000000 in
theorem rlen_yes (ks vs : Value) (xs ys : List Vl) (w : World) (hT : Tab w.heap.size w ks vs xs ys) (h : mayT xs ys = true) :
    Calls Try.prog 15 #[.agg #[ks, vs]] w fun e w' => (∃ m : Nat, IsLen xs m ∧ e = .returned (.int .i64 m)) ∧ Below w.heap.size w w' := by
  have hl100 := (mayT_len h).2
  obtain ⟨a, c1, rfl⟩ := hT.keys.slice
  obtain ⟨a', c2, rfl⟩ := hT.vals.slice
  have hb0 : Below w.heap.size w (w.alloc (.cells #[.slice a xs.length c1, .slice a' ys.length c2] 24)) := (Below.refl _ w).alloc (Nat.le_refl _) _
  have hC := rtmay_t h (.slice a xs.length c1) (.slice a' ys.length c2) _ ((hT.below hb0).mono hb0.size)
  have ht0 := World.alloc_heap_new w (.cells #[.slice a xs.length c1, .slice a' ys.length c2] 24)
  clear h
  replace hT : Hid _ := hT
  go_enter Try.func15, Try.ntmps15
  go_wp2_with (go_at_call 13; refine hC.mono ?_; rintro e w1 ⟨rfl, hb1⟩; refine Hid.out ?_)
  replace hb0 := hb0.trans (hb1.mono hb0.size)
  replace ht0 := block_below hb1 ht0
  clear hC hb1
  refine Lib.hid ?_
  go_wp2
  go_loopw [3] (fun i wr => ∃ m : Nat, i = .int .i64 m ∧ Hid (∀ j, j < m → numV (j + 1) ∈ xs) ∧ wr.heap[w.heap.size]? = some (.cells #[.slice a xs.length c1, .slice a' ys.length c2] 24) ∧ Below w.heap.size w wr) (fun i _ => 101 - (intOf i).toNat)
  case atStart => exact ⟨0, rfl, fun j hj => by omega, ht0, hb0⟩
  case round =>
    clear ht0 hb0
    obtain ⟨m, rfl, hj, ht, hb⟩ := hrel
    have hm := run_le hl100 hj.out
    have hc : 0 ≤ ((m : Int) + 1) ∧ ((m : Int) + 1) ≤ 1000 := by omega
    obtain ⟨nv, hnv⟩ : ∃ nv, mkNum ((m : Int) + 1) hc = nv := ⟨_, rfl⟩
    have hb2 : Below w.heap.size w ((wr.alloc (box 2 ((m : Int) + 1) E0)).alloc (bx nv)) := (hb.alloc hb.size _).alloc (by simp; exact Nat.le_succ_of_le hb.size) _
    have ht2 : ((wr.alloc (box 2 ((m : Int) + 1) E0)).alloc (bx nv)).heap[w.heap.size]? = some (.cells #[.slice a xs.length c1, .slice a' ys.length c2] 24) := block_alloc _ (block_alloc _ ht)
    have hn2 : ((wr.alloc (box 2 ((m : Int) + 1) E0)).alloc (bx nv)).heap[wr.heap.size + 1]? = some (bx nv) := by
      have := World.alloc_heap_new (wr.alloc (box 2 ((m : Int) + 1) E0)) (bx nv)
      simpa only [World.size_alloc] using this
    obtain ⟨w3, hw3⟩ : ∃ w3, (wr.alloc (box 2 ((m : Int) + 1) E0)).alloc (bx nv) = w3 := ⟨_, rfl⟩
    rw [hw3] at hb2 ht2 hn2
    have hF := find_any (.slice a xs.length c1) (.slice a' ys.length c2) xs ys nv w3.drew ((hT.out.below hb2.drew).mono hb2.drew.size)
    obtain ⟨fi, hfi⟩ : ∃ fi, findI xs nv = fi := ⟨_, rfl⟩
    have hF2 : Calls Try.prog 20 #[.agg #[.slice a xs.length c1, .slice a' ys.length c2], nv.v] w3.drew fun e w5 => e = .returned (.int .i64 fi) ∧ w5.cell? ⟨w.heap.size, 0, none⟩ = some (.slice a xs.length c1) ∧ w5.heap[w.heap.size]? = some (.cells #[.slice a xs.length c1, .slice a' ys.length c2] 24) ∧ Below w.heap.size w w5 := hF.mono (fun e w5 ⟨he, hb5⟩ =>
      have ht5 := block_below (W := w3.drew) hb5 ht2
      ⟨by rw [he, hfi], cell_block ht5 rfl, ht5, hb2.drew.trans (hb5.mono hb2.size)⟩)
    have hmem : fi < xs.length ↔ numV (m + 1) ∈ xs := by rw [← hfi, ← mkNum_eq hc, hnv]; exact find_mem
    have hfl : fi ≤ xs.length := by rw [← hfi]; exact findI_le _ _
    have x0 : wr.cell? ⟨w.heap.size, 0, none⟩ = some (.slice a xs.length c1) := cell_block ht rfl
    have y0 : w3.cell? ⟨w.heap.size, 0, none⟩ = some (.slice a xs.length c1) := cell_block ht2 rfl
    have y1 : w3.cell? ⟨w.heap.size, 1, none⟩ = some (.slice a' ys.length c2) := cell_block ht2 rfl
    obtain ⟨n0, n1, n2, _, _, _⟩ := in3 hn2
    have ev : nv.v = val 2 ((m : Int) + 1) E0 := by rw [← hnv]; rfl
    rw [ev] at hF2
    have e3 : (wr.alloc (box 2 ((m : Int) + 1) E0)).alloc (box 2 ((m : Int) + 1) E0) = w3 := by rw [← hw3, ← hnv]; rfl
    replace n0 : w3.cell? ⟨wr.heap.size + 1, 0, none⟩ = some (.int .i64 2) := by rw [← hnv] at n0; exact n0
    replace n1 : w3.cell? ⟨wr.heap.size + 1, 1, none⟩ = some (.int .i64 ((m : Int) + 1)) := by rw [← hnv] at n1; exact n1
    replace n2 : w3.cell? ⟨wr.heap.size + 1, 2, none⟩ = some (.string ⟨#[]⟩) := by rw [← hnv] at n2; exact n2
    clear ev hw3 hn2
    replace e3 : Hid _ := e3
    replace hmem : Hid _ := hmem
    clear hF hfi
    by_cases hlt : fi < xs.length
    · have hne : ((fi : Int) == (xs.length : Int)) = false := by simp; omega
      have hq : Hid (numV (m + 1) ∈ xs) := hmem.out.1 hlt
      clear hmem
      go_wp2_with (go_at_call 26; refine (rint_any _ _).mono ?_; rintro e w4 ⟨rfl, rfl⟩)
      have e3' := e3.out
      dsimp only [box] at e3'
      rw [e3']
      clear e3' e3
      go_region_with (first | (go_at_call 20; refine hF2.mono ?_; rintro e w5 ⟨rfl, z0, ht5, hb5⟩))
      all_goals
        go_wp2
        refine ⟨⟨m + 1, by simp, fun j hlt' => ?_, ht5, hb5⟩, by simp [intOf]; omega⟩
        rcases Nat.lt_or_ge j m with h | h
        · exact hj.out j h
        · obtain rfl : j = m := by omega
          exact hq.out
    · have heq : ((fi : Int) == (xs.length : Int)) = true := by simp; omega
      have hq : Hid (¬ numV (m + 1) ∈ xs) := fun h => hlt (hmem.out.2 h)
      clear hmem hlt
      go_wp2_with (go_at_call 26; refine (rint_any _ _).mono ?_; rintro e w4 ⟨rfl, rfl⟩)
      have e3' := e3.out
      dsimp only [box] at e3'
      rw [e3']
      clear e3' e3
      go_region_with (first | (go_at_call 20; refine hF2.mono ?_; rintro e w5 ⟨rfl, z0, ht5, hb5⟩))
      all_goals
        go_wp2
        go_ret
        exact ⟨⟨m, ⟨hj.out, hq.out⟩, rfl⟩, hb5⟩

/-- The document's Len, whatever the table. -/
theorem rlen_any (ks vs : Value) (xs ys : List Vl) (w : World) (hT : Tab w.heap.size w ks vs xs ys) :
    Calls Try.prog 15 #[.agg #[ks, vs]] w fun e w' => (∃ m : Nat, LenT xs ys m ∧ e = .returned (.int .i64 m)) ∧ Below w.heap.size w w' := by
  unfold LenT
  cases h : mayT xs ys
  · exact (rlen_no ks vs xs ys w hT h).mono fun e w' ⟨he, hb⟩ => ⟨⟨0, by simp, he⟩, hb⟩
  · exact (rlen_yes ks vs xs ys w hT h).mono fun e w' ⟨⟨m, hm, he⟩, hb⟩ => ⟨⟨m, by simpa using hm, he⟩, hb⟩

end Go.Proofs.Ytcfkkmelenjjoaa
