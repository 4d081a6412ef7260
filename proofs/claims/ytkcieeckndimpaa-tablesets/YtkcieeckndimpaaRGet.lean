/- The document's own answers: Get, Next. -/
import Derived.Test.YtkcieeckndimpaaRMay
namespace Go.Proofs.Ytkcieeckndimpaa
open Go.RowKit Go.Shelf
open Go

set_option linter.unusedSectionVars false
variable [DecidableEq Vl]

theorem findI_le (xs : List Vl) (k : Vl) : findI xs k ≤ xs.length := List.findIdx_le_length

theorem findI_get {xs : List Vl} {k : Vl} (h : findI xs k < xs.length) : xs[findI xs k]? = some k := by
  unfold findI at h ⊢
  rw [List.getElem?_eq_getElem h]
  have := List.findIdx_getElem (w := h)
  simpa using this

theorem findI_before {xs : List Vl} {k : Vl} {j : Nat} (h : j < findI xs k) : xs[j]? ≠ some k := by
  have hj : j < xs.length := Nat.lt_of_lt_of_le h (findI_le xs k)
  rw [List.getElem?_eq_getElem hj]
  have := List.not_of_lt_findIdx h
  simpa using this

/-- What stands under a key, by its place. -/
theorem look_find {xs ys : List Vl} (hl : xs.length = ys.length) (k : Vl) : look (xs.zip ys) k = ys.getD (findI xs k) nilV := by
  by_cases h : findI xs k < xs.length
  · have hx := findI_get h
    obtain ⟨y, hy⟩ : ∃ y, ys[findI xs k]? = some y := ⟨ys[findI xs k]'(by omega), List.getElem?_eq_getElem _⟩
    have hz : (xs.zip ys)[findI xs k]? = some (k, y) := by rw [List.getElem?_zip_eq_some]; exact ⟨hx, hy⟩
    rw [look_at (ini := (xs.zip ys).take (findI xs k)) (y := y) (prefix_snoc hz) (fun p hp => ?_)]
    · simp [List.getD, hy]
    · obtain ⟨j, hj, e⟩ := List.mem_take_iff_getElem.1 hp
      have hj' : j < findI xs k := by omega
      have := findI_before hj'
      intro e'
      apply this
      have hjx : j < xs.length := by omega
      rw [List.getElem?_eq_getElem hjx, ← e', ← e]
      simp
  · have h0 : findI xs k = xs.length := Nat.le_antisymm (findI_le xs k) (by omega)
    rw [look_none (fun p hp => ?_)]
    · simp [List.getD, h0, hl]
    · obtain ⟨j, hj, e⟩ := List.mem_iff_getElem.1 hp
      have hj' : j < findI xs k := by rw [h0]; simp at hj; omega
      have := findI_before hj'
      intro e'
      apply this
      have hjx : j < xs.length := by omega
      rw [List.getElem?_eq_getElem hjx, ← e', ← e]
      simp

theorem res8 {tm : Array Value} {W : World} {B : Nat} {x : Vl} (h : tm[4]?.getD undef = .pointer (some ⟨B, 0, none⟩)) (hx : W.heap[B]? = some (bx x)) : (results Try.f8 tm).run Try.prog W = .ok x.v W := by
  obtain ⟨c0, c1, c2, _, _, _⟩ := in3 hx
  simp [results, Try.results8, go_sem, h, c0, c1, c2]

/-- What lies in memory when the call has begun. -/
theorem get_mem (w : World) (o0 : Obj) (k : Vl) {W1 : World} (hW : ((w.alloc o0).alloc (bx k)).alloc (bx nilV) = W1) :
    W1.heap.size = w.heap.size + 3 ∧ Below w.heap.size w W1 ∧ W1.heap[w.heap.size]? = some o0 ∧ W1.heap[w.heap.size + 1]? = some (bx k) ∧ W1.heap[w.heap.size + 1 + 1]? = some (bx nilV) := by
  subst hW
  refine ⟨by simp, (((Below.refl _ w).alloc (Nat.le_refl _) _).alloc (by simp) _).alloc (by simp; omega) _, block_alloc _ (block_alloc _ (World.alloc_heap_new w _)), ?_, ?_⟩
  · have := block_alloc (bx nilV) (World.alloc_heap_new (w.alloc o0) (bx k))
    simpa only [World.size_alloc] using this
  · have := World.alloc_heap_new ((w.alloc o0).alloc (bx k)) (bx nilV)
    simpa only [World.size_alloc] using this

set_option maxRecDepth 100000 in
set_option maxHeartbeats 2000000 in
theorem rget_any (ks vs : Value) (xs ys : List Vl) (k : Vl) (w : World) (hT : Tab w.heap.size w ks vs xs ys) :
    Calls Try.prog 8 #[.agg #[ks, vs], k.v] w fun e w' => e = .returned (getT xs ys k).v ∧ Below w.heap.size w w' := by
  obtain ⟨a, c1, rfl, _, _⟩ := hT.keys
  obtain ⟨a', c2, rfl, _, hrow⟩ := hT.vals
  obtain ⟨W1, hW1⟩ : ∃ W1, ((w.alloc (.cells #[.slice a xs.length c1, .slice a' ys.length c2] 24)).alloc (bx k)).alloc (bx nilV) = W1 := ⟨_, rfl⟩
  obtain ⟨hs1, hb0, ht, hk, hr⟩ := get_mem w _ k hW1
  have hF := find_any (.slice a xs.length c1) (.slice a' ys.length c2) xs ys k _ ((hT.below hb0).mono hb0.size)
  obtain ⟨fi, hfi⟩ : ∃ fi, findI xs k = fi := ⟨_, rfl⟩
  have hfl := findI_le xs k
  rw [hfi] at hF hfl
  have hgt : getT xs ys k = if mayT xs ys = true then ys.getD fi nilV else nilV := by
    unfold getT
    split
    · rename_i h
      rw [look_find (mayT_len h).1, hfi]
    · rfl
  rw [hgt]
  rw [← hW1] at hF
  clear hfi hgt
  cases h : mayT xs ys
  · have hM := rtmay_f h (.slice a xs.length c1) (.slice a' ys.length c2)
    rw [if_neg (by simp)]
    clear h
    go_enter Try.func8, Try.ntmps8
    go_wp2_with (go_at_call 20; refine hF.mono ?_; rintro e w1 ⟨rfl, hb1⟩; refine Hid.out ?_)
    rw [hW1] at hb1
    replace hb0 := hb0.trans (hb1.mono hb0.size)
    replace hM := hM w1 ((hT.below hb0).mono hb0.size)
    replace ht := block_below hb1 ht
    replace hr := block_below hb1 hr
    have x0 : w1.cell? ⟨w.heap.size, 0, none⟩ = some (.slice a xs.length c1) := cell_block ht rfl
    have x1 : w1.cell? ⟨w.heap.size, 1, none⟩ = some (.slice a' ys.length c2) := cell_block ht rfl
    clear hF hW1 hb1 hT hrow
    refine Lib.hid ?_
    go_wp2_with (go_at_call 13; refine hM.mono ?_; rintro e w2 ⟨rfl, hb2⟩; refine Hid.out ?_)
    replace hr := block_below hb2 hr
    obtain ⟨c0, c1', c2', f0, f1, f2⟩ := in3 hr
    clear hM x0 x1
    refine Lib.hid ?_
    go_wp2
    exact bodyPost_ret (v := nilV.v) (res8 rfl (put3_same nilV hr)) rfl ⟨rfl, put3_below nilV (hb0.trans (hb2.mono hb0.size)) (by omega)⟩
  · have hM := rtmay_t h (.slice a xs.length c1) (.slice a' ys.length c2)
    have hll := (mayT_len h).1
    rw [if_pos rfl]
    obtain ⟨y, hy⟩ : ∃ y, ys.getD fi nilV = y := ⟨_, rfl⟩
    rw [hy]
    replace hll : Hid _ := hll
    clear h
    go_enter Try.func8, Try.ntmps8
    go_wp2_with (go_at_call 20; refine hF.mono ?_; rintro e w1 ⟨rfl, hb1⟩; refine Hid.out ?_)
    rw [hW1] at hb1
    replace hb0 := hb0.trans (hb1.mono hb0.size)
    replace hM := hM w1 ((hT.below hb0).mono hb0.size)
    replace ht := block_below hb1 ht
    replace hr := block_below hb1 hr
    have x0 : w1.cell? ⟨w.heap.size, 0, none⟩ = some (.slice a xs.length c1) := cell_block ht rfl
    have x1 : w1.cell? ⟨w.heap.size, 1, none⟩ = some (.slice a' ys.length c2) := cell_block ht rfl
    clear hF hW1 hb1 hT
    refine Lib.hid ?_
    go_wp2_with (go_at_call 13; refine hM.mono ?_; rintro e w2 ⟨rfl, hb2⟩; refine Hid.out ?_)
    replace hr := block_below hb2 hr
    replace ht := block_below hb2 ht
    have hbw := hb0.trans (hb2.mono hb0.size)
    obtain ⟨c0, c1', c2', f0, f1, f2⟩ := in3 hr
    clear hM x0 x1
    have x0 : w2.cell? ⟨w.heap.size, 0, none⟩ = some (.slice a xs.length c1) := cell_block ht rfl
    have x1 : w2.cell? ⟨w.heap.size, 1, none⟩ = some (.slice a' ys.length c2) := cell_block ht rfl
    refine Lib.hid ?_
    by_cases hlt : fi < xs.length
    · have hlt' : (fi : Int) < (xs.length : Int) := by omega
      have hlt2 : fi < ys.length := by have := hll.out; omega
      have hy' : ys[fi]? = some y := by
        rw [← hy, List.getD, List.getElem?_eq_getElem (by have := hll.out; omega)]
        rfl
      obtain ⟨b, off, rfl, hbl, hel⟩ := hrow (by intro e; subst e; simp at hy')
      obtain ⟨t0, t1, t2⟩ := (hel fi y hy').below hbw hbl
      clear hy hy' hrow hel
      go_wp2
      exact bodyPost_ret (v := y.v) (res8 rfl (put3_same y hr)) rfl ⟨rfl, put3_below y hbw (by omega)⟩
    · have hge : (xs.length : Int) ≤ (fi : Int) := by omega
      obtain rfl : nilV = y := by
        rw [← hy, List.getD, List.getElem?_eq_none (by have := hll.out; omega)]
        rfl
      clear hy hrow
      go_wp2
      exact bodyPost_ret (v := nilV.v) (res8 rfl (put3_same nilV hr)) rfl ⟨rfl, put3_below nilV hbw (by omega)⟩

end Go.Proofs.Ytkcieeckndimpaa
