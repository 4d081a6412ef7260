/- The document's own answer: Next. -/
import Derived.Test.YtcfkkmelenjjoaaRGet
namespace Go.Proofs.Ytcfkkmelenjjoaa
open Go.RowKit Go.Shelf
open Go

set_option linter.unusedSectionVars false
variable [DecidableEq Vl]

theorem split_at {xs : List Vl} {m : Nat} {x : Vl} (hx : xs[m]? = some x) : xs = xs.take m ++ x :: xs.drop (m + 1) := by
  obtain ⟨hm, e⟩ := List.getElem?_eq_some_iff.1 hx
  rw [← e, List.getElem_cons_drop, List.take_append_drop]

theorem scan_find (xs : List Vl) (k : Vl) : scan false k xs = if findI xs k < xs.length then (xs.getD (findI xs k + 1) nilV, 0) else (nilV, 4) := by
  by_cases h : findI xs k < xs.length
  · rw [if_pos h]
    have hx := findI_get h
    have hb := fun j (hj : j < findI xs k) => findI_before hj
    generalize findI xs k = fi at *
    have hni : ¬ k ∈ xs.take fi := by
      intro hin
      obtain ⟨j, hj, e'⟩ := List.mem_take_iff_getElem.1 hin
      exact hb j (by omega) (by rw [List.getElem?_eq_getElem (by omega), e'])
    have key : scan false k (xs.take fi ++ k :: xs.drop (fi + 1)) = (xs.getD (fi + 1) nilV, 0) := by
      rw [scan_skip hni]
      show scan (decide (k = k)) k _ = _
      rw [decide_eq_true rfl, scan_true]
      simp [List.getD, List.getElem?_drop]
    rw [← split_at hx] at key
    exact key
  · rw [if_neg h]
    have h0 : findI xs k = xs.length := Nat.le_antisymm (findI_le xs k) (by omega)
    have hni : ¬ k ∈ xs := by
      intro hin
      obtain ⟨j, hj, e'⟩ := List.mem_iff_getElem.1 hin
      exact findI_before (k := k) (xs := xs) (j := j) (by omega) (by rw [List.getElem?_eq_getElem (by omega), e'])
    have := scan_skip hni []
    rw [List.append_nil] at this
    rw [this]
    rfl

theorem res10 {tm : Array Value} {W : World} {B : Nat} {x : Vl} {c : Int} (h : tm[4]?.getD undef = .pointer (some ⟨B, 0, none⟩)) (h' : tm[5]?.getD undef = .int .i64 c) (hx : W.heap[B]? = some (bx x)) :
    (results Try.f10 tm).run Try.prog W = .ok (.tuple #[x.v, .int .i64 c]) W := by
  obtain ⟨c0, c1, c2, _, _, _⟩ := in3 hx
  simp [results, Try.results10, go_sem, h, h', c0, c1, c2]

set_option maxRecDepth 100000 in
set_option maxHeartbeats 2000000 in
theorem rnext_a (ks vs : Value) (xs ys : List Vl) (k : Vl) (w : World) (hT : Tab w.heap.size w ks vs xs ys) (h : mayT xs ys = false) :
    Calls Try.prog 10 #[.agg #[ks, vs], k.v] w fun e w' => e = .returned (.tuple #[nilV.v, .int .i64 2]) ∧ Below w.heap.size w w' := by
  obtain ⟨a, c1, rfl, hml, hrow⟩ := hT.keys
  obtain ⟨a', c2, rfl, _, _⟩ := hT.vals
  obtain ⟨W1, hW1⟩ : ∃ W1, ((w.alloc (.cells #[.slice a xs.length c1, .slice a' ys.length c2] 24)).alloc (bx k)).alloc (bx nilV) = W1 := ⟨_, rfl⟩
  obtain ⟨hs1, hb0, ht, hk, hr⟩ := get_mem w _ k hW1
  have hM := rtmay_f h (.slice a xs.length c1) (.slice a' ys.length c2) _ ((hT.below hb0).mono hb0.size)
  rw [← hW1] at hM
  clear h hrow hml
  go_enter Try.func10, Try.ntmps10
  go_wp2_with (go_at_call 13; refine hM.mono ?_; rintro e w1 ⟨rfl, hb1⟩; refine Hid.out ?_)
  rw [hW1] at hb1
  replace hb0 := hb0.trans (hb1.mono hb0.size)
  replace hr := block_below hb1 hr
  obtain ⟨c0, c1', c2', f0, f1, f2⟩ := in3 hr
  clear hM hW1 hb1 hT
  refine Lib.hid ?_
  go_wp2
  exact bodyPost_ret (v := .tuple #[nilV.v, .int .i64 2]) (res10 rfl rfl (put3_same nilV hr)) rfl ⟨rfl, put3_below nilV hb0 (by omega)⟩

set_option maxRecDepth 100000 in
set_option maxHeartbeats 2000000 in
theorem rnext_b (ks vs : Value) (xs ys : List Vl) (k : Vl) (w : World) (hT : Tab w.heap.size w ks vs xs ys) (h : mayT xs ys = true) (h' : mayB k.k k.n k.s = false) :
    Calls Try.prog 10 #[.agg #[ks, vs], k.v] w fun e w' => e = .returned (.tuple #[nilV.v, .int .i64 2]) ∧ Below w.heap.size w w' := by
  obtain ⟨a, c1, rfl, hml, hrow⟩ := hT.keys
  obtain ⟨a', c2, rfl, _, _⟩ := hT.vals
  obtain ⟨W1, hW1⟩ : ∃ W1, ((w.alloc (.cells #[.slice a xs.length c1, .slice a' ys.length c2] 24)).alloc (bx k)).alloc (bx nilV) = W1 := ⟨_, rfl⟩
  obtain ⟨hs1, hb0, ht, hk, hr⟩ := get_mem w _ k hW1
  have hM := rtmay_t h (.slice a xs.length c1) (.slice a' ys.length c2) _ ((hT.below hb0).mono hb0.size)
  rw [← hW1] at hM
  have hV := rmay_v k
  rw [h'] at hV
  clear h h'
  go_enter Try.func10, Try.ntmps10
  go_wp2_with (go_at_call 13; refine hM.mono ?_; rintro e w1 ⟨rfl, hb1⟩; refine Hid.out ?_)
  rw [hW1] at hb1
  replace hb0 := hb0.trans (hb1.mono hb0.size)
  replace hr := block_below hb1 hr
  replace hk := block_below hb1 hk
  replace ht := block_below hb1 ht
  obtain ⟨k0, k1, k2, _, _, _⟩ := in3 hk
  clear hM hW1 hb1
  refine Lib.hid ?_
  go_wp2_with (go_at_call 22; refine (hV _).mono ?_; rintro e w2 ⟨rfl, hb2⟩; refine Hid.out ?_)
  replace hb0 := hb0.trans (hb2.mono hb0.size)
  replace hr := block_below hb2 hr
  replace hk := block_below hb2 hk
  replace ht := block_below hb2 ht
  clear hV hb2 k0 k1 k2
  obtain ⟨k0, k1, k2, _, _, _⟩ := in3 hk
  obtain ⟨c0, c1', c2', f0, f1, f2⟩ := in3 hr
  have x0 : w2.cell? ⟨w.heap.size, 0, none⟩ = some (.slice a xs.length c1) := cell_block ht rfl
  have x1 : w2.cell? ⟨w.heap.size, 1, none⟩ = some (.slice a' ys.length c2) := cell_block ht rfl
  refine Lib.hid ?_
  go_wp2
  exact bodyPost_ret (v := .tuple #[nilV.v, .int .i64 2]) (res10 rfl rfl (put3_same nilV hr)) rfl ⟨rfl, put3_below nilV hb0 (by omega)⟩

set_option maxRecDepth 100000 in
set_option maxHeartbeats 2000000 in
theorem rnext_c1 (ks vs : Value) (xs ys : List Vl) (k : Vl) (w : World) (hT : Tab w.heap.size w ks vs xs ys) (h : mayT xs ys = true) (h' : mayB k.k k.n k.s = true) (hk0 : (k.k == 0) = true) (x : Vl) (hx : xs[0]? = some x) :
    Calls Try.prog 10 #[.agg #[ks, vs], k.v] w fun e w' => e = .returned (.tuple #[x.v, .int .i64 0]) ∧ Below w.heap.size w w' := by
  obtain ⟨a, c1, rfl, hml, hrow⟩ := hT.keys
  obtain ⟨a', c2, rfl, _, _⟩ := hT.vals
  obtain ⟨W1, hW1⟩ : ∃ W1, ((w.alloc (.cells #[.slice a xs.length c1, .slice a' ys.length c2] 24)).alloc (bx k)).alloc (bx nilV) = W1 := ⟨_, rfl⟩
  obtain ⟨hs1, hb0, ht, hk, hr⟩ := get_mem w _ k hW1
  have hM := rtmay_t h (.slice a xs.length c1) (.slice a' ys.length c2) _ ((hT.below hb0).mono hb0.size)
  rw [← hW1] at hM
  have hV := rmay_v k
  rw [h'] at hV
  clear h h'
  go_enter Try.func10, Try.ntmps10
  go_wp2_with (go_at_call 13; refine hM.mono ?_; rintro e w1 ⟨rfl, hb1⟩; refine Hid.out ?_)
  rw [hW1] at hb1
  replace hb0 := hb0.trans (hb1.mono hb0.size)
  replace hr := block_below hb1 hr
  replace hk := block_below hb1 hk
  replace ht := block_below hb1 ht
  obtain ⟨k0, k1, k2, _, _, _⟩ := in3 hk
  clear hM hW1 hb1
  refine Lib.hid ?_
  go_wp2_with (go_at_call 22; refine (hV _).mono ?_; rintro e w2 ⟨rfl, hb2⟩; refine Hid.out ?_)
  replace hb0 := hb0.trans (hb2.mono hb0.size)
  replace hr := block_below hb2 hr
  replace hk := block_below hb2 hk
  replace ht := block_below hb2 ht
  clear hV hb2 k0 k1 k2
  obtain ⟨k0, k1, k2, _, _, _⟩ := in3 hk
  obtain ⟨c0, c1', c2', f0, f1, f2⟩ := in3 hr
  have x0 : w2.cell? ⟨w.heap.size, 0, none⟩ = some (.slice a xs.length c1) := cell_block ht rfl
  have x1 : w2.cell? ⟨w.heap.size, 1, none⟩ = some (.slice a' ys.length c2) := cell_block ht rfl
  have hlt : 0 < xs.length := by cases xs with | nil => simp at hx | cons => simp
  have hne : (k.k != 0) = false := by simpa using hk0
  obtain ⟨b, off, rfl, hbl, hel⟩ := hrow (by intro e; subst e; simp at hx)
  obtain ⟨t0, t1, t2⟩ := (hel 0 x hx).below hb0 hbl
  clear hrow hel hT
  replace hx : Hid _ := hx
  refine Lib.hid ?_
  simp only [Nat.zero_mul, Nat.add_zero] at t0 t1 t2
  go_wp2
  exact bodyPost_ret (v := .tuple #[x.v, .int .i64 0]) (res10 rfl rfl (put3_same x hr)) rfl ⟨rfl, put3_below x hb0 (by omega)⟩

set_option maxRecDepth 100000 in
set_option maxHeartbeats 2000000 in
theorem rnext_c2 (ks vs : Value) (xs ys : List Vl) (k : Vl) (w : World) (hT : Tab w.heap.size w ks vs xs ys) (h : mayT xs ys = true) (h' : mayB k.k k.n k.s = true) (hk0 : (k.k == 0) = true) (hx : Hid (xs = [])) :
    Calls Try.prog 10 #[.agg #[ks, vs], k.v] w fun e w' => e = .returned (.tuple #[nilV.v, .int .i64 0]) ∧ Below w.heap.size w w' := by
  obtain ⟨a, c1, rfl, hml, hrow⟩ := hT.keys
  obtain ⟨a', c2, rfl, _, _⟩ := hT.vals
  obtain ⟨W1, hW1⟩ : ∃ W1, ((w.alloc (.cells #[.slice a xs.length c1, .slice a' ys.length c2] 24)).alloc (bx k)).alloc (bx nilV) = W1 := ⟨_, rfl⟩
  obtain ⟨hs1, hb0, ht, hk, hr⟩ := get_mem w _ k hW1
  have hM := rtmay_t h (.slice a xs.length c1) (.slice a' ys.length c2) _ ((hT.below hb0).mono hb0.size)
  rw [← hW1] at hM
  have hV := rmay_v k
  rw [h'] at hV
  clear h h'
  go_enter Try.func10, Try.ntmps10
  go_wp2_with (go_at_call 13; refine hM.mono ?_; rintro e w1 ⟨rfl, hb1⟩; refine Hid.out ?_)
  rw [hW1] at hb1
  replace hb0 := hb0.trans (hb1.mono hb0.size)
  replace hr := block_below hb1 hr
  replace hk := block_below hb1 hk
  replace ht := block_below hb1 ht
  obtain ⟨k0, k1, k2, _, _, _⟩ := in3 hk
  clear hM hW1 hb1
  refine Lib.hid ?_
  go_wp2_with (go_at_call 22; refine (hV _).mono ?_; rintro e w2 ⟨rfl, hb2⟩; refine Hid.out ?_)
  replace hb0 := hb0.trans (hb2.mono hb0.size)
  replace hr := block_below hb2 hr
  replace hk := block_below hb2 hk
  replace ht := block_below hb2 ht
  clear hV hb2 k0 k1 k2
  obtain ⟨k0, k1, k2, _, _, _⟩ := in3 hk
  obtain ⟨c0, c1', c2', f0, f1, f2⟩ := in3 hr
  have x0 : w2.cell? ⟨w.heap.size, 0, none⟩ = some (.slice a xs.length c1) := cell_block ht rfl
  have x1 : w2.cell? ⟨w.heap.size, 1, none⟩ = some (.slice a' ys.length c2) := cell_block ht rfl
  have hlt : (xs.length : Int) ≤ 0 := by rw [hx.out]; simp
  have hne : (k.k != 0) = false := by simpa using hk0
  clear hx hrow hT
  refine Lib.hid ?_
  go_wp2
  exact bodyPost_ret (v := .tuple #[nilV.v, .int .i64 0]) (res10 rfl rfl (put3_same nilV hr)) rfl ⟨rfl, put3_below nilV hb0 (by omega)⟩

set_option maxRecDepth 100000 in
set_option maxHeartbeats 2000000 in
theorem rnext_d1 (ks vs : Value) (xs ys : List Vl) (k : Vl) (w : World) (hT : Tab w.heap.size w ks vs xs ys) (h : mayT xs ys = true) (h' : mayB k.k k.n k.s = true) (hk0 : (k.k == 0) = false) (fi : Nat) (hfi : findI xs k = fi) (hge : fi = xs.length) :
    Calls Try.prog 10 #[.agg #[ks, vs], k.v] w fun e w' => e = .returned (.tuple #[nilV.v, .int .i64 4]) ∧ Below w.heap.size w w' := by
  obtain ⟨a, c1, rfl, hml, hrow⟩ := hT.keys
  obtain ⟨a', c2, rfl, _, _⟩ := hT.vals
  obtain ⟨W1, hW1⟩ : ∃ W1, ((w.alloc (.cells #[.slice a xs.length c1, .slice a' ys.length c2] 24)).alloc (bx k)).alloc (bx nilV) = W1 := ⟨_, rfl⟩
  obtain ⟨hs1, hb0, ht, hk, hr⟩ := get_mem w _ k hW1
  have hM := rtmay_t h (.slice a xs.length c1) (.slice a' ys.length c2) _ ((hT.below hb0).mono hb0.size)
  rw [← hW1] at hM
  have hV := rmay_v k
  rw [h'] at hV
  clear h h'
  go_enter Try.func10, Try.ntmps10
  go_wp2_with (go_at_call 13; refine hM.mono ?_; rintro e w1 ⟨rfl, hb1⟩; refine Hid.out ?_)
  rw [hW1] at hb1
  replace hb0 := hb0.trans (hb1.mono hb0.size)
  replace hr := block_below hb1 hr
  replace hk := block_below hb1 hk
  replace ht := block_below hb1 ht
  obtain ⟨k0, k1, k2, _, _, _⟩ := in3 hk
  clear hM hW1 hb1
  refine Lib.hid ?_
  go_wp2_with (go_at_call 22; refine (hV _).mono ?_; rintro e w2 ⟨rfl, hb2⟩; refine Hid.out ?_)
  replace hb0 := hb0.trans (hb2.mono hb0.size)
  replace hr := block_below hb2 hr
  replace hk := block_below hb2 hk
  replace ht := block_below hb2 ht
  clear hV hb2 k0 k1 k2
  obtain ⟨k0, k1, k2, _, _, _⟩ := in3 hk
  obtain ⟨c0, c1', c2', f0, f1, f2⟩ := in3 hr
  have x0 : w2.cell? ⟨w.heap.size, 0, none⟩ = some (.slice a xs.length c1) := cell_block ht rfl
  have x1 : w2.cell? ⟨w.heap.size, 1, none⟩ = some (.slice a' ys.length c2) := cell_block ht rfl
  have hne : (k.k != 0) = true := by simpa using hk0
  have hF := find_any (.slice a xs.length c1) (.slice a' ys.length c2) xs ys k w2 ((hT.below hb0).mono hb0.size)
  rw [hfi] at hF
  replace hfi : Hid _ := hfi
  refine Lib.hid ?_
  go_wp2_with (go_at_call 20; refine hF.mono ?_; rintro e w3 ⟨rfl, hb3⟩; refine Hid.out ?_)
  replace hb0 := hb0.trans (hb3.mono hb0.size)
  replace hr := block_below hb3 hr
  replace ht := block_below hb3 ht
  clear hF hb3 k0 k1 k2 c0 c1' c2' f0 f1 f2 x0 x1 hk
  obtain ⟨c0, c1', c2', f0, f1, f2⟩ := in3 hr
  have x0 : w3.cell? ⟨w.heap.size, 0, none⟩ = some (.slice a xs.length c1) := cell_block ht rfl
  have x1 : w3.cell? ⟨w.heap.size, 1, none⟩ = some (.slice a' ys.length c2) := cell_block ht rfl
  have he : ((fi : Int) == (xs.length : Int)) = true := by simp; omega
  replace hge : Hid _ := hge
  clear hrow hT
  refine Lib.hid ?_
  go_wp2
  exact bodyPost_ret (v := .tuple #[nilV.v, .int .i64 4]) (res10 rfl rfl (put3_same nilV hr)) rfl ⟨rfl, put3_below nilV hb0 (by omega)⟩

set_option maxRecDepth 100000 in
set_option maxHeartbeats 2000000 in
theorem rnext_d2 (ks vs : Value) (xs ys : List Vl) (k : Vl) (w : World) (hT : Tab w.heap.size w ks vs xs ys) (h : mayT xs ys = true) (h' : mayB k.k k.n k.s = true) (hk0 : (k.k == 0) = false) (fi : Nat) (hfi : findI xs k = fi) (hlt : fi + 1 < xs.length) (x : Vl) (hx : xs[fi + 1]? = some x) :
    Calls Try.prog 10 #[.agg #[ks, vs], k.v] w fun e w' => e = .returned (.tuple #[x.v, .int .i64 0]) ∧ Below w.heap.size w w' := by
  obtain ⟨a, c1, rfl, hml, hrow⟩ := hT.keys
  obtain ⟨a', c2, rfl, _, _⟩ := hT.vals
  obtain ⟨W1, hW1⟩ : ∃ W1, ((w.alloc (.cells #[.slice a xs.length c1, .slice a' ys.length c2] 24)).alloc (bx k)).alloc (bx nilV) = W1 := ⟨_, rfl⟩
  obtain ⟨hs1, hb0, ht, hk, hr⟩ := get_mem w _ k hW1
  have hml' : xs.length ≤ 9223372036854775807 := hml
  have hM := rtmay_t h (.slice a xs.length c1) (.slice a' ys.length c2) _ ((hT.below hb0).mono hb0.size)
  rw [← hW1] at hM
  have hV := rmay_v k
  rw [h'] at hV
  clear h h'
  go_enter Try.func10, Try.ntmps10
  go_wp2_with (go_at_call 13; refine hM.mono ?_; rintro e w1 ⟨rfl, hb1⟩; refine Hid.out ?_)
  rw [hW1] at hb1
  replace hb0 := hb0.trans (hb1.mono hb0.size)
  replace hr := block_below hb1 hr
  replace hk := block_below hb1 hk
  replace ht := block_below hb1 ht
  obtain ⟨k0, k1, k2, _, _, _⟩ := in3 hk
  clear hM hW1 hb1
  refine Lib.hid ?_
  go_wp2_with (go_at_call 22; refine (hV _).mono ?_; rintro e w2 ⟨rfl, hb2⟩; refine Hid.out ?_)
  replace hb0 := hb0.trans (hb2.mono hb0.size)
  replace hr := block_below hb2 hr
  replace hk := block_below hb2 hk
  replace ht := block_below hb2 ht
  clear hV hb2 k0 k1 k2
  obtain ⟨k0, k1, k2, _, _, _⟩ := in3 hk
  obtain ⟨c0, c1', c2', f0, f1, f2⟩ := in3 hr
  have x0 : w2.cell? ⟨w.heap.size, 0, none⟩ = some (.slice a xs.length c1) := cell_block ht rfl
  have x1 : w2.cell? ⟨w.heap.size, 1, none⟩ = some (.slice a' ys.length c2) := cell_block ht rfl
  have hne : (k.k != 0) = true := by simpa using hk0
  have hF := find_any (.slice a xs.length c1) (.slice a' ys.length c2) xs ys k w2 ((hT.below hb0).mono hb0.size)
  rw [hfi] at hF
  replace hfi : Hid _ := hfi
  refine Lib.hid ?_
  go_wp2_with (go_at_call 20; refine hF.mono ?_; rintro e w3 ⟨rfl, hb3⟩; refine Hid.out ?_)
  replace hb0 := hb0.trans (hb3.mono hb0.size)
  replace hr := block_below hb3 hr
  replace ht := block_below hb3 ht
  clear hF hb3 k0 k1 k2 c0 c1' c2' f0 f1 f2 x0 x1 hk
  obtain ⟨c0, c1', c2', f0, f1, f2⟩ := in3 hr
  have x0 : w3.cell? ⟨w.heap.size, 0, none⟩ = some (.slice a xs.length c1) := cell_block ht rfl
  have x1 : w3.cell? ⟨w.heap.size, 1, none⟩ = some (.slice a' ys.length c2) := cell_block ht rfl
  have he : ((fi : Int) == (xs.length : Int)) = false := by simp; omega
  obtain ⟨b, off, rfl, hbl, hel⟩ := hrow (by intro e; subst e; simp at hx)
  obtain ⟨t0, t1, t2⟩ := (hel (fi + 1) x hx).below hb0 hbl
  clear hrow hel hT
  replace hx : Hid _ := hx
  refine Lib.hid ?_
  go_wp2
  exact bodyPost_ret (v := .tuple #[x.v, .int .i64 0]) (res10 rfl rfl (put3_same x hr)) rfl ⟨rfl, put3_below x hb0 (by omega)⟩

set_option maxRecDepth 100000 in
set_option maxHeartbeats 2000000 in
theorem rnext_d3 (ks vs : Value) (xs ys : List Vl) (k : Vl) (w : World) (hT : Tab w.heap.size w ks vs xs ys) (h : mayT xs ys = true) (h' : mayB k.k k.n k.s = true) (hk0 : (k.k == 0) = false) (fi : Nat) (hfi : findI xs k = fi) (hlt : fi + 1 = xs.length) :
    Calls Try.prog 10 #[.agg #[ks, vs], k.v] w fun e w' => e = .returned (.tuple #[nilV.v, .int .i64 0]) ∧ Below w.heap.size w w' := by
  obtain ⟨a, c1, rfl, hml, hrow⟩ := hT.keys
  obtain ⟨a', c2, rfl, _, _⟩ := hT.vals
  obtain ⟨W1, hW1⟩ : ∃ W1, ((w.alloc (.cells #[.slice a xs.length c1, .slice a' ys.length c2] 24)).alloc (bx k)).alloc (bx nilV) = W1 := ⟨_, rfl⟩
  obtain ⟨hs1, hb0, ht, hk, hr⟩ := get_mem w _ k hW1
  have hml' : xs.length ≤ 9223372036854775807 := hml
  have hM := rtmay_t h (.slice a xs.length c1) (.slice a' ys.length c2) _ ((hT.below hb0).mono hb0.size)
  rw [← hW1] at hM
  have hV := rmay_v k
  rw [h'] at hV
  clear h h'
  go_enter Try.func10, Try.ntmps10
  go_wp2_with (go_at_call 13; refine hM.mono ?_; rintro e w1 ⟨rfl, hb1⟩; refine Hid.out ?_)
  rw [hW1] at hb1
  replace hb0 := hb0.trans (hb1.mono hb0.size)
  replace hr := block_below hb1 hr
  replace hk := block_below hb1 hk
  replace ht := block_below hb1 ht
  obtain ⟨k0, k1, k2, _, _, _⟩ := in3 hk
  clear hM hW1 hb1
  refine Lib.hid ?_
  go_wp2_with (go_at_call 22; refine (hV _).mono ?_; rintro e w2 ⟨rfl, hb2⟩; refine Hid.out ?_)
  replace hb0 := hb0.trans (hb2.mono hb0.size)
  replace hr := block_below hb2 hr
  replace hk := block_below hb2 hk
  replace ht := block_below hb2 ht
  clear hV hb2 k0 k1 k2
  obtain ⟨k0, k1, k2, _, _, _⟩ := in3 hk
  obtain ⟨c0, c1', c2', f0, f1, f2⟩ := in3 hr
  have x0 : w2.cell? ⟨w.heap.size, 0, none⟩ = some (.slice a xs.length c1) := cell_block ht rfl
  have x1 : w2.cell? ⟨w.heap.size, 1, none⟩ = some (.slice a' ys.length c2) := cell_block ht rfl
  have hne : (k.k != 0) = true := by simpa using hk0
  have hF := find_any (.slice a xs.length c1) (.slice a' ys.length c2) xs ys k w2 ((hT.below hb0).mono hb0.size)
  rw [hfi] at hF
  replace hfi : Hid _ := hfi
  refine Lib.hid ?_
  go_wp2_with (go_at_call 20; refine hF.mono ?_; rintro e w3 ⟨rfl, hb3⟩; refine Hid.out ?_)
  replace hb0 := hb0.trans (hb3.mono hb0.size)
  replace hr := block_below hb3 hr
  replace ht := block_below hb3 ht
  clear hF hb3 k0 k1 k2 c0 c1' c2' f0 f1 f2 x0 x1 hk
  obtain ⟨c0, c1', c2', f0, f1, f2⟩ := in3 hr
  have x0 : w3.cell? ⟨w.heap.size, 0, none⟩ = some (.slice a xs.length c1) := cell_block ht rfl
  have x1 : w3.cell? ⟨w.heap.size, 1, none⟩ = some (.slice a' ys.length c2) := cell_block ht rfl
  have he : ((fi : Int) == (xs.length : Int)) = false := by simp; omega
  have hge : (xs.length : Int) ≤ (fi : Int) + 1 := by omega
  have hlt2 : fi < xs.length := by omega
  replace hlt : Hid _ := hlt
  clear hrow hT
  refine Lib.hid ?_
  go_wp2
  exact bodyPost_ret (v := .tuple #[nilV.v, .int .i64 0]) (res10 rfl rfl (put3_same nilV hr)) rfl ⟨rfl, put3_below nilV hb0 (by omega)⟩

/-- The document's Next, whatever the table and the key. -/
theorem rnext_any (ks vs : Value) (xs ys : List Vl) (k : Vl) (w : World) (hT : Tab w.heap.size w ks vs xs ys) :
    Calls Try.prog 10 #[.agg #[ks, vs], k.v] w fun e w' => e = .returned (.tuple #[(nextT xs ys k).1.v, .int .i64 (nextT xs ys k).2]) ∧ Below w.heap.size w w' := by
  unfold nextT
  cases h : mayT xs ys
  · exact rnext_a ks vs xs ys k w hT h
  · cases h' : mayB k.k k.n k.s
    · exact rnext_b ks vs xs ys k w hT h h'
    · rw [if_pos ⟨rfl, rfl⟩]
      cases hk0 : (k.k == 0)
      · rw [scan_find]
        by_cases hlt : findI xs k < xs.length
        · rw [if_pos hlt]
          by_cases hlt2 : findI xs k + 1 < xs.length
          · have hx : xs[findI xs k + 1]? = some (xs.getD (findI xs k + 1) nilV) := by simp [List.getD, hlt2]
            exact rnext_d2 ks vs xs ys k w hT h h' hk0 _ rfl hlt2 _ hx
          · have e : xs.getD (findI xs k + 1) nilV = nilV := by rw [List.getD, List.getElem?_eq_none (by omega)]; rfl
            rw [e]
            exact rnext_d3 ks vs xs ys k w hT h h' hk0 _ rfl (by omega)
        · rw [if_neg hlt]
          exact rnext_d1 ks vs xs ys k w hT h h' hk0 _ rfl (Nat.le_antisymm (findI_le xs k) (by omega))
      · rw [scan_true]
        cases xs with
        | nil => exact rnext_c2 ks vs [] ys k w hT h h' hk0 rfl
        | cons x xs => exact rnext_c1 ks vs (x :: xs) ys k w hT h h' hk0 x rfl

end Go.Proofs.Ytcfkkmelenjjoaa
