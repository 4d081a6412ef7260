/- Set: what is wrong; what the new table is. -/
import Derived.Test.YtkcieeckndimpaaWith
namespace Go.Proofs.Ytkcieeckndimpaa
open Go.RowKit Go.Shelf
open Go

set_option linter.unusedSectionVars false
variable [DecidableEq Vl]

/-- A pair with the new value, where its key is k. -/
def swap (k v : Vl) (p : Vl × Vl) : Vl × Vl := if p.1 = k then (p.1, v) else p
/-- Nil under a key is no pair. -/
def full (p : Vl × Vl) : Bool := !(p.2.k == 0)
/-- The pairs so far. -/
def part (k v : Vl) (zs : List (Vl × Vl)) : List (Vl × Vl) := (zs.map (swap k v)).filter full
def met (k : Vl) (zs : List (Vl × Vl)) : Bool := zs.any (fun p => decide (p.1 = k))
/-- The new pairs. -/
def setZ (k v : Vl) (zs : List (Vl × Vl)) : List (Vl × Vl) := part k v zs ++ (if met k zs = true then [] else [(k, v)].filter full)
/-- What Set answers: the pairs, and what is wrong. -/
def setT (xs ys : List Vl) (k v : Vl) : List (Vl × Vl) × Int :=
  if ¬ (mayT xs ys = true ∧ mayB k.k k.n k.s = true ∧ mayB v.k v.n v.s = true) then ([], 2)
  else if k.k = 0 then ([], 3)
  else if 100 < (setZ k v (xs.zip ys)).length then ([], 1) else (setZ k v (xs.zip ys), 0)

theorem part_snoc (k v : Vl) (zs : List (Vl × Vl)) (p : Vl × Vl) : part k v (zs ++ [p]) = part k v zs ++ [swap k v p].filter full := by simp [part]
theorem met_snoc (k : Vl) (zs : List (Vl × Vl)) (p : Vl × Vl) : met k (zs ++ [p]) = (met k zs || decide (p.1 = k)) := by simp [met]
theorem part_length (k v : Vl) (zs : List (Vl × Vl)) : (part k v zs).length ≤ zs.length := by
  have := List.length_filter_le full (zs.map (swap k v))
  simpa [part] using this

theorem flat_get {xs : List Vl} {j : Nat} {x : Vl} (h : xs[j]? = some x) (i : Nat) (hi : i < 3) : (flat xs)[j * 3 + i]? = (trio x)[i]? := by
  induction xs generalizing j with
  | nil => simp at h
  | cons y xs ih =>
    cases j with
    | zero =>
      simp at h
      subst h
      simp only [flat, List.flatMap_cons]
      rw [List.getElem?_append_left (by simp; omega)]
      congr 1
      omega
    | succ j =>
      simp at h
      simp only [flat, List.flatMap_cons]
      rw [List.getElem?_append_right (by simp; omega)]
      have := ih h
      rw [← this]
      simp only [flat]
      congr 1
      simp
      omega

theorem row_of_own {base : Nat} {W : World} {v : Value} {xs : List Vl} (h : W.ownsRow base 26 3 v xs.length (flat xs)) : Row W.heap.size W v xs := by
  rcases h.2 with ⟨rfl, h0⟩ | ⟨g, cap, cur, rfl, _, hg, hn, hm, _, ht⟩
  · have : xs = [] := List.length_eq_zero_iff.1 h0
    subst this
    exact ⟨none, 0, rfl, by simp, fun h => absurd rfl h⟩
  · refine ⟨some ⟨g, 0, none⟩, cap, rfl, by omega, fun _ => ⟨g, 0, rfl, (Array.getElem?_eq_some_iff.1 hg).1, fun j x hj => ?_⟩⟩
    have hjl : j < xs.length := (List.getElem?_eq_some_iff.1 hj).1
    have cell : ∀ i, i < 3 → W.cell? ⟨g, 0 + j * 3 + i, none⟩ = (trio x)[i]? := fun i hi => by
      rw [← flat_get hj i hi, ← ht]
      rw [List.getElem?_take_of_lt (by omega)]
      simp [World.cell?, hg]
    exact ⟨cell 0 (by omega), cell 1 (by omega), cell 2 (by omega)⟩

theorem tab_of_own {base : Nat} {W : World} {ks vs : Value} {xs ys : List Vl} (h : Own2 base W ks vs xs ys) : Tab W.heap.size W ks vs xs ys := ⟨row_of_own h.k, row_of_own h.v⟩
theorem tab_nil (m : Nat) (W : World) : Tab m W (.slice none 0 0) (.slice none 0 0) [] [] := ⟨⟨none, 0, rfl, by simp, fun h => absurd rfl h⟩, ⟨none, 0, rfl, by simp, fun h => absurd rfl h⟩⟩

abbrev zeroT : Obj := .cells #[.slice none 0 0, .slice none 0 0] 24

/-- What lies in memory when Set has begun. -/
theorem set_mem (w : World) (o0 : Obj) (k v : Vl) {W1 : World} (hW : (((w.alloc o0).alloc (bx k)).alloc (bx v)).alloc zeroT = W1) :
    W1.heap.size = w.heap.size + 4 ∧ Below w.heap.size w W1 ∧ W1.heap[w.heap.size]? = some o0 ∧ W1.heap[w.heap.size + 1]? = some (bx k) ∧ W1.heap[w.heap.size + 1 + 1]? = some (bx v) ∧ W1.heap[w.heap.size + 1 + 1 + 1]? = some zeroT := by
  subst hW
  refine ⟨by simp, ((((Below.refl _ w).alloc (Nat.le_refl _) _).alloc (by simp) _).alloc (by simp; omega) _).alloc (by simp; omega) _, block_alloc _ (block_alloc _ (block_alloc _ (World.alloc_heap_new w _))), ?_, ?_, ?_⟩
  · have := block_alloc zeroT (block_alloc (bx v) (World.alloc_heap_new (w.alloc o0) (bx k)))
    simpa only [World.size_alloc] using this
  · have := block_alloc zeroT (World.alloc_heap_new ((w.alloc o0).alloc (bx k)) (bx v))
    simpa only [World.size_alloc] using this
  · have := World.alloc_heap_new (((w.alloc o0).alloc (bx k)).alloc (bx v)) zeroT
    simpa only [World.size_alloc] using this

theorem res16 {tm : Array Value} {W : World} {B : Nat} {a a' : Option Addr} {n n' c c' : Nat} {ec : Int} (h : tm[6]?.getD undef = .pointer (some ⟨B, 0, none⟩)) (h' : tm[7]?.getD undef = .int .i64 ec) (hx : W.heap[B]? = some (.cells #[.slice a n c, .slice a' n' c'] 24)) : (results Try.f16 tm).run Try.prog W = .ok (.tuple #[.agg #[.slice a n c, .slice a' n' c'], .int .i64 ec]) W := by
  have c0 : W.cell? ⟨B, 0, none⟩ = some (.slice a n c) := cell_block hx rfl
  have c1 : W.cell? ⟨B, 1, none⟩ = some (.slice a' n' c') := cell_block hx rfl
  simp [results, Try.results16, go_sem, h, h', c0, c1]

/-- A table is stored into a box. -/
theorem put2_same {W : World} {B : Nat} {p q p' q' : Value} (h : W.heap[B]? = some (.cells #[p, q] 24)) : ((W.setCell ⟨B, 0, none⟩ p').setCell ⟨B, 1, none⟩ q').heap[B]? = some (.cells #[p', q'] 24) := set_block _ (set_block _ h)
theorem put2_other (W : World) {B C : Nat} (p q : Value) (h : C ≠ B) : ((W.setCell ⟨B, 0, none⟩ p).setCell ⟨B, 1, none⟩ q).heap[C]? = W.heap[C]? := (set1_other _ _ h).trans (set1_other _ _ h)
theorem put2_below {m : Nat} {w W : World} {B : Nat} (p q : Value) (h : Below m w W) (hB : m ≤ B) : Below m w ((W.setCell ⟨B, 0, none⟩ p).setCell ⟨B, 1, none⟩ q) := (h.setCell (p := ⟨B, 0, none⟩) hB _).setCell (p := ⟨B, 1, none⟩) hB _
theorem put2_keeps (W : World) (B : Nat) (p q : Value) : KeepsOthers W ((W.setCell ⟨B, 0, none⟩ p).setCell ⟨B, 1, none⟩ q) := (KeepsOthers.setCell _ _ _).trans (KeepsOthers.setCell _ _ _)

set_option maxRecDepth 100000 in
set_option maxHeartbeats 2000000 in
theorem set_e1 (ks vs : Value) (xs ys : List Vl) (k v : Vl) (w : World) (hT : Tab w.heap.size w ks vs xs ys) (h : mayT xs ys = false) :
    Calls Try.prog 16 #[.agg #[ks, vs], k.v, v.v] w fun e w' => e = .returned (.tuple #[.agg #[.slice none 0 0, .slice none 0 0], .int .i64 2]) ∧ Below w.heap.size w w' := by
  obtain ⟨a, c1, rfl, _, _⟩ := hT.keys
  obtain ⟨a', c2, rfl, _, _⟩ := hT.vals
  obtain ⟨W1, hW1⟩ : ∃ W1, (((w.alloc (.cells #[.slice a xs.length c1, .slice a' ys.length c2] 24)).alloc (bx k)).alloc (bx v)).alloc zeroT = W1 := ⟨_, rfl⟩
  obtain ⟨hs1, hb0, ht, hk, hv, hr⟩ := set_mem w _ k v hW1
  have hM := tmay_f h (.slice a xs.length c1) (.slice a' ys.length c2) _ ((hT.below hb0).mono hb0.size)
  rw [← hW1] at hM
  clear h 
  replace hW1 : Hid _ := hW1
  go_enter Try.func16, Try.ntmps16
  go_wp2_with (go_at_call 12; refine hM.mono ?_; rintro e w1 ⟨rfl, hb1⟩; refine Hid.out ?_)
  rw [hW1.out] at hb1
  clear hM hW1
  replace hb0 := hb0.trans (hb1.mono hb0.size)
  replace ht := block_below hb1 ht
  replace hk := block_below hb1 hk
  replace hv := block_below hb1 hv
  replace hr := block_below hb1 hr
  clear hb1
  obtain ⟨k0, k1, k2, _, _, _⟩ := in3 hk
  obtain ⟨v0, v1, v2, _, _, _⟩ := in3 hv
  have r0 : w1.cell? ⟨w.heap.size + 1 + 1 + 1, 0, none⟩ = some (.slice none 0 0) := cell_block hr rfl
  have r1 : w1.cell? ⟨w.heap.size + 1 + 1 + 1, 1, none⟩ = some (.slice none 0 0) := cell_block hr rfl
  have f0 : w1.frozen? ⟨w.heap.size + 1 + 1 + 1, 0, none⟩ = false := frozen_block hr
  have f1 : w1.frozen? ⟨w.heap.size + 1 + 1 + 1, 1, none⟩ = false := frozen_block hr
  refine Lib.hid ?_
  go_wp2
  exact bodyPost_ret (res16 rfl rfl (put2_same hr)) rfl ⟨rfl, put2_below _ _ hb0 (by omega)⟩

set_option maxRecDepth 100000 in
set_option maxHeartbeats 2000000 in
theorem set_e2 (ks vs : Value) (xs ys : List Vl) (k v : Vl) (w : World) (hT : Tab w.heap.size w ks vs xs ys) (h : mayT xs ys = true) (h1 : mayB k.k k.n k.s = false) :
    Calls Try.prog 16 #[.agg #[ks, vs], k.v, v.v] w fun e w' => e = .returned (.tuple #[.agg #[.slice none 0 0, .slice none 0 0], .int .i64 2]) ∧ Below w.heap.size w w' := by
  obtain ⟨a, c1, rfl, _, _⟩ := hT.keys
  obtain ⟨a', c2, rfl, _, _⟩ := hT.vals
  obtain ⟨W1, hW1⟩ : ∃ W1, (((w.alloc (.cells #[.slice a xs.length c1, .slice a' ys.length c2] 24)).alloc (bx k)).alloc (bx v)).alloc zeroT = W1 := ⟨_, rfl⟩
  obtain ⟨hs1, hb0, ht, hk, hv, hr⟩ := set_mem w _ k v hW1
  have hM := tmay_t h (.slice a xs.length c1) (.slice a' ys.length c2) _ ((hT.below hb0).mono hb0.size)
  rw [← hW1] at hM
  have hV0 := fun u => may_any k.k k.n k.s u
  rw [h1] at hV0
  clear h h1
  replace hW1 : Hid _ := hW1
  go_enter Try.func16, Try.ntmps16
  go_wp2_with (go_at_call 12; refine hM.mono ?_; rintro e w1 ⟨rfl, hb1⟩; refine Hid.out ?_)
  rw [hW1.out] at hb1
  clear hM hW1
  replace hb0 := hb0.trans (hb1.mono hb0.size)
  replace ht := block_below hb1 ht
  replace hk := block_below hb1 hk
  replace hv := block_below hb1 hv
  replace hr := block_below hb1 hr
  clear hb1
  obtain ⟨k0, k1, k2, _, _, _⟩ := in3 hk
  obtain ⟨v0, v1, v2, _, _, _⟩ := in3 hv
  have r0 : w1.cell? ⟨w.heap.size + 1 + 1 + 1, 0, none⟩ = some (.slice none 0 0) := cell_block hr rfl
  have r1 : w1.cell? ⟨w.heap.size + 1 + 1 + 1, 1, none⟩ = some (.slice none 0 0) := cell_block hr rfl
  have f0 : w1.frozen? ⟨w.heap.size + 1 + 1 + 1, 0, none⟩ = false := frozen_block hr
  have f1 : w1.frozen? ⟨w.heap.size + 1 + 1 + 1, 1, none⟩ = false := frozen_block hr
  refine Lib.hid ?_
  go_wp2_with (go_at_call_of 21 k; refine (hV0 _).mono ?_; rintro e w2 ⟨rfl, hb1⟩; refine Hid.out ?_)
  clear k0 k1 k2 v0 v1 v2 r0 r1 f0 f1
  replace hb0 := hb0.trans (hb1.mono hb0.size)
  replace ht := block_below hb1 ht
  replace hk := block_below hb1 hk
  replace hv := block_below hb1 hv
  replace hr := block_below hb1 hr
  clear hb1
  obtain ⟨k0, k1, k2, _, _, _⟩ := in3 hk
  obtain ⟨v0, v1, v2, _, _, _⟩ := in3 hv
  have r0 : w2.cell? ⟨w.heap.size + 1 + 1 + 1, 0, none⟩ = some (.slice none 0 0) := cell_block hr rfl
  have r1 : w2.cell? ⟨w.heap.size + 1 + 1 + 1, 1, none⟩ = some (.slice none 0 0) := cell_block hr rfl
  have f0 : w2.frozen? ⟨w.heap.size + 1 + 1 + 1, 0, none⟩ = false := frozen_block hr
  have f1 : w2.frozen? ⟨w.heap.size + 1 + 1 + 1, 1, none⟩ = false := frozen_block hr
  refine Lib.hid ?_
  go_wp2
  exact bodyPost_ret (res16 rfl rfl (put2_same hr)) rfl ⟨rfl, put2_below _ _ hb0 (by omega)⟩

set_option maxRecDepth 100000 in
set_option maxHeartbeats 2000000 in
theorem set_e3 (ks vs : Value) (xs ys : List Vl) (k v : Vl) (w : World) (hT : Tab w.heap.size w ks vs xs ys) (h : mayT xs ys = true) (h1 : mayB k.k k.n k.s = true) (h2 : mayB v.k v.n v.s = false) :
    Calls Try.prog 16 #[.agg #[ks, vs], k.v, v.v] w fun e w' => e = .returned (.tuple #[.agg #[.slice none 0 0, .slice none 0 0], .int .i64 2]) ∧ Below w.heap.size w w' := by
  obtain ⟨a, c1, rfl, _, _⟩ := hT.keys
  obtain ⟨a', c2, rfl, _, _⟩ := hT.vals
  obtain ⟨W1, hW1⟩ : ∃ W1, (((w.alloc (.cells #[.slice a xs.length c1, .slice a' ys.length c2] 24)).alloc (bx k)).alloc (bx v)).alloc zeroT = W1 := ⟨_, rfl⟩
  obtain ⟨hs1, hb0, ht, hk, hv, hr⟩ := set_mem w _ k v hW1
  have hM := tmay_t h (.slice a xs.length c1) (.slice a' ys.length c2) _ ((hT.below hb0).mono hb0.size)
  rw [← hW1] at hM
  have hV0 := fun u => may_any k.k k.n k.s u
  rw [h1] at hV0
  have hV1 := fun u => may_any v.k v.n v.s u
  rw [h2] at hV1
  clear h h1 h2
  replace hW1 : Hid _ := hW1
  go_enter Try.func16, Try.ntmps16
  go_wp2_with (go_at_call 12; refine hM.mono ?_; rintro e w1 ⟨rfl, hb1⟩; refine Hid.out ?_)
  rw [hW1.out] at hb1
  clear hM hW1
  replace hb0 := hb0.trans (hb1.mono hb0.size)
  replace ht := block_below hb1 ht
  replace hk := block_below hb1 hk
  replace hv := block_below hb1 hv
  replace hr := block_below hb1 hr
  clear hb1
  obtain ⟨k0, k1, k2, _, _, _⟩ := in3 hk
  obtain ⟨v0, v1, v2, _, _, _⟩ := in3 hv
  have r0 : w1.cell? ⟨w.heap.size + 1 + 1 + 1, 0, none⟩ = some (.slice none 0 0) := cell_block hr rfl
  have r1 : w1.cell? ⟨w.heap.size + 1 + 1 + 1, 1, none⟩ = some (.slice none 0 0) := cell_block hr rfl
  have f0 : w1.frozen? ⟨w.heap.size + 1 + 1 + 1, 0, none⟩ = false := frozen_block hr
  have f1 : w1.frozen? ⟨w.heap.size + 1 + 1 + 1, 1, none⟩ = false := frozen_block hr
  refine Lib.hid ?_
  go_wp2_with (go_at_call_of 21 k; refine (hV0 _).mono ?_; rintro e w2 ⟨rfl, hb1⟩; refine Hid.out ?_)
  clear k0 k1 k2 v0 v1 v2 r0 r1 f0 f1
  replace hb0 := hb0.trans (hb1.mono hb0.size)
  replace ht := block_below hb1 ht
  replace hk := block_below hb1 hk
  replace hv := block_below hb1 hv
  replace hr := block_below hb1 hr
  clear hb1
  obtain ⟨k0, k1, k2, _, _, _⟩ := in3 hk
  obtain ⟨v0, v1, v2, _, _, _⟩ := in3 hv
  have r0 : w2.cell? ⟨w.heap.size + 1 + 1 + 1, 0, none⟩ = some (.slice none 0 0) := cell_block hr rfl
  have r1 : w2.cell? ⟨w.heap.size + 1 + 1 + 1, 1, none⟩ = some (.slice none 0 0) := cell_block hr rfl
  have f0 : w2.frozen? ⟨w.heap.size + 1 + 1 + 1, 0, none⟩ = false := frozen_block hr
  have f1 : w2.frozen? ⟨w.heap.size + 1 + 1 + 1, 1, none⟩ = false := frozen_block hr
  refine Lib.hid ?_
  go_wp2_with (go_at_call_of 21 v; refine (hV1 _).mono ?_; rintro e w3 ⟨rfl, hb1⟩; refine Hid.out ?_)
  clear k0 k1 k2 v0 v1 v2 r0 r1 f0 f1
  replace hb0 := hb0.trans (hb1.mono hb0.size)
  replace ht := block_below hb1 ht
  replace hk := block_below hb1 hk
  replace hv := block_below hb1 hv
  replace hr := block_below hb1 hr
  clear hb1
  obtain ⟨k0, k1, k2, _, _, _⟩ := in3 hk
  obtain ⟨v0, v1, v2, _, _, _⟩ := in3 hv
  have r0 : w3.cell? ⟨w.heap.size + 1 + 1 + 1, 0, none⟩ = some (.slice none 0 0) := cell_block hr rfl
  have r1 : w3.cell? ⟨w.heap.size + 1 + 1 + 1, 1, none⟩ = some (.slice none 0 0) := cell_block hr rfl
  have f0 : w3.frozen? ⟨w.heap.size + 1 + 1 + 1, 0, none⟩ = false := frozen_block hr
  have f1 : w3.frozen? ⟨w.heap.size + 1 + 1 + 1, 1, none⟩ = false := frozen_block hr
  refine Lib.hid ?_
  go_wp2
  exact bodyPost_ret (res16 rfl rfl (put2_same hr)) rfl ⟨rfl, put2_below _ _ hb0 (by omega)⟩

set_option maxRecDepth 100000 in
set_option maxHeartbeats 2000000 in
theorem set_e4 (ks vs : Value) (xs ys : List Vl) (k v : Vl) (w : World) (hT : Tab w.heap.size w ks vs xs ys) (h : mayT xs ys = true) (h1 : mayB k.k k.n k.s = true) (h2 : mayB v.k v.n v.s = true) (h3 : (k.k == 0) = true) :
    Calls Try.prog 16 #[.agg #[ks, vs], k.v, v.v] w fun e w' => e = .returned (.tuple #[.agg #[.slice none 0 0, .slice none 0 0], .int .i64 3]) ∧ Below w.heap.size w w' := by
  obtain ⟨a, c1, rfl, _, _⟩ := hT.keys
  obtain ⟨a', c2, rfl, _, _⟩ := hT.vals
  obtain ⟨W1, hW1⟩ : ∃ W1, (((w.alloc (.cells #[.slice a xs.length c1, .slice a' ys.length c2] 24)).alloc (bx k)).alloc (bx v)).alloc zeroT = W1 := ⟨_, rfl⟩
  obtain ⟨hs1, hb0, ht, hk, hv, hr⟩ := set_mem w _ k v hW1
  have hM := tmay_t h (.slice a xs.length c1) (.slice a' ys.length c2) _ ((hT.below hb0).mono hb0.size)
  rw [← hW1] at hM
  have hV0 := fun u => may_any k.k k.n k.s u
  rw [h1] at hV0
  have hV1 := fun u => may_any v.k v.n v.s u
  rw [h2] at hV1
  clear h h1 h2
  replace hW1 : Hid _ := hW1
  go_enter Try.func16, Try.ntmps16
  go_wp2_with (go_at_call 12; refine hM.mono ?_; rintro e w1 ⟨rfl, hb1⟩; refine Hid.out ?_)
  rw [hW1.out] at hb1
  clear hM hW1
  replace hb0 := hb0.trans (hb1.mono hb0.size)
  replace ht := block_below hb1 ht
  replace hk := block_below hb1 hk
  replace hv := block_below hb1 hv
  replace hr := block_below hb1 hr
  clear hb1
  obtain ⟨k0, k1, k2, _, _, _⟩ := in3 hk
  obtain ⟨v0, v1, v2, _, _, _⟩ := in3 hv
  have r0 : w1.cell? ⟨w.heap.size + 1 + 1 + 1, 0, none⟩ = some (.slice none 0 0) := cell_block hr rfl
  have r1 : w1.cell? ⟨w.heap.size + 1 + 1 + 1, 1, none⟩ = some (.slice none 0 0) := cell_block hr rfl
  have f0 : w1.frozen? ⟨w.heap.size + 1 + 1 + 1, 0, none⟩ = false := frozen_block hr
  have f1 : w1.frozen? ⟨w.heap.size + 1 + 1 + 1, 1, none⟩ = false := frozen_block hr
  refine Lib.hid ?_
  go_wp2_with (go_at_call_of 21 k; refine (hV0 _).mono ?_; rintro e w2 ⟨rfl, hb1⟩; refine Hid.out ?_)
  clear k0 k1 k2 v0 v1 v2 r0 r1 f0 f1
  replace hb0 := hb0.trans (hb1.mono hb0.size)
  replace ht := block_below hb1 ht
  replace hk := block_below hb1 hk
  replace hv := block_below hb1 hv
  replace hr := block_below hb1 hr
  clear hb1
  obtain ⟨k0, k1, k2, _, _, _⟩ := in3 hk
  obtain ⟨v0, v1, v2, _, _, _⟩ := in3 hv
  have r0 : w2.cell? ⟨w.heap.size + 1 + 1 + 1, 0, none⟩ = some (.slice none 0 0) := cell_block hr rfl
  have r1 : w2.cell? ⟨w.heap.size + 1 + 1 + 1, 1, none⟩ = some (.slice none 0 0) := cell_block hr rfl
  have f0 : w2.frozen? ⟨w.heap.size + 1 + 1 + 1, 0, none⟩ = false := frozen_block hr
  have f1 : w2.frozen? ⟨w.heap.size + 1 + 1 + 1, 1, none⟩ = false := frozen_block hr
  refine Lib.hid ?_
  go_wp2_with (go_at_call_of 21 v; refine (hV1 _).mono ?_; rintro e w3 ⟨rfl, hb1⟩; refine Hid.out ?_)
  clear k0 k1 k2 v0 v1 v2 r0 r1 f0 f1
  replace hb0 := hb0.trans (hb1.mono hb0.size)
  replace ht := block_below hb1 ht
  replace hk := block_below hb1 hk
  replace hv := block_below hb1 hv
  replace hr := block_below hb1 hr
  clear hb1
  obtain ⟨k0, k1, k2, _, _, _⟩ := in3 hk
  obtain ⟨v0, v1, v2, _, _, _⟩ := in3 hv
  have r0 : w3.cell? ⟨w.heap.size + 1 + 1 + 1, 0, none⟩ = some (.slice none 0 0) := cell_block hr rfl
  have r1 : w3.cell? ⟨w.heap.size + 1 + 1 + 1, 1, none⟩ = some (.slice none 0 0) := cell_block hr rfl
  have f0 : w3.frozen? ⟨w.heap.size + 1 + 1 + 1, 0, none⟩ = false := frozen_block hr
  have f1 : w3.frozen? ⟨w.heap.size + 1 + 1 + 1, 1, none⟩ = false := frozen_block hr
  refine Lib.hid ?_
  go_wp2
  exact bodyPost_ret (res16 rfl rfl (put2_same hr)) rfl ⟨rfl, put2_below _ _ hb0 (by omega)⟩

end Go.Proofs.Ytkcieeckndimpaa
