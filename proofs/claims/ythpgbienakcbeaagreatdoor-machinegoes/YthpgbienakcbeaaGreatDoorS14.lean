/- The document's own answers: Same of two values, Find, May. -/
import Derived.Test.YthpgbienakcbeaaGreatDoorS13
import Derived.Deep.RegionHeld3
namespace Go.Proofs.YthpgbienakcbeaaGreatDoor
open Go.RowKit Go.Shelf Go
set_option maxRecDepth 100000
set_option maxHeartbeats 8000000
set_option linter.all false
variable {xs ys : List Vl} {x k : Vl} {m B : Nat} {tm : Array Value} {W : World}
section
variable [DecidableEq Vl]
theorem b0o (h : mayT xs ys = true) : xs.length = ys.length ∧ xs.length ≤ 100 ∧ (∀ x ∈ xs, stB x = true) ∧ (∀ y ∈ ys, stB y = true) ∧ xs.Nodup := by
 unfold mayT at h
 simp only [Bool.and_eq_true, decide_eq_true_eq, List.all_eq_true] at h
 exact ⟨h.1.1.1, h.1.1.2, h.1.2.1, h.1.2.2, h.2⟩
theorem b2m {pre : List Vl} (h : ¬ x ∈ pre) (r : List Vl) : scan false x (pre ++ r) = scan false x r := by
 induction pre with
 | nil => rfl
 | cons a pre ih =>
  simp at h
  rw [List.cons_append]
  show scan (decide (a = x)) x (pre ++ r) = _
  rw [decide_eq_false (fun e => h.1 e.symm)]
  exact ih h.2
theorem b2n (k : Vl) (r : List Vl) : scan true k r = (r.getD 0 nilV, 0) := by cases r <;> rfl
theorem a5g (x y : Vl) (w : World) : Calls Tryz.prog 23 #[x.v, y.v] w fun e w' => e = .returned (.bool (decide (x = y))) ∧ w' = (w.alloc (bx x)).alloc (bx y) := by
 by_cases h : x = y
 ·subst h
  rw [decide_eq_true rfl]
  exact b7v x.k x.n x.s w
 ·rw [decide_eq_false h]
  exact b7w x.k x.n y.k y.n x.s y.s w (fun e => h (Vl.ext' e.1 e.2.1 e.2.2))
def findI (xs : List Vl) (k : Vl) : Nat := xs.findIdx (fun x => decide (x = k))
theorem b6q (h : ∀ j, j < xs.length → xs[j]? ≠ some k) : findI xs k = xs.length := by
 unfold findI
 rw [List.findIdx_eq_length]
 intro x hx
 obtain ⟨j, hj, rfl⟩ := List.mem_iff_getElem.1 hx
 have hne := h j hj
 rw [List.getElem?_eq_getElem hj] at hne
 simpa using hne
theorem b5g (h : ∀ j, j < m → xs[j]? ≠ some k) (hm : xs[m]? = some k) : findI xs k = m := by
 unfold findI
 obtain ⟨hlt, e⟩ := List.getElem?_eq_some_iff.1 hm
 rw [List.findIdx_eq hlt]
 refine ⟨by simp [e], fun j hj => ?_⟩
 have hne := h j hj
 rw [List.getElem?_eq_getElem (show j < xs.length by omega)] at hne
 simpa using hne
theorem a5n (ks vs : Value) (xs ys : List Vl) (k : Vl) (w : World) (hT : Tab w.heap.size w ks vs xs ys) :
  Calls Tryz.prog 48 #[.agg #[ks, vs], k.v] w fun e w' => e = .returned (.int .i64 (findI xs k)) ∧ Below w.heap.size w w' := by
 obtain ⟨a, c1, rfl, hml, hrow⟩ := hT.keys
 obtain ⟨a', c2, rfl⟩ := hT.vals.slice
 have hml' : xs.length ≤ 9223372036854775807 := hml
 clear hT hml
 obtain ⟨W0, hW0⟩ := exq ((w.alloc (.cells #[.slice a xs.length c1, .slice a' ys.length c2] 57)).alloc (bx k))
 have hb0 : Below w.heap.size w W0 := by rw [← hW0]; exact ((Below.refl _ w).alloc (Nat.le_refl _) _).alloc (by simp) _
 have ht0 : W0.heap[w.heap.size]? = some (.cells #[.slice a xs.length c1, .slice a' ys.length c2] 57) := by rw [← hW0]; exact a0g _ (World.alloc_heap_new w _)
 have hk0 : W0.heap[w.heap.size + 1]? = some (bx k) := by
  have := World.alloc_heap_new (w.alloc (.cells #[.slice a xs.length c1, .slice a' ys.length c2] 57)) (bx k)
  simp only [World.size_alloc] at this
  rw [← hW0]; exact this
 go_enter Tryz.func48, Tryz.ntmps48
 go_wp2
 clear hW0
 go_loopw [5] (fun i wr => ∃ m : Nat, m ≤ xs.length ∧ i = .int .i64 m ∧ (∀ j, j < m → xs[j]? ≠ some k) ∧ wr.heap[w.heap.size]? = some (.cells #[.slice a xs.length c1, .slice a' ys.length c2] 57) ∧ wr.heap[w.heap.size + 1]? = some (bx k) ∧ Below w.heap.size w wr) (fun i _ => xs.length - (intOf i).toNat)
 case atStart => exact ⟨0, Nat.zero_le _, rfl, fun j hj => by omega, ht0, hk0, hb0⟩
 case round =>
  clear ht0 hk0 hb0
  obtain ⟨m, hm, rfl, hj, ht, hk, hb⟩ := hrel
  have x0 : wr.cell? ⟨w.heap.size, 0, none⟩ = some (.slice a xs.length c1) := a0a ht rfl
  by_cases hlt : m < xs.length
  ·obtain ⟨x, hx⟩ : ∃ x, xs[m]? = some x := ⟨xs[m], by simp [hlt]⟩
   obtain ⟨b, off, rfl, hbl, hel⟩ := hrow (by intro e; subst e; simp at hlt)
   obtain ⟨t0, t1, t2⟩ := (hel m x hx).below hb hbl
   obtain ⟨q0, q1, q2, _, _, _⟩ := in3 hk
   have hC := a5g x k wr.drew
   have hb3 : Below w.heap.size w ((wr.drew.alloc (bx x)).alloc (bx k)) := (hb.drew.alloc hb.size _).alloc (by simp; exact Nat.le_succ_of_le hb.size) _
   have ht3 : ((wr.drew.alloc (bx x)).alloc (bx k)).heap[w.heap.size]? = some (.cells #[.slice (some ⟨b, off, none⟩) xs.length c1, .slice a' ys.length c2] 57) := a0g _ (a0g (W := wr.drew) _ ht)
   have hk3 : ((wr.drew.alloc (bx x)).alloc (bx k)).heap[w.heap.size + 1]? = some (bx k) := a0g _ (a0g (W := wr.drew) _ hk)
   replace hj : Hid _ := hj
   replace hx : Hid _ := hx
   clear hrow hel ht hk
   by_cases he : x = k
   ·rw [decide_eq_true he] at hC
    replace he : Hid _ := he
    go_wp2
    go_region_with (first | (go_at_call 23; refine hC.mono ?_; rintro e w3 ⟨rfl, rfl⟩))
    all_goals
     go_wp2
     go_ret
     exact ⟨by rw [b5g hj.out (he.out ▸ hx.out)]; rfl, hb3⟩
   ·rw [decide_eq_false he] at hC
    replace he : Hid _ := he
    go_wp2
    go_region_with (first | (go_at_call 23; refine hC.mono ?_; rintro e w3 ⟨rfl, rfl⟩))
    all_goals
     go_wp2
     refine ⟨⟨m + 1, hlt, by simp, fun j hlt' => ?_, ht3, hk3, hb3⟩, by simp [intOf]; omega⟩
     rcases Nat.lt_or_ge j m with h | h
     ·exact hj.out j h
     ·obtain rfl : j = m := by omega
      rw [hx.out]
      exact fun e => he.out (Option.some.inj e)
  ·obtain rfl : m = xs.length := by omega
   replace hj : Hid _ := hj
   go_wp2
   go_ret
   exact ⟨by rw [b6q hj.out]; rfl, hb⟩
theorem b2o {n : Int} (h : (Lit.int .i64 n).wf = true) : -9223372036854775808 ≤ n ∧ n ≤ 9223372036854775807 := by
 simpa [Lit.wf, IntKind.min, IntKind.max, IntKind.signed, IntKind.bits] using h
theorem a3v (x : Vl) (w : World) : Calls Tryz.prog 47 #[x.v] w fun e w' => e = .returned (.bool (mayB x.k x.n x.s)) ∧ Below w.heap.size w w' :=
 (b1d x.k x.n x.s w (b2o x.wn).1 (b2o x.wn).2).mono fun e w' ⟨he, hw⟩ => ⟨he, by rw [hw]; exact (Below.refl _ _).alloc (Nat.le_refl _) _⟩
theorem b9h (ks vs : Value) (xs ys : List Vl) (w : World) (hT : Tab w.heap.size w ks vs xs ys) (h : (xs.length == ys.length) = false) :
  Calls Tryz.prog 22 #[.agg #[ks, vs]] w fun e w' => e = .returned (.bool false) ∧ Below w.heap.size w w' := by
 obtain ⟨a, c1, rfl⟩ := hT.keys.slice
 obtain ⟨a', c2, rfl⟩ := hT.vals.slice
 have h' : ((xs.length : Int) != (ys.length : Int)) = true := by simp at h ⊢; omega
 clear hT h
 go_enter Tryz.func22, Tryz.ntmps22
 go_wp2
 go_ret
 exact ⟨rfl, (Below.refl _ _).alloc (Nat.le_refl _) _⟩
theorem b6r (ks vs : Value) (xs ys : List Vl) (w : World) (hT : Tab w.heap.size w ks vs xs ys) (h : xs.length = ys.length) (hl : 100 < xs.length) :
  Calls Tryz.prog 22 #[.agg #[ks, vs]] w fun e w' => e = .returned (.bool false) ∧ Below w.heap.size w w' := by
 obtain ⟨a, c1, rfl⟩ := hT.keys.slice
 obtain ⟨a', c2, rfl⟩ := hT.vals.slice
 have h' : ((xs.length : Int) != (ys.length : Int)) = false := by simp; omega
 have h2 : (100 : Int) < (xs.length : Int) := by omega
 clear hT hl h
 go_enter Tryz.func22, Tryz.ntmps22
 go_wp2
 go_ret
 exact ⟨rfl, (Below.refl _ _).alloc (Nat.le_refl _) _⟩
def c8m (xs ys : List Vl) (m : Nat) : Prop := ∀ j x y, j < m → xs[j]? = some x → ys[j]? = some y → stB x = true ∧ stB y = true ∧ findI xs x = j
theorem c3m (hl : xs.length = ys.length) (hc : xs.length ≤ 100) (h : c8m xs ys xs.length) : mayT xs ys = true := by
 unfold mayT
 simp only [Bool.and_eq_true, decide_eq_true_eq, List.all_eq_true]
 refine ⟨⟨⟨hl, hc⟩, fun x hx => ?_, fun y hy => ?_⟩, ?_⟩
 ·obtain ⟨j, hj, rfl⟩ := List.mem_iff_getElem.1 hx
  exact (h j _ _ hj (List.getElem?_eq_getElem hj) (List.getElem?_eq_getElem (by omega))).1
 ·obtain ⟨j, hj, rfl⟩ := List.mem_iff_getElem.1 hy
  exact (h j _ _ (by omega) (List.getElem?_eq_getElem (by omega)) (List.getElem?_eq_getElem hj)).2.1
 ·rw [List.nodup_iff_pairwise_ne, List.pairwise_iff_getElem]
  intro i j hi hj hij e
  have h1 := (h i _ _ hi (List.getElem?_eq_getElem hi) (List.getElem?_eq_getElem (by omega))).2.2
  have h2 := (h j _ _ hj (List.getElem?_eq_getElem hj) (List.getElem?_eq_getElem (by omega))).2.2
  rw [e] at h1
  omega
theorem b6s (hn : xs.Nodup) (hx : xs[m]? = some x) : findI xs x = m := by
 refine b5g (fun j hj e => ?_) hx
 rw [List.nodup_iff_pairwise_ne] at hn
 exact b3t hn e hx hj rfl
theorem c8n {y : Vl} (hx : xs[m]? = some x) (hy : ys[m]? = some y) (h : ¬ (stB x = true ∧ stB y = true ∧ findI xs x = m)) : mayT xs ys = false := by
 cases h' : mayT xs ys
 ·rfl
 ·obtain ⟨_, _, h1, h2, h3⟩ := b0o h'
  exact absurd ⟨h1 x (List.mem_of_getElem? hx), h2 y (List.mem_of_getElem? hy), b6s h3 hx⟩ h
theorem b6t (ks vs : Value) (xs ys : List Vl) (w : World) (hT : Tab w.heap.size w ks vs xs ys) (hl : xs.length = ys.length) (hc : xs.length ≤ 100) :
  Calls Tryz.prog 22 #[.agg #[ks, vs]] w fun e w' => e = .returned (.bool (mayT xs ys)) ∧ Below w.heap.size w w' := by
 obtain ⟨a, c1, rfl, _, hrow⟩ := hT.keys
 obtain ⟨a', c2, rfl, _, hrow'⟩ := hT.vals
 rw [← hl] at hT ⊢
 replace hl : Hid _ := hl
 have g1 : ((xs.length : Int) != (xs.length : Int)) = false := by simp
 have g2 : ¬ (100 : Int) < (xs.length : Int) := by omega
 have ht0 := World.alloc_heap_new w (.cells #[.slice a xs.length c1, .slice a' xs.length c2] 57)
 have hb0 : Below w.heap.size w (w.alloc (.cells #[.slice a xs.length c1, .slice a' xs.length c2] 57)) := (Below.refl _ _).alloc (Nat.le_refl _) _
 replace hT : Hid _ := hT
 go_enter Tryz.func22, Tryz.ntmps22
 go_wp2
 go_loopw [4] (fun i wr => ∃ m : Nat, m ≤ xs.length ∧ i = .int .i64 m ∧ Hid (c8m xs ys m) ∧ wr.heap[w.heap.size]? = some (.cells #[.slice a xs.length c1, .slice a' xs.length c2] 57) ∧ Below w.heap.size w wr) (fun i _ => xs.length - (intOf i).toNat)
 case atStart => exact ⟨0, Nat.zero_le _, rfl, fun j x y hj => by omega, ht0, hb0⟩
 case round =>
  clear ht0 hb0
  obtain ⟨m, hm, rfl, hG, ht, hb⟩ := hrel
  have x0 : wr.cell? ⟨w.heap.size, 0, none⟩ = some (.slice a xs.length c1) := a0a ht rfl
  have x1 : wr.cell? ⟨w.heap.size, 1, none⟩ = some (.slice a' xs.length c2) := a0a ht rfl
  by_cases hlt : m < xs.length
  ·obtain ⟨x, hx⟩ : ∃ x, xs[m]? = some x := ⟨xs[m], by simp [hlt]⟩
   obtain ⟨y, hy⟩ : ∃ y, ys[m]? = some y := ⟨ys[m]'(by rw [← hl.out]; exact hlt), by rw [List.getElem?_eq_getElem]⟩
   obtain ⟨b, off, rfl, hbl, hel⟩ := hrow (by intro e; subst e; simp at hlt)
   obtain ⟨b', off', rfl, hbl', hel'⟩ := hrow' (by intro e; subst e; simp at hy)
   have T1 := (hel m x hx).below hb hbl
   have T2 := (hel' m y hy).below hb hbl'
   have hbad := c8n hx hy
   have hnext : stB x = true ∧ stB y = true ∧ findI xs x = m → Hid (c8m xs ys (m + 1)) := fun h j x' y' hj hx' hy' => by
    rcases Nat.lt_or_ge j m with h' | h'
    ·exact hG.out j x' y' h' hx' hy'
    ·obtain rfl : j = m := by omega
     rw [hx] at hx'
     rw [hy] at hy'
     cases hx'
     cases hy'
     exact h
   obtain ⟨t0, t1, t2⟩ := T1
   obtain ⟨s0, s1, s2⟩ := T2
   replace hbad : Hid _ := hbad
   replace hnext : Hid _ := hnext
   clear hx hy hG hrow hrow' hel hel'
   cases e1 : (x.k == 0)
   ·cases e2 : (y.k == 0)
    ·cases e3 : mayB x.k x.n x.s
     ·have hC := a3v x
      rw [e3] at hC
      replace e3 : Hid _ := e3
      go_wp2_with (go_at_call 47; refine (hC _).mono ?_; rintro e w3 ⟨rfl, hb3⟩)
      go_ret
      exact ⟨by rw [hbad.out (fun h => by simp [stB, e3.out] at h)]; rfl, hb.trans (hb3.mono hb.size)⟩
     ·have hC := a3v x
      rw [e3] at hC
      replace e3 : Hid _ := e3
      cases e4 : mayB y.k y.n y.s
      ·have hC' := a3v y
       rw [e4] at hC'
       replace e4 : Hid _ := e4
       go_wp2_with (go_at_call 47; refine (hC _).mono ?_; rintro e w3 ⟨rfl, hb3⟩; refine Hid.out ?_)
       replace ht := a0d hb3 ht
       obtain ⟨s0, s1, s2⟩ := (a1m.mk s0 s1 s2).below hb3 (World.block_lt_of_cell? _ _ s0)
       replace hb := hb.trans (hb3.mono hb.size)
       clear hC t0 t1 t2 hb3
       have x0 : w3.cell? ⟨w.heap.size, 0, none⟩ = some (.slice (some ⟨b, off, none⟩) xs.length c1) := a0a ht rfl
       have x1 : w3.cell? ⟨w.heap.size, 1, none⟩ = some (.slice (some ⟨b', off', none⟩) xs.length c2) := a0a ht rfl
       refine Lib.hid ?_
       go_wp2_with (go_at_call 47; refine (hC' _).mono ?_; rintro e w4 ⟨rfl, hb4⟩)
       go_ret
       exact ⟨by rw [hbad.out (fun h => by simp [stB, e4.out] at h)]; rfl, hb.trans (hb4.mono hb.size)⟩
      ·have hC' := a3v y
       rw [e4] at hC'
       replace e4 : Hid _ := e4
       go_wp2_with (go_at_call 47; refine (hC _).mono ?_; rintro e w3 ⟨rfl, hb3⟩; refine Hid.out ?_)
       replace ht := a0d hb3 ht
       obtain ⟨t0, t1, t2⟩ := (a1m.mk t0 t1 t2).below hb3 (World.block_lt_of_cell? _ _ t0)
       obtain ⟨s0, s1, s2⟩ := (a1m.mk s0 s1 s2).below hb3 (World.block_lt_of_cell? _ _ s0)
       replace hb := hb.trans (hb3.mono hb.size)
       clear hC hb3 x0 x1
       have x0 : w3.cell? ⟨w.heap.size, 0, none⟩ = some (.slice (some ⟨b, off, none⟩) xs.length c1) := a0a ht rfl
       have x1 : w3.cell? ⟨w.heap.size, 1, none⟩ = some (.slice (some ⟨b', off', none⟩) xs.length c2) := a0a ht rfl
       refine Lib.hid ?_
       go_wp2_with (go_at_call 47; refine (hC' _).mono ?_; rintro e w4 ⟨rfl, hb4⟩; refine Hid.out ?_)
       replace ht := a0d hb4 ht
       obtain ⟨t0, t1, t2⟩ := (a1m.mk t0 t1 t2).below hb4 (World.block_lt_of_cell? _ _ t0)
       replace hb := hb.trans (hb4.mono hb.size)
       have hF := a5n (.slice (some ⟨b, off, none⟩) xs.length c1) (.slice (some ⟨b', off', none⟩) xs.length c2) xs ys x w4.drew ((hT.out.below hb.drew).mono hb.drew.size)
       obtain ⟨fi, hfi⟩ := exq (findI xs x)
       have hF2 : Calls Tryz.prog 48 #[.agg #[.slice (some ⟨b, off, none⟩) xs.length c1, .slice (some ⟨b', off', none⟩) xs.length c2], x.v] w4.drew fun e w5 => e = .returned (.int .i64 fi) ∧ w5.heap[w.heap.size]? = some (.cells #[.slice (some ⟨b, off, none⟩) xs.length c1, .slice (some ⟨b', off', none⟩) xs.length c2] 57) ∧ Below w.heap.size w w5 := hF.mono (fun e w5 ⟨he, hb5⟩ =>
        ⟨by rw [he, hfi], a0d (W := w4.drew) hb5 ht, hb.drew.trans (hb5.mono hb.size)⟩)
       clear hC' hb4 x0 x1 s0 s1 s2 hF
       have x0 : w4.cell? ⟨w.heap.size, 0, none⟩ = some (.slice (some ⟨b, off, none⟩) xs.length c1) := a0a ht rfl
       have x1 : w4.cell? ⟨w.heap.size, 1, none⟩ = some (.slice (some ⟨b', off', none⟩) xs.length c2) := a0a ht rfl
       replace hfi : Hid _ := hfi
       refine Lib.hid ?_
       by_cases hfm : fi = m
       ·subst hfm
        go_wp2
        go_region_with (first | (go_at_call 48; refine hF2.mono ?_; rintro e w5 ⟨rfl, ht5, hb5⟩))
        all_goals
         go_wp2
         refine ⟨⟨fi + 1, hlt, by simp, hnext.out ⟨by simp [stB, bne, e1, e3.out], by simp [stB, bne, e2, e4.out], hfi.out⟩, ht5, hb5⟩, by simp [intOf]; omega⟩
       ·have hne : ((fi : Int) != (m : Int)) = true := by simp; omega
        replace hfm : Hid _ := hfm
        go_wp2
        go_region_with (first | (go_at_call 48; refine hF2.mono ?_; rintro e w5 ⟨rfl, ht5, hb5⟩))
        all_goals
         go_wp2
         go_ret
         exact ⟨by rw [hbad.out (fun h => hfm.out (hfi.out.symm.trans h.2.2))]; rfl, hb5⟩
    ·go_wp2
     go_ret
     exact ⟨by rw [hbad.out (fun h => by simp [stB, bne, e2] at h)]; rfl, hb⟩
   ·go_wp2
    go_ret
    exact ⟨by rw [hbad.out (fun h => by simp [stB, bne, e1] at h)]; rfl, hb⟩
  ·obtain rfl : m = xs.length := by omega
   go_wp2
   go_ret
   exact ⟨by rw [c3m hl.out hc hG.out]; rfl, hb⟩
theorem a9k (ks vs : Value) (xs ys : List Vl) (w : World) (hT : Tab w.heap.size w ks vs xs ys) :
  Calls Tryz.prog 22 #[.agg #[ks, vs]] w fun e w' => e = .returned (.bool (mayT xs ys)) ∧ Below w.heap.size w w' := by
 by_cases h : xs.length = ys.length
 ·by_cases hl : xs.length ≤ 100
  ·exact b6t ks vs xs ys w hT h hl
  ·have := b6r ks vs xs ys w hT h (by omega)
   have e : mayT xs ys = false := by simp [mayT, hl]
   rw [e]; exact this
 ·have := b9h ks vs xs ys w hT (by simpa using h)
  have e : mayT xs ys = false := by simp [mayT, h]
  rw [e]; exact this
theorem a3z (h : mayT xs ys = true) (ks vs : Value) (w : World) (hT : Tab w.heap.size w ks vs xs ys) :
  Calls Tryz.prog 22 #[.agg #[ks, vs]] w fun e w' => e = .returned (.bool true) ∧ Below w.heap.size w w' := h ▸ a9k ks vs xs ys w hT
theorem b1k (h : mayT xs ys = false) (ks vs : Value) (w : World) (hT : Tab w.heap.size w ks vs xs ys) :
  Calls Tryz.prog 22 #[.agg #[ks, vs]] w fun e w' => e = .returned (.bool false) ∧ Below w.heap.size w w' := h ▸ a9k ks vs xs ys w hT
theorem a4x (xs : List Vl) (k : Vl) : findI xs k ≤ xs.length := List.findIdx_le_length
theorem a7w (h : findI xs k < xs.length) : xs[findI xs k]? = some k := by
 unfold findI at h ⊢
 rw [List.getElem?_eq_getElem h]
 have := List.findIdx_getElem (w := h)
 simpa using this
theorem a3e {j : Nat} (h : j < findI xs k) : xs[j]? ≠ some k := by
 have hj : j < xs.length := Nat.lt_of_lt_of_le h (a4x xs k)
 rw [List.getElem?_eq_getElem hj]
 have := List.not_of_lt_findIdx h
 simpa using this
theorem b9i (hl : xs.length = ys.length) (k : Vl) : look (xs.zip ys) k = ys.getD (findI xs k) nilV := by
 by_cases h : findI xs k < xs.length
 ·have hx := a7w h
  obtain ⟨y, hy⟩ : ∃ y, ys[findI xs k]? = some y := ⟨ys[findI xs k]'(by omega), List.getElem?_eq_getElem _⟩
  have hz : (xs.zip ys)[findI xs k]? = some (k, y) := by rw [List.getElem?_zip_eq_some]; exact ⟨hx, hy⟩
  rw [b8k (ini := (xs.zip ys).take (findI xs k)) (y := y) (a9g hz) (fun p hp => ?_)]
  ·simp [List.getD, hy]
  ·obtain ⟨j, hj, e⟩ := List.mem_take_iff_getElem.1 hp
   have hj' : j < findI xs k := by omega
   have := a3e hj'
   intro e'
   apply this
   have hjx : j < xs.length := by omega
   rw [List.getElem?_eq_getElem hjx, ← e', ← e]
   simp
 ·have h0 : findI xs k = xs.length := Nat.le_antisymm (a4x xs k) (by omega)
  rw [b2l (fun p hp => ?_)]
  ·simp [List.getD, h0, hl]
  ·obtain ⟨j, hj, e⟩ := List.mem_iff_getElem.1 hp
   have hj' : j < findI xs k := by rw [h0]; simp at hj; omega
   have := a3e hj'
   intro e'
   apply this
   have hjx : j < xs.length := by omega
   rw [List.getElem?_eq_getElem hjx, ← e', ← e]
   simp
theorem res8 (h : tm[4]?.getD undef = .pointer (some ⟨B, 0, none⟩)) (hx : W.heap[B]? = some (bx x)) : (results Tryz.f87 tm).run Tryz.prog W = .ok x.v W := by
 obtain ⟨c0, c1, c2, _, _, _⟩ := in3 hx
 simp [results, Tryz.results87, go_sem, h, c0, c1, c2]
theorem a5z (w : World) (o0 : Obj) (k : Vl) {W1 : World} (hW : ((w.alloc o0).alloc (bx k)).alloc (bx nilV) = W1) :
  W1.heap.size = w.heap.size + 3 ∧ Below w.heap.size w W1 ∧ W1.heap[w.heap.size]? = some o0 ∧ W1.heap[w.heap.size + 1]? = some (bx k) ∧ W1.heap[w.heap.size + 1 + 1]? = some (bx nilV) := by
 subst hW
 refine ⟨by simp, (((Below.refl _ w).alloc (Nat.le_refl _) _).alloc (by simp) _).alloc (by simp; omega) _, a0g _ (a0g _ (World.alloc_heap_new w _)), ?_, ?_⟩
 ·have := a0g (bx nilV) (World.alloc_heap_new (w.alloc o0) (bx k))
  simpa only [World.size_alloc] using this
 ·have := World.alloc_heap_new ((w.alloc o0).alloc (bx k)) (bx nilV)
  simpa only [World.size_alloc] using this
theorem c3n (ks vs : Value) (xs ys : List Vl) (k : Vl) (w : World) (hT : Tab w.heap.size w ks vs xs ys) :
  Calls Tryz.prog 87 #[.agg #[ks, vs], k.v] w fun e w' => e = .returned (getT xs ys k).v ∧ Below w.heap.size w w' := by
 obtain ⟨a, c1, rfl, _, _⟩ := hT.keys
 obtain ⟨a', c2, rfl, _, hrow⟩ := hT.vals
 obtain ⟨W1, hW1⟩ := exq (((w.alloc (.cells #[.slice a xs.length c1, .slice a' ys.length c2] 57)).alloc (bx k)).alloc (bx nilV))
 obtain ⟨hs1, hb0, ht, hk, hr⟩ := a5z w _ k hW1
 have hF := a5n (.slice a xs.length c1) (.slice a' ys.length c2) xs ys k _ ((hT.below hb0).mono hb0.size)
 obtain ⟨fi, hfi⟩ := exq (findI xs k)
 have hfl := a4x xs k
 rw [hfi] at hF hfl
 have hgt : getT xs ys k = if mayT xs ys = true then ys.getD fi nilV else nilV := by
  unfold getT
  split
  ·rename_i h
   rw [b9i (a2z h).1, hfi]
  ·rfl
 rw [hgt]
 rw [← hW1] at hF
 clear hfi hgt
 cases h : mayT xs ys
 ·have hM := b1k h (.slice a xs.length c1) (.slice a' ys.length c2)
  rw [if_neg (by simp)]
  clear h
  go_enter Tryz.func87, Tryz.ntmps87
  go_wp2_with (go_at_call 48; refine hF.mono ?_; rintro e w1 ⟨rfl, hb1⟩; refine Hid.out ?_)
  rw [hW1] at hb1
  replace hb0 := hb0.trans (hb1.mono hb0.size)
  replace hM := hM w1 ((hT.below hb0).mono hb0.size)
  replace ht := a0d hb1 ht
  replace hr := a0d hb1 hr
  have x0 : w1.cell? ⟨w.heap.size, 0, none⟩ = some (.slice a xs.length c1) := a0a ht rfl
  have x1 : w1.cell? ⟨w.heap.size, 1, none⟩ = some (.slice a' ys.length c2) := a0a ht rfl
  clear hF hW1 hb1 hT hrow
  refine Lib.hid ?_
  go_wp2_with (go_at_call 22; refine hM.mono ?_; rintro e w2 ⟨rfl, hb2⟩; refine Hid.out ?_)
  replace hr := a0d hb2 hr
  obtain ⟨c0, c1', c2', f0, f1, f2⟩ := in3 hr
  clear hM x0 x1
  refine Lib.hid ?_
  go_wp2
  exact bodyPost_ret (v := nilV.v) (res8 rfl (a0o nilV hr)) rfl ⟨rfl, a0r nilV (hb0.trans (hb2.mono hb0.size)) (by omega)⟩
 ·have hM := a3z h (.slice a xs.length c1) (.slice a' ys.length c2)
  have hll := (a2z h).1
  rw [if_pos rfl]
  obtain ⟨y, hy⟩ := exq (ys.getD fi nilV)
  rw [hy]
  replace hll : Hid _ := hll
  clear h
  go_enter Tryz.func87, Tryz.ntmps87
  go_wp2_with (go_at_call 48; refine hF.mono ?_; rintro e w1 ⟨rfl, hb1⟩; refine Hid.out ?_)
  rw [hW1] at hb1
  replace hb0 := hb0.trans (hb1.mono hb0.size)
  replace hM := hM w1 ((hT.below hb0).mono hb0.size)
  replace ht := a0d hb1 ht
  replace hr := a0d hb1 hr
  have x0 : w1.cell? ⟨w.heap.size, 0, none⟩ = some (.slice a xs.length c1) := a0a ht rfl
  have x1 : w1.cell? ⟨w.heap.size, 1, none⟩ = some (.slice a' ys.length c2) := a0a ht rfl
  clear hF hW1 hb1 hT
  refine Lib.hid ?_
  go_wp2_with (go_at_call 22; refine hM.mono ?_; rintro e w2 ⟨rfl, hb2⟩; refine Hid.out ?_)
  replace hr := a0d hb2 hr
  replace ht := a0d hb2 ht
  have hbw := hb0.trans (hb2.mono hb0.size)
  obtain ⟨c0, c1', c2', f0, f1, f2⟩ := in3 hr
  clear hM x0 x1
  have x0 : w2.cell? ⟨w.heap.size, 0, none⟩ = some (.slice a xs.length c1) := a0a ht rfl
  have x1 : w2.cell? ⟨w.heap.size, 1, none⟩ = some (.slice a' ys.length c2) := a0a ht rfl
  refine Lib.hid ?_
  by_cases hlt : fi < xs.length
  ·have hlt' : (fi : Int) < (xs.length : Int) := by omega
   have hlt2 : fi < ys.length := by have := hll.out; omega
   have hy' : ys[fi]? = some y := by
    rw [← hy, List.getD, List.getElem?_eq_getElem (by have := hll.out; omega)]
    rfl
   obtain ⟨b, off, rfl, hbl, hel⟩ := hrow (by intro e; subst e; simp at hy')
   obtain ⟨t0, t1, t2⟩ := (hel fi y hy').below hbw hbl
   clear hy hy' hrow hel
   go_wp2
   exact bodyPost_ret (v := y.v) (res8 rfl (a0o y hr)) rfl ⟨rfl, a0r y hbw (by omega)⟩
  ·have hge : (xs.length : Int) ≤ (fi : Int) := by omega
   obtain rfl : nilV = y := by
    rw [← hy, List.getD, List.getElem?_eq_none (by have := hll.out; omega)]
    rfl
   clear hy hrow
   go_wp2
   exact bodyPost_ret (v := nilV.v) (res8 rfl (a0o nilV hr)) rfl ⟨rfl, a0r nilV hbw (by omega)⟩
theorem c3o (hx : xs[m]? = some x) : xs = xs.take m ++ x :: xs.drop (m + 1) := by
 obtain ⟨hm, e⟩ := List.getElem?_eq_some_iff.1 hx
 rw [← e, List.getElem_cons_drop, List.take_append_drop]
theorem b9j (xs : List Vl) (k : Vl) : scan false k xs = if findI xs k < xs.length then (xs.getD (findI xs k + 1) nilV, 0) else (nilV, 4) := by
 by_cases h : findI xs k < xs.length
 ·rw [if_pos h]
  have hx := a7w h
  have hb := fun j (hj : j < findI xs k) => a3e hj
  generalize findI xs k = fi at *
  have hni : ¬ k ∈ xs.take fi := by
   intro hin
   obtain ⟨j, hj, e'⟩ := List.mem_take_iff_getElem.1 hin
   exact hb j (by omega) (by rw [List.getElem?_eq_getElem (by omega), e'])
  have key : scan false k (xs.take fi ++ k :: xs.drop (fi + 1)) = (xs.getD (fi + 1) nilV, 0) := by
   rw [b2m hni]
   show scan (decide (k = k)) k _ = _
   rw [decide_eq_true rfl, b2n]
   simp [List.getD, List.getElem?_drop]
  rw [← c3o hx] at key
  exact key
 ·rw [if_neg h]
  have h0 : findI xs k = xs.length := Nat.le_antisymm (a4x xs k) (by omega)
  have hni : ¬ k ∈ xs := by
   intro hin
   obtain ⟨j, hj, e'⟩ := List.mem_iff_getElem.1 hin
   exact a3e (k := k) (xs := xs) (j := j) (by omega) (by rw [List.getElem?_eq_getElem (by omega), e'])
  have := b2m hni []
  rw [List.append_nil] at this
  rw [this]
  rfl
theorem b3y {c : Int} (h : tm[4]?.getD undef = .pointer (some ⟨B, 0, none⟩)) (h' : tm[5]?.getD undef = .int .i64 c) (hx : W.heap[B]? = some (bx x)) :
  (results Tryz.f89 tm).run Tryz.prog W = .ok (.tuple #[x.v, .int .i64 c]) W := by
 obtain ⟨c0, c1, c2, _, _, _⟩ := in3 hx
 simp [results, Tryz.results89, go_sem, h, h', c0, c1, c2]
theorem c8o (ks vs : Value) (xs ys : List Vl) (k : Vl) (w : World) (hT : Tab w.heap.size w ks vs xs ys) (h : mayT xs ys = false) :
  Calls Tryz.prog 89 #[.agg #[ks, vs], k.v] w fun e w' => e = .returned (.tuple #[nilV.v, .int .i64 2]) ∧ Below w.heap.size w w' := by
 obtain ⟨a, c1, rfl, hml, hrow⟩ := hT.keys
 obtain ⟨a', c2, rfl, _, _⟩ := hT.vals
 obtain ⟨W1, hW1⟩ := exq (((w.alloc (.cells #[.slice a xs.length c1, .slice a' ys.length c2] 57)).alloc (bx k)).alloc (bx nilV))
 obtain ⟨hs1, hb0, ht, hk, hr⟩ := a5z w _ k hW1
 have hM := b1k h (.slice a xs.length c1) (.slice a' ys.length c2) _ ((hT.below hb0).mono hb0.size)
 rw [← hW1] at hM
 clear h hrow hml
 go_enter Tryz.func89, Tryz.ntmps89
 go_wp2_with (go_at_call 22; refine hM.mono ?_; rintro e w1 ⟨rfl, hb1⟩; refine Hid.out ?_)
 rw [hW1] at hb1
 replace hb0 := hb0.trans (hb1.mono hb0.size)
 replace hr := a0d hb1 hr
 obtain ⟨c0, c1', c2', f0, f1, f2⟩ := in3 hr
 clear hM hW1 hb1 hT
 refine Lib.hid ?_
 go_wp2
 exact bodyPost_ret (v := .tuple #[nilV.v, .int .i64 2]) (b3y rfl rfl (a0o nilV hr)) rfl ⟨rfl, a0r nilV hb0 (by omega)⟩
theorem c8p (ks vs : Value) (xs ys : List Vl) (k : Vl) (w : World) (hT : Tab w.heap.size w ks vs xs ys) (h : mayT xs ys = true) (h' : mayB k.k k.n k.s = false) :
  Calls Tryz.prog 89 #[.agg #[ks, vs], k.v] w fun e w' => e = .returned (.tuple #[nilV.v, .int .i64 2]) ∧ Below w.heap.size w w' := by
 obtain ⟨a, c1, rfl, hml, hrow⟩ := hT.keys
 obtain ⟨a', c2, rfl, _, _⟩ := hT.vals
 obtain ⟨W1, hW1⟩ := exq (((w.alloc (.cells #[.slice a xs.length c1, .slice a' ys.length c2] 57)).alloc (bx k)).alloc (bx nilV))
 obtain ⟨hs1, hb0, ht, hk, hr⟩ := a5z w _ k hW1
 have hM := a3z h (.slice a xs.length c1) (.slice a' ys.length c2) _ ((hT.below hb0).mono hb0.size)
 rw [← hW1] at hM
 have hV := a3v k
 rw [h'] at hV
 clear h h'
 go_enter Tryz.func89, Tryz.ntmps89
 go_wp2_with (go_at_call 22; refine hM.mono ?_; rintro e w1 ⟨rfl, hb1⟩; refine Hid.out ?_)
 rw [hW1] at hb1
 replace hb0 := hb0.trans (hb1.mono hb0.size)
 replace hr := a0d hb1 hr
 replace hk := a0d hb1 hk
 replace ht := a0d hb1 ht
 obtain ⟨k0, k1, k2, _, _, _⟩ := in3 hk
 clear hM hW1 hb1
 refine Lib.hid ?_
 go_wp2_with (go_at_call 47; refine (hV _).mono ?_; rintro e w2 ⟨rfl, hb2⟩; refine Hid.out ?_)
 replace hb0 := hb0.trans (hb2.mono hb0.size)
 replace hr := a0d hb2 hr
 replace hk := a0d hb2 hk
 replace ht := a0d hb2 ht
 clear hV hb2 k0 k1 k2
 obtain ⟨k0, k1, k2, _, _, _⟩ := in3 hk
 obtain ⟨c0, c1', c2', f0, f1, f2⟩ := in3 hr
 have x0 : w2.cell? ⟨w.heap.size, 0, none⟩ = some (.slice a xs.length c1) := a0a ht rfl
 have x1 : w2.cell? ⟨w.heap.size, 1, none⟩ = some (.slice a' ys.length c2) := a0a ht rfl
 refine Lib.hid ?_
 go_wp2
 exact bodyPost_ret (v := .tuple #[nilV.v, .int .i64 2]) (b3y rfl rfl (a0o nilV hr)) rfl ⟨rfl, a0r nilV hb0 (by omega)⟩
theorem c3p (ks vs : Value) (xs ys : List Vl) (k : Vl) (w : World) (hT : Tab w.heap.size w ks vs xs ys) (h : mayT xs ys = true) (h' : mayB k.k k.n k.s = true) (hk0 : (k.k == 0) = true) (x : Vl) (hx : xs[0]? = some x) :
  Calls Tryz.prog 89 #[.agg #[ks, vs], k.v] w fun e w' => e = .returned (.tuple #[x.v, .int .i64 0]) ∧ Below w.heap.size w w' := by
 obtain ⟨a, c1, rfl, hml, hrow⟩ := hT.keys
 obtain ⟨a', c2, rfl, _, _⟩ := hT.vals
 obtain ⟨W1, hW1⟩ := exq (((w.alloc (.cells #[.slice a xs.length c1, .slice a' ys.length c2] 57)).alloc (bx k)).alloc (bx nilV))
 obtain ⟨hs1, hb0, ht, hk, hr⟩ := a5z w _ k hW1
 have hM := a3z h (.slice a xs.length c1) (.slice a' ys.length c2) _ ((hT.below hb0).mono hb0.size)
 rw [← hW1] at hM
 have hV := a3v k
 rw [h'] at hV
 clear h h'
 go_enter Tryz.func89, Tryz.ntmps89
 go_wp2_with (go_at_call 22; refine hM.mono ?_; rintro e w1 ⟨rfl, hb1⟩; refine Hid.out ?_)
 rw [hW1] at hb1
 replace hb0 := hb0.trans (hb1.mono hb0.size)
 replace hr := a0d hb1 hr
 replace hk := a0d hb1 hk
 replace ht := a0d hb1 ht
 obtain ⟨k0, k1, k2, _, _, _⟩ := in3 hk
 clear hM hW1 hb1
 refine Lib.hid ?_
 go_wp2_with (go_at_call 47; refine (hV _).mono ?_; rintro e w2 ⟨rfl, hb2⟩; refine Hid.out ?_)
 replace hb0 := hb0.trans (hb2.mono hb0.size)
 replace hr := a0d hb2 hr
 replace hk := a0d hb2 hk
 replace ht := a0d hb2 ht
 clear hV hb2 k0 k1 k2
 obtain ⟨k0, k1, k2, _, _, _⟩ := in3 hk
 obtain ⟨c0, c1', c2', f0, f1, f2⟩ := in3 hr
 have x0 : w2.cell? ⟨w.heap.size, 0, none⟩ = some (.slice a xs.length c1) := a0a ht rfl
 have x1 : w2.cell? ⟨w.heap.size, 1, none⟩ = some (.slice a' ys.length c2) := a0a ht rfl
 have hlt : 0 < xs.length := by cases xs with | nil => simp at hx | cons => simp
 have hne : (k.k != 0) = false := by simpa using hk0
 obtain ⟨b, off, rfl, hbl, hel⟩ := hrow (by intro e; subst e; simp at hx)
 obtain ⟨t0, t1, t2⟩ := (hel 0 x hx).below hb0 hbl
 clear hrow hel hT
 replace hx : Hid _ := hx
 refine Lib.hid ?_
 simp only [Nat.zero_mul, Nat.add_zero] at t0 t1 t2
 go_wp2
 exact bodyPost_ret (v := .tuple #[x.v, .int .i64 0]) (b3y rfl rfl (a0o x hr)) rfl ⟨rfl, a0r x hb0 (by omega)⟩
theorem c3q (ks vs : Value) (xs ys : List Vl) (k : Vl) (w : World) (hT : Tab w.heap.size w ks vs xs ys) (h : mayT xs ys = true) (h' : mayB k.k k.n k.s = true) (hk0 : (k.k == 0) = true) (hx : Hid (xs = [])) :
  Calls Tryz.prog 89 #[.agg #[ks, vs], k.v] w fun e w' => e = .returned (.tuple #[nilV.v, .int .i64 0]) ∧ Below w.heap.size w w' := by
 obtain ⟨a, c1, rfl, hml, hrow⟩ := hT.keys
 obtain ⟨a', c2, rfl, _, _⟩ := hT.vals
 obtain ⟨W1, hW1⟩ := exq (((w.alloc (.cells #[.slice a xs.length c1, .slice a' ys.length c2] 57)).alloc (bx k)).alloc (bx nilV))
 obtain ⟨hs1, hb0, ht, hk, hr⟩ := a5z w _ k hW1
 have hM := a3z h (.slice a xs.length c1) (.slice a' ys.length c2) _ ((hT.below hb0).mono hb0.size)
 rw [← hW1] at hM
 have hV := a3v k
 rw [h'] at hV
 clear h h'
 go_enter Tryz.func89, Tryz.ntmps89
 go_wp2_with (go_at_call 22; refine hM.mono ?_; rintro e w1 ⟨rfl, hb1⟩; refine Hid.out ?_)
 rw [hW1] at hb1
 replace hb0 := hb0.trans (hb1.mono hb0.size)
 replace hr := a0d hb1 hr
 replace hk := a0d hb1 hk
 replace ht := a0d hb1 ht
 obtain ⟨k0, k1, k2, _, _, _⟩ := in3 hk
 clear hM hW1 hb1
 refine Lib.hid ?_
 go_wp2_with (go_at_call 47; refine (hV _).mono ?_; rintro e w2 ⟨rfl, hb2⟩; refine Hid.out ?_)
 replace hb0 := hb0.trans (hb2.mono hb0.size)
 replace hr := a0d hb2 hr
 replace hk := a0d hb2 hk
 replace ht := a0d hb2 ht
 clear hV hb2 k0 k1 k2
 obtain ⟨k0, k1, k2, _, _, _⟩ := in3 hk
 obtain ⟨c0, c1', c2', f0, f1, f2⟩ := in3 hr
 have x0 : w2.cell? ⟨w.heap.size, 0, none⟩ = some (.slice a xs.length c1) := a0a ht rfl
 have x1 : w2.cell? ⟨w.heap.size, 1, none⟩ = some (.slice a' ys.length c2) := a0a ht rfl
 have hlt : (xs.length : Int) ≤ 0 := by rw [hx.out]; simp
 have hne : (k.k != 0) = false := by simpa using hk0
 clear hx hrow hT
 refine Lib.hid ?_
 go_wp2
 exact bodyPost_ret (v := .tuple #[nilV.v, .int .i64 0]) (b3y rfl rfl (a0o nilV hr)) rfl ⟨rfl, a0r nilV hb0 (by omega)⟩
theorem c3r (ks vs : Value) (xs ys : List Vl) (k : Vl) (w : World) (hT : Tab w.heap.size w ks vs xs ys) (h : mayT xs ys = true) (h' : mayB k.k k.n k.s = true) (hk0 : (k.k == 0) = false) (fi : Nat) (hfi : findI xs k = fi) (hge : fi = xs.length) :
  Calls Tryz.prog 89 #[.agg #[ks, vs], k.v] w fun e w' => e = .returned (.tuple #[nilV.v, .int .i64 4]) ∧ Below w.heap.size w w' := by
 obtain ⟨a, c1, rfl, hml, hrow⟩ := hT.keys
 obtain ⟨a', c2, rfl, _, _⟩ := hT.vals
 obtain ⟨W1, hW1⟩ := exq (((w.alloc (.cells #[.slice a xs.length c1, .slice a' ys.length c2] 57)).alloc (bx k)).alloc (bx nilV))
 obtain ⟨hs1, hb0, ht, hk, hr⟩ := a5z w _ k hW1
 have hM := a3z h (.slice a xs.length c1) (.slice a' ys.length c2) _ ((hT.below hb0).mono hb0.size)
 rw [← hW1] at hM
 have hV := a3v k
 rw [h'] at hV
 clear h h'
 go_enter Tryz.func89, Tryz.ntmps89
 go_wp2_with (go_at_call 22; refine hM.mono ?_; rintro e w1 ⟨rfl, hb1⟩; refine Hid.out ?_)
 rw [hW1] at hb1
 replace hb0 := hb0.trans (hb1.mono hb0.size)
 replace hr := a0d hb1 hr
 replace hk := a0d hb1 hk
 replace ht := a0d hb1 ht
 obtain ⟨k0, k1, k2, _, _, _⟩ := in3 hk
 clear hM hW1 hb1
 refine Lib.hid ?_
 go_wp2_with (go_at_call 47; refine (hV _).mono ?_; rintro e w2 ⟨rfl, hb2⟩; refine Hid.out ?_)
 replace hb0 := hb0.trans (hb2.mono hb0.size)
 replace hr := a0d hb2 hr
 replace hk := a0d hb2 hk
 replace ht := a0d hb2 ht
 clear hV hb2 k0 k1 k2
 obtain ⟨k0, k1, k2, _, _, _⟩ := in3 hk
 obtain ⟨c0, c1', c2', f0, f1, f2⟩ := in3 hr
 have x0 : w2.cell? ⟨w.heap.size, 0, none⟩ = some (.slice a xs.length c1) := a0a ht rfl
 have x1 : w2.cell? ⟨w.heap.size, 1, none⟩ = some (.slice a' ys.length c2) := a0a ht rfl
 have hne : (k.k != 0) = true := by simpa using hk0
 have hF := a5n (.slice a xs.length c1) (.slice a' ys.length c2) xs ys k w2 ((hT.below hb0).mono hb0.size)
 rw [hfi] at hF
 replace hfi : Hid _ := hfi
 refine Lib.hid ?_
 go_wp2_with (go_at_call 48; refine hF.mono ?_; rintro e w3 ⟨rfl, hb3⟩; refine Hid.out ?_)
 replace hb0 := hb0.trans (hb3.mono hb0.size)
 replace hr := a0d hb3 hr
 replace ht := a0d hb3 ht
 clear hF hb3 k0 k1 k2 c0 c1' c2' f0 f1 f2 x0 x1 hk
 obtain ⟨c0, c1', c2', f0, f1, f2⟩ := in3 hr
 have x0 : w3.cell? ⟨w.heap.size, 0, none⟩ = some (.slice a xs.length c1) := a0a ht rfl
 have x1 : w3.cell? ⟨w.heap.size, 1, none⟩ = some (.slice a' ys.length c2) := a0a ht rfl
 have he : ((fi : Int) == (xs.length : Int)) = true := by simp; omega
 replace hge : Hid _ := hge
 clear hrow hT
 refine Lib.hid ?_
 go_wp2
 exact bodyPost_ret (v := .tuple #[nilV.v, .int .i64 4]) (b3y rfl rfl (a0o nilV hr)) rfl ⟨rfl, a0r nilV hb0 (by omega)⟩
theorem c3s (ks vs : Value) (xs ys : List Vl) (k : Vl) (w : World) (hT : Tab w.heap.size w ks vs xs ys) (h : mayT xs ys = true) (h' : mayB k.k k.n k.s = true) (hk0 : (k.k == 0) = false) (fi : Nat) (hfi : findI xs k = fi) (hlt : fi + 1 < xs.length) (x : Vl) (hx : xs[fi + 1]? = some x) :
  Calls Tryz.prog 89 #[.agg #[ks, vs], k.v] w fun e w' => e = .returned (.tuple #[x.v, .int .i64 0]) ∧ Below w.heap.size w w' := by
 obtain ⟨a, c1, rfl, hml, hrow⟩ := hT.keys
 obtain ⟨a', c2, rfl, _, _⟩ := hT.vals
 obtain ⟨W1, hW1⟩ := exq (((w.alloc (.cells #[.slice a xs.length c1, .slice a' ys.length c2] 57)).alloc (bx k)).alloc (bx nilV))
 obtain ⟨hs1, hb0, ht, hk, hr⟩ := a5z w _ k hW1
 have hml' : xs.length ≤ 9223372036854775807 := hml
 have hM := a3z h (.slice a xs.length c1) (.slice a' ys.length c2) _ ((hT.below hb0).mono hb0.size)
 rw [← hW1] at hM
 have hV := a3v k
 rw [h'] at hV
 clear h h'
 go_enter Tryz.func89, Tryz.ntmps89
 go_wp2_with (go_at_call 22; refine hM.mono ?_; rintro e w1 ⟨rfl, hb1⟩; refine Hid.out ?_)
 rw [hW1] at hb1
 replace hb0 := hb0.trans (hb1.mono hb0.size)
 replace hr := a0d hb1 hr
 replace hk := a0d hb1 hk
 replace ht := a0d hb1 ht
 obtain ⟨k0, k1, k2, _, _, _⟩ := in3 hk
 clear hM hW1 hb1
 refine Lib.hid ?_
 go_wp2_with (go_at_call 47; refine (hV _).mono ?_; rintro e w2 ⟨rfl, hb2⟩; refine Hid.out ?_)
 replace hb0 := hb0.trans (hb2.mono hb0.size)
 replace hr := a0d hb2 hr
 replace hk := a0d hb2 hk
 replace ht := a0d hb2 ht
 clear hV hb2 k0 k1 k2
 obtain ⟨k0, k1, k2, _, _, _⟩ := in3 hk
 obtain ⟨c0, c1', c2', f0, f1, f2⟩ := in3 hr
 have x0 : w2.cell? ⟨w.heap.size, 0, none⟩ = some (.slice a xs.length c1) := a0a ht rfl
 have x1 : w2.cell? ⟨w.heap.size, 1, none⟩ = some (.slice a' ys.length c2) := a0a ht rfl
 have hne : (k.k != 0) = true := by simpa using hk0
 have hF := a5n (.slice a xs.length c1) (.slice a' ys.length c2) xs ys k w2 ((hT.below hb0).mono hb0.size)
 rw [hfi] at hF
 replace hfi : Hid _ := hfi
 refine Lib.hid ?_
 go_wp2_with (go_at_call 48; refine hF.mono ?_; rintro e w3 ⟨rfl, hb3⟩; refine Hid.out ?_)
 replace hb0 := hb0.trans (hb3.mono hb0.size)
 replace hr := a0d hb3 hr
 replace ht := a0d hb3 ht
 clear hF hb3 k0 k1 k2 c0 c1' c2' f0 f1 f2 x0 x1 hk
 obtain ⟨c0, c1', c2', f0, f1, f2⟩ := in3 hr
 have x0 : w3.cell? ⟨w.heap.size, 0, none⟩ = some (.slice a xs.length c1) := a0a ht rfl
 have x1 : w3.cell? ⟨w.heap.size, 1, none⟩ = some (.slice a' ys.length c2) := a0a ht rfl
 have he : ((fi : Int) == (xs.length : Int)) = false := by simp; omega
 obtain ⟨b, off, rfl, hbl, hel⟩ := hrow (by intro e; subst e; simp at hx)
 obtain ⟨t0, t1, t2⟩ := (hel (fi + 1) x hx).below hb0 hbl
 clear hrow hel hT
 replace hx : Hid _ := hx
 refine Lib.hid ?_
 go_wp2
 exact bodyPost_ret (v := .tuple #[x.v, .int .i64 0]) (b3y rfl rfl (a0o x hr)) rfl ⟨rfl, a0r x hb0 (by omega)⟩
theorem c3t (ks vs : Value) (xs ys : List Vl) (k : Vl) (w : World) (hT : Tab w.heap.size w ks vs xs ys) (h : mayT xs ys = true) (h' : mayB k.k k.n k.s = true) (hk0 : (k.k == 0) = false) (fi : Nat) (hfi : findI xs k = fi) (hlt : fi + 1 = xs.length) :
  Calls Tryz.prog 89 #[.agg #[ks, vs], k.v] w fun e w' => e = .returned (.tuple #[nilV.v, .int .i64 0]) ∧ Below w.heap.size w w' := by
 obtain ⟨a, c1, rfl, hml, hrow⟩ := hT.keys
 obtain ⟨a', c2, rfl, _, _⟩ := hT.vals
 obtain ⟨W1, hW1⟩ := exq (((w.alloc (.cells #[.slice a xs.length c1, .slice a' ys.length c2] 57)).alloc (bx k)).alloc (bx nilV))
 obtain ⟨hs1, hb0, ht, hk, hr⟩ := a5z w _ k hW1
 have hml' : xs.length ≤ 9223372036854775807 := hml
 have hM := a3z h (.slice a xs.length c1) (.slice a' ys.length c2) _ ((hT.below hb0).mono hb0.size)
 rw [← hW1] at hM
 have hV := a3v k
 rw [h'] at hV
 clear h h'
 go_enter Tryz.func89, Tryz.ntmps89
 go_wp2_with (go_at_call 22; refine hM.mono ?_; rintro e w1 ⟨rfl, hb1⟩; refine Hid.out ?_)
 rw [hW1] at hb1
 replace hb0 := hb0.trans (hb1.mono hb0.size)
 replace hr := a0d hb1 hr
 replace hk := a0d hb1 hk
 replace ht := a0d hb1 ht
 obtain ⟨k0, k1, k2, _, _, _⟩ := in3 hk
 clear hM hW1 hb1
 refine Lib.hid ?_
 go_wp2_with (go_at_call 47; refine (hV _).mono ?_; rintro e w2 ⟨rfl, hb2⟩; refine Hid.out ?_)
 replace hb0 := hb0.trans (hb2.mono hb0.size)
 replace hr := a0d hb2 hr
 replace hk := a0d hb2 hk
 replace ht := a0d hb2 ht
 clear hV hb2 k0 k1 k2
 obtain ⟨k0, k1, k2, _, _, _⟩ := in3 hk
 obtain ⟨c0, c1', c2', f0, f1, f2⟩ := in3 hr
 have x0 : w2.cell? ⟨w.heap.size, 0, none⟩ = some (.slice a xs.length c1) := a0a ht rfl
 have x1 : w2.cell? ⟨w.heap.size, 1, none⟩ = some (.slice a' ys.length c2) := a0a ht rfl
 have hne : (k.k != 0) = true := by simpa using hk0
 have hF := a5n (.slice a xs.length c1) (.slice a' ys.length c2) xs ys k w2 ((hT.below hb0).mono hb0.size)
 rw [hfi] at hF
 replace hfi : Hid _ := hfi
 refine Lib.hid ?_
 go_wp2_with (go_at_call 48; refine hF.mono ?_; rintro e w3 ⟨rfl, hb3⟩; refine Hid.out ?_)
 replace hb0 := hb0.trans (hb3.mono hb0.size)
 replace hr := a0d hb3 hr
 replace ht := a0d hb3 ht
 clear hF hb3 k0 k1 k2 c0 c1' c2' f0 f1 f2 x0 x1 hk
 obtain ⟨c0, c1', c2', f0, f1, f2⟩ := in3 hr
 have x0 : w3.cell? ⟨w.heap.size, 0, none⟩ = some (.slice a xs.length c1) := a0a ht rfl
 have x1 : w3.cell? ⟨w.heap.size, 1, none⟩ = some (.slice a' ys.length c2) := a0a ht rfl
 have he : ((fi : Int) == (xs.length : Int)) = false := by simp; omega
 have hge : (xs.length : Int) ≤ (fi : Int) + 1 := by omega
 have hlt2 : fi < xs.length := by omega
 replace hlt : Hid _ := hlt
 clear hrow hT
 refine Lib.hid ?_
 go_wp2
 exact bodyPost_ret (v := .tuple #[nilV.v, .int .i64 0]) (b3y rfl rfl (a0o nilV hr)) rfl ⟨rfl, a0r nilV hb0 (by omega)⟩
theorem b9k (ks vs : Value) (xs ys : List Vl) (k : Vl) (w : World) (hT : Tab w.heap.size w ks vs xs ys) :
  Calls Tryz.prog 89 #[.agg #[ks, vs], k.v] w fun e w' => e = .returned (.tuple #[(a3j xs ys k).1.v, .int .i64 (a3j xs ys k).2]) ∧ Below w.heap.size w w' := by
 unfold a3j
 cases h : mayT xs ys
 ·exact c8o ks vs xs ys k w hT h
 ·cases h' : mayB k.k k.n k.s
  ·exact c8p ks vs xs ys k w hT h h'
  ·rw [if_pos ⟨rfl, rfl⟩]
   cases hk0 : (k.k == 0)
   ·rw [b9j]
    by_cases hlt : findI xs k < xs.length
    ·rw [if_pos hlt]
     by_cases hlt2 : findI xs k + 1 < xs.length
     ·have hx : xs[findI xs k + 1]? = some (xs.getD (findI xs k + 1) nilV) := by simp [List.getD, hlt2]
      exact c3s ks vs xs ys k w hT h h' hk0 _ rfl hlt2 _ hx
     ·have e : xs.getD (findI xs k + 1) nilV = nilV := by rw [List.getD, List.getElem?_eq_none (by omega)]; rfl
      rw [e]
      exact c3t ks vs xs ys k w hT h h' hk0 _ rfl (by omega)
    ·rw [if_neg hlt]
     exact c3r ks vs xs ys k w hT h h' hk0 _ rfl (Nat.le_antisymm (a4x xs k) (by omega))
   ·rw [b2n]
    cases xs with
    | nil => exact c3q ks vs [] ys k w hT h h' hk0 rfl
    | cons x xs => exact c3p ks vs (x :: xs) ys k w hT h h' hk0 x rfl
def c8q (c : Int) (h : 0 ≤ c ∧ c ≤ 1000) : Vl := ⟨2, c, E0, by decide, WalkArith.wf_i64 (by omega), by decide⟩
theorem c3u (h : 0 ≤ ((m : Int) + 1) ∧ ((m : Int) + 1) ≤ 1000) : c8q ((m : Int) + 1) h = numV (m + 1) := by
 have : m + 1 ≤ 1000 := by omega
 simp [c8q, numV, this]
theorem c3v : findI xs k < xs.length ↔ k ∈ xs := by
 constructor
 ·intro h
  exact List.mem_of_getElem? (a7w h)
 ·intro h
  obtain ⟨j, hj, e⟩ := List.mem_iff_getElem.1 h
  rcases Nat.lt_or_ge (findI xs k) xs.length with h' | h'
  ·exact h'
  ·exact absurd (by rw [List.getElem?_eq_getElem hj, e]) (a3e (xs := xs) (k := k) (j := j) (by omega))
theorem c8r (ks vs : Value) (xs ys : List Vl) (w : World) (hT : Tab w.heap.size w ks vs xs ys) (h : mayT xs ys = false) :
  Calls Tryz.prog 88 #[.agg #[ks, vs]] w fun e w' => e = .returned (.int .i64 0) ∧ Below w.heap.size w w' := by
 obtain ⟨a, c1, rfl⟩ := hT.keys.slice
 obtain ⟨a', c2, rfl⟩ := hT.vals.slice
 have hb0 : Below w.heap.size w (w.alloc (.cells #[.slice a xs.length c1, .slice a' ys.length c2] 57)) := (Below.refl _ w).alloc (Nat.le_refl _) _
 have hC := b1k h (.slice a xs.length c1) (.slice a' ys.length c2) _ ((hT.below hb0).mono hb0.size)
 clear hT h
 go_enter Tryz.func88, Tryz.ntmps88
 go_wp2_with (go_at_call 22; refine hC.mono ?_; rintro e w1 ⟨rfl, hb1⟩)
 go_ret
 exact ⟨rfl, hb0.trans (hb1.mono hb0.size)⟩
theorem c3w (ks vs : Value) (xs ys : List Vl) (w : World) (hT : Tab w.heap.size w ks vs xs ys) (h : mayT xs ys = true) :
  Calls Tryz.prog 88 #[.agg #[ks, vs]] w fun e w' => (∃ m : Nat, c3l xs m ∧ e = .returned (.int .i64 m)) ∧ Below w.heap.size w w' := by
 have hl100 := (a2z h).2
 obtain ⟨a, c1, rfl⟩ := hT.keys.slice
 obtain ⟨a', c2, rfl⟩ := hT.vals.slice
 have hb0 : Below w.heap.size w (w.alloc (.cells #[.slice a xs.length c1, .slice a' ys.length c2] 57)) := (Below.refl _ w).alloc (Nat.le_refl _) _
 have hC := a3z h (.slice a xs.length c1) (.slice a' ys.length c2) _ ((hT.below hb0).mono hb0.size)
 have ht0 := World.alloc_heap_new w (.cells #[.slice a xs.length c1, .slice a' ys.length c2] 57)
 clear h
 replace hT : Hid _ := hT
 go_enter Tryz.func88, Tryz.ntmps88
 go_wp2_with (go_at_call 22; refine hC.mono ?_; rintro e w1 ⟨rfl, hb1⟩; refine Hid.out ?_)
 replace hb0 := hb0.trans (hb1.mono hb0.size)
 replace ht0 := a0d hb1 ht0
 clear hC hb1
 refine Lib.hid ?_
 go_wp2
 go_loopw [3] (fun i wr => ∃ m : Nat, i = .int .i64 m ∧ Hid (∀ j, j < m → numV (j + 1) ∈ xs) ∧ wr.heap[w.heap.size]? = some (.cells #[.slice a xs.length c1, .slice a' ys.length c2] 57) ∧ Below w.heap.size w wr) (fun i _ => 101 - (intOf i).toNat)
 case atStart => exact ⟨0, rfl, fun j hj => by omega, ht0, hb0⟩
 case round =>
  clear ht0 hb0
  obtain ⟨m, rfl, hj, ht, hb⟩ := hrel
  have hm := b9g hl100 hj.out
  have hc : 0 ≤ ((m : Int) + 1) ∧ ((m : Int) + 1) ≤ 1000 := by omega
  obtain ⟨nv, hnv⟩ := exq (c8q ((m : Int) + 1) hc)
  have hb2 : Below w.heap.size w ((wr.alloc (box 2 ((m : Int) + 1) E0)).alloc (bx nv)) := (hb.alloc hb.size _).alloc (by simp; exact Nat.le_succ_of_le hb.size) _
  have ht2 : ((wr.alloc (box 2 ((m : Int) + 1) E0)).alloc (bx nv)).heap[w.heap.size]? = some (.cells #[.slice a xs.length c1, .slice a' ys.length c2] 57) := a0g _ (a0g _ ht)
  have hn2 : ((wr.alloc (box 2 ((m : Int) + 1) E0)).alloc (bx nv)).heap[wr.heap.size + 1]? = some (bx nv) := by
   have := World.alloc_heap_new (wr.alloc (box 2 ((m : Int) + 1) E0)) (bx nv)
   simpa only [World.size_alloc] using this
  obtain ⟨w3, hw3⟩ := exq ((wr.alloc (box 2 ((m : Int) + 1) E0)).alloc (bx nv))
  rw [hw3] at hb2 ht2 hn2
  have hF := a5n (.slice a xs.length c1) (.slice a' ys.length c2) xs ys nv w3.drew ((hT.out.below hb2.drew).mono hb2.drew.size)
  obtain ⟨fi, hfi⟩ := exq (findI xs nv)
  have hF2 : Calls Tryz.prog 48 #[.agg #[.slice a xs.length c1, .slice a' ys.length c2], nv.v] w3.drew fun e w5 => e = .returned (.int .i64 fi) ∧ w5.cell? ⟨w.heap.size, 0, none⟩ = some (.slice a xs.length c1) ∧ w5.heap[w.heap.size]? = some (.cells #[.slice a xs.length c1, .slice a' ys.length c2] 57) ∧ Below w.heap.size w w5 := hF.mono (fun e w5 ⟨he, hb5⟩ =>
   have ht5 := a0d (W := w3.drew) hb5 ht2
   ⟨by rw [he, hfi], a0a ht5 rfl, ht5, hb2.drew.trans (hb5.mono hb2.size)⟩)
  have hmem : fi < xs.length ↔ numV (m + 1) ∈ xs := by rw [← hfi, ← c3u hc, hnv]; exact c3v
  have hfl : fi ≤ xs.length := by rw [← hfi]; exact a4x _ _
  have x0 : wr.cell? ⟨w.heap.size, 0, none⟩ = some (.slice a xs.length c1) := a0a ht rfl
  have y0 : w3.cell? ⟨w.heap.size, 0, none⟩ = some (.slice a xs.length c1) := a0a ht2 rfl
  have y1 : w3.cell? ⟨w.heap.size, 1, none⟩ = some (.slice a' ys.length c2) := a0a ht2 rfl
  obtain ⟨n0, n1, n2, _, _, _⟩ := in3 hn2
  have ev : nv.v = val 2 ((m : Int) + 1) E0 := by rw [← hnv]; rfl
  rw [ev] at hF2
  have e3 : (wr.alloc (box 2 ((m : Int) + 1) E0)).alloc (box 2 ((m : Int) + 1) E0) = w3 := by rw [← hw3, ← hnv]; rfl
  replace n0 : w3.cell? ⟨wr.heap.size + 1, 0, none⟩ = some (.int .i64 2) := by rw [← hnv] at n0; exact n0
  replace n1 : w3.cell? ⟨wr.heap.size + 1, 1, none⟩ = some (.int .i64 ((m : Int) + 1)) := by rw [← hnv] at n1; exact n1
  replace n2 : w3.cell? ⟨wr.heap.size + 1, 2, none⟩ = some (.string ⟨#[]⟩) := by rw [← hnv] at n2; exact n2
  clear ev hw3 hn2
  replace e3 : Hid _ := e3
  replace hmem : Hid _ := hmem
  clear hF hfi
  by_cases hlt : fi < xs.length
  ·have hne : ((fi : Int) == (xs.length : Int)) = false := by simp; omega
   have hq : Hid (numV (m + 1) ∈ xs) := hmem.out.1 hlt
   clear hmem
   go_wp2_with (go_at_call 85; refine (a7d _ _).mono ?_; rintro e w4 ⟨rfl, rfl⟩)
   have e3' := e3.out
   dsimp only [box] at e3'
   rw [e3']
   clear e3' e3
   go_region_with (first | (go_at_call 48; refine hF2.mono ?_; rintro e w5 ⟨rfl, z0, ht5, hb5⟩))
   all_goals
    go_wp2
    refine ⟨⟨m + 1, by simp, fun j hlt' => ?_, ht5, hb5⟩, by simp [intOf]; omega⟩
    rcases Nat.lt_or_ge j m with h | h
    ·exact hj.out j h
    ·obtain rfl : j = m := by omega
     exact hq.out
  ·have heq : ((fi : Int) == (xs.length : Int)) = true := by simp; omega
   have hq : Hid (¬ numV (m + 1) ∈ xs) := fun h => hlt (hmem.out.2 h)
   clear hmem hlt
   go_wp2_with (go_at_call 85; refine (a7d _ _).mono ?_; rintro e w4 ⟨rfl, rfl⟩)
   have e3' := e3.out
   dsimp only [box] at e3'
   rw [e3']
   clear e3' e3
   go_region_with (first | (go_at_call 48; refine hF2.mono ?_; rintro e w5 ⟨rfl, z0, ht5, hb5⟩))
   all_goals
    go_wp2
    go_ret
    exact ⟨⟨m, ⟨hj.out, hq.out⟩, rfl⟩, hb5⟩
theorem c3x (ks vs : Value) (xs ys : List Vl) (w : World) (hT : Tab w.heap.size w ks vs xs ys) :
  Calls Tryz.prog 88 #[.agg #[ks, vs]] w fun e w' => (∃ m : Nat, LenT xs ys m ∧ e = .returned (.int .i64 m)) ∧ Below w.heap.size w w' := by
 unfold LenT
 cases h : mayT xs ys
 ·exact (c8r ks vs xs ys w hT h).mono fun e w' ⟨he, hb⟩ => ⟨⟨0, by simp, he⟩, hb⟩
 ·exact (c3w ks vs xs ys w hT h).mono fun e w' ⟨⟨m, hm, he⟩, hb⟩ => ⟨⟨m, by simpa using hm, he⟩, hb⟩
end
end Go.Proofs.YthpgbienakcbeaaGreatDoor
