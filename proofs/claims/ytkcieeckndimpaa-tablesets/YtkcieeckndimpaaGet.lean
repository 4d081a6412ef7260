/- Get. -/
import Derived.Test.YtkcieeckndimpaaBox
namespace Go.Proofs.Ytkcieeckndimpaa
open Go.RowKit Go.Shelf
open Go

set_option linter.unusedSectionVars false
variable [DecidableEq Vl]

attribute [local go_sem] Oper.semAt_some

theorem tmay_t {xs ys : List Vl} (h : mayT xs ys = true) (ks vs : Value) (w : World) (hT : Tab w.heap.size w ks vs xs ys) :
    Calls Try.prog 12 #[.agg #[ks, vs]] w fun e w' => e = .returned (.bool true) ∧ Below w.heap.size w w' := h ▸ tmay_any ks vs xs ys w hT
theorem tmay_f {xs ys : List Vl} (h : mayT xs ys = false) (ks vs : Value) (w : World) (hT : Tab w.heap.size w ks vs xs ys) :
    Calls Try.prog 12 #[.agg #[ks, vs]] w fun e w' => e = .returned (.bool false) ∧ Below w.heap.size w w' := h ▸ tmay_any ks vs xs ys w hT

theorem mayT_len {xs ys : List Vl} (h : mayT xs ys = true) : xs.length = ys.length ∧ xs.length ≤ 100 := by
  unfold mayT at h
  simp only [Bool.and_eq_true, decide_eq_true_eq] at h
  exact ⟨h.1.1.1, h.1.1.2⟩

theorem res7 {tm : Array Value} {W : World} {B : Nat} {x : Vl} (h : tm[4]?.getD undef = .pointer (some ⟨B, 0, none⟩)) (hx : W.heap[B]? = some (bx x)) : (results Try.f7 tm).run Try.prog W = .ok x.v W := by
  obtain ⟨c0, c1, c2, _, _, _⟩ := in3 hx
  simp [results, Try.results7, go_sem, h, c0, c1, c2]

set_option maxRecDepth 100000 in
set_option maxHeartbeats 2000000 in
theorem get_no (ks vs : Value) (xs ys : List Vl) (k : Vl) (w : World) (hT : Tab w.heap.size w ks vs xs ys) (h : mayT xs ys = false) :
    Calls Try.prog 7 #[.agg #[ks, vs], k.v] w fun e w' => e = .returned nilV.v ∧ Below w.heap.size w w' := by
  obtain ⟨a, c1, rfl⟩ := hT.keys.slice
  obtain ⟨a', c2, rfl⟩ := hT.vals.slice
  have hb0 : Below w.heap.size w (((w.alloc (.cells #[.slice a xs.length c1, .slice a' ys.length c2] 24)).alloc (bx k)).alloc (bx nilV)) := (((Below.refl _ w).alloc (Nat.le_refl _) _).alloc (by simp) _).alloc (by simp; omega) _
  have hC := tmay_f h (.slice a xs.length c1) (.slice a' ys.length c2) _ ((hT.below hb0).mono hb0.size)
  clear hT h
  obtain ⟨W1, hW1⟩ : ∃ W1, (((w.alloc (.cells #[.slice a xs.length c1, .slice a' ys.length c2] 24)).alloc (bx k)).alloc (bx nilV)) = W1 := ⟨_, rfl⟩
  have hr0 : W1.heap[w.heap.size + 1 + 1]? = some (bx nilV) := by
    have := World.alloc_heap_new ((w.alloc (.cells #[.slice a xs.length c1, .slice a' ys.length c2] 24)).alloc (bx k)) (bx nilV)
    simp only [World.size_alloc] at this
    rw [← hW1]; exact this
  go_enter Try.func7, Try.ntmps7
  go_wp2_with (go_at_call 12; refine hC.mono ?_; rintro e w1 ⟨rfl, hb1⟩; refine Hid.out ?_)
  rw [hW1] at hb0 hb1
  have hr1 := block_below hb1 hr0
  obtain ⟨c0, c1', c2', f0, f1, f2⟩ := in3 hr1
  clear hC hW1
  refine Lib.hid ?_
  go_wp2
  exact bodyPost_ret (v := nilV.v) (res7 rfl (put3_same nilV hr1)) rfl ⟨rfl, put3_below nilV (hb0.trans (hb1.mono hb0.size)) (by omega)⟩

set_option maxRecDepth 100000 in
set_option maxHeartbeats 2000000 in
theorem get_yes (n : Nat) (h3 : 3 ≤ n) (ks vs : Value) (zs : List (Vl × Vl)) (hlen : zs.length ≤ 100) (k : Vl) (w : World) (hT : Tab w.heap.size w ks vs (keysOf zs) (valsOf zs)) (h : mayT (keysOf zs) (valsOf zs) = true) :
    CallsIn Fence.wide n Try.prog 7 #[.agg #[ks, vs], k.v] w fun e w' => e = .returned (look zs k).v ∧ Below w.heap.size w w' := by
  have h1 : 1 ≤ n := by omega
  have hn1 : 1 ≤ n - 1 := by omega
  have hn2 : 1 ≤ n - 1 - 1 := by omega
  obtain ⟨a, c1, hks⟩ := hT.keys.slice
  obtain ⟨a', c2, hvs⟩ := hT.vals.slice
  simp only [keysOf, valsOf, List.length_map] at hks hvs
  subst hks hvs
  have hb0 : Below w.heap.size w (((w.alloc (.cells #[.slice a zs.length c1, .slice a' zs.length c2] 24)).alloc (bx k)).alloc (bx nilV)) := (((Below.refl _ w).alloc (Nat.le_refl _) _).alloc (by simp) _).alloc (by simp; omega) _
  have hC := tmay_t h (.slice a zs.length c1) (.slice a' zs.length c2) _ ((hT.below hb0).mono hb0.size)
  clear h
  obtain ⟨W1, hW1⟩ : ∃ W1, (((w.alloc (.cells #[.slice a zs.length c1, .slice a' zs.length c2] 24)).alloc (bx k)).alloc (bx nilV)) = W1 := ⟨_, rfl⟩
  have hr0 : W1.heap[w.heap.size + 1 + 1]? = some (bx nilV) := by
    have := World.alloc_heap_new ((w.alloc (.cells #[.slice a zs.length c1, .slice a' zs.length c2] 24)).alloc (bx k)) (bx nilV)
    simp only [World.size_alloc] at this
    rw [← hW1]; exact this
  have hk0 : W1.heap[w.heap.size + 1]? = some (bx k) := by
    have := block_alloc (bx nilV) (World.alloc_heap_new (w.alloc (.cells #[.slice a zs.length c1, .slice a' zs.length c2] 24)) (bx k))
    simp only [World.size_alloc] at this
    rw [← hW1]; exact this
  have ht0 : W1.heap[w.heap.size]? = some (.cells #[.slice a zs.length c1, .slice a' zs.length c2] 24) := by rw [← hW1]; exact block_alloc _ (block_alloc _ (World.alloc_heap_new w _))
  have hs1 : W1.heap.size = w.heap.size + 3 := by rw [← hW1]; simp
  refine callsIn_of_wp_marks Try.func7 rfl trivial ?_ rfl
  simp only [Try.ntmps7, List.size_toArray, List.length_cons, List.length_nil, Nat.reduceAdd, Nat.reduceSub, Array.replicate_succ, Array.replicate_zero, List.push_toArray, List.append_toArray, List.nil_append, List.cons_append]
  gi_wp2_with (refine ⟨trivial, ?_⟩; gi_at_call 12; refine (callsIn_wide.2 hC).mono ?_; rintro e w1 ⟨rfl, hb1⟩; refine Hid.out ?_)
  rw [hW1] at hb0 hb1
  have hr1 := block_below hb1 hr0
  have hk1 := block_below hb1 hk0
  have ht1 := block_below hb1 ht0
  have x0 : w1.cell? ⟨w.heap.size, 0, none⟩ = some (.slice a zs.length c1) := cell_block ht1 rfl
  have x1 : w1.cell? ⟨w.heap.size, 1, none⟩ = some (.slice a' zs.length c2) := cell_block ht1 rfl
  clear hC hW1 hr0 hk0 ht0
  refine Lib.hid ?_
  gi_wp2_with (refine ⟨trivial, ?_⟩; gi_at_call 19; refine (pairs_in _ _ _ _).mono ?_; rintro e w' ⟨rfl, rfl⟩)
  have hb2 : Below w.heap.size w (w1.alloc (.cells #[.slice a zs.length c1, .slice a' zs.length c2] 24)) := (hb0.trans (hb1.mono hb0.size)).alloc (by have := hb0.size; have := hb1.size; omega) _
  have hz1 : w.heap.size + 3 ≤ w1.heap.size := by have := hb1.size; omega
  obtain ⟨W0, hW0⟩ : ∃ W0, w1.alloc (.cells #[.slice a zs.length c1, .slice a' zs.length c2] 24) = W0 := ⟨_, rfl⟩
  have hs0 : W0.heap.size = w1.heap.size + 1 := by rw [← hW0]; simp
  have hbt : W0.heap[w1.heap.size]? = some (.cells #[.slice a zs.length c1, .slice a' zs.length c2] 24) := by rw [← hW0]; exact World.alloc_heap_new _ _
  replace hr1 : W0.heap[w.heap.size + 1 + 1]? = some (bx nilV) := by rw [← hW0]; exact block_alloc _ hr1
  replace hk1 : W0.heap[w.heap.size + 1]? = some (bx k) := by rw [← hW0]; exact block_alloc _ hk1
  rw [hW0] at hb2 ⊢
  clear hW0 x0 x1 ht1
  refine wpIn_rangeFunc_ownH rfl h1 (gf := 28) (lb := #[.pointer (some ⟨w1.heap.size, 0, none⟩)]) rfl trivial (enters_of Try.func28 (by kernel_rfl) rfl)
    (pairs_stops (n - 1) w1.heap.size w.heap.size _ _ zs hlen W0 (by omega) (by omega) hbt (hT.below hb2)) (fun h k => h.trans k) (Kept.putObj (by omega) (by omega)) (Below.refl _ _) (fun _ => rfl)
    (fun (pre : List (Vl × Vl)) W => ((∀ p ∈ pre, p.1 ≠ k) ∧ W0.heap.size ≤ W.heap.size ∧ W.heap[w.heap.size + 1]? = some (bx k) ∧ W.heap[w.heap.size + 1 + 1]? = some (bx nilV)) ∧ Below w.heap.size w W)
    (fun c (pre : List (Vl × Vl)) W => (c = .ret ∧ (∃ y, (∃ ini, pre = ini ++ [(k, y)] ∧ ∀ p ∈ ini, p.1 ≠ k) ∧ W.heap[w.heap.size + 1 + 1]? = some (bx y))) ∧ Below w.heap.size w W)
    (OwnFrom.and (OwnFrom.and (ownFrom_pure _ _) (OwnFrom.and size_ownFrom (OwnFrom.and (block_ownFrom _ (by omega)) (block_ownFrom _ (by omega))))) (ownFrom_below (Nat.le_refl _) (by omega)))
    (fun c => OwnFrom.and (fun s A B row hs hg hr => by obtain ⟨e1, y, e2, e3⟩ := hs; exact ⟨e1, y, e2, (block_ownFrom (β := Unit) _ (by omega)) () A B row e3 hg hr⟩) (ownFrom_below (Nat.le_refl _) (by omega)))
    ⟨⟨by simp, Nat.le_refl _, hk1, hr1⟩, hb2⟩
    (fun x q W => ∃ Bx By, w1.heap.size < Bx ∧ Three W Bx 0 x.1 ∧ Three W By 0 x.2 ∧ q = { tmps := #[.agg #[.slice a zs.length c1, .slice a' zs.length c2], k.v, .pointer (some ⟨w.heap.size, 0, none⟩), .pointer (some ⟨w.heap.size + 1, 0, none⟩), .pointer (some ⟨w.heap.size + 1 + 1, 0, none⟩), .pointer (some ⟨Bx, 0, none⟩), .pointer (some ⟨By, 0, none⟩), .agg #[.slice a zs.length c1, .slice a' zs.length c2], .bool true, .bool false, undef, .agg #[.slice a zs.length c1, .slice a' zs.length c2], .func (.func 28) #[] #[.pointer (some ⟨w1.heap.size, 0, none⟩)], x.1.v, x.2.v, undef, undef, undef, undef, undef], defers := [] })
    (fun x q => fun _ A B row hs hg hr => by obtain ⟨Bx, By, h1, h2, h3, h4⟩ := hs; exact ⟨Bx, By, h1, (Three.own (β := Unit) Bx 0 x.1) () A B row h2 hg (fun r e => (hr r e).2), (Three.own (β := Unit) By 0 x.2) () A B row h3 hg (fun r e => (hr r e).2), h4⟩)
    ?assign ?body ?done ?stop
  case assign =>
    rintro l pre x W K ⟨⟨hp, hz, k0, k1⟩, hB⟩ hK
    gi_wp2
    have hb' : Below W.heap.size W ((W.alloc (bx x.1)).alloc (bx x.2)) := ((Below.refl _ _).alloc (Nat.le_refl _) _).alloc (by simp) _
    exact hK _ _ (keepsFrom_of_below hb') (kept_of_below hb' (by omega) (by omega)) ⟨⟨hp, Nat.le_trans hz hb'.size, block_below hb' k0, block_below hb' k1⟩, hB.trans (hb'.mono (by omega))⟩ ⟨W.heap.size, W.heap.size + 1, by omega, (three_new W x.1).alloc _, by have := three_new (W.alloc (bx x.1)) x.2; simpa using this, rfl⟩
  case body =>
    rintro l pre x q W hl ⟨r, hr⟩ ⟨⟨hp, hz, k0, k1⟩, hB⟩ ⟨Bx, By, hBx, ⟨t0, t1, t2⟩, ⟨s0, s1, s2⟩, rfl⟩ hlt
    clear hr hT hbt hb2 hr1 hk1 hb0 hb1
    rename_i Kd ad
    clear ad Kd
    obtain ⟨p0, p1, p2, _, _, _⟩ := in3 k0
    obtain ⟨r0, r1, r2, f0, f1, f2⟩ := in3 k1
    gi_wp2
    · rename_i e1 e2 e3
      have e : x.1 = k := Vl.ext' e1 e2 e3
      exact ⟨(put3_keeps W _ x.2).from _, ⟨rfl, x.2, ⟨pre, by rw [← e], hp⟩, put3_same x.2 k1⟩, put3_below x.2 hB (by omega)⟩
    all_goals
      have e : x.1 ≠ k := fun e => by subst e; contradiction
      exact ⟨KeepsFrom.refl _ _, Kept.refl _ _ _, ⟨fun p hm => (List.mem_append.1 hm).elim (hp p) (fun e' => by simp at e'; subst e'; exact e), hz, k0, k1⟩, hB⟩
  case done =>
    rintro D ys W hD rfl ⟨⟨hp, hz, k0, k1⟩, hB⟩ hK
    obtain ⟨r0, r1, r2, f0, f1, f2⟩ := in3 k1
    gi_wp2
    have hK' : (put3 W (w.heap.size + 1 + 1) nilV).heap[D]? = some (.deferred (some [])) := (put3_keeps W _ _).same D _ hK rfl
    refine ⟨by simp, .inl ⟨_, _, rfl, run_takeDeferred hK', ?_⟩⟩
    exact ⟨nilV.v, res7 rfl (block_put (put3_same nilV k1) (by omega)), by rw [look_none hp], (put3_below nilV hB (by omega)).trans (belowK_b (w := w) (Nat.le_refl _) _ D _ _ (by omega) hK' rfl rfl)⟩
  case stop =>
    rintro D c pre W hD hpre ⟨⟨rfl, y, ⟨ini, rfl, hi⟩, k1⟩, hB⟩ hK
    gi_wp2
    refine ⟨by simp, .inl ⟨_, _, rfl, run_takeDeferred hK, ?_⟩⟩
    exact ⟨y.v, res7 rfl (block_put k1 (by omega)), by rw [look_at hpre hi], hB.trans (belowK_b (w := w) (Nat.le_refl _) _ D _ _ (by omega) hK rfl rfl)⟩

/-- Get, whatever the table and the key. -/
theorem get_any (ks vs : Value) (xs ys : List Vl) (k : Vl) (w : World) (hT : Tab w.heap.size w ks vs xs ys) :
    Calls Try.prog 7 #[.agg #[ks, vs], k.v] w fun e w' => e = .returned (getT xs ys k).v ∧ Below w.heap.size w w' := by
  unfold getT
  cases h : mayT xs ys
  · exact get_no ks vs xs ys k w hT h
  · obtain ⟨hl, hl'⟩ := mayT_len h
    have := get_yes 3 (by omega) ks vs (xs.zip ys) (by rw [List.length_zip]; omega) k w (by rw [zip_keys hl, zip_vals hl]; exact hT) (by rw [zip_keys hl, zip_vals hl]; exact h)
    exact callsIn_wide.1 this

end Go.Proofs.Ytkcieeckndimpaa
