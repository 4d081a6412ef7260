/- Get. Next. Len. -/
import Derived.Test.YthdhgfpidhbdiaaGreatDoorJ11
namespace Go.Proofs.YthdhgfpidhbdiaaGreatDoor
open Go.RowKit Go.Shelf
open Go

set_option linter.unusedSectionVars false
variable [DecidableEq Vl]

attribute [local go_sem] Oper.semAt_some

theorem tmay_t {xs ys : List Vl} (h : mayT xs ys = true) (ks vs : Value) (w : World) (hT : Tab w.heap.size w ks vs xs ys) :
    Calls Tryz.prog 43 #[.agg #[ks, vs]] w fun e w' => e = .returned (.bool true) ∧ Below w.heap.size w w' := h ▸ tmay_any ks vs xs ys w hT
theorem tmay_f {xs ys : List Vl} (h : mayT xs ys = false) (ks vs : Value) (w : World) (hT : Tab w.heap.size w ks vs xs ys) :
    Calls Tryz.prog 43 #[.agg #[ks, vs]] w fun e w' => e = .returned (.bool false) ∧ Below w.heap.size w w' := h ▸ tmay_any ks vs xs ys w hT

theorem mayT_len {xs ys : List Vl} (h : mayT xs ys = true) : xs.length = ys.length ∧ xs.length ≤ 100 := by
  unfold mayT at h
  simp only [Bool.and_eq_true, decide_eq_true_eq] at h
  exact ⟨h.1.1.1, h.1.1.2⟩

theorem res7 {tm : Array Value} {W : World} {B : Nat} {x : Vl} (h : tm[4]?.getD undef = .pointer (some ⟨B, 0, none⟩)) (hx : W.heap[B]? = some (bx x)) : (results Tryz.f115 tm).run Tryz.prog W = .ok x.v W := by
  obtain ⟨c0, c1, c2, _, _, _⟩ := in3 hx
  simp [results, Tryz.results115, go_sem, h, c0, c1, c2]

set_option maxRecDepth 100000 in
set_option maxHeartbeats 2000000 in
theorem get_no (ks vs : Value) (xs ys : List Vl) (k : Vl) (w : World) (hT : Tab w.heap.size w ks vs xs ys) (h : mayT xs ys = false) :
    Calls Tryz.prog 115 #[.agg #[ks, vs], k.v] w fun e w' => e = .returned nilV.v ∧ Below w.heap.size w w' := by
  obtain ⟨a, c1, rfl⟩ := hT.keys.slice
  obtain ⟨a', c2, rfl⟩ := hT.vals.slice
  have hb0 : Below w.heap.size w (((w.alloc (.cells #[.slice a xs.length c1, .slice a' ys.length c2] 57)).alloc (bx k)).alloc (bx nilV)) := (((Below.refl _ w).alloc (Nat.le_refl _) _).alloc (by simp) _).alloc (by simp; omega) _
  have hC := tmay_f h (.slice a xs.length c1) (.slice a' ys.length c2) _ ((hT.below hb0).mono hb0.size)
  clear hT h
  obtain ⟨W1, hW1⟩ : ∃ W1, (((w.alloc (.cells #[.slice a xs.length c1, .slice a' ys.length c2] 57)).alloc (bx k)).alloc (bx nilV)) = W1 := ⟨_, rfl⟩
  have hr0 : W1.heap[w.heap.size + 1 + 1]? = some (bx nilV) := by
    have := World.alloc_heap_new ((w.alloc (.cells #[.slice a xs.length c1, .slice a' ys.length c2] 57)).alloc (bx k)) (bx nilV)
    simp only [World.size_alloc] at this
    rw [← hW1]; exact this
  go_enter Tryz.func115, Tryz.ntmps115
  go_wp2_with (go_at_call 43; refine hC.mono ?_; rintro e w1 ⟨rfl, hb1⟩; refine Hid.out ?_)
  rw [hW1] at hb0 hb1
  have hr1 := block_below hb1 hr0
  obtain ⟨c0, c1', c2', f0, f1, f2⟩ := in3 hr1
  clear hC hW1
  refine Lib.hid ?_
  go_wp2
  exact bodyPost_ret (v := nilV.v) (res7 rfl (put3_same nilV hr1)) rfl ⟨rfl, put3_below nilV (hb0.trans (hb1.mono hb0.size)) (by omega)⟩

set_option maxRecDepth 100000 in
set_option maxHeartbeats 2000000 in
theorem get_yes (n : Nat) (h3 : 3 ≤ n) (ks vs : Value) (zs : List (Vl × Vl)) (hlen : zs.length ≤ 100) (k : Vl) (w : World) (hT : Tab w.heap.size w ks vs (keysOf zs) (valsOf zs)) (h : mayT (keysOf zs) (valsOf zs) = true) :
    CallsIn Fence.wide n Tryz.prog 115 #[.agg #[ks, vs], k.v] w fun e w' => e = .returned (look zs k).v ∧ Below w.heap.size w w' := by
  have h1 : 1 ≤ n := by omega
  have hn1 : 1 ≤ n - 1 := by omega
  have hn2 : 1 ≤ n - 1 - 1 := by omega
  obtain ⟨a, c1, hks⟩ := hT.keys.slice
  obtain ⟨a', c2, hvs⟩ := hT.vals.slice
  simp only [keysOf, valsOf, List.length_map] at hks hvs
  subst hks hvs
  have hb0 : Below w.heap.size w (((w.alloc (.cells #[.slice a zs.length c1, .slice a' zs.length c2] 57)).alloc (bx k)).alloc (bx nilV)) := (((Below.refl _ w).alloc (Nat.le_refl _) _).alloc (by simp) _).alloc (by simp; omega) _
  have hC := tmay_t h (.slice a zs.length c1) (.slice a' zs.length c2) _ ((hT.below hb0).mono hb0.size)
  clear h
  obtain ⟨W1, hW1⟩ : ∃ W1, (((w.alloc (.cells #[.slice a zs.length c1, .slice a' zs.length c2] 57)).alloc (bx k)).alloc (bx nilV)) = W1 := ⟨_, rfl⟩
  have hr0 : W1.heap[w.heap.size + 1 + 1]? = some (bx nilV) := by
    have := World.alloc_heap_new ((w.alloc (.cells #[.slice a zs.length c1, .slice a' zs.length c2] 57)).alloc (bx k)) (bx nilV)
    simp only [World.size_alloc] at this
    rw [← hW1]; exact this
  have hk0 : W1.heap[w.heap.size + 1]? = some (bx k) := by
    have := block_alloc (bx nilV) (World.alloc_heap_new (w.alloc (.cells #[.slice a zs.length c1, .slice a' zs.length c2] 57)) (bx k))
    simp only [World.size_alloc] at this
    rw [← hW1]; exact this
  have ht0 : W1.heap[w.heap.size]? = some (.cells #[.slice a zs.length c1, .slice a' zs.length c2] 57) := by rw [← hW1]; exact block_alloc _ (block_alloc _ (World.alloc_heap_new w _))
  have hs1 : W1.heap.size = w.heap.size + 3 := by rw [← hW1]; simp
  refine callsIn_of_wp_marks Tryz.func115 rfl trivial ?_ rfl
  simp only [Tryz.ntmps115, List.size_toArray, List.length_cons, List.length_nil, Nat.reduceAdd, Nat.reduceSub, Array.replicate_succ, Array.replicate_zero, List.push_toArray, List.append_toArray, List.nil_append, List.cons_append]
  gi_wp2_with (refine ⟨trivial, ?_⟩; gi_at_call 43; refine (callsIn_wide.2 hC).mono ?_; rintro e w1 ⟨rfl, hb1⟩; refine Hid.out ?_)
  rw [hW1] at hb0 hb1
  have hr1 := block_below hb1 hr0
  have hk1 := block_below hb1 hk0
  have ht1 := block_below hb1 ht0
  have x0 : w1.cell? ⟨w.heap.size, 0, none⟩ = some (.slice a zs.length c1) := cell_block ht1 rfl
  have x1 : w1.cell? ⟨w.heap.size, 1, none⟩ = some (.slice a' zs.length c2) := cell_block ht1 rfl
  clear hC hW1 hr0 hk0 ht0
  refine Lib.hid ?_
  gi_wp2_with (refine ⟨trivial, ?_⟩; gi_at_call 62; refine (pairs_in _ _ _ _).mono ?_; rintro e w' ⟨rfl, rfl⟩)
  have hb2 : Below w.heap.size w (w1.alloc (.cells #[.slice a zs.length c1, .slice a' zs.length c2] 57)) := (hb0.trans (hb1.mono hb0.size)).alloc (by have := hb0.size; have := hb1.size; omega) _
  have hz1 : w.heap.size + 3 ≤ w1.heap.size := by have := hb1.size; omega
  obtain ⟨W0, hW0⟩ : ∃ W0, w1.alloc (.cells #[.slice a zs.length c1, .slice a' zs.length c2] 57) = W0 := ⟨_, rfl⟩
  have hs0 : W0.heap.size = w1.heap.size + 1 := by rw [← hW0]; simp
  have hbt : W0.heap[w1.heap.size]? = some (.cells #[.slice a zs.length c1, .slice a' zs.length c2] 57) := by rw [← hW0]; exact World.alloc_heap_new _ _
  replace hr1 : W0.heap[w.heap.size + 1 + 1]? = some (bx nilV) := by rw [← hW0]; exact block_alloc _ hr1
  replace hk1 : W0.heap[w.heap.size + 1]? = some (bx k) := by rw [← hW0]; exact block_alloc _ hk1
  rw [hW0] at hb2 ⊢
  clear hW0 x0 x1 ht1
  refine wpIn_rangeFunc_ownH rfl h1 (gf := 94) (lb := #[.pointer (some ⟨w1.heap.size, 0, none⟩)]) rfl trivial (enters_of Tryz.func94 (by kernel_rfl) rfl)
    (pairs_stops (n - 1) w1.heap.size w.heap.size _ _ zs hlen W0 (by omega) (by omega) hbt (hT.below hb2)) (fun h k => h.trans k) (Kept.putObj (by omega) (by omega)) (Below.refl _ _) (fun _ => rfl)
    (fun (pre : List (Vl × Vl)) W => ((∀ p ∈ pre, p.1 ≠ k) ∧ W0.heap.size ≤ W.heap.size ∧ W.heap[w.heap.size + 1]? = some (bx k) ∧ W.heap[w.heap.size + 1 + 1]? = some (bx nilV)) ∧ Below w.heap.size w W)
    (fun c (pre : List (Vl × Vl)) W => (c = .ret ∧ (∃ y, (∃ ini, pre = ini ++ [(k, y)] ∧ ∀ p ∈ ini, p.1 ≠ k) ∧ W.heap[w.heap.size + 1 + 1]? = some (bx y))) ∧ Below w.heap.size w W)
    (OwnFrom.and (OwnFrom.and (ownFrom_pure _ _) (OwnFrom.and size_ownFrom (OwnFrom.and (block_ownFrom _ (by omega)) (block_ownFrom _ (by omega))))) (ownFrom_below (Nat.le_refl _) (by omega)))
    (fun c => OwnFrom.and (fun s A B row hs hg hr => by obtain ⟨e1, y, e2, e3⟩ := hs; exact ⟨e1, y, e2, (block_ownFrom (β := Unit) _ (by omega)) () A B row e3 hg hr⟩) (ownFrom_below (Nat.le_refl _) (by omega)))
    ⟨⟨by simp, Nat.le_refl _, hk1, hr1⟩, hb2⟩
    (fun x q W => ∃ Bx By, w1.heap.size < Bx ∧ Three W Bx 0 x.1 ∧ Three W By 0 x.2 ∧ q = { tmps := #[.agg #[.slice a zs.length c1, .slice a' zs.length c2], k.v, .pointer (some ⟨w.heap.size, 0, none⟩), .pointer (some ⟨w.heap.size + 1, 0, none⟩), .pointer (some ⟨w.heap.size + 1 + 1, 0, none⟩), .pointer (some ⟨Bx, 0, none⟩), .pointer (some ⟨By, 0, none⟩), .agg #[.slice a zs.length c1, .slice a' zs.length c2], .bool true, .bool false, undef, .agg #[.slice a zs.length c1, .slice a' zs.length c2], .func (.func 94) #[] #[.pointer (some ⟨w1.heap.size, 0, none⟩)], x.1.v, x.2.v, undef, undef, undef, undef, undef], defers := [] })
    (fun x q => fun _ A B row hs hg hr => by obtain ⟨Bx, By, h1, h2, h3, h4⟩ := hs; exact ⟨Bx, By, h1, (Three.own (β := Unit) Bx 0 x.1) () A B row h2 hg (fun r e => (hr r e).2), (Three.own (β := Unit) By 0 x.2) () A B row h3 hg (fun r e => (hr r e).2), h4⟩)
    ?assign ?body ?done ?stop
  case assign =>
    rintro l pre x W K ⟨⟨hp, hz, k0, k1⟩, hB⟩ hK
    gi_wp2
    have hb' : Below W.heap.size W ((W.alloc (bx x.1)).alloc (bx x.2)) := ((Below.refl _ _).alloc (Nat.le_refl _) _).alloc (by simp) _
    exact hK _ _ (keepsFrom_of_below hb') (kept_of_below hb' (by omega) (by omega)) ⟨⟨hp, Nat.le_trans hz hb'.size, block_below hb' k0, block_below hb' k1⟩, hB.trans (hb'.mono (by omega))⟩ ⟨W.heap.size, W.heap.size + 1, by omega, (three_new W x.1).alloc _, by have := three_new (W.alloc (bx x.1)) x.2; simpa using this, rfl⟩
  case body =>
    rintro l pre x q W hl ⟨r, hr⟩ ⟨⟨hp, hz, k0, k1⟩, hB⟩ ⟨Bx, By, hBx, ⟨t0, t1, t2⟩, ⟨s0, s1, s2⟩, rfl⟩ hlt
    clear hr hT hbt hb2 hr1 hk1 hb0 hb1
    rename_i Kd ad
    clear ad Kd
    obtain ⟨p0, p1, p2, _, _, _⟩ := in3 k0
    obtain ⟨r0, r1, r2, f0, f1, f2⟩ := in3 k1
    gi_wp2
    · rename_i e1 e2 e3
      have e : x.1 = k := Vl.ext' e1 e2 e3
      exact ⟨(put3_keeps W _ x.2).from _, ⟨rfl, x.2, ⟨pre, by rw [← e], hp⟩, put3_same x.2 k1⟩, put3_below x.2 hB (by omega)⟩
    all_goals
      have e : x.1 ≠ k := fun e => by subst e; contradiction
      exact ⟨KeepsFrom.refl _ _, Kept.refl _ _ _, ⟨fun p hm => (List.mem_append.1 hm).elim (hp p) (fun e' => by simp at e'; subst e'; exact e), hz, k0, k1⟩, hB⟩
  case done =>
    rintro D ys W hD rfl ⟨⟨hp, hz, k0, k1⟩, hB⟩ hK
    obtain ⟨r0, r1, r2, f0, f1, f2⟩ := in3 k1
    gi_wp2
    have hK' : (put3 W (w.heap.size + 1 + 1) nilV).heap[D]? = some (.deferred (some [])) := (put3_keeps W _ _).same D _ hK rfl
    refine ⟨by simp, .inl ⟨_, _, rfl, run_takeDeferred hK', ?_⟩⟩
    exact ⟨nilV.v, res7 rfl (block_put (put3_same nilV k1) (by omega)), by rw [look_none hp], (put3_below nilV hB (by omega)).trans (belowK_b (w := w) (Nat.le_refl _) _ D _ _ (by omega) hK' rfl rfl)⟩
  case stop =>
    rintro D c pre W hD hpre ⟨⟨rfl, y, ⟨ini, rfl, hi⟩, k1⟩, hB⟩ hK
    gi_wp2
    refine ⟨by simp, .inl ⟨_, _, rfl, run_takeDeferred hK, ?_⟩⟩
    exact ⟨y.v, res7 rfl (block_put k1 (by omega)), by rw [look_at hpre hi], hB.trans (belowK_b (w := w) (Nat.le_refl _) _ D _ _ (by omega) hK rfl rfl)⟩

/-- Get, whatever the table and the key. -/
theorem get_any (ks vs : Value) (xs ys : List Vl) (k : Vl) (w : World) (hT : Tab w.heap.size w ks vs xs ys) :
    Calls Tryz.prog 115 #[.agg #[ks, vs], k.v] w fun e w' => e = .returned (getT xs ys k).v ∧ Below w.heap.size w w' := by
  unfold getT
  cases h : mayT xs ys
  · exact get_no ks vs xs ys k w hT h
  · obtain ⟨hl, hl'⟩ := mayT_len h
    have := get_yes 3 (by omega) ks vs (xs.zip ys) (by rw [List.length_zip]; omega) k w (by rw [zip_keys hl, zip_vals hl]; exact hT) (by rw [zip_keys hl, zip_vals hl]; exact h)
    exact callsIn_wide.1 this

end Go.Proofs.YthdhgfpidhbdiaaGreatDoor
namespace Go.Proofs.YthdhgfpidhbdiaaGreatDoor
open Go.RowKit Go.Shelf
open Go

set_option linter.unusedSectionVars false
variable [DecidableEq Vl]

attribute [local go_sem] Oper.semAt_some

/-- The key behind k, from here on; past: k has been met. -/
def scan (past : Bool) (k : Vl) : List Vl → Vl × Int
  | [] => (nilV, if past then 0 else 4)
  | x :: r => if past then (x, 0) else scan (decide (x = k)) k r

def nextT (xs ys : List Vl) (k : Vl) : Vl × Int := if mayT xs ys = true ∧ mayB k.k k.n k.s = true then scan (k.k == 0) k xs else (nilV, 2)

theorem res9 {tm : Array Value} {W : World} {B C : Nat} {x : Vl} {c : Int} (h : tm[4]?.getD undef = .pointer (some ⟨B, 0, none⟩)) (h' : tm[5]?.getD undef = .pointer (some ⟨C, 0, none⟩)) (hx : W.heap[B]? = some (bx x)) (hc : W.heap[C]? = some (.cells #[.int .i64 c] 28)) :
    (results Tryz.f120 tm).run Tryz.prog W = .ok (.tuple #[x.v, .int .i64 c]) W := by
  obtain ⟨c0, c1, c2, _, _, _⟩ := in3 hx
  have c3 := Boxed.cell hc
  simp [results, Tryz.results120, go_sem, h, h', c0, c1, c2, c3]

/-- What lies in memory when the call has begun. -/
theorem next_mem (w : World) (o0 : Obj) (k : Vl) {W1 : World} (hW : (((w.alloc o0).alloc (bx k)).alloc (bx nilV)).alloc (.cells #[.int .i64 0] 28) = W1) :
    W1.heap.size = w.heap.size + 4 ∧ Below w.heap.size w W1 ∧ W1.heap[w.heap.size]? = some o0 ∧ W1.heap[w.heap.size + 1]? = some (bx k) ∧ W1.heap[w.heap.size + 1 + 1]? = some (bx nilV) ∧ W1.heap[w.heap.size + 1 + 1 + 1]? = some (.cells #[.int .i64 0] 28) := by
  subst hW
  refine ⟨by simp, ((((Below.refl _ w).alloc (Nat.le_refl _) _).alloc (by simp) _).alloc (by simp; omega) _).alloc (by simp; omega) _, block_alloc _ (block_alloc _ (block_alloc _ (World.alloc_heap_new w _))), ?_, ?_, ?_⟩
  · have := block_alloc (.cells #[.int .i64 0] 28) (block_alloc (bx nilV) (World.alloc_heap_new (w.alloc o0) (bx k)))
    simpa only [World.size_alloc] using this
  · have := block_alloc (.cells #[.int .i64 0] 28) (World.alloc_heap_new ((w.alloc o0).alloc (bx k)) (bx nilV))
    simpa only [World.size_alloc] using this
  · have := World.alloc_heap_new (((w.alloc o0).alloc (bx k)).alloc (bx nilV)) (.cells #[.int .i64 0] 28)
    simpa only [World.size_alloc] using this

set_option maxRecDepth 100000 in
set_option maxHeartbeats 2000000 in
theorem next_no1 (ks vs : Value) (xs ys : List Vl) (k : Vl) (w : World) (hT : Tab w.heap.size w ks vs xs ys) (h : mayT xs ys = false) :
    Calls Tryz.prog 120 #[.agg #[ks, vs], k.v] w fun e w' => e = .returned (.tuple #[nilV.v, .int .i64 2]) ∧ Below w.heap.size w w' := by
  obtain ⟨a, c1, rfl⟩ := hT.keys.slice
  obtain ⟨a', c2, rfl⟩ := hT.vals.slice
  obtain ⟨W1, hW1⟩ : ∃ W1, ((((w.alloc (.cells #[.slice a xs.length c1, .slice a' ys.length c2] 57)).alloc (bx k)).alloc (bx nilV)).alloc (.cells #[.int .i64 0] 28)) = W1 := ⟨_, rfl⟩
  obtain ⟨hs1, hb0, ht0, hk0, hr0, he0⟩ := next_mem w _ k hW1
  have hC := tmay_f h (.slice a xs.length c1) (.slice a' ys.length c2) _ ((hT.below hb0).mono hb0.size)
  rw [← hW1] at hC
  clear hT h
  go_enter Tryz.func120, Tryz.ntmps120
  go_wp2_with (go_at_call 43; refine hC.mono ?_; rintro e w1 ⟨rfl, hb1⟩; refine Hid.out ?_)
  rw [hW1] at hb1
  have hr1 := block_below hb1 hr0
  have he1 := block_below hb1 he0
  obtain ⟨c0, c1', c2', f0, f1, f2⟩ := in3 hr1
  have z0 := Boxed.cell he1
  have z1 := Boxed.frozen he1
  clear hC hW1
  refine Lib.hid ?_
  go_wp2
  refine bodyPost_ret (v := .tuple #[nilV.v, .int .i64 2]) (res9 rfl rfl ((set1_other _ _ (by omega)).trans (put3_same nilV hr1)) (set_block _ ((put3_other _ nilV (by omega)).trans he1))) rfl ⟨rfl, ?_⟩
  exact (put3_below nilV (hb0.trans (hb1.mono hb0.size)) (by omega)).setCell (p := ⟨w.heap.size + 1 + 1 + 1, 0, none⟩) (by simp; omega) _

set_option maxRecDepth 100000 in
set_option maxHeartbeats 2000000 in
theorem next_no2 (ks vs : Value) (xs ys : List Vl) (k : Vl) (w : World) (hT : Tab w.heap.size w ks vs xs ys) (h : mayT xs ys = true) (h' : mayB k.k k.n k.s = false) :
    Calls Tryz.prog 120 #[.agg #[ks, vs], k.v] w fun e w' => e = .returned (.tuple #[nilV.v, .int .i64 2]) ∧ Below w.heap.size w w' := by
  obtain ⟨a, c1, rfl⟩ := hT.keys.slice
  obtain ⟨a', c2, rfl⟩ := hT.vals.slice
  obtain ⟨W1, hW1⟩ : ∃ W1, ((((w.alloc (.cells #[.slice a xs.length c1, .slice a' ys.length c2] 57)).alloc (bx k)).alloc (bx nilV)).alloc (.cells #[.int .i64 0] 28)) = W1 := ⟨_, rfl⟩
  obtain ⟨hs1, hb0, ht0, hk0, hr0, he0⟩ := next_mem w _ k hW1
  have hC := tmay_t h (.slice a xs.length c1) (.slice a' ys.length c2) _ ((hT.below hb0).mono hb0.size)
  rw [← hW1] at hC
  clear hT h
  have hM := fun u => may_f k.k k.n k.s u h'
  clear h'
  go_enter Tryz.func120, Tryz.ntmps120
  go_wp2_with (go_at_call 43; refine hC.mono ?_; rintro e w1 ⟨rfl, hb1⟩; refine Hid.out ?_)
  rw [hW1] at hb1
  have hr1 := block_below hb1 hr0
  have he1 := block_below hb1 he0
  obtain ⟨q0, q1, q2, _, _, _⟩ := in3 (block_below hb1 hk0)
  clear hC hW1
  refine Lib.hid ?_
  go_wp2_with (go_at_call 60; refine (hM _).mono ?_; rintro e w2 ⟨rfl, hb2⟩; refine Hid.out ?_)
  have hr2 := block_below hb2 hr1
  have he2 := block_below hb2 he1
  obtain ⟨c0, c1', c2', f0, f1, f2⟩ := in3 hr2
  have z0 := Boxed.cell he2
  have z1 := Boxed.frozen he2
  refine Lib.hid ?_
  go_wp2
  refine bodyPost_ret (v := .tuple #[nilV.v, .int .i64 2]) (res9 rfl rfl ((set1_other _ _ (by omega)).trans (put3_same nilV hr2)) (set_block _ ((put3_other _ nilV (by omega)).trans he2))) rfl ⟨rfl, ?_⟩
  exact (put3_below nilV (hb0.trans ((ext_trans hb1 hb2).mono hb0.size)) (by omega)).setCell (p := ⟨w.heap.size + 1 + 1 + 1, 0, none⟩) (by simp; omega) _

theorem scan_go {p : Bool} {k : Vl} {pre : List Vl} (h : ∀ r, scan p k (pre ++ r) = scan false k r) (x : Vl) : ∀ r, scan p k ((pre ++ [x]) ++ r) = scan (decide (x = k)) k r := fun r => by
  rw [List.append_assoc, h]; rfl
theorem scan_hit {p : Bool} {k : Vl} {pre : List Vl} (h : ∀ r, scan p k (pre ++ r) = scan true k r) (x : Vl) : ∀ r, scan p k ((pre ++ [x]) ++ r) = (x, 0) := fun r => by
  rw [List.append_assoc, h]; rfl

set_option maxRecDepth 100000 in
set_option maxHeartbeats 2000000 in
theorem next_yes (n : Nat) (h3 : 3 ≤ n) (ks vs : Value) (zs : List (Vl × Vl)) (hlen : zs.length ≤ 100) (k : Vl) (w : World) (hT : Tab w.heap.size w ks vs (keysOf zs) (valsOf zs)) (h : mayT (keysOf zs) (valsOf zs) = true) (h' : mayB k.k k.n k.s = true) :
    CallsIn Fence.wide n Tryz.prog 120 #[.agg #[ks, vs], k.v] w fun e w' => e = .returned (.tuple #[(scan (k.k == 0) k (keysOf zs)).1.v, .int .i64 (scan (k.k == 0) k (keysOf zs)).2]) ∧ Below w.heap.size w w' := by
  have h1 : 1 ≤ n := by omega
  have hn1 : 1 ≤ n - 1 := by omega
  have hn2 : 1 ≤ n - 1 - 1 := by omega
  obtain ⟨a, c1, hks⟩ := hT.keys.slice
  obtain ⟨a', c2, hvs⟩ := hT.vals.slice
  simp only [keysOf, valsOf, List.length_map] at hks hvs
  subst hks hvs
  obtain ⟨W1, hW1⟩ : ∃ W1, ((((w.alloc (.cells #[.slice a zs.length c1, .slice a' zs.length c2] 57)).alloc (bx k)).alloc (bx nilV)).alloc (.cells #[.int .i64 0] 28)) = W1 := ⟨_, rfl⟩
  obtain ⟨hs1, hb0, ht0, hk0, hr0, he0⟩ := next_mem w _ k hW1
  have hC := tmay_t h (.slice a zs.length c1) (.slice a' zs.length c2) _ ((hT.below hb0).mono hb0.size)
  rw [← hW1] at hC
  have hM := fun u => may_t k.k k.n k.s u h'
  obtain ⟨p0, hp0⟩ : ∃ p0, (k.k == 0) = p0 := ⟨_, rfl⟩
  rw [hp0]
  clear h h'
  refine callsIn_of_wp_marks Tryz.func120 rfl trivial ?_ rfl
  simp only [Tryz.ntmps120, List.size_toArray, List.length_cons, List.length_nil, Nat.reduceAdd, Nat.reduceSub, Array.replicate_succ, Array.replicate_zero, List.push_toArray, List.append_toArray, List.nil_append, List.cons_append]
  gi_wp2_with (refine ⟨trivial, ?_⟩; gi_at_call 43; refine (callsIn_wide.2 hC).mono ?_; rintro e w1 ⟨rfl, hb1⟩; refine Hid.out ?_)
  rw [hW1] at hb1
  replace hr0 := block_below hb1 hr0
  replace he0 := block_below hb1 he0
  replace hk0 := block_below hb1 hk0
  replace ht0 := block_below hb1 ht0
  obtain ⟨q0, q1, q2, _, _, _⟩ := in3 hk0
  clear hC hW1
  refine Lib.hid ?_
  gi_wp2_with (refine ⟨trivial, ?_⟩; gi_at_call 60; refine (callsIn_wide.2 (hM _)).mono ?_; rintro e w2 ⟨rfl, hb2⟩; refine Hid.out ?_)
  replace hr0 := block_below hb2 hr0
  replace he0 := block_below hb2 he0
  replace hk0 := block_below hb2 hk0
  replace ht0 := block_below hb2 ht0
  have x0 : w2.cell? ⟨w.heap.size, 0, none⟩ = some (.slice a zs.length c1) := cell_block ht0 rfl
  have x1 : w2.cell? ⟨w.heap.size, 1, none⟩ = some (.slice a' zs.length c2) := cell_block ht0 rfl
  have hb12 := hb0.trans ((ext_trans hb1 hb2).mono hb0.size)
  have hz1 : w.heap.size + 4 ≤ w2.heap.size := by have := hb1.size; have := hb2.size; omega
  clear q0 q1 q2 hb1 hb2 hM
  replace x0 := cell_alloc (.cells #[.bool p0] 4) x0
  replace x1 := cell_alloc (.cells #[.bool p0] 4) x1
  obtain ⟨q0, q1, q2, _, _, _⟩ := in3 hk0
  refine Lib.hid ?_
  gi_wp2_with (refine ⟨trivial, ?_⟩; gi_at_call 62; refine (pairs_in _ _ _ _).mono ?_; rintro e w' ⟨rfl, rfl⟩)
  obtain ⟨W0, hW0⟩ : ∃ W0, (w2.alloc (.cells #[.bool p0] 4)).alloc (.cells #[.slice a zs.length c1, .slice a' zs.length c2] 57) = W0 := ⟨_, rfl⟩
  have hs0 : W0.heap.size = w2.heap.size + 2 := by rw [← hW0]; simp
  have hb2 : Below w.heap.size w W0 := by rw [← hW0]; exact (hb12.alloc (by omega) _).alloc (by simp; omega) _
  have hbt : W0.heap[w2.heap.size + 1]? = some (.cells #[.slice a zs.length c1, .slice a' zs.length c2] 57) := by
    have := World.alloc_heap_new (w2.alloc (.cells #[.bool p0] 4)) (.cells #[.slice a zs.length c1, .slice a' zs.length c2] 57)
    simp only [World.size_alloc] at this
    rw [← hW0]; exact this
  have hpb : W0.heap[w2.heap.size]? = some (.cells #[.bool p0] 4) := by rw [← hW0]; exact block_alloc _ (World.alloc_heap_new _ _)
  replace hr0 : W0.heap[w.heap.size + 1 + 1]? = some (bx nilV) := by rw [← hW0]; exact block_alloc _ (block_alloc _ hr0)
  replace hk0 : W0.heap[w.heap.size + 1]? = some (bx k) := by rw [← hW0]; exact block_alloc _ (block_alloc _ hk0)
  replace he0 : W0.heap[w.heap.size + 1 + 1 + 1]? = some (.cells #[.int .i64 0] 28) := by rw [← hW0]; exact block_alloc _ (block_alloc _ he0)
  rw [hW0]
  clear hW0 x0 x1 ht0 q0 q1 q2
  refine wpIn_rangeFunc_ownH rfl h1 (gf := 94) (lb := #[.pointer (some ⟨w2.heap.size + 1, 0, none⟩)]) rfl trivial (enters_of Tryz.func94 (by kernel_rfl) rfl)
    (pairs_stops (n - 1) (w2.heap.size + 1) w.heap.size _ _ zs hlen W0 (by omega) (by omega) hbt (hT.below hb2)) (fun h k => h.trans k) (Kept.putObj (by omega) (by omega)) (Below.refl _ _) (fun _ => rfl)
    (fun (pre : List (Vl × Vl)) W => ((∃ pb, (∀ r, scan p0 k (keysOf pre ++ r) = scan pb k r) ∧ W.heap[w2.heap.size]? = some (.cells #[.bool pb] 4)) ∧ W0.heap.size ≤ W.heap.size ∧ W.heap[w.heap.size + 1]? = some (bx k) ∧ W.heap[w.heap.size + 1 + 1]? = some (bx nilV) ∧ W.heap[w.heap.size + 1 + 1 + 1]? = some (.cells #[.int .i64 0] 28)) ∧ Below w.heap.size w W)
    (fun c (pre : List (Vl × Vl)) W => (c = .ret ∧ (∃ y, (∀ r, scan p0 k (keysOf pre ++ r) = (y, 0)) ∧ W.heap[w.heap.size + 1 + 1]? = some (bx y)) ∧ W.heap[w.heap.size + 1 + 1 + 1]? = some (.cells #[.int .i64 0] 28)) ∧ Below w.heap.size w W)
    (OwnFrom.and (OwnFrom.and (fun s A B row hs hg hr => by obtain ⟨pb, e2, e3⟩ := hs; exact ⟨pb, e2, (block_ownFrom (β := Unit) _ (by omega)) () A B row e3 hg hr⟩) (OwnFrom.and size_ownFrom (OwnFrom.and (block_ownFrom _ (by omega)) (OwnFrom.and (block_ownFrom _ (by omega)) (block_ownFrom _ (by omega)))))) (ownFrom_below (Nat.le_refl _) (by omega)))
    (fun c => OwnFrom.and (OwnFrom.and (ownFrom_pure _ _) (OwnFrom.and (fun s A B row hs hg hr => by obtain ⟨y, e2, e3⟩ := hs; exact ⟨y, e2, (block_ownFrom (β := Unit) _ (by omega)) () A B row e3 hg hr⟩) (block_ownFrom _ (by omega)))) (ownFrom_below (Nat.le_refl _) (by omega)))
    ⟨⟨⟨p0, fun _ => rfl, hpb⟩, Nat.le_refl _, hk0, hr0, he0⟩, hb2⟩
    (fun x q W => ∃ Bx, w2.heap.size + 1 < Bx ∧ Three W Bx 0 x.1 ∧ q = { tmps := #[.agg #[.slice a zs.length c1, .slice a' zs.length c2], k.v, .pointer (some ⟨w.heap.size, 0, none⟩), .pointer (some ⟨w.heap.size + 1, 0, none⟩), .pointer (some ⟨w.heap.size + 1 + 1, 0, none⟩), .pointer (some ⟨w.heap.size + 1 + 1 + 1, 0, none⟩), .pointer (some ⟨w2.heap.size, 0, none⟩), .pointer (some ⟨Bx, 0, none⟩), .agg #[.slice a zs.length c1, .slice a' zs.length c2], .bool true, .bool false, .bool false, k.v, .bool true, .bool false, .bool false, undef, .pointer (some ⟨w.heap.size + 1, 0, none⟩), .int .i64 k.k, .bool p0, .agg #[.slice a zs.length c1, .slice a' zs.length c2], .func (.func 94) #[] #[.pointer (some ⟨w2.heap.size + 1, 0, none⟩)], x.1.v, x.2.v, undef, undef, undef, undef, undef, undef, undef, undef, undef], defers := [] })
    (fun x q => fun _ A B row hs hg hr => by obtain ⟨Bx, h1, h2, h4⟩ := hs; exact ⟨Bx, h1, (Three.own (β := Unit) Bx 0 x.1) () A B row h2 hg (fun r e => (hr r e).2), h4⟩)
    ?assign ?body ?done ?stop
  case assign =>
    rintro l pre x W K ⟨⟨⟨pb, hp, kb⟩, hz, k0, k1, k2⟩, hB⟩ hK
    gi_wp2
    have hb' : Below W.heap.size W (W.alloc (bx x.1)) := (Below.refl _ _).alloc (Nat.le_refl _) _
    exact hK _ _ (keepsFrom_of_below hb') (kept_of_below hb' (by omega) (by omega)) ⟨⟨⟨pb, hp, block_below hb' kb⟩, Nat.le_trans hz hb'.size, block_below hb' k0, block_below hb' k1, block_below hb' k2⟩, hB.trans (hb'.mono (by omega))⟩ ⟨W.heap.size, by omega, three_new W x.1, rfl⟩
  case body =>
    rintro l pre x q W hl ⟨r, hr⟩ ⟨⟨⟨pb, hp, kb⟩, hz, k0, k1, k2⟩, hB⟩ ⟨Bx, hBx, ⟨t0, t1, t2⟩, rfl⟩ hlt
    clear hr hT hbt hb2 hr0 hk0 hb0 hb12 hpb he0
    rename_i Kd ad
    clear ad Kd
    obtain ⟨u0, u1, u2, _, _, _⟩ := in3 k0
    have v0 := Boxed.cell kb
    have v1 := Boxed.frozen kb
    have ek : keysOf (pre ++ [x]) = keysOf pre ++ [x.1] := by simp [keysOf]
    cases pb
    · replace hp : Hid _ := hp
      gi_wp2
      · rename_i e1 e2 e3
        have e : decide (x.1 = k) = true := decide_eq_true (Vl.ext' e1 e2 e3)
        have hB' := hB.setCell (p := ⟨w2.heap.size, 0, none⟩) (by show w.heap.size ≤ w2.heap.size; omega) (.bool true)
        exact ⟨(KeepsOthers.setCell _ _ _).from _, ⟨(Below.refl _ _).setCell (p := ⟨w2.heap.size, 0, none⟩) (by show w.heap.size ≤ w2.heap.size; omega) _, set1_other _ _ (by omega)⟩, ⟨⟨true, by rw [ek, ← e]; exact scan_go hp.out x.1, Boxed.set _ kb⟩, Nat.le_trans hz (KeepsOthers.setCell W ⟨w2.heap.size, 0, none⟩ (.bool true)).size, (set1_other _ _ (by omega)).trans k0, (set1_other _ _ (by omega)).trans k1, (set1_other _ _ (by omega)).trans k2⟩, hB'⟩
      all_goals
        have e : decide (x.1 = k) = false := decide_eq_false (fun e => by subst e; contradiction)
        have hB' := hB.setCell (p := ⟨w2.heap.size, 0, none⟩) (by show w.heap.size ≤ w2.heap.size; omega) (.bool false)
        exact ⟨(KeepsOthers.setCell _ _ _).from _, ⟨(Below.refl _ _).setCell (p := ⟨w2.heap.size, 0, none⟩) (by show w.heap.size ≤ w2.heap.size; omega) _, set1_other _ _ (by omega)⟩, ⟨⟨false, by rw [ek, ← e]; exact scan_go hp.out x.1, Boxed.set _ kb⟩, Nat.le_trans hz (KeepsOthers.setCell W ⟨w2.heap.size, 0, none⟩ (.bool false)).size, (set1_other _ _ (by omega)).trans k0, (set1_other _ _ (by omega)).trans k1, (set1_other _ _ (by omega)).trans k2⟩, hB'⟩
    · replace hp : Hid _ := hp
      obtain ⟨r0, r1, r2, f0, f1, f2⟩ := in3 k1
      have z0 := Boxed.cell k2
      have z1 := Boxed.frozen k2
      gi_wp2
      exact ⟨((put3_keeps W _ x.1).trans (KeepsOthers.setCell _ _ _)).from _, ⟨rfl, ⟨x.1, by rw [ek]; exact scan_hit hp.out x.1, (set1_other _ _ (by omega)).trans (put3_same x.1 k1)⟩, set_block _ ((put3_other _ x.1 (by omega)).trans k2)⟩, (put3_below x.1 hB (by omega)).setCell (p := ⟨w.heap.size + 1 + 1 + 1, 0, none⟩) (by simp; omega) _⟩
  case done =>
    rintro D ys W hD rfl ⟨⟨⟨pb, hp, kb⟩, hz, k0, k1, k2⟩, hB⟩ hK
    obtain ⟨r0, r1, r2, f0, f1, f2⟩ := in3 k1
    have z0 := Boxed.cell k2
    have z1 := Boxed.frozen k2
    have v0 := Boxed.cell kb
    have v1 := Boxed.frozen kb
    have hp' := hp []
    rw [List.append_nil] at hp'
    replace hp' : Hid _ := hp'
    clear hp
    cases pb
    · gi_wp2
      have hK' : ((put3 W (w.heap.size + 1 + 1) nilV).setCell ⟨w.heap.size + 1 + 1 + 1, 0, none⟩ (.int .i64 4)).heap[D]? = some (.deferred (some [])) := ((put3_keeps W _ _).trans (KeepsOthers.setCell _ _ _)).same D _ hK rfl
      refine ⟨by simp, .inl ⟨_, _, rfl, run_takeDeferred hK', ?_⟩⟩
      refine ⟨.tuple #[nilV.v, .int .i64 4], res9 rfl rfl (block_put ((set1_other _ _ (by omega)).trans (put3_same nilV k1)) (by omega)) (block_put (set_block _ ((put3_other _ nilV (by omega)).trans k2)) (by omega)), by rw [hp'.out]; rfl, ?_⟩
      exact ((put3_below nilV hB (by omega)).setCell (p := ⟨w.heap.size + 1 + 1 + 1, 0, none⟩) (by simp; omega) _).trans (belowK_b (w := w) (Nat.le_refl _) _ D _ _ (by omega) hK' rfl rfl)
    · gi_wp2
      have hK' : ((put3 W (w.heap.size + 1 + 1) nilV).setCell ⟨w.heap.size + 1 + 1 + 1, 0, none⟩ (.int .i64 0)).heap[D]? = some (.deferred (some [])) := ((put3_keeps W _ _).trans (KeepsOthers.setCell _ _ _)).same D _ hK rfl
      refine ⟨by simp, .inl ⟨_, _, rfl, run_takeDeferred hK', ?_⟩⟩
      refine ⟨.tuple #[nilV.v, .int .i64 0], res9 rfl rfl (block_put ((set1_other _ _ (by omega)).trans (put3_same nilV k1)) (by omega)) (block_put (set_block _ ((put3_other _ nilV (by omega)).trans k2)) (by omega)), by rw [hp'.out]; rfl, ?_⟩
      exact ((put3_below nilV hB (by omega)).setCell (p := ⟨w.heap.size + 1 + 1 + 1, 0, none⟩) (by simp; omega) _).trans (belowK_b (w := w) (Nat.le_refl _) _ D _ _ (by omega) hK' rfl rfl)
  case stop =>
    rintro D c pre W hD hpre ⟨⟨rfl, ⟨y, hy, k1⟩, k2⟩, hB⟩ hK
    gi_wp2
    refine ⟨by simp, .inl ⟨_, _, rfl, run_takeDeferred hK, ?_⟩⟩
    refine ⟨.tuple #[y.v, .int .i64 0], res9 rfl rfl (block_put k1 (by omega)) (block_put k2 (by omega)), ?_, hB.trans (belowK_b (w := w) (Nat.le_refl _) _ D _ _ (by omega) hK rfl rfl)⟩
    obtain ⟨r, rfl⟩ := hpre
    rw [keysOf, List.map_append, hy]

/-- Next, whatever the table and the key. -/
theorem next_any (ks vs : Value) (xs ys : List Vl) (k : Vl) (w : World) (hT : Tab w.heap.size w ks vs xs ys) :
    Calls Tryz.prog 120 #[.agg #[ks, vs], k.v] w fun e w' => e = .returned (.tuple #[(nextT xs ys k).1.v, .int .i64 (nextT xs ys k).2]) ∧ Below w.heap.size w w' := by
  unfold nextT
  cases h : mayT xs ys
  · exact next_no1 ks vs xs ys k w hT h
  · cases h' : mayB k.k k.n k.s
    · exact next_no2 ks vs xs ys k w hT h h'
    · obtain ⟨hl, hl'⟩ := mayT_len h
      have := next_yes 3 (by omega) ks vs (xs.zip ys) (by rw [List.length_zip]; omega) k w (by rw [zip_keys hl, zip_vals hl]; exact hT) (by rw [zip_keys hl, zip_vals hl]; exact h) h'
      rw [zip_keys hl] at this
      exact callsIn_wide.1 this

end Go.Proofs.YthdhgfpidhbdiaaGreatDoor
namespace Go.Proofs.YthdhgfpidhbdiaaGreatDoor
open Go.RowKit Go.Shelf
open Go

set_option linter.unusedSectionVars false
variable [DecidableEq Vl]

/-- The number i, as a value. -/
def numV (i : Nat) : Vl := if h : i ≤ 1000 then ⟨2, i, E0, by decide, WalkArith.wf_i64 (by omega), by decide⟩ else nilV
theorem numV_eq {i : Nat} (h : i ≤ 1000) : (numV i).v = val 2 i E0 := by simp [numV, h]

theorem numV_inj {i j : Nat} (hi : i ≤ 1000) (hj : j ≤ 1000) (h : numV i = numV j) : i = j := by
  have : (numV i).n = (numV j).n := by rw [h]
  simp [numV, hi, hj] at this
  omega

theorem length_le {l m : List Vl} (hn : l.Nodup) (h : ∀ x ∈ l, x ∈ m) : l.length ≤ m.length := by
  induction l generalizing m with
  | nil => simp
  | cons a l ih =>
    obtain ⟨h1, h2⟩ := List.nodup_cons.1 hn
    have hm := h a (by simp)
    have := ih (m := m.erase a) h2 (fun x hx => (List.mem_erase_of_ne (fun e => h1 (by rw [← e]; exact hx))).2 (h x (by simp [hx])))
    rw [List.length_erase_of_mem hm] at this
    have := List.length_pos_of_mem hm
    simp; omega

/-- How far the numbers from 1 on are keys. -/
def IsLen (xs : List Vl) (n : Nat) : Prop := (∀ j, j < n → numV (j + 1) ∈ xs) ∧ ¬ numV (n + 1) ∈ xs

theorem run_le {xs : List Vl} {n : Nat} (hx : xs.length ≤ 100) (h : ∀ j, j < n → numV (j + 1) ∈ xs) : n ≤ xs.length := by
  have key : ∀ k, k ≤ n → k ≤ 101 → k ≤ xs.length := fun k hk hk' => by
    have := length_le (l := (List.range k).map (fun j => numV (j + 1))) (m := xs) (by
      rw [List.nodup_iff_pairwise_ne, List.pairwise_map]
      refine List.Pairwise.imp_of_mem ?_ List.nodup_range
      intro i j hi hj hne e
      simp at hi hj
      exact hne (by have := numV_inj (by omega) (by omega) e; omega)) (by
      intro x hm
      obtain ⟨j, hj, rfl⟩ := List.mem_map.1 hm
      exact h j (by simp at hj; omega))
    simpa using this
  by_cases hn : n ≤ 101
  · exact key n (Nat.le_refl _) hn
  · have := key 101 (by omega) (Nat.le_refl _); omega

theorem number_any (n : Int) (w : World) : Calls Tryz.prog 118 #[.int .i64 n] w fun e w' => e = .returned (val 2 n E0) ∧ w' = w.alloc (box 2 n E0) := by
  go_enter Tryz.func118, Tryz.ntmps118
  go_wp2
  exact bodyPost_ret (v := val 2 n E0) (by simp [results, Tryz.results118, go_sem]) rfl ⟨rfl, rfl⟩

set_option maxRecDepth 100000 in
set_option maxHeartbeats 2000000 in
theorem len_no (ks vs : Value) (xs ys : List Vl) (w : World) (hT : Tab w.heap.size w ks vs xs ys) (h : mayT xs ys = false) :
    Calls Tryz.prog 119 #[.agg #[ks, vs]] w fun e w' => e = .returned (.int .i64 0) ∧ Below w.heap.size w w' := by
  obtain ⟨a, c1, rfl⟩ := hT.keys.slice
  obtain ⟨a', c2, rfl⟩ := hT.vals.slice
  have hb0 : Below w.heap.size w (w.alloc (.cells #[.slice a xs.length c1, .slice a' ys.length c2] 57)) := (Below.refl _ w).alloc (Nat.le_refl _) _
  have hC := tmay_f h (.slice a xs.length c1) (.slice a' ys.length c2) _ ((hT.below hb0).mono hb0.size)
  clear hT h
  go_enter Tryz.func119, Tryz.ntmps119
  go_wp2_with (go_at_call 43; refine hC.mono ?_; rintro e w1 ⟨rfl, hb1⟩)
  go_ret
  exact ⟨rfl, hb0.trans (hb1.mono hb0.size)⟩

set_option maxRecDepth 100000 in
set_option maxHeartbeats 2000000 in
theorem len_yes (ks vs : Value) (zs : List (Vl × Vl)) (hlen : zs.length ≤ 100) (w : World) (hT : Tab w.heap.size w ks vs (keysOf zs) (valsOf zs)) (h : mayT (keysOf zs) (valsOf zs) = true) :
    Calls Tryz.prog 119 #[.agg #[ks, vs]] w fun e w' => (∃ m : Nat, IsLen (keysOf zs) m ∧ e = .returned (.int .i64 m)) ∧ Below w.heap.size w w' := by
  obtain ⟨a, c1, hks⟩ := hT.keys.slice
  obtain ⟨a', c2, hvs⟩ := hT.vals.slice
  simp only [keysOf, valsOf, List.length_map] at hks hvs
  subst hks hvs
  have hb0 : Below w.heap.size w (w.alloc (.cells #[.slice a zs.length c1, .slice a' zs.length c2] 57)) := (Below.refl _ w).alloc (Nat.le_refl _) _
  have hC := tmay_t h (.slice a zs.length c1) (.slice a' zs.length c2) _ ((hT.below hb0).mono hb0.size)
  have ht0 := World.alloc_heap_new w (.cells #[.slice a zs.length c1, .slice a' zs.length c2] 57)
  clear h
  go_enter Tryz.func119, Tryz.ntmps119
  go_wp2_with (go_at_call 43; refine hC.mono ?_; rintro e w1 ⟨rfl, hb1⟩; refine Hid.out ?_)
  have hb01 := hb0.trans (hb1.mono hb0.size)
  have hC2 := callsIn_wide.1 (seen_in 3 (by omega) (.slice a zs.length c1) (.slice a' zs.length c2) zs hlen w1 ((hT.below hb01).mono hb01.size))
  have ht1 := block_below hb1 ht0
  have x0 : w1.cell? ⟨w.heap.size, 0, none⟩ = some (.slice a zs.length c1) := cell_block ht1 rfl
  have x1 : w1.cell? ⟨w.heap.size, 1, none⟩ = some (.slice a' zs.length c2) := cell_block ht1 rfl
  clear hC hb1 hb0 ht0 ht1 hT
  refine Lib.hid ?_
  go_wp2_with (go_at_call 64; refine hC2.mono ?_; rintro e w2 ⟨rfl, hown, hb2⟩; refine Hid.out ?_)
  have hb02 := hb01.trans (hb2.mono hb01.size)
  clear hC2 x0 x1 hb01 hb2
  refine Lib.hid ?_
  go_wp2
  go_loopw [3] (fun i wr => ∃ m : Nat, i = .int .i64 m ∧ (∀ j, j < m → numV (j + 1) ∈ keysOf zs) ∧ wr.ownsMap Tryz.prog 30 (plainElem (H := Unit) Tryz.prog 3) (w1.heap.size + 1) zs.length (tally (keysOf zs)) ∧ Below w.heap.size w wr) (fun i _ => 101 - (intOf i).toNat)
  case atStart => exact ⟨0, rfl, fun j hj => by omega, hown, hb02⟩
  case round =>
    obtain ⟨m, rfl, hj, ho, hb⟩ := hrel
    have hm := run_le (by simpa using hlen) hj
    simp only [keysOf, List.length_map] at hm
    obtain ⟨c, hat, hc0, hc1, hc2⟩ := at_tally (keysOf zs) (by simp; omega) (numV (m + 1))
    obtain ⟨c', hl, hat', _⟩ := (ho.alloc (box 2 (m + 1) E0)).lookup_int keyed Tryz.underlying99 Tryz.underlying3 (Tryz.zeroValue3 _) (keyOf_v (numV (m + 1)))
    rw [hat] at hat'
    cases hat'
    rw [numV_eq (by omega)] at hl
    push_cast at hl
    clear hown hb02 hat
    by_cases hpos : 0 < c
    · have hq : Hid (numV (m + 1) ∈ keysOf zs) := hc2.1 hpos
      replace hj : Hid _ := hj
      clear hc2
      go_wp2_with (go_at_call 118; refine (number_any _ _).mono ?_; rintro e w3 ⟨rfl, rfl⟩)
      refine ⟨⟨m + 1, by simp, fun j hlt => ?_, ho.alloc _, hb.alloc hb.size _⟩, by simp [intOf]; omega⟩
      rcases Nat.lt_or_ge j m with h | h
      · exact hj.out j h
      · obtain rfl : j = m := by omega
        exact hq.out
    · have hq : Hid (¬ numV (m + 1) ∈ keysOf zs) := fun hm => hpos (hc2.2 hm)
      replace hj : Hid _ := hj
      clear hc2
      go_wp2_with (go_at_call 118; refine (number_any _ _).mono ?_; rintro e w3 ⟨rfl, rfl⟩)
      go_ret
      exact ⟨⟨m, ⟨hj.out, hq.out⟩, rfl⟩, hb.alloc hb.size _⟩

/-- Len, whatever the table. -/
def LenT (xs ys : List Vl) (m : Nat) : Prop := if mayT xs ys = true then IsLen xs m else m = 0
theorem len_any (ks vs : Value) (xs ys : List Vl) (w : World) (hT : Tab w.heap.size w ks vs xs ys) :
    Calls Tryz.prog 119 #[.agg #[ks, vs]] w fun e w' => (∃ m : Nat, LenT xs ys m ∧ e = .returned (.int .i64 m)) ∧ Below w.heap.size w w' := by
  unfold LenT
  cases h : mayT xs ys
  · exact (len_no ks vs xs ys w hT h).mono fun e w' ⟨he, hb⟩ => ⟨⟨0, by simp, he⟩, hb⟩
  · obtain ⟨hl, hl'⟩ := mayT_len h
    have := len_yes ks vs (xs.zip ys) (by rw [List.length_zip]; omega) w (by rw [zip_keys hl, zip_vals hl]; exact hT) (by rw [zip_keys hl, zip_vals hl]; exact h)
    rw [zip_keys hl] at this
    exact this.mono fun e w' ⟨⟨m, hm, he⟩, hb⟩ => ⟨⟨m, by simpa using hm, he⟩, hb⟩

end Go.Proofs.YthdhgfpidhbdiaaGreatDoor
