/- May of a table: the loop over its pairs. -/
import Derived.Test.YtkcieeckndimpaaStand
namespace Go.Proofs.Ytkcieeckndimpaa
open Go.RowKit Go.Shelf
open Go

set_option linter.unusedSectionVars false
variable [DecidableEq Vl]

attribute [local go_sem] Oper.semAt_some

/-- Both of a pair may stand. -/
def stP (p : Vl × Vl) : Bool := stB p.1 && stB p.2

theorem Three.alloc {W : World} {b i : Nat} {x : Vl} (o : Obj) (h : Three W b i x) : Three (W.alloc o) b i x := ⟨cell_alloc _ h.k, cell_alloc _ h.n, cell_alloc _ h.s⟩
theorem Three.lt {W : World} {b i : Nat} {x : Vl} (h : Three W b i x) : b < W.heap.size := World.block_lt_of_cell? _ _ h.k

theorem Row.mono {m m' : Nat} {W : World} {sv : Value} {xs : List Vl} (r : Row m W sv xs) (h : m ≤ m') : Row m' W sv xs := by
  obtain ⟨a, cap, e, hl, hx⟩ := r
  refine ⟨a, cap, e, hl, fun hne => ?_⟩
  obtain ⟨b, off, ea, hb, hc⟩ := hx hne
  exact ⟨b, off, ea, by omega, hc⟩
theorem Tab.mono {m m' : Nat} {W : World} {ks vs : Value} {xs ys : List Vl} (t : Tab m W ks vs xs ys) (h : m ≤ m') : Tab m' W ks vs xs ys := ⟨t.keys.mono h, t.vals.mono h⟩

theorem block_ownFrom {β : Type} {B B' : Nat} (o : Obj) (h : B < B') : OwnFrom B' (fun (_ : β) W => W.heap[B]? = some o) := fun _ _ _ _ hs hg hr =>
  (hg.block B (Array.getElem?_eq_some_iff.1 hs).1 (fun e => by have := (hr _ e.symm).1; omega)).trans hs
theorem size_ownFrom {β : Type} {B k : Nat} : OwnFrom B (fun (_ : β) W => k ≤ W.heap.size) := fun _ _ _ _ hs hg _ => Nat.le_trans hs hg.size
theorem block_alloc {W : World} {B : Nat} {o : Obj} (o' : Obj) (h : W.heap[B]? = some o) : (W.alloc o').heap[B]? = some o := (Below.heap_alloc _ _ _ (Array.getElem?_eq_some_iff.1 h).1).trans h
theorem block_below {W W' : World} {B : Nat} {o : Obj} (hb : Below W.heap.size W W') (h : W.heap[B]? = some o) : W'.heap[B]? = some o := (hb.block B (Array.getElem?_eq_some_iff.1 h).1).trans h

set_option maxRecDepth 100000 in
set_option maxHeartbeats 2000000 in
theorem tmay_loop (n : Nat) (h3 : 3 ≤ n) (ks vs : Value) (zs : List (Vl × Vl)) (hlen : zs.length ≤ 100) (w : World) (hT : Tab w.heap.size w ks vs (keysOf zs) (valsOf zs)) :
    CallsIn Fence.wide n Try.prog 12 #[.agg #[ks, vs]] w fun e w' => e = .returned (.bool (zs.all stP && decide (keysOf zs).Nodup)) ∧ Below w.heap.size w w' := by
  have h1 : 1 ≤ n := by omega
  have h2 : 1 ≤ n - 1 := by omega
  have hn2 : 1 ≤ n - 1 - 1 := by omega
  obtain ⟨a, c1, hks⟩ := hT.keys.slice
  obtain ⟨a', c2, hvs⟩ := hT.vals.slice
  simp only [keysOf, valsOf, List.length_map] at hks hvs
  subst hks hvs
  have g1 : ((zs.length : Int) != (zs.length : Int)) = false := by simp
  have g2 : ¬ (100 : Int) < (zs.length : Int) := by omega
  refine callsIn_of_wp_marks Try.func12 rfl trivial ?_ rfl
  simp only [Try.ntmps12, List.size_toArray, List.length_cons, List.length_nil, Nat.reduceAdd, Nat.reduceSub, Array.replicate_succ, Array.replicate_zero, List.push_toArray, List.append_toArray, List.nil_append, List.cons_append]
  gi_wp2_with (refine ⟨trivial, ?_⟩; gi_at_call 19; refine (pairs_in _ _ _ _).mono ?_; rintro e w' ⟨rfl, rfl⟩)
  obtain ⟨W0, hW0⟩ : ∃ W0, ((w.alloc (.cells #[.slice a zs.length c1, .slice a' zs.length c2] 24)).alloc (.cells #[.bool false] 4)).alloc (.cells #[.slice a zs.length c1, .slice a' zs.length c2] 24) = W0 := ⟨_, rfl⟩
  have hs0 : W0.heap.size = w.heap.size + 3 := by rw [← hW0]; simp
  have b0 : W0.heap[w.heap.size]? = some (.cells #[.slice a zs.length c1, .slice a' zs.length c2] 24) := by rw [← hW0]; exact block_alloc _ (block_alloc _ (World.alloc_heap_new w _))
  have b1 : W0.heap[w.heap.size + 1]? = some (.cells #[.bool false] 4) := by
    have := block_alloc (.cells #[.slice a zs.length c1, .slice a' zs.length c2] 24) (World.alloc_heap_new (w.alloc (.cells #[.slice a zs.length c1, .slice a' zs.length c2] 24)) (.cells #[.bool false] 4))
    simp only [World.size_alloc] at this
    rw [← hW0]; exact this
  have hbt : W0.heap[w.heap.size + 1 + 1]? = some (.cells #[.slice a zs.length c1, .slice a' zs.length c2] 24) := by
    have := World.alloc_heap_new ((w.alloc (.cells #[.slice a zs.length c1, .slice a' zs.length c2] 24)).alloc (.cells #[.bool false] 4)) (.cells #[.slice a zs.length c1, .slice a' zs.length c2] 24)
    simp only [World.size_alloc] at this
    rw [← hW0]; exact this
  have hB0 : Below w.heap.size w W0 := by rw [← hW0]; exact (((Below.refl _ w).alloc (Nat.le_refl _) _).alloc (by simp) _).alloc (by simp; omega) _
  rw [hW0]
  clear hW0
  refine wpIn_rangeFunc_ownH rfl h1 (gf := 28) (lb := #[.pointer (some ⟨w.heap.size + 1 + 1, 0, none⟩)]) rfl trivial (enters_of Try.func28 (by kernel_rfl) rfl)
    (pairs_stops (n - 1) (w.heap.size + 1 + 1) w.heap.size _ _ zs hlen W0 (by omega) (by omega) hbt (hT.below hB0)) (fun h k => h.trans k) (Kept.putObj (by omega) (by omega)) (Below.refl _ _) (fun _ => rfl)
    (fun (pre : List (Vl × Vl)) W => ((∀ p ∈ pre, stP p = true) ∧ W0.heap.size ≤ W.heap.size ∧ W.heap[w.heap.size]? = some (.cells #[.slice a zs.length c1, .slice a' zs.length c2] 24) ∧ W.heap[w.heap.size + 1]? = some (.cells #[.bool false] 4)) ∧ Below w.heap.size w W)
    (fun c (pre : List (Vl × Vl)) W => (c = .ret ∧ (∃ p ∈ pre, stP p = false) ∧ W.heap[w.heap.size + 1]? = some (.cells #[.bool false] 4)) ∧ Below w.heap.size w W)
    (OwnFrom.and (OwnFrom.and (ownFrom_pure _ _) (OwnFrom.and size_ownFrom (OwnFrom.and (block_ownFrom _ (by omega)) (block_ownFrom _ (by omega))))) (ownFrom_below (Nat.le_refl _) (by omega)))
    (fun c => OwnFrom.and (OwnFrom.and (ownFrom_pure _ _) (OwnFrom.and (ownFrom_pure _ _) (block_ownFrom _ (by omega)))) (ownFrom_below (Nat.le_refl _) (by omega)))
    ⟨⟨by simp, Nat.le_refl _, b0, b1⟩, hB0⟩
    (fun x q W => ∃ Bx By, w.heap.size + 1 + 1 < Bx ∧ Three W Bx 0 x.1 ∧ Three W By 0 x.2 ∧ q = { tmps := #[.agg #[.slice a zs.length c1, .slice a' zs.length c2], .pointer (some ⟨w.heap.size, 0, none⟩), .pointer (some ⟨w.heap.size + 1, 0, none⟩), .pointer (some ⟨Bx, 0, none⟩), .pointer (some ⟨By, 0, none⟩), .pointer (some ⟨w.heap.size, 0, none⟩), .slice a zs.length c1, .int .i64 zs.length, .pointer (some ⟨w.heap.size, 1, none⟩), .slice a' zs.length c2, .int .i64 zs.length, .bool false, .bool false, .pointer (some ⟨w.heap.size, 0, none⟩), .slice a zs.length c1, .int .i64 zs.length, .bool false, .bool false, .agg #[.slice a zs.length c1, .slice a' zs.length c2], .func (.func 28) #[] #[.pointer (some ⟨w.heap.size + 1 + 1, 0, none⟩)], x.1.v, x.2.v, undef, undef, undef, undef, undef, undef, undef, undef, undef, undef, undef, undef, undef, undef, undef], defers := [] })
    (fun x q => fun _ A B row hs hg hr => by obtain ⟨Bx, By, h1, h2, h3, h4⟩ := hs; exact ⟨Bx, By, h1, (Three.own (β := Unit) Bx 0 x.1) () A B row h2 hg (fun r e => (hr r e).2), (Three.own (β := Unit) By 0 x.2) () A B row h3 hg (fun r e => (hr r e).2), h4⟩)
    ?assign ?body ?done ?stop
  case assign =>
    rintro l pre x W K ⟨⟨hp, hz, k0, k1⟩, hB⟩ hK
    gi_wp2
    have hb' : Below W.heap.size W ((W.alloc (.cells #[.int .i64 x.1.k, .int .i64 x.1.n, .string x.1.s] 26)).alloc (.cells #[.int .i64 x.2.k, .int .i64 x.2.n, .string x.2.s] 26)) := ((Below.refl _ _).alloc (Nat.le_refl _) _).alloc (by simp) _
    exact hK _ _ (keepsFrom_of_below hb') (kept_of_below hb' (by omega) (by omega)) ⟨⟨hp, by have := hb'.size; omega, block_below hb' k0, block_below hb' k1⟩, hB.trans (hb'.mono (by omega))⟩ ⟨W.heap.size, W.heap.size + 1, by omega, (three_new W x.1).alloc _, by have := three_new (W.alloc (.cells #[.int .i64 x.1.k, .int .i64 x.1.n, .string x.1.s] 26)) x.2; simpa using this, rfl⟩
  case body =>
    rintro l pre x q W hl ⟨r, hr⟩ ⟨⟨hp, hz, k0, k1⟩, hB⟩ ⟨Bx, By, hBx, ⟨t0, t1, t2⟩, t', rfl⟩ hlt
    clear hr hT hbt hB0 b0 b1 g1 g2
    rename_i Kd ad
    clear ad Kd
    cases h1' : stB x.1
    · have e1 : stP x = false := by simp [stP, h1']
      have hC := stands_f h1'
      clear h1'
      gi_wp2_with (refine ⟨trivial, ?_⟩; gi_at_call 25; refine (CallsIn.inRound l (callsIn_wide.2 (hC _))).mono ?_; rintro e w1 ⟨rfl, hb1⟩; have k1' := block_below hb1 k1; have c1' := Boxed.cell k1'; have f1' := Boxed.frozen k1')
      refine ⟨trivial, ?_⟩
      gi_wp2
      exact ⟨(keepsFrom_of_below hb1).trans ((KeepsOthers.setCell _ _ _).from _), ⟨rfl, ⟨x, by simp, e1⟩, Boxed.set _ k1'⟩, (hB.trans (hb1.mono (by omega))).setCell (p := ⟨w.heap.size + 1, 0, none⟩) (by simp) _⟩
    · cases h2' : stB x.2
      · have e1 : stP x = false := by simp [stP, h2']
        have hC := stands_t h1'
        have hC2 := stands_f h2'
        clear h1' h2'
        gi_wp2_with (refine ⟨trivial, ?_⟩; gi_at_call 25; refine (CallsIn.inRound l (callsIn_wide.2 (hC _))).mono ?_; rintro e w1 ⟨rfl, hb1⟩; refine Hid.out ?_)
        have k1' := block_below hb1 k1
        obtain ⟨s0, s1, s2⟩ := t'.below hb1 t'.lt
        have hz1 := Nat.le_trans hz hb1.size
        refine Lib.hid ?_
        gi_wp2_with (refine ⟨trivial, ?_⟩; gi_at_call 25; refine (CallsIn.inRound l (callsIn_wide.2 (hC2 _))).mono ?_; rintro e w2 ⟨rfl, hb2⟩; have k2' := block_below hb2 k1'; have c2' := Boxed.cell k2'; have f2' := Boxed.frozen k2')
        have hb12 := ext_trans hb1 hb2
        exact ⟨(keepsFrom_of_below hb12).trans ((KeepsOthers.setCell _ _ _).from _), ⟨rfl, ⟨x, by simp, e1⟩, Boxed.set _ k2'⟩, (hB.trans (hb12.mono (by omega))).setCell (p := ⟨w.heap.size + 1, 0, none⟩) (by simp) _⟩
      · have e1 : stP x = true := by simp [stP, h1', h2']
        have hC := stands_t h1'
        have hC2 := stands_t h2'
        clear h1' h2'
        gi_wp2_with (refine ⟨trivial, ?_⟩; gi_at_call 25; refine (CallsIn.inRound l (callsIn_wide.2 (hC _))).mono ?_; rintro e w1 ⟨rfl, hb1⟩; refine Hid.out ?_)
        have k1' := block_below hb1 k1
        obtain ⟨s0, s1, s2⟩ := t'.below hb1 t'.lt
        have hz1 := Nat.le_trans hz hb1.size
        refine Lib.hid ?_
        gi_wp2_with (refine ⟨trivial, ?_⟩; gi_at_call 25; refine (CallsIn.inRound l (callsIn_wide.2 (hC2 _))).mono ?_; rintro e w2 ⟨rfl, hb2⟩)
        have hb12 := ext_trans hb1 hb2
        exact ⟨keepsFrom_of_below hb12, kept_of_below hb12 (by omega) (by omega), ⟨fun p hm => (List.mem_append.1 hm).elim (hp p) (fun e => by simp at e; subst e; exact e1), Nat.le_trans hz hb12.size, block_below hb12 k0, block_below hb12 k1⟩, hB.trans (hb12.mono (by omega))⟩
  case done =>
    rintro D ys W hD rfl ⟨⟨hp, hz, k0, k1⟩, hB⟩ hK
    have hall : ys.all stP = true := by simpa using hp
    have hlt0 : w.heap.size < W.heap.size := by omega
    have hTW : Tab W.heap.size W.drew (.slice a ys.length c1) (.slice a' ys.length c2) (keysOf ys) (valsOf ys) := (hT.below hB.drew).mono (Nat.le_of_lt hlt0)
    have hz0 : W.cell? ⟨w.heap.size, 0, none⟩ = some (.slice a ys.length c1) := by simp [World.cell?, k0]
    have hz1 : W.cell? ⟨w.heap.size, 1, none⟩ = some (.slice a' ys.length c2) := by simp [World.cell?, k0]
    have hC := seen_in (n - 1) h2 _ _ ys hlen W.drew hTW
    clear hp b0 b1 hbt hB0 hT
    gi_wp2
    obtain ⟨K0, hK0⟩ : ∃ K0 : Act → World → Prop, K0 = (fun q w' => ∃ w1, w1.ownsMap Try.prog 26 (plainElem (H := Unit) Try.prog 3) (W.heap.size + 1) ys.length (tally (keysOf ys)) ∧ Below W.heap.size W.drew w1 ∧ w' = w1.setCell ⟨w.heap.size + 1, 0, none⟩ (.bool (((Maps.size (tally (keysOf ys)) : Nat) : Int) == ((ys.length : Nat) : Int))) ∧ q.defers = [{ target := Target.collected D, args := #[] }] ∧ q.tmps[2]?.getD undef = .pointer (some ⟨w.heap.size + 1, 0, none⟩)) := ⟨_, rfl⟩
    refine wpIn_mono (Q := Exit.then K0 (fun _ _ _ => False)) ?_ ?_
    · replace hK0 : Hid _ := hK0
      rename_i Kd ad
      clear ad
      gi_region_with (refine ⟨trivial, ?_⟩; refine hC.mono ?_; rintro e w1 ⟨rfl, hown, hb1⟩; have hl : (Builtin.len_ #[45] 3 #[.map (some (W.heap.size + 1))]).run Try.prog w1 = .ok (.int .i64 (Maps.size (tally (keysOf ys)))) w1 := hown.len Try.underlying45 3; have y0 := (hb1.cell (p := ⟨w.heap.size, 0, none⟩) hlt0).trans hz0; have k1' := block_below (W := W.drew) hb1 k1; have c1' := Boxed.cell k1'; have f1' := Boxed.frozen k1')
      all_goals (rw [hK0.out]; exact ⟨w1, hown, hb1, rfl, rfl, rfl⟩)
    · intro e q w' hQ
      rw [hK0] at hQ
      obtain ⟨rfl, w1, hown, hb1, rfl, hq1, hq2⟩ := then_normal hQ
      obtain ⟨tm, df⟩ := q
      simp only at hq1 hq2
      subst hq1
      clear hQ hK0 K0
      have k1' := block_below (W := W.drew) hb1 k1
      gi_wp2
      have hK' : (w1.setCell ⟨w.heap.size + 1, 0, none⟩ (.bool (((Maps.size (tally (keysOf ys)) : Nat) : Int) == ((ys.length : Nat) : Int)))).heap[D]? = some (.deferred (some [])) := (KeepsOthers.setCell w1 _ _).same D _ (block_below (W := W.drew) hb1 hK) rfl
      refine ⟨by simp, .inl ⟨_, _, rfl, run_takeDeferred hK', ?_⟩⟩
      have hc5 := cell_kept (Boxed.cell (Boxed.set (.bool (((Maps.size (tally (keysOf ys)) : Nat) : Int) == ((ys.length : Nat) : Int))) k1')) (grownBy_putObj' _ D (.deferred none)) (fun r e => by cases e; exact ⟨_, hK', rfl⟩)
      refine ⟨.bool (((Maps.size (tally (keysOf ys)) : Nat) : Int) == ((ys.length : Nat) : Int)), ?_, ret_bool ?_, ((hB.trans ((Below.refl w.heap.size W).drew.trans (hb1.mono (Nat.le_of_lt hlt0)))).setCell (p := ⟨w.heap.size + 1, 0, none⟩) (by simp) _).trans (belowK_b (w := w) (Nat.le_refl _) _ D _ _ (by omega) hK' rfl rfl)⟩
      · simp [results, Try.results12, go_sem, hq2, hc5]
      · rw [hall, Bool.true_and]
        have := size_tally (keysOf ys)
        rw [keysOf, List.length_map] at this
        by_cases hn : (keysOf ys).Nodup
        · rw [decide_eq_true hn, this.2 hn]; simp
        · rw [decide_eq_false hn]
          have : ¬ Maps.size (tally (keysOf ys)) = ys.length := fun e => hn (this.1 e)
          simp; omega
  case stop =>
    rintro D c pre W hD hpre ⟨⟨rfl, hin, k1⟩, hB⟩ hK
    gi_wp2
    refine ⟨by simp, .inl ⟨_, _, rfl, run_takeDeferred hK, ?_⟩⟩
    have hc5 := cell_kept (Boxed.cell k1) (grownBy_putObj' _ D (.deferred none)) (fun r e => by cases e; exact ⟨_, hK, rfl⟩)
    have hno : (zs.all stP && decide (keysOf zs).Nodup) = false := by
      obtain ⟨p, hp, hf⟩ := hin
      have : zs.all stP = false := List.all_eq_false.2 ⟨p, hpre.subset hp, by simp [hf]⟩
      rw [this]; rfl
    refine ⟨.bool false, ?_, by rw [hno], hB.trans (belowK_b (w := w) (Nat.le_refl _) W D _ _ (by omega) hK rfl rfl)⟩
    simp [results, Try.results12, go_sem, hc5]

theorem zip_keys {xs ys : List Vl} (h : xs.length = ys.length) : keysOf (xs.zip ys) = xs := List.map_fst_zip (by omega)
theorem zip_vals {xs ys : List Vl} (h : xs.length = ys.length) : valsOf (xs.zip ys) = ys := List.map_snd_zip (by omega)
theorem zip_all {xs ys : List Vl} (h : xs.length = ys.length) : (xs.zip ys).all stP = (xs.all stB && ys.all stB) := by
  induction xs generalizing ys with
  | nil => cases ys with
    | nil => rfl
    | cons y ys => simp at h
  | cons x xs ih => cases ys with
    | nil => simp at h
    | cons y ys =>
      simp only [List.length_cons, Nat.add_right_cancel_iff] at h
      simp only [List.zip_cons_cons, List.all_cons, ih h, stP]
      cases stB x <;> cases stB y <;> simp

/-- May, whatever the table. -/
theorem tmay_any (ks vs : Value) (xs ys : List Vl) (w : World) (hT : Tab w.heap.size w ks vs xs ys) :
    Calls Try.prog 12 #[.agg #[ks, vs]] w fun e w' => e = .returned (.bool (mayT xs ys)) ∧ Below w.heap.size w w' := by
  unfold mayT
  by_cases h : xs.length = ys.length
  · by_cases hl : xs.length ≤ 100
    · have := tmay_loop 3 (by omega) ks vs (xs.zip ys) (by rw [List.length_zip]; omega) w (by rw [zip_keys h, zip_vals h]; exact hT)
      rw [zip_all h, zip_keys h] at this
      simpa [h, h ▸ hl] using callsIn_wide.1 this
    · have := tmay_long ks vs xs ys w hT h (by omega)
      simpa [h, h ▸ hl] using this
  · have := tmay_len ks vs xs ys w hT (by simpa using h)
    simpa [h] using this

end Go.Proofs.Ytkcieeckndimpaa
