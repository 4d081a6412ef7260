/- stands; the small things of a table. May of a table: the loop over its pairs. Boxes of three cells and of two: what a store makes of them. Orders in memory, and the small questions to them. -/
import Derived.Test.YthdhgfpidhbdiaaGreatDoorJ07
import Derived.Test.YthdhgfpidhbdiaaGreatDoorJ06
import Derived.LoopTactic
import Derived.Shelf.RegionOpen
namespace Go.Proofs.YthdhgfpidhbdiaaGreatDoor
open Go.RowKit Go.Shelf
open Go

/-- May it be a key, or stand under one? -/
def stB (x : Vl) : Bool := x.k != 0 && mayB x.k x.n x.s

set_option maxHeartbeats 800000 in
theorem stands_nil (x : Vl) (w : World) (h : (x.k != 0) = false) : Calls Tryz.prog 63 #[x.v] w fun e w' => e = .returned (.bool false) ∧ Below w.heap.size w w' := by
  go_enter Tryz.func63, Tryz.ntmps63
  go_wp2
  go_ret
  exact ⟨rfl, (Below.refl _ _).alloc (Nat.le_refl _) _⟩

set_option maxHeartbeats 800000 in
theorem stands_more (x : Vl) (w : World) (h : (x.k != 0) = true) : Calls Tryz.prog 63 #[x.v] w fun e w' => e = .returned (.bool (mayB x.k x.n x.s)) ∧ Below w.heap.size w w' := by
  go_enter Tryz.func63, Tryz.ntmps63
  go_wp2_with (go_at_call 60; refine (may_any _ _ _ _).mono ?_; rintro e w1 ⟨rfl, hb1⟩)
  go_ret
  exact ⟨rfl, ext_trans ((Below.refl _ _).alloc (Nat.le_refl _) _) hb1⟩

theorem stands_any (x : Vl) (w : World) : Calls Tryz.prog 63 #[x.v] w fun e w' => e = .returned (.bool (stB x)) ∧ Below w.heap.size w w' := by
  unfold stB
  cases h : (x.k != 0)
  · exact stands_nil x w h
  · exact stands_more x w h

theorem stands_t {x : Vl} (h : stB x = true) (w : World) : Calls Tryz.prog 63 #[x.v] w fun e w' => e = .returned (.bool true) ∧ Below w.heap.size w w' := h ▸ stands_any x w
theorem stands_f {x : Vl} (h : stB x = false) (w : World) : Calls Tryz.prog 63 #[x.v] w fun e w' => e = .returned (.bool false) ∧ Below w.heap.size w w' := h ▸ stands_any x w

/-- Are two values the same? -/
def vlEq : DecidableEq Vl := fun x y =>
  if h : x.k = y.k ∧ x.n = y.n ∧ x.s.toList = y.s.toList then .isTrue (Vl.ext' h.1 h.2.1 h.2.2) else .isFalse (fun e => h (by subst e; exact ⟨rfl, rfl, rfl⟩))

set_option linter.unusedSectionVars false
variable [DecidableEq Vl]

/-- Which tables may be. -/
def mayT (xs ys : List Vl) : Bool := decide (xs.length = ys.length) && decide (xs.length ≤ 100) && (xs.all stB && ys.all stB) && decide xs.Nodup

/-- A table's value: two slices. -/
theorem Row.slice {m : Nat} {W : World} {sv : Value} {xs : List Vl} (h : Row m W sv xs) : ∃ a c, sv = .slice a xs.length c := let ⟨a, c, e, _⟩ := h; ⟨a, c, e⟩

set_option maxRecDepth 100000 in
set_option maxHeartbeats 2000000 in
theorem tmay_len (ks vs : Value) (xs ys : List Vl) (w : World) (hT : Tab w.heap.size w ks vs xs ys) (h : (xs.length == ys.length) = false) :
    Calls Tryz.prog 43 #[.agg #[ks, vs]] w fun e w' => e = .returned (.bool false) ∧ Below w.heap.size w w' := by
  obtain ⟨a, c1, rfl⟩ := hT.keys.slice
  obtain ⟨a', c2, rfl⟩ := hT.vals.slice
  have h' : ((xs.length : Int) != (ys.length : Int)) = true := by simp at h ⊢; omega
  clear hT h
  go_enter Tryz.func43, Tryz.ntmps43
  go_wp2
  exact bodyPost_ret (v := .bool false) (by simp [results, Tryz.results43, go_sem]) rfl ⟨rfl, ((Below.refl _ _).alloc (Nat.le_refl _) _).alloc (by simp) _⟩

set_option maxRecDepth 100000 in
set_option maxHeartbeats 2000000 in
theorem tmay_long (ks vs : Value) (xs ys : List Vl) (w : World) (hT : Tab w.heap.size w ks vs xs ys) (h : xs.length = ys.length) (hl : 100 < xs.length) :
    Calls Tryz.prog 43 #[.agg #[ks, vs]] w fun e w' => e = .returned (.bool false) ∧ Below w.heap.size w w' := by
  obtain ⟨a, c1, rfl⟩ := hT.keys.slice
  obtain ⟨a', c2, rfl⟩ := hT.vals.slice
  have h' : ((xs.length : Int) != (ys.length : Int)) = false := by simp; omega
  have h2 : (100 : Int) < (xs.length : Int) := by omega
  clear hT hl
  go_enter Tryz.func43, Tryz.ntmps43
  go_wp2
  exact bodyPost_ret (v := .bool false) (by simp [results, Tryz.results43, go_sem]) rfl ⟨rfl, ((Below.refl _ _).alloc (Nat.le_refl _) _).alloc (by simp) _⟩

end Go.Proofs.YthdhgfpidhbdiaaGreatDoor
namespace Go.Proofs.YthdhgfpidhbdiaaGreatDoor
open Go.RowKit Go.Shelf
open Go

set_option linter.unusedSectionVars false
variable [DecidableEq Vl]

attribute [local go_sem] Oper.semAt_some

/-- Both of a pair may stand. -/
def stP (p : Vl × Vl) : Bool := stB p.1 && stB p.2

theorem Three.alloc {W : World} {b i : Nat} {x : Vl} (o : Obj) (h : Three W b i x) : Three (W.alloc o) b i x := ⟨cell_alloc _ h.k, cell_alloc _ h.n, cell_alloc _ h.s⟩
theorem Three.lt {W : World} {b i : Nat} {x : Vl} (h : Three W b i x) : b < W.heap.size := World.block_lt_of_cell? _ _ h.k

theorem Row.mono {m m' : Nat} {W : World} {sv : Value} {xs : List Vl} (r : Row m W sv xs) (h : m ≤ m') : Row m' W sv xs := by
  obtain ⟨a, cap, e, hl, hx⟩ := r
  refine ⟨a, cap, e, hl, fun hne => ?_⟩
  obtain ⟨b, off, ea, hb, hc⟩ := hx hne
  exact ⟨b, off, ea, by omega, hc⟩
theorem Tab.mono {m m' : Nat} {W : World} {ks vs : Value} {xs ys : List Vl} (t : Tab m W ks vs xs ys) (h : m ≤ m') : Tab m' W ks vs xs ys := ⟨t.keys.mono h, t.vals.mono h⟩

theorem block_ownFrom {β : Type} {B B' : Nat} (o : Obj) (h : B < B') : OwnFrom B' (fun (_ : β) W => W.heap[B]? = some o) := fun _ _ _ _ hs hg hr =>
  (hg.block B (Array.getElem?_eq_some_iff.1 hs).1 (fun e => by have := (hr _ e.symm).1; omega)).trans hs
theorem size_ownFrom {β : Type} {B k : Nat} : OwnFrom B (fun (_ : β) W => k ≤ W.heap.size) := fun _ _ _ _ hs hg _ => Nat.le_trans hs hg.size
theorem block_alloc {W : World} {B : Nat} {o : Obj} (o' : Obj) (h : W.heap[B]? = some o) : (W.alloc o').heap[B]? = some o := (Below.heap_alloc _ _ _ (Array.getElem?_eq_some_iff.1 h).1).trans h
theorem block_below {W W' : World} {B : Nat} {o : Obj} (hb : Below W.heap.size W W') (h : W.heap[B]? = some o) : W'.heap[B]? = some o := (hb.block B (Array.getElem?_eq_some_iff.1 h).1).trans h

set_option maxRecDepth 100000 in
set_option maxHeartbeats 2000000 in
theorem tmay_loop (n : Nat) (h3 : 3 ≤ n) (ks vs : Value) (zs : List (Vl × Vl)) (hlen : zs.length ≤ 100) (w : World) (hT : Tab w.heap.size w ks vs (keysOf zs) (valsOf zs)) :
    CallsIn Fence.wide n Tryz.prog 43 #[.agg #[ks, vs]] w fun e w' => e = .returned (.bool (zs.all stP && decide (keysOf zs).Nodup)) ∧ Below w.heap.size w w' := by
  have h1 : 1 ≤ n := by omega
  have h2 : 1 ≤ n - 1 := by omega
  have hn2 : 1 ≤ n - 1 - 1 := by omega
  obtain ⟨a, c1, hks⟩ := hT.keys.slice
  obtain ⟨a', c2, hvs⟩ := hT.vals.slice
  simp only [keysOf, valsOf, List.length_map] at hks hvs
  subst hks hvs
  have g1 : ((zs.length : Int) != (zs.length : Int)) = false := by simp
  have g2 : ¬ (100 : Int) < (zs.length : Int) := by omega
  refine callsIn_of_wp_marks Tryz.func43 rfl trivial ?_ rfl
  simp only [Tryz.ntmps43, List.size_toArray, List.length_cons, List.length_nil, Nat.reduceAdd, Nat.reduceSub, Array.replicate_succ, Array.replicate_zero, List.push_toArray, List.append_toArray, List.nil_append, List.cons_append]
  gi_wp2_with (refine ⟨trivial, ?_⟩; gi_at_call 62; refine (pairs_in _ _ _ _).mono ?_; rintro e w' ⟨rfl, rfl⟩)
  obtain ⟨W0, hW0⟩ : ∃ W0, ((w.alloc (.cells #[.slice a zs.length c1, .slice a' zs.length c2] 57)).alloc (.cells #[.bool false] 4)).alloc (.cells #[.slice a zs.length c1, .slice a' zs.length c2] 57) = W0 := ⟨_, rfl⟩
  have hs0 : W0.heap.size = w.heap.size + 3 := by rw [← hW0]; simp
  have b0 : W0.heap[w.heap.size]? = some (.cells #[.slice a zs.length c1, .slice a' zs.length c2] 57) := by rw [← hW0]; exact block_alloc _ (block_alloc _ (World.alloc_heap_new w _))
  have b1 : W0.heap[w.heap.size + 1]? = some (.cells #[.bool false] 4) := by
    have := block_alloc (.cells #[.slice a zs.length c1, .slice a' zs.length c2] 57) (World.alloc_heap_new (w.alloc (.cells #[.slice a zs.length c1, .slice a' zs.length c2] 57)) (.cells #[.bool false] 4))
    simp only [World.size_alloc] at this
    rw [← hW0]; exact this
  have hbt : W0.heap[w.heap.size + 1 + 1]? = some (.cells #[.slice a zs.length c1, .slice a' zs.length c2] 57) := by
    have := World.alloc_heap_new ((w.alloc (.cells #[.slice a zs.length c1, .slice a' zs.length c2] 57)).alloc (.cells #[.bool false] 4)) (.cells #[.slice a zs.length c1, .slice a' zs.length c2] 57)
    simp only [World.size_alloc] at this
    rw [← hW0]; exact this
  have hB0 : Below w.heap.size w W0 := by rw [← hW0]; exact (((Below.refl _ w).alloc (Nat.le_refl _) _).alloc (by simp) _).alloc (by simp; omega) _
  rw [hW0]
  clear hW0
  refine wpIn_rangeFunc_ownH rfl h1 (gf := 94) (lb := #[.pointer (some ⟨w.heap.size + 1 + 1, 0, none⟩)]) rfl trivial (enters_of Tryz.func94 (by kernel_rfl) rfl)
    (pairs_stops (n - 1) (w.heap.size + 1 + 1) w.heap.size _ _ zs hlen W0 (by omega) (by omega) hbt (hT.below hB0)) (fun h k => h.trans k) (Kept.putObj (by omega) (by omega)) (Below.refl _ _) (fun _ => rfl)
    (fun (pre : List (Vl × Vl)) W => ((∀ p ∈ pre, stP p = true) ∧ W0.heap.size ≤ W.heap.size ∧ W.heap[w.heap.size]? = some (.cells #[.slice a zs.length c1, .slice a' zs.length c2] 57) ∧ W.heap[w.heap.size + 1]? = some (.cells #[.bool false] 4)) ∧ Below w.heap.size w W)
    (fun c (pre : List (Vl × Vl)) W => (c = .ret ∧ (∃ p ∈ pre, stP p = false) ∧ W.heap[w.heap.size + 1]? = some (.cells #[.bool false] 4)) ∧ Below w.heap.size w W)
    (OwnFrom.and (OwnFrom.and (ownFrom_pure _ _) (OwnFrom.and size_ownFrom (OwnFrom.and (block_ownFrom _ (by omega)) (block_ownFrom _ (by omega))))) (ownFrom_below (Nat.le_refl _) (by omega)))
    (fun c => OwnFrom.and (OwnFrom.and (ownFrom_pure _ _) (OwnFrom.and (ownFrom_pure _ _) (block_ownFrom _ (by omega)))) (ownFrom_below (Nat.le_refl _) (by omega)))
    ⟨⟨by simp, Nat.le_refl _, b0, b1⟩, hB0⟩
    (fun x q W => ∃ Bx By, w.heap.size + 1 + 1 < Bx ∧ Three W Bx 0 x.1 ∧ Three W By 0 x.2 ∧ q = { tmps := #[.agg #[.slice a zs.length c1, .slice a' zs.length c2], .pointer (some ⟨w.heap.size, 0, none⟩), .pointer (some ⟨w.heap.size + 1, 0, none⟩), .pointer (some ⟨Bx, 0, none⟩), .pointer (some ⟨By, 0, none⟩), .pointer (some ⟨w.heap.size, 0, none⟩), .slice a zs.length c1, .int .i64 zs.length, .pointer (some ⟨w.heap.size, 1, none⟩), .slice a' zs.length c2, .int .i64 zs.length, .bool false, .bool false, .pointer (some ⟨w.heap.size, 0, none⟩), .slice a zs.length c1, .int .i64 zs.length, .bool false, .bool false, .agg #[.slice a zs.length c1, .slice a' zs.length c2], .func (.func 94) #[] #[.pointer (some ⟨w.heap.size + 1 + 1, 0, none⟩)], x.1.v, x.2.v, undef, undef, undef, undef, undef, undef, undef, undef, undef, undef, undef, undef, undef, undef, undef], defers := [] })
    (fun x q => fun _ A B row hs hg hr => by obtain ⟨Bx, By, h1, h2, h3, h4⟩ := hs; exact ⟨Bx, By, h1, (Three.own (β := Unit) Bx 0 x.1) () A B row h2 hg (fun r e => (hr r e).2), (Three.own (β := Unit) By 0 x.2) () A B row h3 hg (fun r e => (hr r e).2), h4⟩)
    ?assign ?body ?done ?stop
  case assign =>
    rintro l pre x W K ⟨⟨hp, hz, k0, k1⟩, hB⟩ hK
    gi_wp2
    have hb' : Below W.heap.size W ((W.alloc (.cells #[.int .i64 x.1.k, .int .i64 x.1.n, .string x.1.s] 30)).alloc (.cells #[.int .i64 x.2.k, .int .i64 x.2.n, .string x.2.s] 30)) := ((Below.refl _ _).alloc (Nat.le_refl _) _).alloc (by simp) _
    exact hK _ _ (keepsFrom_of_below hb') (kept_of_below hb' (by omega) (by omega)) ⟨⟨hp, by have := hb'.size; omega, block_below hb' k0, block_below hb' k1⟩, hB.trans (hb'.mono (by omega))⟩ ⟨W.heap.size, W.heap.size + 1, by omega, (three_new W x.1).alloc _, by have := three_new (W.alloc (.cells #[.int .i64 x.1.k, .int .i64 x.1.n, .string x.1.s] 30)) x.2; simpa using this, rfl⟩
  case body =>
    rintro l pre x q W hl ⟨r, hr⟩ ⟨⟨hp, hz, k0, k1⟩, hB⟩ ⟨Bx, By, hBx, ⟨t0, t1, t2⟩, t', rfl⟩ hlt
    clear hr hT hbt hB0 b0 b1 g1 g2
    rename_i Kd ad
    clear ad Kd
    cases h1' : stB x.1
    · have e1 : stP x = false := by simp [stP, h1']
      have hC := stands_f h1'
      clear h1'
      gi_wp2_with (refine ⟨trivial, ?_⟩; gi_at_call 63; refine (CallsIn.inRound l (callsIn_wide.2 (hC _))).mono ?_; rintro e w1 ⟨rfl, hb1⟩; have k1' := block_below hb1 k1; have c1' := Boxed.cell k1'; have f1' := Boxed.frozen k1')
      refine ⟨trivial, ?_⟩
      gi_wp2
      exact ⟨(keepsFrom_of_below hb1).trans ((KeepsOthers.setCell _ _ _).from _), ⟨rfl, ⟨x, by simp, e1⟩, Boxed.set _ k1'⟩, (hB.trans (hb1.mono (by omega))).setCell (p := ⟨w.heap.size + 1, 0, none⟩) (by simp) _⟩
    · cases h2' : stB x.2
      · have e1 : stP x = false := by simp [stP, h2']
        have hC := stands_t h1'
        have hC2 := stands_f h2'
        clear h1' h2'
        gi_wp2_with (refine ⟨trivial, ?_⟩; gi_at_call 63; refine (CallsIn.inRound l (callsIn_wide.2 (hC _))).mono ?_; rintro e w1 ⟨rfl, hb1⟩; refine Hid.out ?_)
        have k1' := block_below hb1 k1
        obtain ⟨s0, s1, s2⟩ := t'.below hb1 t'.lt
        have hz1 := Nat.le_trans hz hb1.size
        refine Lib.hid ?_
        gi_wp2_with (refine ⟨trivial, ?_⟩; gi_at_call 63; refine (CallsIn.inRound l (callsIn_wide.2 (hC2 _))).mono ?_; rintro e w2 ⟨rfl, hb2⟩; have k2' := block_below hb2 k1'; have c2' := Boxed.cell k2'; have f2' := Boxed.frozen k2')
        have hb12 := ext_trans hb1 hb2
        exact ⟨(keepsFrom_of_below hb12).trans ((KeepsOthers.setCell _ _ _).from _), ⟨rfl, ⟨x, by simp, e1⟩, Boxed.set _ k2'⟩, (hB.trans (hb12.mono (by omega))).setCell (p := ⟨w.heap.size + 1, 0, none⟩) (by simp) _⟩
      · have e1 : stP x = true := by simp [stP, h1', h2']
        have hC := stands_t h1'
        have hC2 := stands_t h2'
        clear h1' h2'
        gi_wp2_with (refine ⟨trivial, ?_⟩; gi_at_call 63; refine (CallsIn.inRound l (callsIn_wide.2 (hC _))).mono ?_; rintro e w1 ⟨rfl, hb1⟩; refine Hid.out ?_)
        have k1' := block_below hb1 k1
        obtain ⟨s0, s1, s2⟩ := t'.below hb1 t'.lt
        have hz1 := Nat.le_trans hz hb1.size
        refine Lib.hid ?_
        gi_wp2_with (refine ⟨trivial, ?_⟩; gi_at_call 63; refine (CallsIn.inRound l (callsIn_wide.2 (hC2 _))).mono ?_; rintro e w2 ⟨rfl, hb2⟩)
        have hb12 := ext_trans hb1 hb2
        exact ⟨keepsFrom_of_below hb12, kept_of_below hb12 (by omega) (by omega), ⟨fun p hm => (List.mem_append.1 hm).elim (hp p) (fun e => by simp at e; subst e; exact e1), Nat.le_trans hz hb12.size, block_below hb12 k0, block_below hb12 k1⟩, hB.trans (hb12.mono (by omega))⟩
  case done =>
    rintro D ys W hD rfl ⟨⟨hp, hz, k0, k1⟩, hB⟩ hK
    have hall : ys.all stP = true := by simpa using hp
    have hlt0 : w.heap.size < W.heap.size := by omega
    have hTW : Tab W.heap.size W.drew (.slice a ys.length c1) (.slice a' ys.length c2) (keysOf ys) (valsOf ys) := (hT.below hB.drew).mono (Nat.le_of_lt hlt0)
    have hz0 : W.cell? ⟨w.heap.size, 0, none⟩ = some (.slice a ys.length c1) := by simp [World.cell?, k0]
    have hz1 : W.cell? ⟨w.heap.size, 1, none⟩ = some (.slice a' ys.length c2) := by simp [World.cell?, k0]
    have hC := seen_in (n - 1) h2 _ _ ys hlen W.drew hTW
    clear hp b0 b1 hbt hB0 hT
    gi_wp2
    obtain ⟨K0, hK0⟩ : ∃ K0 : Act → World → Prop, K0 = (fun q w' => ∃ w1, w1.ownsMap Tryz.prog 30 (plainElem (H := Unit) Tryz.prog 3) (W.heap.size + 1) ys.length (tally (keysOf ys)) ∧ Below W.heap.size W.drew w1 ∧ w' = w1.setCell ⟨w.heap.size + 1, 0, none⟩ (.bool (((Maps.size (tally (keysOf ys)) : Nat) : Int) == ((ys.length : Nat) : Int))) ∧ q.defers = [{ target := Target.collected D, args := #[] }] ∧ q.tmps[2]?.getD undef = .pointer (some ⟨w.heap.size + 1, 0, none⟩)) := ⟨_, rfl⟩
    refine wpIn_mono (Q := Exit.then K0 (fun _ _ _ => False)) ?_ ?_
    · replace hK0 : Hid _ := hK0
      rename_i Kd ad
      clear ad
      gi_region_with (refine ⟨trivial, ?_⟩; refine hC.mono ?_; rintro e w1 ⟨rfl, hown, hb1⟩; have hl : (Builtin.len_ #[99] 3 #[.map (some (W.heap.size + 1))]).run Tryz.prog w1 = .ok (.int .i64 (Maps.size (tally (keysOf ys)))) w1 := hown.len Tryz.underlying99 3; have y0 := (hb1.cell (p := ⟨w.heap.size, 0, none⟩) hlt0).trans hz0; have k1' := block_below (W := W.drew) hb1 k1; have c1' := Boxed.cell k1'; have f1' := Boxed.frozen k1')
      all_goals (rw [hK0.out]; exact ⟨w1, hown, hb1, rfl, rfl, rfl⟩)
    · intro e q w' hQ
      rw [hK0] at hQ
      obtain ⟨rfl, w1, hown, hb1, rfl, hq1, hq2⟩ := then_normal hQ
      obtain ⟨tm, df⟩ := q
      simp only at hq1 hq2
      subst hq1
      clear hQ hK0 K0
      have k1' := block_below (W := W.drew) hb1 k1
      gi_wp2
      have hK' : (w1.setCell ⟨w.heap.size + 1, 0, none⟩ (.bool (((Maps.size (tally (keysOf ys)) : Nat) : Int) == ((ys.length : Nat) : Int)))).heap[D]? = some (.deferred (some [])) := (KeepsOthers.setCell w1 _ _).same D _ (block_below (W := W.drew) hb1 hK) rfl
      refine ⟨by simp, .inl ⟨_, _, rfl, run_takeDeferred hK', ?_⟩⟩
      have hc5 := cell_kept (Boxed.cell (Boxed.set (.bool (((Maps.size (tally (keysOf ys)) : Nat) : Int) == ((ys.length : Nat) : Int))) k1')) (grownBy_putObj' _ D (.deferred none)) (fun r e => by cases e; exact ⟨_, hK', rfl⟩)
      refine ⟨.bool (((Maps.size (tally (keysOf ys)) : Nat) : Int) == ((ys.length : Nat) : Int)), ?_, ret_bool ?_, ((hB.trans ((Below.refl w.heap.size W).drew.trans (hb1.mono (Nat.le_of_lt hlt0)))).setCell (p := ⟨w.heap.size + 1, 0, none⟩) (by simp) _).trans (belowK_b (w := w) (Nat.le_refl _) _ D _ _ (by omega) hK' rfl rfl)⟩
      · simp [results, Tryz.results43, go_sem, hq2, hc5]
      · rw [hall, Bool.true_and]
        have := size_tally (keysOf ys)
        rw [keysOf, List.length_map] at this
        by_cases hn : (keysOf ys).Nodup
        · rw [decide_eq_true hn, this.2 hn]; simp
        · rw [decide_eq_false hn]
          have : ¬ Maps.size (tally (keysOf ys)) = ys.length := fun e => hn (this.1 e)
          simp; omega
  case stop =>
    rintro D c pre W hD hpre ⟨⟨rfl, hin, k1⟩, hB⟩ hK
    gi_wp2
    refine ⟨by simp, .inl ⟨_, _, rfl, run_takeDeferred hK, ?_⟩⟩
    have hc5 := cell_kept (Boxed.cell k1) (grownBy_putObj' _ D (.deferred none)) (fun r e => by cases e; exact ⟨_, hK, rfl⟩)
    have hno : (zs.all stP && decide (keysOf zs).Nodup) = false := by
      obtain ⟨p, hp, hf⟩ := hin
      have : zs.all stP = false := List.all_eq_false.2 ⟨p, hpre.subset hp, by simp [hf]⟩
      rw [this]; rfl
    refine ⟨.bool false, ?_, by rw [hno], hB.trans (belowK_b (w := w) (Nat.le_refl _) W D _ _ (by omega) hK rfl rfl)⟩
    simp [results, Tryz.results43, go_sem, hc5]

theorem zip_keys {xs ys : List Vl} (h : xs.length = ys.length) : keysOf (xs.zip ys) = xs := List.map_fst_zip (by omega)
theorem zip_vals {xs ys : List Vl} (h : xs.length = ys.length) : valsOf (xs.zip ys) = ys := List.map_snd_zip (by omega)
theorem zip_all {xs ys : List Vl} (h : xs.length = ys.length) : (xs.zip ys).all stP = (xs.all stB && ys.all stB) := by
  induction xs generalizing ys with
  | nil => cases ys with
    | nil => rfl
    | cons y ys => simp at h
  | cons x xs ih => cases ys with
    | nil => simp at h
    | cons y ys =>
      simp only [List.length_cons, Nat.add_right_cancel_iff] at h
      simp only [List.zip_cons_cons, List.all_cons, ih h, stP]
      cases stB x <;> cases stB y <;> simp

/-- May, whatever the table. -/
theorem tmay_any (ks vs : Value) (xs ys : List Vl) (w : World) (hT : Tab w.heap.size w ks vs xs ys) :
    Calls Tryz.prog 43 #[.agg #[ks, vs]] w fun e w' => e = .returned (.bool (mayT xs ys)) ∧ Below w.heap.size w w' := by
  unfold mayT
  by_cases h : xs.length = ys.length
  · by_cases hl : xs.length ≤ 100
    · have := tmay_loop 3 (by omega) ks vs (xs.zip ys) (by rw [List.length_zip]; omega) w (by rw [zip_keys h, zip_vals h]; exact hT)
      rw [zip_all h, zip_keys h] at this
      simpa [h, h ▸ hl] using callsIn_wide.1 this
    · have := tmay_long ks vs xs ys w hT h (by omega)
      simpa [h, h ▸ hl] using this
  · have := tmay_len ks vs xs ys w hT (by simpa using h)
    simpa [h] using this

end Go.Proofs.YthdhgfpidhbdiaaGreatDoor
namespace Go.Proofs.YthdhgfpidhbdiaaGreatDoor
open Go.RowKit Go.Shelf
open Go

set_option linter.unusedSectionVars false
variable [DecidableEq Vl]

/-- The value nil. -/
def nilV : Vl := ⟨0, 0, ⟨#[]⟩, by decide, by decide, by decide⟩

/-- A value's box. -/
abbrev bx (x : Vl) : Obj := .cells #[.int .i64 x.k, .int .i64 x.n, .string x.s] 30

theorem set_block {W : World} {B i : Nat} {c : Array Value} {t : TypeId} {z : Nat × Nat} (v : Value) (h : W.heap[B]? = some (.cells c t z)) : (W.setCell ⟨B, i, none⟩ v).heap[B]? = some (.cells (c.setIfInBounds i v) t z) := by
  obtain ⟨hlt, hk⟩ := Array.getElem?_eq_some_iff.1 h
  show (W.heap.modify B _)[B]? = _
  rw [Array.getElem?_eq_getElem (by rw [Array.size_modify]; exact hlt), Array.getElem_modify_self, hk]
  rfl

theorem cell_block {W : World} {B i : Nat} {c : Array Value} {t : TypeId} {z : Nat × Nat} {v : Value} (h : W.heap[B]? = some (.cells c t z)) (hv : c[i]? = some v) : W.cell? ⟨B, i, none⟩ = some v := by
  simp [World.cell?, h, hv]
theorem frozen_block {W : World} {B i : Nat} {c : Array Value} {t : TypeId} (h : W.heap[B]? = some (.cells c t)) : W.frozen? ⟨B, i, none⟩ = false := by
  simp [World.frozen?, h]

/-- What a value's box says, for the walk. -/
structure In3 (W : World) (B : Nat) (x : Vl) : Prop where
  c0 : W.cell? ⟨B, 0, none⟩ = some (.int .i64 x.k)
  c1 : W.cell? ⟨B, 1, none⟩ = some (.int .i64 x.n)
  c2 : W.cell? ⟨B, 2, none⟩ = some (.string x.s)
  f0 : W.frozen? ⟨B, 0, none⟩ = false
  f1 : W.frozen? ⟨B, 1, none⟩ = false
  f2 : W.frozen? ⟨B, 2, none⟩ = false
theorem in3 {W : World} {B : Nat} {x : Vl} (h : W.heap[B]? = some (bx x)) : In3 W B x := ⟨cell_block h rfl, cell_block h rfl, cell_block h rfl, frozen_block h, frozen_block h, frozen_block h⟩

/-- x is stored into the box B. -/
abbrev put3 (W : World) (B : Nat) (x : Vl) : World := ((W.setCell ⟨B, 0, none⟩ (.int .i64 x.k)).setCell ⟨B, 1, none⟩ (.int .i64 x.n)).setCell ⟨B, 2, none⟩ (.string x.s)
theorem put3_same {W : World} {B : Nat} {x : Vl} (y : Vl) (h : W.heap[B]? = some (bx x)) : (put3 W B y).heap[B]? = some (bx y) := set_block _ (set_block _ (set_block _ h))
theorem put3_other (W : World) {B C : Nat} (y : Vl) (h : C ≠ B) : (put3 W B y).heap[C]? = W.heap[C]? := by
  unfold put3
  rw [Below.heap_setCell _ ⟨B, 2, none⟩ _ C h, Below.heap_setCell _ ⟨B, 1, none⟩ _ C h, Below.heap_setCell _ ⟨B, 0, none⟩ _ C h]
theorem put3_keeps (W : World) (B : Nat) (y : Vl) : KeepsOthers W (put3 W B y) := ((KeepsOthers.setCell _ _ _).trans (KeepsOthers.setCell _ _ _)).trans (KeepsOthers.setCell _ _ _)
theorem put3_below {m : Nat} {w W : World} {B : Nat} (y : Vl) (h : Below m w W) (hB : m ≤ B) : Below m w (put3 W B y) := ((h.setCell (p := ⟨B, 0, none⟩) hB _).setCell (p := ⟨B, 1, none⟩) hB _).setCell (p := ⟨B, 2, none⟩) hB _

theorem set1_other (W : World) {B i C : Nat} (v : Value) (h : C ≠ B) : (W.setCell ⟨B, i, none⟩ v).heap[C]? = W.heap[C]? := Below.heap_setCell _ ⟨B, i, none⟩ _ C h

/-- The block of deferred calls is taken up: all other blocks lie as they lay. -/
theorem block_put {W : World} {B D : Nat} {o o' : Obj} (h : W.heap[B]? = some o) (hne : B ≠ D) : (W.putObj D o').heap[B]? = some o := (World.putObj_heap_other hne).trans h

/-- What stands under a key. -/
def look (zs : List (Vl × Vl)) (k : Vl) : Vl := ((zs.find? (fun p => decide (p.1 = k))).map (·.2)).getD nilV
def getT (xs ys : List Vl) (k : Vl) : Vl := if mayT xs ys = true then look (xs.zip ys) k else nilV

theorem look_none {zs : List (Vl × Vl)} {k : Vl} (h : ∀ p ∈ zs, p.1 ≠ k) : look zs k = nilV := by
  unfold look
  rw [List.find?_eq_none.2 (fun p hp => by simpa using h p hp)]
  rfl
theorem look_at {zs ini : List (Vl × Vl)} {k y : Vl} (h : ini ++ [(k, y)] <+: zs) (hi : ∀ p ∈ ini, p.1 ≠ k) : look zs k = y := by
  obtain ⟨r, rfl⟩ := h
  unfold look
  rw [List.find?_append, List.find?_append, List.find?_eq_none.2 (fun p hp => by simpa using hi p hp)]
  simp

end Go.Proofs.YthdhgfpidhbdiaaGreatDoor
namespace Go.Proofs.YthdhgfpidhbdiaaGreatDoor
open Go.RowKit
open Go


/-- An order. -/
structure Od where
  op : Int
  a : Int
  b : Int
  c : Int
  wo : (Lit.int .i64 op).wf = true
  wa : (Lit.int .i64 a).wf = true
  wb : (Lit.int .i64 b).wf = true
  wc : (Lit.int .i64 c).wf = true
abbrev Od.v (x : Od) : Value := .agg #[.int .i64 x.op, .int .i64 x.a, .int .i64 x.b, .int .i64 x.c]

/-- A function: its rows as they are handed in, and what they hold. -/
structure Fd where
  p : Int
  r : Int
  wp : (Lit.int .i64 p).wf = true
  wr : (Lit.int .i64 r).wf = true
  ca : Option Addr
  cc : Nat
  cs : List Vl
  ia : Option Addr
  ic : Nat
  is : List Od
abbrev Fd.cv (f : Fd) : Value := .slice f.ca f.cs.length f.cc
abbrev Fd.iv (f : Fd) : Value := .slice f.ia f.is.length f.ic
abbrev Fd.v (f : Fd) : Value := .agg #[.int .i64 f.p, .int .i64 f.r, f.cv, f.iv]
/-- Where an order stands. -/
abbrev plc (f : Fd) (x : Od) (i : Nat) : Value := .agg #[.int .i64 f.p, .int .i64 f.r, f.cv, f.iv, .int .i64 x.op, .int .i64 x.a, .int .i64 x.b, .int .i64 x.c, .int .i64 i]

def belB (n e : Int) : Bool := decide (0 ≤ n) && decide (n < e)
def frB (a n b : Int) : Bool := decide (a ≤ n) && decide (n ≤ b)

theorem below_any (n e : Int) (w : World) : Calls Tryz.prog 37 #[.int .i64 n, .int .i64 e] w fun r w' => r = .returned (.bool (belB n e)) ∧ w' = w := by
  rcases (Bool.eq_false_or_eq_true (decide (0 ≤ n))) with hn | hn
  all_goals
    go_enter Tryz.func37, Tryz.ntmps37
    go_wp2
    go_ret
    exact ⟨ret_bool (by simp [belB, hn]), rfl⟩

theorem from_any (a n b : Int) (w : World) : Calls Tryz.prog 59 #[.int .i64 a, .int .i64 n, .int .i64 b] w fun r w' => r = .returned (.bool (frB a n b)) ∧ w' = w := by
  rcases (Bool.eq_false_or_eq_true (decide (a ≤ n))) with hn | hn
  all_goals
    go_enter Tryz.func59, Tryz.ntmps59
    go_wp2
    go_ret
    exact ⟨ret_bool (by simp [frB, hn]), rfl⟩

theorem reg_any (f : Fd) (x : Od) (i : Nat) (n : Int) (w : World) : Calls Tryz.prog 109 #[plc f x i, .int .i64 n] w fun r w' => r = .returned (.bool (belB n f.r)) ∧ Below w.heap.size w w' := by
  go_enter Tryz.func109, Tryz.ntmps109
  go_wp2_with (go_at_call 37; refine (below_any _ _ _).mono ?_; rintro e w' ⟨rfl, rfl⟩)
  go_ret
  refine ⟨rfl, ?_⟩
  repeat (first | exact Below.refl _ _ | refine ext_alloc ?_ _)

theorem const_any (f : Fd) (x : Od) (i : Nat) (n : Int) (w : World) : Calls Tryz.prog 110 #[plc f x i, .int .i64 n] w fun r w' => r = .returned (.bool (belB n f.cs.length)) ∧ Below w.heap.size w w' := by
  go_enter Tryz.func110, Tryz.ntmps110
  go_wp2_with (go_at_call 37; refine (below_any _ _ _).mono ?_; rintro e w' ⟨rfl, rfl⟩)
  go_ret
  refine ⟨rfl, ?_⟩
  repeat (first | exact Below.refl _ _ | refine ext_alloc ?_ _)

theorem order_any (f : Fd) (x : Od) (i : Nat) (n : Int) (w : World) : Calls Tryz.prog 111 #[plc f x i, .int .i64 n] w fun r w' => r = .returned (.bool (belB n f.is.length)) ∧ Below w.heap.size w w' := by
  go_enter Tryz.func111, Tryz.ntmps111
  go_wp2_with (go_at_call 37; refine (below_any _ _ _).mono ?_; rintro e w' ⟨rfl, rfl⟩)
  go_ret
  refine ⟨rfl, ?_⟩
  repeat (first | exact Below.refl _ _ | refine ext_alloc ?_ _)

theorem back_any (f : Fd) (x : Od) (i : Nat) (n : Int) (w : World) : Calls Tryz.prog 112 #[plc f x i, .int .i64 n] w fun r w' => r = .returned (.bool (frB 0 n i)) ∧ Below w.heap.size w w' := by
  go_enter Tryz.func112, Tryz.ntmps112
  go_wp2_with (go_at_call 59; refine (from_any _ _ _ _).mono ?_; rintro e w' ⟨rfl, rfl⟩)
  go_ret
  refine ⟨rfl, ?_⟩
  repeat (first | exact Below.refl _ _ | refine ext_alloc ?_ _)

/-- What may stand in C of a call. -/
def argB (f : Fd) (x : Od) (n : Int) : Bool := frB 0 n 5 && belB (wrap64 (x.b + n)) f.r
theorem args_any (f : Fd) (x : Od) (i : Nat) (n : Int) (w : World) : Calls Tryz.prog 113 #[plc f x i, .int .i64 n] w fun r w' => r = .returned (.bool (argB f x n)) ∧ Below w.heap.size w w' := by
  unfold argB
  rcases (Bool.eq_false_or_eq_true (frB 0 n 5)) with hn | hn
  · have h1 := from_any 0 n 5
    rw [hn] at h1
    go_enter Tryz.func113, Tryz.ntmps113
    go_wp2_with (first | (go_at_call 59; refine (h1 _).mono ?_; rintro e w' ⟨rfl, rfl⟩) | (go_at_call 109; refine (reg_any f x i _ _).mono ?_; rintro e w' ⟨rfl, hb⟩))
    go_ret
    refine ⟨ret_bool (by simp [hn]), ?_⟩
    exact ext_trans (ext_alloc (Below.refl _ _) _) hb
  · have h1 := from_any 0 n 5
    rw [hn] at h1
    go_enter Tryz.func113, Tryz.ntmps113
    go_wp2_with (first | (go_at_call 59; refine (h1 _).mono ?_; rintro e w' ⟨rfl, rfl⟩) | (go_at_call 109; refine (reg_any f x i _ _).mono ?_; rintro e w' ⟨rfl, hb⟩))
    go_ret
    refine ⟨ret_bool (by simp [hn]), ?_⟩
    repeat (first | exact Below.refl _ _ | refine ext_alloc ?_ _)

/-- Which questions are asked of an order's fields, by the questions' numbers. -/
def fieldsR (op : Int) : Option (List Nat) :=
  if op = 1 ∨ op = 6 ∨ op = 30 ∨ op = 31 then some [109, 109]
  else if op = 2 then some [109, 110]
  else if op = 3 ∨ op = 12 ∨ op = 13 then some [109]
  else if op = 4 ∨ op = 5 ∨ op = 7 then some [109, 109, 109]
  else if op = 8 then some [111]
  else if op = 9 then some [109, 111]
  else if op = 10 then some [112]
  else if op = 11 then some [109, 109, 113]
  else if 21 ≤ op ∧ op ≤ 29 then some [109, 109, 109]
  else none

def fnV (n : Nat) : Value := .func (.func n) #[] #[]

theorem fields_1 (w : World) : Calls Tryz.prog 93 #[.int .i64 1] w fun e w' => e = .returned (.slice (some ⟨w.heap.size, 0, none⟩) 2 2) ∧ w' = w.alloc (.cells #[fnV 109, fnV 109] 134) := by
  go_enter Tryz.func93, Tryz.ntmps93
  go_wp2
  go_ret
  exact ⟨rfl, rfl⟩
theorem fields_2 (w : World) : Calls Tryz.prog 93 #[.int .i64 2] w fun e w' => e = .returned (.slice (some ⟨w.heap.size, 0, none⟩) 2 2) ∧ w' = w.alloc (.cells #[fnV 109, fnV 110] 134) := by
  go_enter Tryz.func93, Tryz.ntmps93
  go_wp2
  go_ret
  exact ⟨rfl, rfl⟩
theorem fields_3 (w : World) : Calls Tryz.prog 93 #[.int .i64 3] w fun e w' => e = .returned (.slice (some ⟨w.heap.size, 0, none⟩) 1 1) ∧ w' = w.alloc (.cells #[fnV 109] 134) := by
  go_enter Tryz.func93, Tryz.ntmps93
  go_wp2
  go_ret
  exact ⟨rfl, rfl⟩
theorem fields_4 (w : World) : Calls Tryz.prog 93 #[.int .i64 4] w fun e w' => e = .returned (.slice (some ⟨w.heap.size, 0, none⟩) 3 3) ∧ w' = w.alloc (.cells #[fnV 109, fnV 109, fnV 109] 134) := by
  go_enter Tryz.func93, Tryz.ntmps93
  go_wp2
  go_ret
  exact ⟨rfl, rfl⟩
theorem fields_5 (w : World) : Calls Tryz.prog 93 #[.int .i64 5] w fun e w' => e = .returned (.slice (some ⟨w.heap.size, 0, none⟩) 3 3) ∧ w' = w.alloc (.cells #[fnV 109, fnV 109, fnV 109] 134) := by
  go_enter Tryz.func93, Tryz.ntmps93
  go_wp2
  go_ret
  exact ⟨rfl, rfl⟩
theorem fields_6 (w : World) : Calls Tryz.prog 93 #[.int .i64 6] w fun e w' => e = .returned (.slice (some ⟨w.heap.size, 0, none⟩) 2 2) ∧ w' = w.alloc (.cells #[fnV 109, fnV 109] 134) := by
  go_enter Tryz.func93, Tryz.ntmps93
  go_wp2
  go_ret
  exact ⟨rfl, rfl⟩
theorem fields_7 (w : World) : Calls Tryz.prog 93 #[.int .i64 7] w fun e w' => e = .returned (.slice (some ⟨w.heap.size, 0, none⟩) 3 3) ∧ w' = w.alloc (.cells #[fnV 109, fnV 109, fnV 109] 134) := by
  go_enter Tryz.func93, Tryz.ntmps93
  go_wp2
  go_ret
  exact ⟨rfl, rfl⟩
theorem fields_8 (w : World) : Calls Tryz.prog 93 #[.int .i64 8] w fun e w' => e = .returned (.slice (some ⟨w.heap.size, 0, none⟩) 1 1) ∧ w' = w.alloc (.cells #[fnV 111] 134) := by
  go_enter Tryz.func93, Tryz.ntmps93
  go_wp2
  go_ret
  exact ⟨rfl, rfl⟩
theorem fields_9 (w : World) : Calls Tryz.prog 93 #[.int .i64 9] w fun e w' => e = .returned (.slice (some ⟨w.heap.size, 0, none⟩) 2 2) ∧ w' = w.alloc (.cells #[fnV 109, fnV 111] 134) := by
  go_enter Tryz.func93, Tryz.ntmps93
  go_wp2
  go_ret
  exact ⟨rfl, rfl⟩
theorem fields_10 (w : World) : Calls Tryz.prog 93 #[.int .i64 10] w fun e w' => e = .returned (.slice (some ⟨w.heap.size, 0, none⟩) 1 1) ∧ w' = w.alloc (.cells #[fnV 112] 134) := by
  go_enter Tryz.func93, Tryz.ntmps93
  go_wp2
  go_ret
  exact ⟨rfl, rfl⟩
theorem fields_11 (w : World) : Calls Tryz.prog 93 #[.int .i64 11] w fun e w' => e = .returned (.slice (some ⟨w.heap.size, 0, none⟩) 3 3) ∧ w' = w.alloc (.cells #[fnV 109, fnV 109, fnV 113] 134) := by
  go_enter Tryz.func93, Tryz.ntmps93
  go_wp2
  go_ret
  exact ⟨rfl, rfl⟩
theorem fields_12 (w : World) : Calls Tryz.prog 93 #[.int .i64 12] w fun e w' => e = .returned (.slice (some ⟨w.heap.size, 0, none⟩) 1 1) ∧ w' = w.alloc (.cells #[fnV 109] 134) := by
  go_enter Tryz.func93, Tryz.ntmps93
  go_wp2
  go_ret
  exact ⟨rfl, rfl⟩
theorem fields_13 (w : World) : Calls Tryz.prog 93 #[.int .i64 13] w fun e w' => e = .returned (.slice (some ⟨w.heap.size, 0, none⟩) 1 1) ∧ w' = w.alloc (.cells #[fnV 109] 134) := by
  go_enter Tryz.func93, Tryz.ntmps93
  go_wp2
  go_ret
  exact ⟨rfl, rfl⟩
theorem fields_21 (w : World) : Calls Tryz.prog 93 #[.int .i64 21] w fun e w' => e = .returned (.slice (some ⟨w.heap.size, 0, none⟩) 3 3) ∧ w' = w.alloc (.cells #[fnV 109, fnV 109, fnV 109] 134) := by
  go_enter Tryz.func93, Tryz.ntmps93
  go_wp2_with (go_at_call 59; refine (from_any _ _ _ _).mono ?_; rintro e w' ⟨rfl, rfl⟩)
  go_ret
  exact ⟨rfl, rfl⟩
theorem fields_22 (w : World) : Calls Tryz.prog 93 #[.int .i64 22] w fun e w' => e = .returned (.slice (some ⟨w.heap.size, 0, none⟩) 3 3) ∧ w' = w.alloc (.cells #[fnV 109, fnV 109, fnV 109] 134) := by
  go_enter Tryz.func93, Tryz.ntmps93
  go_wp2_with (go_at_call 59; refine (from_any _ _ _ _).mono ?_; rintro e w' ⟨rfl, rfl⟩)
  go_ret
  exact ⟨rfl, rfl⟩
theorem fields_23 (w : World) : Calls Tryz.prog 93 #[.int .i64 23] w fun e w' => e = .returned (.slice (some ⟨w.heap.size, 0, none⟩) 3 3) ∧ w' = w.alloc (.cells #[fnV 109, fnV 109, fnV 109] 134) := by
  go_enter Tryz.func93, Tryz.ntmps93
  go_wp2_with (go_at_call 59; refine (from_any _ _ _ _).mono ?_; rintro e w' ⟨rfl, rfl⟩)
  go_ret
  exact ⟨rfl, rfl⟩
theorem fields_24 (w : World) : Calls Tryz.prog 93 #[.int .i64 24] w fun e w' => e = .returned (.slice (some ⟨w.heap.size, 0, none⟩) 3 3) ∧ w' = w.alloc (.cells #[fnV 109, fnV 109, fnV 109] 134) := by
  go_enter Tryz.func93, Tryz.ntmps93
  go_wp2_with (go_at_call 59; refine (from_any _ _ _ _).mono ?_; rintro e w' ⟨rfl, rfl⟩)
  go_ret
  exact ⟨rfl, rfl⟩
theorem fields_25 (w : World) : Calls Tryz.prog 93 #[.int .i64 25] w fun e w' => e = .returned (.slice (some ⟨w.heap.size, 0, none⟩) 3 3) ∧ w' = w.alloc (.cells #[fnV 109, fnV 109, fnV 109] 134) := by
  go_enter Tryz.func93, Tryz.ntmps93
  go_wp2_with (go_at_call 59; refine (from_any _ _ _ _).mono ?_; rintro e w' ⟨rfl, rfl⟩)
  go_ret
  exact ⟨rfl, rfl⟩
theorem fields_26 (w : World) : Calls Tryz.prog 93 #[.int .i64 26] w fun e w' => e = .returned (.slice (some ⟨w.heap.size, 0, none⟩) 3 3) ∧ w' = w.alloc (.cells #[fnV 109, fnV 109, fnV 109] 134) := by
  go_enter Tryz.func93, Tryz.ntmps93
  go_wp2_with (go_at_call 59; refine (from_any _ _ _ _).mono ?_; rintro e w' ⟨rfl, rfl⟩)
  go_ret
  exact ⟨rfl, rfl⟩
theorem fields_27 (w : World) : Calls Tryz.prog 93 #[.int .i64 27] w fun e w' => e = .returned (.slice (some ⟨w.heap.size, 0, none⟩) 3 3) ∧ w' = w.alloc (.cells #[fnV 109, fnV 109, fnV 109] 134) := by
  go_enter Tryz.func93, Tryz.ntmps93
  go_wp2_with (go_at_call 59; refine (from_any _ _ _ _).mono ?_; rintro e w' ⟨rfl, rfl⟩)
  go_ret
  exact ⟨rfl, rfl⟩
theorem fields_28 (w : World) : Calls Tryz.prog 93 #[.int .i64 28] w fun e w' => e = .returned (.slice (some ⟨w.heap.size, 0, none⟩) 3 3) ∧ w' = w.alloc (.cells #[fnV 109, fnV 109, fnV 109] 134) := by
  go_enter Tryz.func93, Tryz.ntmps93
  go_wp2_with (go_at_call 59; refine (from_any _ _ _ _).mono ?_; rintro e w' ⟨rfl, rfl⟩)
  go_ret
  exact ⟨rfl, rfl⟩
theorem fields_29 (w : World) : Calls Tryz.prog 93 #[.int .i64 29] w fun e w' => e = .returned (.slice (some ⟨w.heap.size, 0, none⟩) 3 3) ∧ w' = w.alloc (.cells #[fnV 109, fnV 109, fnV 109] 134) := by
  go_enter Tryz.func93, Tryz.ntmps93
  go_wp2_with (go_at_call 59; refine (from_any _ _ _ _).mono ?_; rintro e w' ⟨rfl, rfl⟩)
  go_ret
  exact ⟨rfl, rfl⟩
theorem fields_30 (w : World) : Calls Tryz.prog 93 #[.int .i64 30] w fun e w' => e = .returned (.slice (some ⟨w.heap.size, 0, none⟩) 2 2) ∧ w' = w.alloc (.cells #[fnV 109, fnV 109] 134) := by
  go_enter Tryz.func93, Tryz.ntmps93
  go_wp2
  go_ret
  exact ⟨rfl, rfl⟩
theorem fields_31 (w : World) : Calls Tryz.prog 93 #[.int .i64 31] w fun e w' => e = .returned (.slice (some ⟨w.heap.size, 0, none⟩) 2 2) ∧ w' = w.alloc (.cells #[fnV 109, fnV 109] 134) := by
  go_enter Tryz.func93, Tryz.ntmps93
  go_wp2
  go_ret
  exact ⟨rfl, rfl⟩
theorem fields_no (op : Int) (w : World) (h1 : (op == 1) = false) (h2 : (op == 2) = false) (h3 : (op == 3) = false) (h4 : (op == 4) = false) (h5 : (op == 5) = false) (h6 : (op == 6) = false) (h7 : (op == 7) = false) (h8 : (op == 8) = false) (h9 : (op == 9) = false) (h10 : (op == 10) = false) (h11 : (op == 11) = false) (h12 : (op == 12) = false) (h13 : (op == 13) = false) (h30 : (op == 30) = false) (h31 : (op == 31) = false) (hf : frB 21 op 29 = false) : Calls Tryz.prog 93 #[.int .i64 op] w fun e w' => e = .returned (.slice none 0 0) ∧ w' = w := by
  have hF := from_any 21 op 29
  rw [hf] at hF
  go_enter Tryz.func93, Tryz.ntmps93
  go_wp2_with (go_at_call 59; refine (hF _).mono ?_; rintro e w' ⟨rfl, rfl⟩)
  go_ret
  exact ⟨rfl, rfl⟩

/-- The questions to an order's fields. -/
theorem fields_some (op : Int) (l : List Nat) (h : fieldsR op = some l) (w : World) : Calls Tryz.prog 93 #[.int .i64 op] w fun e w' => e = .returned (.slice (some ⟨w.heap.size, 0, none⟩) l.length l.length) ∧ w' = w.alloc (.cells (l.map fnV).toArray 134) := by
  unfold fieldsR at h
  split at h
  · rename_i o
    cases h
    rcases o with rfl | rfl | rfl | rfl
    · exact fields_1 w
    · exact fields_6 w
    · exact fields_30 w
    · exact fields_31 w
  split at h
  · rename_i o; cases h; subst o; exact fields_2 w
  split at h
  · rename_i o
    cases h
    rcases o with rfl | rfl | rfl
    · exact fields_3 w
    · exact fields_12 w
    · exact fields_13 w
  split at h
  · rename_i o
    cases h
    rcases o with rfl | rfl | rfl
    · exact fields_4 w
    · exact fields_5 w
    · exact fields_7 w
  split at h
  · rename_i o; cases h; subst o; exact fields_8 w
  split at h
  · rename_i o; cases h; subst o; exact fields_9 w
  split at h
  · rename_i o; cases h; subst o; exact fields_10 w
  split at h
  · rename_i o; cases h; subst o; exact fields_11 w
  split at h
  · rename_i o
    cases h
    have : op = 21 ∨ op = 22 ∨ op = 23 ∨ op = 24 ∨ op = 25 ∨ op = 26 ∨ op = 27 ∨ op = 28 ∨ op = 29 := by omega
    rcases this with rfl | rfl | rfl | rfl | rfl | rfl | rfl | rfl | rfl
    · exact fields_21 w
    · exact fields_22 w
    · exact fields_23 w
    · exact fields_24 w
    · exact fields_25 w
    · exact fields_26 w
    · exact fields_27 w
    · exact fields_28 w
    · exact fields_29 w
  · cases h

theorem fields_none (op : Int) (h : fieldsR op = none) (w : World) : Calls Tryz.prog 93 #[.int .i64 op] w fun e w' => e = .returned (.slice none 0 0) ∧ w' = w := by
  unfold fieldsR at h
  split at h
  · cases h
  split at h
  · cases h
  split at h
  · cases h
  split at h
  · cases h
  split at h
  · cases h
  split at h
  · cases h
  split at h
  · cases h
  split at h
  · cases h
  split at h
  · cases h
  rename_i a0 a1 a2 a3 a4 a5 a6 a7 a8
  have hd : frB 21 op 29 = false := by simp only [frB]; simp; omega
  have key : ∀ n : Int, op ≠ n → (op == n) = false := fun n hn => by simpa using hn
  exact fields_no op w (key 1 (by omega)) (key 2 (by omega)) (key 3 (by omega)) (key 4 (by omega)) (key 5 (by omega)) (key 6 (by omega)) (key 7 (by omega)) (key 8 (by omega)) (key 9 (by omega)) (key 10 (by omega)) (key 11 (by omega)) (key 12 (by omega)) (key 13 (by omega)) (key 30 (by omega)) (key 31 (by omega)) hd

end Go.Proofs.YthdhgfpidhbdiaaGreatDoor
