/- stands; the small things of a table. -/
import Derived.Test.YthpgbienakcbeaaGreatDoorS08
import Derived.Test.YthpgbienakcbeaaGreatDoorS07
namespace Go.Proofs.YthpgbienakcbeaaGreatDoor
open Go.RowKit Go.Shelf Go
set_option maxRecDepth 100000
set_option maxHeartbeats 8000000
set_option linter.all false
variable {x k : Vl} {m b i m' B C : Nat} {W : World} {sv : Value} {xs ys pre : List Vl} {β : Type} {o : Obj} {c tm : Array Value} {t : TypeId} {z : Nat × Nat} {zs : List (Vl × Vl)} {p : Bool}
def stB (x : Vl) : Bool := x.k != 0 && mayB x.k x.n x.s
theorem b6p (x : Vl) (w : World) (h : (x.k != 0) = false) : Calls Tryz.prog 63 #[x.v] w fun e w' => e = .returned (.bool false) ∧ Below w.heap.size w w' := by
 go_enter Tryz.func63, Tryz.ntmps63
 go_wp2
 go_ret
 exact ⟨rfl, (Below.refl _ _).alloc (Nat.le_refl _) _⟩
theorem b3v (x : Vl) (w : World) (h : (x.k != 0) = true) : Calls Tryz.prog 63 #[x.v] w fun e w' => e = .returned (.bool (mayB x.k x.n x.s)) ∧ Below w.heap.size w w' := by
 go_enter Tryz.func63, Tryz.ntmps63
 go_wp2_with (go_at_call 60; refine (a4o _ _ _ _).mono ?_; rintro e w1 ⟨rfl, hb1⟩)
 go_ret
 exact ⟨rfl, a0b ((Below.refl _ _).alloc (Nat.le_refl _) _) hb1⟩
theorem b0m (x : Vl) (w : World) : Calls Tryz.prog 63 #[x.v] w fun e w' => e = .returned (.bool (stB x)) ∧ Below w.heap.size w w' := by
 unfold stB
 cases h : (x.k != 0)
 ·exact b6p x w h
 ·exact b3v x w h
theorem b1h (h : stB x = true) (w : World) : Calls Tryz.prog 63 #[x.v] w fun e w' => e = .returned (.bool true) ∧ Below w.heap.size w w' := h ▸ b0m x w
theorem b5e (h : stB x = false) (w : World) : Calls Tryz.prog 63 #[x.v] w fun e w' => e = .returned (.bool false) ∧ Below w.heap.size w w' := h ▸ b0m x w
def vlEq : DecidableEq Vl := fun x y =>
 if h : x.k = y.k ∧ x.n = y.n ∧ x.s.toList = y.s.toList then .isTrue (Vl.ext' h.1 h.2.1 h.2.2) else .isFalse (fun e => h (by subst e; exact ⟨rfl, rfl, rfl⟩))
section
variable [DecidableEq Vl]
def mayT (xs ys : List Vl) : Bool := decide (xs.length = ys.length) && decide (xs.length ≤ 100) && (xs.all stB && ys.all stB) && decide xs.Nodup
theorem Row.slice (h : Row m W sv xs) : ∃ a c, sv = .slice a xs.length c := let ⟨a, c, e, _⟩ := h; ⟨a, c, e⟩
theorem c2t (ks vs : Value) (xs ys : List Vl) (w : World) (hT : Tab w.heap.size w ks vs xs ys) (h : (xs.length == ys.length) = false) :
  Calls Tryz.prog 43 #[.agg #[ks, vs]] w fun e w' => e = .returned (.bool false) ∧ Below w.heap.size w w' := by
 obtain ⟨a, c1, rfl⟩ := hT.keys.slice
 obtain ⟨a', c2, rfl⟩ := hT.vals.slice
 have h' : ((xs.length : Int) != (ys.length : Int)) = true := by simp at h ⊢; omega
 clear hT h
 go_enter Tryz.func43, Tryz.ntmps43
 go_wp2
 exact bodyPost_ret (v := .bool false) (by simp [results, Tryz.results43, go_sem]) rfl ⟨rfl, ((Below.refl _ _).alloc (Nat.le_refl _) _).alloc (by simp) _⟩
theorem b8i (ks vs : Value) (xs ys : List Vl) (w : World) (hT : Tab w.heap.size w ks vs xs ys) (h : xs.length = ys.length) (hl : 100 < xs.length) :
  Calls Tryz.prog 43 #[.agg #[ks, vs]] w fun e w' => e = .returned (.bool false) ∧ Below w.heap.size w w' := by
 obtain ⟨a, c1, rfl⟩ := hT.keys.slice
 obtain ⟨a', c2, rfl⟩ := hT.vals.slice
 have h' : ((xs.length : Int) != (ys.length : Int)) = false := by simp; omega
 have h2 : (100 : Int) < (xs.length : Int) := by omega
 clear hT hl
 go_enter Tryz.func43, Tryz.ntmps43
 go_wp2
 exact bodyPost_ret (v := .bool false) (by simp [results, Tryz.results43, go_sem]) rfl ⟨rfl, ((Below.refl _ _).alloc (Nat.le_refl _) _).alloc (by simp) _⟩
end
section
variable [DecidableEq Vl]
attribute [local go_sem] Oper.semAt_some
def stP (p : Vl × Vl) : Bool := stB p.1 && stB p.2
theorem a1m.alloc (o : Obj) (h : a1m W b i x) : a1m (W.alloc o) b i x := ⟨a2n _ h.k, a2n _ h.n, a2n _ h.s⟩
theorem a1m.lt (h : a1m W b i x) : b < W.heap.size := World.block_lt_of_cell? _ _ h.k
theorem Row.mono (r : Row m W sv xs) (h : m ≤ m') : Row m' W sv xs := by
 obtain ⟨a, cap, e, hl, hx⟩ := r
 refine ⟨a, cap, e, hl, fun hne => ?_⟩
 obtain ⟨b, off, ea, hb, hc⟩ := hx hne
 exact ⟨b, off, ea, by omega, hc⟩
theorem Tab.mono {ks vs : Value} (t : Tab m W ks vs xs ys) (h : m ≤ m') : Tab m' W ks vs xs ys := ⟨t.keys.mono h, t.vals.mono h⟩
theorem a0y {B' : Nat} (o : Obj) (h : B < B') : OwnFrom B' (fun (_ : β) W => W.heap[B]? = some o) := fun _ _ _ _ hs hg hr =>
 (hg.block B (Array.getElem?_eq_some_iff.1 hs).1 (fun e => by have := (hr _ e.symm).1; omega)).trans hs
theorem a5y {k : Nat} : OwnFrom B (fun (_ : β) W => k ≤ W.heap.size) := fun _ _ _ _ hs hg _ => Nat.le_trans hs hg.size
theorem a0g (o' : Obj) (h : W.heap[B]? = some o) : (W.alloc o').heap[B]? = some o := (Below.heap_alloc _ _ _ (Array.getElem?_eq_some_iff.1 h).1).trans h
theorem a0d {W' : World} (hb : Below W.heap.size W W') (h : W.heap[B]? = some o) : W'.heap[B]? = some o := (hb.block B (Array.getElem?_eq_some_iff.1 h).1).trans h
theorem b8j (n : Nat) (h3 : 3 ≤ n) (ks vs : Value) (zs : List (Vl × Vl)) (hlen : zs.length ≤ 100) (w : World) (hT : Tab w.heap.size w ks vs (keysOf zs) (a0q zs)) :
  CallsIn Fence.wide n Tryz.prog 43 #[.agg #[ks, vs]] w fun e w' => e = .returned (.bool (zs.all stP && decide (keysOf zs).Nodup)) ∧ Below w.heap.size w w' := by
 have h1 : 1 ≤ n := by omega
 have h2 : 1 ≤ n - 1 := by omega
 have hn2 : 1 ≤ n - 1 - 1 := by omega
 obtain ⟨a, c1, hks⟩ := hT.keys.slice
 obtain ⟨a', c2, hvs⟩ := hT.vals.slice
 simp only [keysOf, a0q, List.length_map] at hks hvs
 subst hks hvs
 have g1 : ((zs.length : Int) != (zs.length : Int)) = false := by simp
 have g2 : ¬ (100 : Int) < (zs.length : Int) := by omega
 refine callsIn_of_wp_marks Tryz.func43 rfl trivial ?_ rfl
 simp only [Tryz.ntmps43, List.size_toArray, List.length_cons, List.length_nil, Nat.reduceAdd, Nat.reduceSub, Array.replicate_succ, Array.replicate_zero, List.push_toArray, List.append_toArray, List.nil_append, List.cons_append]
 gi_wp2_with (refine ⟨trivial, ?_⟩; gi_at_call 62; refine (a7a _ _ _ _).mono ?_; rintro e w' ⟨rfl, rfl⟩)
 obtain ⟨W0, hW0⟩ := exq (((w.alloc (.cells #[.slice a zs.length c1, .slice a' zs.length c2] 57)).alloc (.cells #[.bool false] 4)).alloc (.cells #[.slice a zs.length c1, .slice a' zs.length c2] 57))
 have hs0 : W0.heap.size = w.heap.size + 3 := by rw [← hW0]; simp
 have b0 : W0.heap[w.heap.size]? = some (.cells #[.slice a zs.length c1, .slice a' zs.length c2] 57) := by rw [← hW0]; exact a0g _ (a0g _ (World.alloc_heap_new w _))
 have b1 : W0.heap[w.heap.size + 1]? = some (.cells #[.bool false] 4) := by
  have := a0g (.cells #[.slice a zs.length c1, .slice a' zs.length c2] 57) (World.alloc_heap_new (w.alloc (.cells #[.slice a zs.length c1, .slice a' zs.length c2] 57)) (.cells #[.bool false] 4))
  simp only [World.size_alloc] at this
  rw [← hW0]; exact this
 have hbt : W0.heap[w.heap.size + 1 + 1]? = some (.cells #[.slice a zs.length c1, .slice a' zs.length c2] 57) := by
  have := World.alloc_heap_new ((w.alloc (.cells #[.slice a zs.length c1, .slice a' zs.length c2] 57)).alloc (.cells #[.bool false] 4)) (.cells #[.slice a zs.length c1, .slice a' zs.length c2] 57)
  simp only [World.size_alloc] at this
  rw [← hW0]; exact this
 have hB0 : Below w.heap.size w W0 := by rw [← hW0]; exact (((Below.refl _ w).alloc (Nat.le_refl _) _).alloc (by simp) _).alloc (by simp; omega) _
 rw [hW0]
 clear hW0
 refine wpIn_rangeFunc_ownH rfl h1 (gf := 94) (lb := #[.pointer (some ⟨w.heap.size + 1 + 1, 0, none⟩)]) rfl trivial (enters_of Tryz.func94 (by kernel_rfl) rfl)
  (a4n (n - 1) (w.heap.size + 1 + 1) w.heap.size _ _ zs hlen W0 (by omega) (by omega) hbt (hT.below hB0)) (fun h k => h.trans k) (Kept.putObj (by omega) (by omega)) (Below.refl _ _) (fun _ => rfl)
  (fun (pre : List (Vl × Vl)) W => ((∀ p ∈ pre, stP p = true) ∧ W0.heap.size ≤ W.heap.size ∧ W.heap[w.heap.size]? = some (.cells #[.slice a zs.length c1, .slice a' zs.length c2] 57) ∧ W.heap[w.heap.size + 1]? = some (.cells #[.bool false] 4)) ∧ Below w.heap.size w W)
  (fun c (pre : List (Vl × Vl)) W => (c = .ret ∧ (∃ p ∈ pre, stP p = false) ∧ W.heap[w.heap.size + 1]? = some (.cells #[.bool false] 4)) ∧ Below w.heap.size w W)
  (OwnFrom.and (OwnFrom.and (ownFrom_pure _ _) (OwnFrom.and a5y (OwnFrom.and (a0y _ (by omega)) (a0y _ (by omega))))) (ownFrom_below (Nat.le_refl _) (by omega)))
  (fun c => OwnFrom.and (OwnFrom.and (ownFrom_pure _ _) (OwnFrom.and (ownFrom_pure _ _) (a0y _ (by omega)))) (ownFrom_below (Nat.le_refl _) (by omega)))
  ⟨⟨by simp, Nat.le_refl _, b0, b1⟩, hB0⟩
  (fun x q W => ∃ Bx By, w.heap.size + 1 + 1 < Bx ∧ a1m W Bx 0 x.1 ∧ a1m W By 0 x.2 ∧ q = { tmps := #[.agg #[.slice a zs.length c1, .slice a' zs.length c2], .pointer (some ⟨w.heap.size, 0, none⟩), .pointer (some ⟨w.heap.size + 1, 0, none⟩), .pointer (some ⟨Bx, 0, none⟩), .pointer (some ⟨By, 0, none⟩), .pointer (some ⟨w.heap.size, 0, none⟩), .slice a zs.length c1, .int .i64 zs.length, .pointer (some ⟨w.heap.size, 1, none⟩), .slice a' zs.length c2, .int .i64 zs.length, .bool false, .bool false, .pointer (some ⟨w.heap.size, 0, none⟩), .slice a zs.length c1, .int .i64 zs.length, .bool false, .bool false, .agg #[.slice a zs.length c1, .slice a' zs.length c2], .func (.func 94) #[] #[.pointer (some ⟨w.heap.size + 1 + 1, 0, none⟩)], x.1.v, x.2.v, undef, undef, undef, undef, undef, undef, undef, undef, undef, undef, undef, undef, undef, undef, undef], defers := [] })
  (fun x q => fun _ A B row hs hg hr => by obtain ⟨Bx, By, h1, h2, h3, h4⟩ := hs; exact ⟨Bx, By, h1, (a1m.own (β := Unit) Bx 0 x.1) () A B row h2 hg (fun r e => (hr r e).2), (a1m.own (β := Unit) By 0 x.2) () A B row h3 hg (fun r e => (hr r e).2), h4⟩)
  ?assign ?body ?done ?stop
 case assign =>
  rintro l pre x W K ⟨⟨hp, hz, k0, k1⟩, hB⟩ hK
  gi_wp2
  have hb' : Below W.heap.size W ((W.alloc (.cells #[.int .i64 x.1.k, .int .i64 x.1.n, .string x.1.s] 30)).alloc (.cells #[.int .i64 x.2.k, .int .i64 x.2.n, .string x.2.s] 30)) := ((Below.refl _ _).alloc (Nat.le_refl _) _).alloc (by simp) _
  exact hK _ _ (a1l hb') (a2s hb' (by omega) (by omega)) ⟨⟨hp, by have := hb'.size; omega, a0d hb' k0, a0d hb' k1⟩, hB.trans (hb'.mono (by omega))⟩ ⟨W.heap.size, W.heap.size + 1, by omega, (a5d W x.1).alloc _, by have := a5d (W.alloc (.cells #[.int .i64 x.1.k, .int .i64 x.1.n, .string x.1.s] 30)) x.2; simpa using this, rfl⟩
 case body =>
  rintro l pre x q W hl ⟨r, hr⟩ ⟨⟨hp, hz, k0, k1⟩, hB⟩ ⟨Bx, By, hBx, ⟨t0, t1, t2⟩, t', rfl⟩ hlt
  clear hr hT hbt hB0 b0 b1 g1 g2
  rename_i Kd ad
  clear ad Kd
  cases h1' : stB x.1
  ·have e1 : stP x = false := by simp [stP, h1']
   have hC := b5e h1'
   clear h1'
   gi_wp2_with (refine ⟨trivial, ?_⟩; gi_at_call 63; refine (CallsIn.inRound l (callsIn_wide.2 (hC _))).mono ?_; rintro e w1 ⟨rfl, hb1⟩; have k1' := a0d hb1 k1; have c1' := Boxed.cell k1'; have f1' := Boxed.frozen k1')
   refine ⟨trivial, ?_⟩
   gi_wp2
   exact ⟨(a1l hb1).trans ((KeepsOthers.setCell _ _ _).from _), ⟨rfl, ⟨x, by simp, e1⟩, Boxed.set _ k1'⟩, (hB.trans (hb1.mono (by omega))).setCell (p := ⟨w.heap.size + 1, 0, none⟩) (by simp) _⟩
  ·cases h2' : stB x.2
   ·have e1 : stP x = false := by simp [stP, h2']
    have hC := b1h h1'
    have hC2 := b5e h2'
    clear h1' h2'
    gi_wp2_with (refine ⟨trivial, ?_⟩; gi_at_call 63; refine (CallsIn.inRound l (callsIn_wide.2 (hC _))).mono ?_; rintro e w1 ⟨rfl, hb1⟩; refine Hid.out ?_)
    have k1' := a0d hb1 k1
    obtain ⟨s0, s1, s2⟩ := t'.below hb1 t'.lt
    have hz1 := Nat.le_trans hz hb1.size
    refine Lib.hid ?_
    gi_wp2_with (refine ⟨trivial, ?_⟩; gi_at_call 63; refine (CallsIn.inRound l (callsIn_wide.2 (hC2 _))).mono ?_; rintro e w2 ⟨rfl, hb2⟩; have k2' := a0d hb2 k1'; have c2' := Boxed.cell k2'; have f2' := Boxed.frozen k2')
    have hb12 := a0b hb1 hb2
    exact ⟨(a1l hb12).trans ((KeepsOthers.setCell _ _ _).from _), ⟨rfl, ⟨x, by simp, e1⟩, Boxed.set _ k2'⟩, (hB.trans (hb12.mono (by omega))).setCell (p := ⟨w.heap.size + 1, 0, none⟩) (by simp) _⟩
   ·have e1 : stP x = true := by simp [stP, h1', h2']
    have hC := b1h h1'
    have hC2 := b1h h2'
    clear h1' h2'
    gi_wp2_with (refine ⟨trivial, ?_⟩; gi_at_call 63; refine (CallsIn.inRound l (callsIn_wide.2 (hC _))).mono ?_; rintro e w1 ⟨rfl, hb1⟩; refine Hid.out ?_)
    have k1' := a0d hb1 k1
    obtain ⟨s0, s1, s2⟩ := t'.below hb1 t'.lt
    have hz1 := Nat.le_trans hz hb1.size
    refine Lib.hid ?_
    gi_wp2_with (refine ⟨trivial, ?_⟩; gi_at_call 63; refine (CallsIn.inRound l (callsIn_wide.2 (hC2 _))).mono ?_; rintro e w2 ⟨rfl, hb2⟩)
    have hb12 := a0b hb1 hb2
    exact ⟨a1l hb12, a2s hb12 (by omega) (by omega), ⟨fun p hm => (List.mem_append.1 hm).elim (hp p) (fun e => by simp at e; subst e; exact e1), Nat.le_trans hz hb12.size, a0d hb12 k0, a0d hb12 k1⟩, hB.trans (hb12.mono (by omega))⟩
 case done =>
  rintro D ys W hD rfl ⟨⟨hp, hz, k0, k1⟩, hB⟩ hK
  have hall : ys.all stP = true := by simpa using hp
  have hlt0 : w.heap.size < W.heap.size := by omega
  have hTW : Tab W.heap.size W.drew (.slice a ys.length c1) (.slice a' ys.length c2) (keysOf ys) (a0q ys) := (hT.below hB.drew).mono (Nat.le_of_lt hlt0)
  have hz0 : W.cell? ⟨w.heap.size, 0, none⟩ = some (.slice a ys.length c1) := by simp [World.cell?, k0]
  have hz1 : W.cell? ⟨w.heap.size, 1, none⟩ = some (.slice a' ys.length c2) := by simp [World.cell?, k0]
  have hC := b7z (n - 1) h2 _ _ ys hlen W.drew hTW
  clear hp b0 b1 hbt hB0 hT
  gi_wp2
  obtain ⟨K0, hK0⟩ : ∃ K0 : Act → World → Prop, K0 = (fun q w' => ∃ w1, w1.ownsMap Tryz.prog 30 (plainElem (H := Unit) Tryz.prog 3) (W.heap.size + 1) ys.length (a4u (keysOf ys)) ∧ Below W.heap.size W.drew w1 ∧ w' = w1.setCell ⟨w.heap.size + 1, 0, none⟩ (.bool (((Maps.size (a4u (keysOf ys)) : Nat) : Int) == ((ys.length : Nat) : Int))) ∧ q.defers = [{ target := Target.collected D, args := #[] }] ∧ q.tmps[2]?.getD undef = .pointer (some ⟨w.heap.size + 1, 0, none⟩)) := ⟨_, rfl⟩
  refine wpIn_mono (Q := Exit.then K0 (fun _ _ _ => False)) ?_ ?_
  ·replace hK0 : Hid _ := hK0
   rename_i Kd ad
   clear ad
   gi_region_with (refine ⟨trivial, ?_⟩; refine hC.mono ?_; rintro e w1 ⟨rfl, hown, hb1⟩; have hl : (Builtin.len_ #[99] 3 #[.map (some (W.heap.size + 1))]).run Tryz.prog w1 = .ok (.int .i64 (Maps.size (a4u (keysOf ys)))) w1 := hown.len Tryz.underlying99 3; have y0 := (hb1.cell (p := ⟨w.heap.size, 0, none⟩) hlt0).trans hz0; have k1' := a0d (W := W.drew) hb1 k1; have c1' := Boxed.cell k1'; have f1' := Boxed.frozen k1')
   all_goals (rw [hK0.out]; exact ⟨w1, hown, hb1, rfl, rfl, rfl⟩)
  ·intro e q w' hQ
   rw [hK0] at hQ
   obtain ⟨rfl, w1, hown, hb1, rfl, hq1, hq2⟩ := a6l hQ
   obtain ⟨tm, df⟩ := q
   simp only at hq1 hq2
   subst hq1
   clear hQ hK0 K0
   have k1' := a0d (W := W.drew) hb1 k1
   gi_wp2
   have hK' : (w1.setCell ⟨w.heap.size + 1, 0, none⟩ (.bool (((Maps.size (a4u (keysOf ys)) : Nat) : Int) == ((ys.length : Nat) : Int)))).heap[D]? = some (.deferred (some [])) := (KeepsOthers.setCell w1 _ _).same D _ (a0d (W := W.drew) hb1 hK) rfl
   refine ⟨by simp, .inl ⟨_, _, rfl, run_takeDeferred hK', ?_⟩⟩
   have hc5 := cell_kept (Boxed.cell (Boxed.set (.bool (((Maps.size (a4u (keysOf ys)) : Nat) : Int) == ((ys.length : Nat) : Int))) k1')) (grownBy_putObj' _ D (.deferred none)) (fun r e => by cases e; exact ⟨_, hK', rfl⟩)
   refine ⟨.bool (((Maps.size (a4u (keysOf ys)) : Nat) : Int) == ((ys.length : Nat) : Int)), ?_, a1b ?_, ((hB.trans ((Below.refl w.heap.size W).drew.trans (hb1.mono (Nat.le_of_lt hlt0)))).setCell (p := ⟨w.heap.size + 1, 0, none⟩) (by simp) _).trans (belowK_b (w := w) (Nat.le_refl _) _ D _ _ (by omega) hK' rfl rfl)⟩
   ·simp [results, Tryz.results43, go_sem, hq2, hc5]
   ·rw [hall, Bool.true_and]
    have := b6n (keysOf ys)
    rw [keysOf, List.length_map] at this
    by_cases hn : (keysOf ys).Nodup
    ·rw [decide_eq_true hn, this.2 hn]; simp
    ·rw [decide_eq_false hn]
     have : ¬ Maps.size (a4u (keysOf ys)) = ys.length := fun e => hn (this.1 e)
     simp; omega
 case stop =>
  rintro D c pre W hD hpre ⟨⟨rfl, hin, k1⟩, hB⟩ hK
  gi_wp2
  refine ⟨by simp, .inl ⟨_, _, rfl, run_takeDeferred hK, ?_⟩⟩
  have hc5 := cell_kept (Boxed.cell k1) (grownBy_putObj' _ D (.deferred none)) (fun r e => by cases e; exact ⟨_, hK, rfl⟩)
  have hno : (zs.all stP && decide (keysOf zs).Nodup) = false := by
   obtain ⟨p, hp, hf⟩ := hin
   have : zs.all stP = false := List.all_eq_false.2 ⟨p, hpre.subset hp, by simp [hf]⟩
   rw [this]; rfl
  refine ⟨.bool false, ?_, by rw [hno], hB.trans (belowK_b (w := w) (Nat.le_refl _) W D _ _ (by omega) hK rfl rfl)⟩
  simp [results, Tryz.results43, go_sem, hc5]
theorem a2j (h : xs.length = ys.length) : keysOf (xs.zip ys) = xs := List.map_fst_zip (by omega)
theorem a2y (h : xs.length = ys.length) : a0q (xs.zip ys) = ys := List.map_snd_zip (by omega)
theorem c8h (h : xs.length = ys.length) : (xs.zip ys).all stP = (xs.all stB && ys.all stB) := by
 induction xs generalizing ys with
 | nil => cases ys with
  | nil => rfl
  | cons y ys => simp at h
 | cons x xs ih => cases ys with
  | nil => simp at h
  | cons y ys =>
   simp only [List.length_cons, Nat.add_right_cancel_iff] at h
   simp only [List.zip_cons_cons, List.all_cons, ih h, stP]
   cases stB x <;> cases stB y <;> simp
theorem b1i (ks vs : Value) (xs ys : List Vl) (w : World) (hT : Tab w.heap.size w ks vs xs ys) :
  Calls Tryz.prog 43 #[.agg #[ks, vs]] w fun e w' => e = .returned (.bool (mayT xs ys)) ∧ Below w.heap.size w w' := by
 unfold mayT
 by_cases h : xs.length = ys.length
 ·by_cases hl : xs.length ≤ 100
  ·have := b8j 3 (by omega) ks vs (xs.zip ys) (by rw [List.length_zip]; omega) w (by rw [a2j h, a2y h]; exact hT)
   rw [c8h h, a2j h] at this
   simpa [h, h ▸ hl] using callsIn_wide.1 this
  ·have := b8i ks vs xs ys w hT h (by omega)
   simpa [h, h ▸ hl] using this
 ·have := c2t ks vs xs ys w hT (by simpa using h)
  simpa [h] using this
end
section
variable [DecidableEq Vl]
def nilV : Vl := ⟨0, 0, ⟨#[]⟩, by decide, by decide, by decide⟩
abbrev bx (x : Vl) : Obj := .cells #[.int .i64 x.k, .int .i64 x.n, .string x.s] 30
theorem a0k (v : Value) (h : W.heap[B]? = some (.cells c t z)) : (W.setCell ⟨B, i, none⟩ v).heap[B]? = some (.cells (c.setIfInBounds i v) t z) := by
 obtain ⟨hlt, hk⟩ := Array.getElem?_eq_some_iff.1 h
 show (W.heap.modify B _)[B]? = _
 rw [Array.getElem?_eq_getElem (by rw [Array.size_modify]; exact hlt), Array.getElem_modify_self, hk]
 rfl
theorem a0a {v : Value} (h : W.heap[B]? = some (.cells c t z)) (hv : c[i]? = some v) : W.cell? ⟨B, i, none⟩ = some v := by
 simp [World.cell?, h, hv]
theorem a0e (h : W.heap[B]? = some (.cells c t)) : W.frozen? ⟨B, i, none⟩ = false := by
 simp [World.frozen?, h]
structure In3 (W : World) (B : Nat) (x : Vl) : Prop where
 c0 : W.cell? ⟨B, 0, none⟩ = some (.int .i64 x.k)
 c1 : W.cell? ⟨B, 1, none⟩ = some (.int .i64 x.n)
 c2 : W.cell? ⟨B, 2, none⟩ = some (.string x.s)
 f0 : W.frozen? ⟨B, 0, none⟩ = false
 f1 : W.frozen? ⟨B, 1, none⟩ = false
 f2 : W.frozen? ⟨B, 2, none⟩ = false
theorem in3 (h : W.heap[B]? = some (bx x)) : In3 W B x := ⟨a0a h rfl, a0a h rfl, a0a h rfl, a0e h, a0e h, a0e h⟩
abbrev put3 (W : World) (B : Nat) (x : Vl) : World := ((W.setCell ⟨B, 0, none⟩ (.int .i64 x.k)).setCell ⟨B, 1, none⟩ (.int .i64 x.n)).setCell ⟨B, 2, none⟩ (.string x.s)
theorem a0o (y : Vl) (h : W.heap[B]? = some (bx x)) : (put3 W B y).heap[B]? = some (bx y) := a0k _ (a0k _ (a0k _ h))
theorem a1o (W : World) (y : Vl) (h : C ≠ B) : (put3 W B y).heap[C]? = W.heap[C]? := by
 unfold put3
 rw [Below.heap_setCell _ ⟨B, 2, none⟩ _ C h, Below.heap_setCell _ ⟨B, 1, none⟩ _ C h, Below.heap_setCell _ ⟨B, 0, none⟩ _ C h]
theorem a4i (W : World) (B : Nat) (y : Vl) : KeepsOthers W (put3 W B y) := ((KeepsOthers.setCell _ _ _).trans (KeepsOthers.setCell _ _ _)).trans (KeepsOthers.setCell _ _ _)
theorem a0r {w : World} (y : Vl) (h : Below m w W) (hB : m ≤ B) : Below m w (put3 W B y) := ((h.setCell (p := ⟨B, 0, none⟩) hB _).setCell (p := ⟨B, 1, none⟩) hB _).setCell (p := ⟨B, 2, none⟩) hB _
theorem a0f (W : World) (v : Value) (h : C ≠ B) : (W.setCell ⟨B, i, none⟩ v).heap[C]? = W.heap[C]? := Below.heap_setCell _ ⟨B, i, none⟩ _ C h
theorem a2m {D : Nat} {o' : Obj} (h : W.heap[B]? = some o) (hne : B ≠ D) : (W.putObj D o').heap[B]? = some o := (World.putObj_heap_other hne).trans h
def look (zs : List (Vl × Vl)) (k : Vl) : Vl := ((zs.find? (fun p => decide (p.1 = k))).map (·.2)).getD nilV
def getT (xs ys : List Vl) (k : Vl) : Vl := if mayT xs ys = true then look (xs.zip ys) k else nilV
theorem b2l (h : ∀ p ∈ zs, p.1 ≠ k) : look zs k = nilV := by
 unfold look
 rw [List.find?_eq_none.2 (fun p hp => by simpa using h p hp)]
 rfl
theorem b8k {ini : List (Vl × Vl)} {y : Vl} (h : ini ++ [(k, y)] <+: zs) (hi : ∀ p ∈ ini, p.1 ≠ k) : look zs k = y := by
 obtain ⟨r, rfl⟩ := h
 unfold look
 rw [List.find?_append, List.find?_append, List.find?_eq_none.2 (fun p hp => by simpa using hi p hp)]
 simp
end
structure Od where
 op : Int
 a : Int
 b : Int
 c : Int
 wo : (Lit.int .i64 op).wf = true
 wa : (Lit.int .i64 a).wf = true
 wb : (Lit.int .i64 b).wf = true
 wc : (Lit.int .i64 c).wf = true
abbrev Od.v (x : Od) : Value := .agg #[.int .i64 x.op, .int .i64 x.a, .int .i64 x.b, .int .i64 x.c]
structure Fd where
 p : Int
 r : Int
 wp : (Lit.int .i64 p).wf = true
 wr : (Lit.int .i64 r).wf = true
 ca : Option Addr
 cc : Nat
 cs : List Vl
 ia : Option Addr
 ic : Nat
 is : List Od
abbrev Fd.cv (f : Fd) : Value := .slice f.ca f.cs.length f.cc
abbrev Fd.iv (f : Fd) : Value := .slice f.ia f.is.length f.ic
abbrev Fd.v (f : Fd) : Value := .agg #[.int .i64 f.p, .int .i64 f.r, f.cv, f.iv]
abbrev plc (f : Fd) (x : Od) (i : Nat) : Value := .agg #[.int .i64 f.p, .int .i64 f.r, f.cv, f.iv, .int .i64 x.op, .int .i64 x.a, .int .i64 x.b, .int .i64 x.c, .int .i64 i]
def belB (n e : Int) : Bool := decide (0 ≤ n) && decide (n < e)
def frB (a n b : Int) : Bool := decide (a ≤ n) && decide (n ≤ b)
theorem a5f (n e : Int) (w : World) : Calls Tryz.prog 37 #[.int .i64 n, .int .i64 e] w fun r w' => r = .returned (.bool (belB n e)) ∧ w' = w := by
 rcases (Bool.eq_false_or_eq_true (decide (0 ≤ n))) with hn | hn
 all_goals
  go_enter Tryz.func37, Tryz.ntmps37
  go_wp2
  go_ret
  exact ⟨a1b (by simp [belB, hn]), rfl⟩
theorem a1x (a n b : Int) (w : World) : Calls Tryz.prog 59 #[.int .i64 a, .int .i64 n, .int .i64 b] w fun r w' => r = .returned (.bool (frB a n b)) ∧ w' = w := by
 rcases (Bool.eq_false_or_eq_true (decide (a ≤ n))) with hn | hn
 all_goals
  go_enter Tryz.func59, Tryz.ntmps59
  go_wp2
  go_ret
  exact ⟨a1b (by simp [frB, hn]), rfl⟩
theorem b3w (f : Fd) (x : Od) (i : Nat) (n : Int) (w : World) : Calls Tryz.prog 109 #[plc f x i, .int .i64 n] w fun r w' => r = .returned (.bool (belB n f.r)) ∧ Below w.heap.size w w' := by
 go_enter Tryz.func109, Tryz.ntmps109
 go_wp2_with (go_at_call 37; refine (a5f _ _ _).mono ?_; rintro e w' ⟨rfl, rfl⟩)
 go_ret
 refine ⟨rfl, ?_⟩
 repeat (first | exact Below.refl _ _ | refine a0c ?_ _)
theorem b8l (f : Fd) (x : Od) (i : Nat) (n : Int) (w : World) : Calls Tryz.prog 110 #[plc f x i, .int .i64 n] w fun r w' => r = .returned (.bool (belB n f.cs.length)) ∧ Below w.heap.size w w' := by
 go_enter Tryz.func110, Tryz.ntmps110
 go_wp2_with (go_at_call 37; refine (a5f _ _ _).mono ?_; rintro e w' ⟨rfl, rfl⟩)
 go_ret
 refine ⟨rfl, ?_⟩
 repeat (first | exact Below.refl _ _ | refine a0c ?_ _)
theorem b8m (f : Fd) (x : Od) (i : Nat) (n : Int) (w : World) : Calls Tryz.prog 111 #[plc f x i, .int .i64 n] w fun r w' => r = .returned (.bool (belB n f.is.length)) ∧ Below w.heap.size w w' := by
 go_enter Tryz.func111, Tryz.ntmps111
 go_wp2_with (go_at_call 37; refine (a5f _ _ _).mono ?_; rintro e w' ⟨rfl, rfl⟩)
 go_ret
 refine ⟨rfl, ?_⟩
 repeat (first | exact Below.refl _ _ | refine a0c ?_ _)
theorem c2u (f : Fd) (x : Od) (i : Nat) (n : Int) (w : World) : Calls Tryz.prog 112 #[plc f x i, .int .i64 n] w fun r w' => r = .returned (.bool (frB 0 n i)) ∧ Below w.heap.size w w' := by
 go_enter Tryz.func112, Tryz.ntmps112
 go_wp2_with (go_at_call 59; refine (a1x _ _ _ _).mono ?_; rintro e w' ⟨rfl, rfl⟩)
 go_ret
 refine ⟨rfl, ?_⟩
 repeat (first | exact Below.refl _ _ | refine a0c ?_ _)
def argB (f : Fd) (x : Od) (n : Int) : Bool := frB 0 n 5 && belB (wrap64 (x.b + n)) f.r
theorem c2v (f : Fd) (x : Od) (i : Nat) (n : Int) (w : World) : Calls Tryz.prog 113 #[plc f x i, .int .i64 n] w fun r w' => r = .returned (.bool (argB f x n)) ∧ Below w.heap.size w w' := by
 unfold argB
 rcases (Bool.eq_false_or_eq_true (frB 0 n 5)) with hn | hn
 ·have h1 := a1x 0 n 5
  rw [hn] at h1
  go_enter Tryz.func113, Tryz.ntmps113
  go_wp2_with (first | (go_at_call 59; refine (h1 _).mono ?_; rintro e w' ⟨rfl, rfl⟩) | (go_at_call 109; refine (b3w f x i _ _).mono ?_; rintro e w' ⟨rfl, hb⟩))
  go_ret
  refine ⟨a1b (by simp [hn]), ?_⟩
  exact a0b (a0c (Below.refl _ _) _) hb
 ·have h1 := a1x 0 n 5
  rw [hn] at h1
  go_enter Tryz.func113, Tryz.ntmps113
  go_wp2_with (first | (go_at_call 59; refine (h1 _).mono ?_; rintro e w' ⟨rfl, rfl⟩) | (go_at_call 109; refine (b3w f x i _ _).mono ?_; rintro e w' ⟨rfl, hb⟩))
  go_ret
  refine ⟨a1b (by simp [hn]), ?_⟩
  repeat (first | exact Below.refl _ _ | refine a0c ?_ _)
def a1i (op : Int) : Option (List Nat) :=
 if op = 1 ∨ op = 6 ∨ op = 30 ∨ op = 31 then some [109, 109]
 else if op = 2 then some [109, 110]
 else if op = 3 ∨ op = 12 ∨ op = 13 then some [109]
 else if op = 4 ∨ op = 5 ∨ op = 7 then some [109, 109, 109]
 else if op = 8 then some [111]
 else if op = 9 then some [109, 111]
 else if op = 10 then some [112]
 else if op = 11 then some [109, 109, 113]
 else if 21 ≤ op ∧ op ≤ 29 then some [109, 109, 109]
 else none
def fnV (n : Nat) : Value := .func (.func n) #[] #[]
theorem c2w (w : World) : Calls Tryz.prog 93 #[.int .i64 1] w fun e w' => e = .returned (.slice (some ⟨w.heap.size, 0, none⟩) 2 2) ∧ w' = w.alloc (.cells #[fnV 109, fnV 109] 134) := by
 go_enter Tryz.func93, Tryz.ntmps93
 go_wp2
 go_ret
 exact ⟨rfl, rfl⟩
theorem c2x (w : World) : Calls Tryz.prog 93 #[.int .i64 2] w fun e w' => e = .returned (.slice (some ⟨w.heap.size, 0, none⟩) 2 2) ∧ w' = w.alloc (.cells #[fnV 109, fnV 110] 134) := by
 go_enter Tryz.func93, Tryz.ntmps93
 go_wp2
 go_ret
 exact ⟨rfl, rfl⟩
theorem c2y (w : World) : Calls Tryz.prog 93 #[.int .i64 3] w fun e w' => e = .returned (.slice (some ⟨w.heap.size, 0, none⟩) 1 1) ∧ w' = w.alloc (.cells #[fnV 109] 134) := by
 go_enter Tryz.func93, Tryz.ntmps93
 go_wp2
 go_ret
 exact ⟨rfl, rfl⟩
theorem c2z (w : World) : Calls Tryz.prog 93 #[.int .i64 4] w fun e w' => e = .returned (.slice (some ⟨w.heap.size, 0, none⟩) 3 3) ∧ w' = w.alloc (.cells #[fnV 109, fnV 109, fnV 109] 134) := by
 go_enter Tryz.func93, Tryz.ntmps93
 go_wp2
 go_ret
 exact ⟨rfl, rfl⟩
theorem c3a (w : World) : Calls Tryz.prog 93 #[.int .i64 5] w fun e w' => e = .returned (.slice (some ⟨w.heap.size, 0, none⟩) 3 3) ∧ w' = w.alloc (.cells #[fnV 109, fnV 109, fnV 109] 134) := by
 go_enter Tryz.func93, Tryz.ntmps93
 go_wp2
 go_ret
 exact ⟨rfl, rfl⟩
theorem c3b (w : World) : Calls Tryz.prog 93 #[.int .i64 6] w fun e w' => e = .returned (.slice (some ⟨w.heap.size, 0, none⟩) 2 2) ∧ w' = w.alloc (.cells #[fnV 109, fnV 109] 134) := by
 go_enter Tryz.func93, Tryz.ntmps93
 go_wp2
 go_ret
 exact ⟨rfl, rfl⟩
theorem c3c (w : World) : Calls Tryz.prog 93 #[.int .i64 7] w fun e w' => e = .returned (.slice (some ⟨w.heap.size, 0, none⟩) 3 3) ∧ w' = w.alloc (.cells #[fnV 109, fnV 109, fnV 109] 134) := by
 go_enter Tryz.func93, Tryz.ntmps93
 go_wp2
 go_ret
 exact ⟨rfl, rfl⟩
theorem c3d (w : World) : Calls Tryz.prog 93 #[.int .i64 8] w fun e w' => e = .returned (.slice (some ⟨w.heap.size, 0, none⟩) 1 1) ∧ w' = w.alloc (.cells #[fnV 111] 134) := by
 go_enter Tryz.func93, Tryz.ntmps93
 go_wp2
 go_ret
 exact ⟨rfl, rfl⟩
theorem c3e (w : World) : Calls Tryz.prog 93 #[.int .i64 9] w fun e w' => e = .returned (.slice (some ⟨w.heap.size, 0, none⟩) 2 2) ∧ w' = w.alloc (.cells #[fnV 109, fnV 111] 134) := by
 go_enter Tryz.func93, Tryz.ntmps93
 go_wp2
 go_ret
 exact ⟨rfl, rfl⟩
theorem b8n (w : World) : Calls Tryz.prog 93 #[.int .i64 10] w fun e w' => e = .returned (.slice (some ⟨w.heap.size, 0, none⟩) 1 1) ∧ w' = w.alloc (.cells #[fnV 112] 134) := by
 go_enter Tryz.func93, Tryz.ntmps93
 go_wp2
 go_ret
 exact ⟨rfl, rfl⟩
theorem b8o (w : World) : Calls Tryz.prog 93 #[.int .i64 11] w fun e w' => e = .returned (.slice (some ⟨w.heap.size, 0, none⟩) 3 3) ∧ w' = w.alloc (.cells #[fnV 109, fnV 109, fnV 113] 134) := by
 go_enter Tryz.func93, Tryz.ntmps93
 go_wp2
 go_ret
 exact ⟨rfl, rfl⟩
theorem b8p (w : World) : Calls Tryz.prog 93 #[.int .i64 12] w fun e w' => e = .returned (.slice (some ⟨w.heap.size, 0, none⟩) 1 1) ∧ w' = w.alloc (.cells #[fnV 109] 134) := by
 go_enter Tryz.func93, Tryz.ntmps93
 go_wp2
 go_ret
 exact ⟨rfl, rfl⟩
theorem b8q (w : World) : Calls Tryz.prog 93 #[.int .i64 13] w fun e w' => e = .returned (.slice (some ⟨w.heap.size, 0, none⟩) 1 1) ∧ w' = w.alloc (.cells #[fnV 109] 134) := by
 go_enter Tryz.func93, Tryz.ntmps93
 go_wp2
 go_ret
 exact ⟨rfl, rfl⟩
theorem b8r (w : World) : Calls Tryz.prog 93 #[.int .i64 21] w fun e w' => e = .returned (.slice (some ⟨w.heap.size, 0, none⟩) 3 3) ∧ w' = w.alloc (.cells #[fnV 109, fnV 109, fnV 109] 134) := by
 go_enter Tryz.func93, Tryz.ntmps93
 go_wp2_with (go_at_call 59; refine (a1x _ _ _ _).mono ?_; rintro e w' ⟨rfl, rfl⟩)
 go_ret
 exact ⟨rfl, rfl⟩
theorem b8s (w : World) : Calls Tryz.prog 93 #[.int .i64 22] w fun e w' => e = .returned (.slice (some ⟨w.heap.size, 0, none⟩) 3 3) ∧ w' = w.alloc (.cells #[fnV 109, fnV 109, fnV 109] 134) := by
 go_enter Tryz.func93, Tryz.ntmps93
 go_wp2_with (go_at_call 59; refine (a1x _ _ _ _).mono ?_; rintro e w' ⟨rfl, rfl⟩)
 go_ret
 exact ⟨rfl, rfl⟩
theorem b8t (w : World) : Calls Tryz.prog 93 #[.int .i64 23] w fun e w' => e = .returned (.slice (some ⟨w.heap.size, 0, none⟩) 3 3) ∧ w' = w.alloc (.cells #[fnV 109, fnV 109, fnV 109] 134) := by
 go_enter Tryz.func93, Tryz.ntmps93
 go_wp2_with (go_at_call 59; refine (a1x _ _ _ _).mono ?_; rintro e w' ⟨rfl, rfl⟩)
 go_ret
 exact ⟨rfl, rfl⟩
theorem b8u (w : World) : Calls Tryz.prog 93 #[.int .i64 24] w fun e w' => e = .returned (.slice (some ⟨w.heap.size, 0, none⟩) 3 3) ∧ w' = w.alloc (.cells #[fnV 109, fnV 109, fnV 109] 134) := by
 go_enter Tryz.func93, Tryz.ntmps93
 go_wp2_with (go_at_call 59; refine (a1x _ _ _ _).mono ?_; rintro e w' ⟨rfl, rfl⟩)
 go_ret
 exact ⟨rfl, rfl⟩
theorem b8v (w : World) : Calls Tryz.prog 93 #[.int .i64 25] w fun e w' => e = .returned (.slice (some ⟨w.heap.size, 0, none⟩) 3 3) ∧ w' = w.alloc (.cells #[fnV 109, fnV 109, fnV 109] 134) := by
 go_enter Tryz.func93, Tryz.ntmps93
 go_wp2_with (go_at_call 59; refine (a1x _ _ _ _).mono ?_; rintro e w' ⟨rfl, rfl⟩)
 go_ret
 exact ⟨rfl, rfl⟩
theorem b8w (w : World) : Calls Tryz.prog 93 #[.int .i64 26] w fun e w' => e = .returned (.slice (some ⟨w.heap.size, 0, none⟩) 3 3) ∧ w' = w.alloc (.cells #[fnV 109, fnV 109, fnV 109] 134) := by
 go_enter Tryz.func93, Tryz.ntmps93
 go_wp2_with (go_at_call 59; refine (a1x _ _ _ _).mono ?_; rintro e w' ⟨rfl, rfl⟩)
 go_ret
 exact ⟨rfl, rfl⟩
theorem b8x (w : World) : Calls Tryz.prog 93 #[.int .i64 27] w fun e w' => e = .returned (.slice (some ⟨w.heap.size, 0, none⟩) 3 3) ∧ w' = w.alloc (.cells #[fnV 109, fnV 109, fnV 109] 134) := by
 go_enter Tryz.func93, Tryz.ntmps93
 go_wp2_with (go_at_call 59; refine (a1x _ _ _ _).mono ?_; rintro e w' ⟨rfl, rfl⟩)
 go_ret
 exact ⟨rfl, rfl⟩
theorem b8y (w : World) : Calls Tryz.prog 93 #[.int .i64 28] w fun e w' => e = .returned (.slice (some ⟨w.heap.size, 0, none⟩) 3 3) ∧ w' = w.alloc (.cells #[fnV 109, fnV 109, fnV 109] 134) := by
 go_enter Tryz.func93, Tryz.ntmps93
 go_wp2_with (go_at_call 59; refine (a1x _ _ _ _).mono ?_; rintro e w' ⟨rfl, rfl⟩)
 go_ret
 exact ⟨rfl, rfl⟩
theorem b8z (w : World) : Calls Tryz.prog 93 #[.int .i64 29] w fun e w' => e = .returned (.slice (some ⟨w.heap.size, 0, none⟩) 3 3) ∧ w' = w.alloc (.cells #[fnV 109, fnV 109, fnV 109] 134) := by
 go_enter Tryz.func93, Tryz.ntmps93
 go_wp2_with (go_at_call 59; refine (a1x _ _ _ _).mono ?_; rintro e w' ⟨rfl, rfl⟩)
 go_ret
 exact ⟨rfl, rfl⟩
theorem b9a (w : World) : Calls Tryz.prog 93 #[.int .i64 30] w fun e w' => e = .returned (.slice (some ⟨w.heap.size, 0, none⟩) 2 2) ∧ w' = w.alloc (.cells #[fnV 109, fnV 109] 134) := by
 go_enter Tryz.func93, Tryz.ntmps93
 go_wp2
 go_ret
 exact ⟨rfl, rfl⟩
theorem b9b (w : World) : Calls Tryz.prog 93 #[.int .i64 31] w fun e w' => e = .returned (.slice (some ⟨w.heap.size, 0, none⟩) 2 2) ∧ w' = w.alloc (.cells #[fnV 109, fnV 109] 134) := by
 go_enter Tryz.func93, Tryz.ntmps93
 go_wp2
 go_ret
 exact ⟨rfl, rfl⟩
theorem b9c (op : Int) (w : World) (h1 : (op == 1) = false) (h2 : (op == 2) = false) (h3 : (op == 3) = false) (h4 : (op == 4) = false) (h5 : (op == 5) = false) (h6 : (op == 6) = false) (h7 : (op == 7) = false) (h8 : (op == 8) = false) (h9 : (op == 9) = false) (h10 : (op == 10) = false) (h11 : (op == 11) = false) (h12 : (op == 12) = false) (h13 : (op == 13) = false) (h30 : (op == 30) = false) (h31 : (op == 31) = false) (hf : frB 21 op 29 = false) : Calls Tryz.prog 93 #[.int .i64 op] w fun e w' => e = .returned (.slice none 0 0) ∧ w' = w := by
 have hF := a1x 21 op 29
 rw [hf] at hF
 go_enter Tryz.func93, Tryz.ntmps93
 go_wp2_with (go_at_call 59; refine (hF _).mono ?_; rintro e w' ⟨rfl, rfl⟩)
 go_ret
 exact ⟨rfl, rfl⟩
theorem a6q (op : Int) (l : List Nat) (h : a1i op = some l) (w : World) : Calls Tryz.prog 93 #[.int .i64 op] w fun e w' => e = .returned (.slice (some ⟨w.heap.size, 0, none⟩) l.length l.length) ∧ w' = w.alloc (.cells (l.map fnV).toArray 134) := by
 unfold a1i at h
 split at h
 ·rename_i o
  cases h
  rcases o with rfl | rfl | rfl | rfl
  ·exact c2w w
  ·exact c3b w
  ·exact b9a w
  ·exact b9b w
 split at h
 ·rename_i o; cases h; subst o; exact c2x w
 split at h
 ·rename_i o
  cases h
  rcases o with rfl | rfl | rfl
  ·exact c2y w
  ·exact b8p w
  ·exact b8q w
 split at h
 ·rename_i o
  cases h
  rcases o with rfl | rfl | rfl
  ·exact c2z w
  ·exact c3a w
  ·exact c3c w
 split at h
 ·rename_i o; cases h; subst o; exact c3d w
 split at h
 ·rename_i o; cases h; subst o; exact c3e w
 split at h
 ·rename_i o; cases h; subst o; exact b8n w
 split at h
 ·rename_i o; cases h; subst o; exact b8o w
 split at h
 ·rename_i o
  cases h
  have : op = 21 ∨ op = 22 ∨ op = 23 ∨ op = 24 ∨ op = 25 ∨ op = 26 ∨ op = 27 ∨ op = 28 ∨ op = 29 := by omega
  rcases this with rfl | rfl | rfl | rfl | rfl | rfl | rfl | rfl | rfl
  ·exact b8r w
  ·exact b8s w
  ·exact b8t w
  ·exact b8u w
  ·exact b8v w
  ·exact b8w w
  ·exact b8x w
  ·exact b8y w
  ·exact b8z w
 ·cases h
theorem b3x (op : Int) (h : a1i op = none) (w : World) : Calls Tryz.prog 93 #[.int .i64 op] w fun e w' => e = .returned (.slice none 0 0) ∧ w' = w := by
 unfold a1i at h
 split at h
 ·cases h
 split at h
 ·cases h
 split at h
 ·cases h
 split at h
 ·cases h
 split at h
 ·cases h
 split at h
 ·cases h
 split at h
 ·cases h
 split at h
 ·cases h
 split at h
 ·cases h
 rename_i a0 a1 a2 a3 a4 a5 a6 a7 a8
 have hd : frB 21 op 29 = false := by simp only [frB]; simp; omega
 have key : ∀ n : Int, op ≠ n → (op == n) = false := fun n hn => by simpa using hn
 exact b9c op w (key 1 (by omega)) (key 2 (by omega)) (key 3 (by omega)) (key 4 (by omega)) (key 5 (by omega)) (key 6 (by omega)) (key 7 (by omega)) (key 8 (by omega)) (key 9 (by omega)) (key 10 (by omega)) (key 11 (by omega)) (key 12 (by omega)) (key 13 (by omega)) (key 30 (by omega)) (key 31 (by omega)) hd
section
variable [DecidableEq Vl]
attribute [local go_sem] Oper.semAt_some
theorem a8r (h : mayT xs ys = true) (ks vs : Value) (w : World) (hT : Tab w.heap.size w ks vs xs ys) :
  Calls Tryz.prog 43 #[.agg #[ks, vs]] w fun e w' => e = .returned (.bool true) ∧ Below w.heap.size w w' := h ▸ b1i ks vs xs ys w hT
theorem b5f (h : mayT xs ys = false) (ks vs : Value) (w : World) (hT : Tab w.heap.size w ks vs xs ys) :
  Calls Tryz.prog 43 #[.agg #[ks, vs]] w fun e w' => e = .returned (.bool false) ∧ Below w.heap.size w w' := h ▸ b1i ks vs xs ys w hT
theorem a2z (h : mayT xs ys = true) : xs.length = ys.length ∧ xs.length ≤ 100 := by
 unfold mayT at h
 simp only [Bool.and_eq_true, decide_eq_true_eq] at h
 exact ⟨h.1.1.1, h.1.1.2⟩
theorem res7 (h : tm[4]?.getD undef = .pointer (some ⟨B, 0, none⟩)) (hx : W.heap[B]? = some (bx x)) : (results Tryz.f115 tm).run Tryz.prog W = .ok x.v W := by
 obtain ⟨c0, c1, c2, _, _, _⟩ := in3 hx
 simp [results, Tryz.results115, go_sem, h, c0, c1, c2]
theorem d1k (ks vs : Value) (xs ys : List Vl) (k : Vl) (w : World) (hT : Tab w.heap.size w ks vs xs ys) (h : mayT xs ys = false) :
  Calls Tryz.prog 115 #[.agg #[ks, vs], k.v] w fun e w' => e = .returned nilV.v ∧ Below w.heap.size w w' := by
 obtain ⟨a, c1, rfl⟩ := hT.keys.slice
 obtain ⟨a', c2, rfl⟩ := hT.vals.slice
 have hb0 : Below w.heap.size w (((w.alloc (.cells #[.slice a xs.length c1, .slice a' ys.length c2] 57)).alloc (bx k)).alloc (bx nilV)) := (((Below.refl _ w).alloc (Nat.le_refl _) _).alloc (by simp) _).alloc (by simp; omega) _
 have hC := b5f h (.slice a xs.length c1) (.slice a' ys.length c2) _ ((hT.below hb0).mono hb0.size)
 clear hT h
 obtain ⟨W1, hW1⟩ := exq ((((w.alloc (.cells #[.slice a xs.length c1, .slice a' ys.length c2] 57)).alloc (bx k)).alloc (bx nilV)))
 have hr0 : W1.heap[w.heap.size + 1 + 1]? = some (bx nilV) := by
  have := World.alloc_heap_new ((w.alloc (.cells #[.slice a xs.length c1, .slice a' ys.length c2] 57)).alloc (bx k)) (bx nilV)
  simp only [World.size_alloc] at this
  rw [← hW1]; exact this
 go_enter Tryz.func115, Tryz.ntmps115
 go_wp2_with (go_at_call 43; refine hC.mono ?_; rintro e w1 ⟨rfl, hb1⟩; refine Hid.out ?_)
 rw [hW1] at hb0 hb1
 have hr1 := a0d hb1 hr0
 obtain ⟨c0, c1', c2', f0, f1, f2⟩ := in3 hr1
 clear hC hW1
 refine Lib.hid ?_
 go_wp2
 exact bodyPost_ret (v := nilV.v) (res7 rfl (a0o nilV hr1)) rfl ⟨rfl, a0r nilV (hb0.trans (hb1.mono hb0.size)) (by omega)⟩
theorem c8i (n : Nat) (h3 : 3 ≤ n) (ks vs : Value) (zs : List (Vl × Vl)) (hlen : zs.length ≤ 100) (k : Vl) (w : World) (hT : Tab w.heap.size w ks vs (keysOf zs) (a0q zs)) (h : mayT (keysOf zs) (a0q zs) = true) :
  CallsIn Fence.wide n Tryz.prog 115 #[.agg #[ks, vs], k.v] w fun e w' => e = .returned (look zs k).v ∧ Below w.heap.size w w' := by
 have h1 : 1 ≤ n := by omega
 have hn1 : 1 ≤ n - 1 := by omega
 have hn2 : 1 ≤ n - 1 - 1 := by omega
 obtain ⟨a, c1, hks⟩ := hT.keys.slice
 obtain ⟨a', c2, hvs⟩ := hT.vals.slice
 simp only [keysOf, a0q, List.length_map] at hks hvs
 subst hks hvs
 have hb0 : Below w.heap.size w (((w.alloc (.cells #[.slice a zs.length c1, .slice a' zs.length c2] 57)).alloc (bx k)).alloc (bx nilV)) := (((Below.refl _ w).alloc (Nat.le_refl _) _).alloc (by simp) _).alloc (by simp; omega) _
 have hC := a8r h (.slice a zs.length c1) (.slice a' zs.length c2) _ ((hT.below hb0).mono hb0.size)
 clear h
 obtain ⟨W1, hW1⟩ := exq ((((w.alloc (.cells #[.slice a zs.length c1, .slice a' zs.length c2] 57)).alloc (bx k)).alloc (bx nilV)))
 have hr0 : W1.heap[w.heap.size + 1 + 1]? = some (bx nilV) := by
  have := World.alloc_heap_new ((w.alloc (.cells #[.slice a zs.length c1, .slice a' zs.length c2] 57)).alloc (bx k)) (bx nilV)
  simp only [World.size_alloc] at this
  rw [← hW1]; exact this
 have hk0 : W1.heap[w.heap.size + 1]? = some (bx k) := by
  have := a0g (bx nilV) (World.alloc_heap_new (w.alloc (.cells #[.slice a zs.length c1, .slice a' zs.length c2] 57)) (bx k))
  simp only [World.size_alloc] at this
  rw [← hW1]; exact this
 have ht0 : W1.heap[w.heap.size]? = some (.cells #[.slice a zs.length c1, .slice a' zs.length c2] 57) := by rw [← hW1]; exact a0g _ (a0g _ (World.alloc_heap_new w _))
 have hs1 : W1.heap.size = w.heap.size + 3 := by rw [← hW1]; simp
 refine callsIn_of_wp_marks Tryz.func115 rfl trivial ?_ rfl
 simp only [Tryz.ntmps115, List.size_toArray, List.length_cons, List.length_nil, Nat.reduceAdd, Nat.reduceSub, Array.replicate_succ, Array.replicate_zero, List.push_toArray, List.append_toArray, List.nil_append, List.cons_append]
 gi_wp2_with (refine ⟨trivial, ?_⟩; gi_at_call 43; refine (callsIn_wide.2 hC).mono ?_; rintro e w1 ⟨rfl, hb1⟩; refine Hid.out ?_)
 rw [hW1] at hb0 hb1
 have hr1 := a0d hb1 hr0
 have hk1 := a0d hb1 hk0
 have ht1 := a0d hb1 ht0
 have x0 : w1.cell? ⟨w.heap.size, 0, none⟩ = some (.slice a zs.length c1) := a0a ht1 rfl
 have x1 : w1.cell? ⟨w.heap.size, 1, none⟩ = some (.slice a' zs.length c2) := a0a ht1 rfl
 clear hC hW1 hr0 hk0 ht0
 refine Lib.hid ?_
 gi_wp2_with (refine ⟨trivial, ?_⟩; gi_at_call 62; refine (a7a _ _ _ _).mono ?_; rintro e w' ⟨rfl, rfl⟩)
 have hb2 : Below w.heap.size w (w1.alloc (.cells #[.slice a zs.length c1, .slice a' zs.length c2] 57)) := (hb0.trans (hb1.mono hb0.size)).alloc (by have := hb0.size; have := hb1.size; omega) _
 have hz1 : w.heap.size + 3 ≤ w1.heap.size := by have := hb1.size; omega
 obtain ⟨W0, hW0⟩ := exq (w1.alloc (.cells #[.slice a zs.length c1, .slice a' zs.length c2] 57))
 have hs0 : W0.heap.size = w1.heap.size + 1 := by rw [← hW0]; simp
 have hbt : W0.heap[w1.heap.size]? = some (.cells #[.slice a zs.length c1, .slice a' zs.length c2] 57) := by rw [← hW0]; exact World.alloc_heap_new _ _
 replace hr1 : W0.heap[w.heap.size + 1 + 1]? = some (bx nilV) := by rw [← hW0]; exact a0g _ hr1
 replace hk1 : W0.heap[w.heap.size + 1]? = some (bx k) := by rw [← hW0]; exact a0g _ hk1
 rw [hW0] at hb2 ⊢
 clear hW0 x0 x1 ht1
 refine wpIn_rangeFunc_ownH rfl h1 (gf := 94) (lb := #[.pointer (some ⟨w1.heap.size, 0, none⟩)]) rfl trivial (enters_of Tryz.func94 (by kernel_rfl) rfl)
  (a4n (n - 1) w1.heap.size w.heap.size _ _ zs hlen W0 (by omega) (by omega) hbt (hT.below hb2)) (fun h k => h.trans k) (Kept.putObj (by omega) (by omega)) (Below.refl _ _) (fun _ => rfl)
  (fun (pre : List (Vl × Vl)) W => ((∀ p ∈ pre, p.1 ≠ k) ∧ W0.heap.size ≤ W.heap.size ∧ W.heap[w.heap.size + 1]? = some (bx k) ∧ W.heap[w.heap.size + 1 + 1]? = some (bx nilV)) ∧ Below w.heap.size w W)
  (fun c (pre : List (Vl × Vl)) W => (c = .ret ∧ (∃ y, (∃ ini, pre = ini ++ [(k, y)] ∧ ∀ p ∈ ini, p.1 ≠ k) ∧ W.heap[w.heap.size + 1 + 1]? = some (bx y))) ∧ Below w.heap.size w W)
  (OwnFrom.and (OwnFrom.and (ownFrom_pure _ _) (OwnFrom.and a5y (OwnFrom.and (a0y _ (by omega)) (a0y _ (by omega))))) (ownFrom_below (Nat.le_refl _) (by omega)))
  (fun c => OwnFrom.and (fun s A B row hs hg hr => by obtain ⟨e1, y, e2, e3⟩ := hs; exact ⟨e1, y, e2, (a0y (β := Unit) _ (by omega)) () A B row e3 hg hr⟩) (ownFrom_below (Nat.le_refl _) (by omega)))
  ⟨⟨by simp, Nat.le_refl _, hk1, hr1⟩, hb2⟩
  (fun x q W => ∃ Bx By, w1.heap.size < Bx ∧ a1m W Bx 0 x.1 ∧ a1m W By 0 x.2 ∧ q = { tmps := #[.agg #[.slice a zs.length c1, .slice a' zs.length c2], k.v, .pointer (some ⟨w.heap.size, 0, none⟩), .pointer (some ⟨w.heap.size + 1, 0, none⟩), .pointer (some ⟨w.heap.size + 1 + 1, 0, none⟩), .pointer (some ⟨Bx, 0, none⟩), .pointer (some ⟨By, 0, none⟩), .agg #[.slice a zs.length c1, .slice a' zs.length c2], .bool true, .bool false, undef, .agg #[.slice a zs.length c1, .slice a' zs.length c2], .func (.func 94) #[] #[.pointer (some ⟨w1.heap.size, 0, none⟩)], x.1.v, x.2.v, undef, undef, undef, undef, undef], defers := [] })
  (fun x q => fun _ A B row hs hg hr => by obtain ⟨Bx, By, h1, h2, h3, h4⟩ := hs; exact ⟨Bx, By, h1, (a1m.own (β := Unit) Bx 0 x.1) () A B row h2 hg (fun r e => (hr r e).2), (a1m.own (β := Unit) By 0 x.2) () A B row h3 hg (fun r e => (hr r e).2), h4⟩)
  ?assign ?body ?done ?stop
 case assign =>
  rintro l pre x W K ⟨⟨hp, hz, k0, k1⟩, hB⟩ hK
  gi_wp2
  have hb' : Below W.heap.size W ((W.alloc (bx x.1)).alloc (bx x.2)) := ((Below.refl _ _).alloc (Nat.le_refl _) _).alloc (by simp) _
  exact hK _ _ (a1l hb') (a2s hb' (by omega) (by omega)) ⟨⟨hp, Nat.le_trans hz hb'.size, a0d hb' k0, a0d hb' k1⟩, hB.trans (hb'.mono (by omega))⟩ ⟨W.heap.size, W.heap.size + 1, by omega, (a5d W x.1).alloc _, by have := a5d (W.alloc (bx x.1)) x.2; simpa using this, rfl⟩
 case body =>
  rintro l pre x q W hl ⟨r, hr⟩ ⟨⟨hp, hz, k0, k1⟩, hB⟩ ⟨Bx, By, hBx, ⟨t0, t1, t2⟩, ⟨s0, s1, s2⟩, rfl⟩ hlt
  clear hr hT hbt hb2 hr1 hk1 hb0 hb1
  rename_i Kd ad
  clear ad Kd
  obtain ⟨p0, p1, p2, _, _, _⟩ := in3 k0
  obtain ⟨r0, r1, r2, f0, f1, f2⟩ := in3 k1
  gi_wp2
  ·rename_i e1 e2 e3
   have e : x.1 = k := Vl.ext' e1 e2 e3
   exact ⟨(a4i W _ x.2).from _, ⟨rfl, x.2, ⟨pre, by rw [← e], hp⟩, a0o x.2 k1⟩, a0r x.2 hB (by omega)⟩
  all_goals
   have e : x.1 ≠ k := fun e => by subst e; contradiction
   exact ⟨KeepsFrom.refl _ _, Kept.refl _ _ _, ⟨fun p hm => (List.mem_append.1 hm).elim (hp p) (fun e' => by simp at e'; subst e'; exact e), hz, k0, k1⟩, hB⟩
 case done =>
  rintro D ys W hD rfl ⟨⟨hp, hz, k0, k1⟩, hB⟩ hK
  obtain ⟨r0, r1, r2, f0, f1, f2⟩ := in3 k1
  gi_wp2
  have hK' : (put3 W (w.heap.size + 1 + 1) nilV).heap[D]? = some (.deferred (some [])) := (a4i W _ _).same D _ hK rfl
  refine ⟨by simp, .inl ⟨_, _, rfl, run_takeDeferred hK', ?_⟩⟩
  exact ⟨nilV.v, res7 rfl (a2m (a0o nilV k1) (by omega)), by rw [b2l hp], (a0r nilV hB (by omega)).trans (belowK_b (w := w) (Nat.le_refl _) _ D _ _ (by omega) hK' rfl rfl)⟩
 case stop =>
  rintro D c pre W hD hpre ⟨⟨rfl, y, ⟨ini, rfl, hi⟩, k1⟩, hB⟩ hK
  gi_wp2
  refine ⟨by simp, .inl ⟨_, _, rfl, run_takeDeferred hK, ?_⟩⟩
  exact ⟨y.v, res7 rfl (a2m k1 (by omega)), by rw [b8k hpre hi], hB.trans (belowK_b (w := w) (Nat.le_refl _) _ D _ _ (by omega) hK rfl rfl)⟩
theorem c8j (ks vs : Value) (xs ys : List Vl) (k : Vl) (w : World) (hT : Tab w.heap.size w ks vs xs ys) :
  Calls Tryz.prog 115 #[.agg #[ks, vs], k.v] w fun e w' => e = .returned (getT xs ys k).v ∧ Below w.heap.size w w' := by
 unfold getT
 cases h : mayT xs ys
 ·exact d1k ks vs xs ys k w hT h
 ·obtain ⟨hl, hl'⟩ := a2z h
  have := c8i 3 (by omega) ks vs (xs.zip ys) (by rw [List.length_zip]; omega) k w (by rw [a2j hl, a2y hl]; exact hT) (by rw [a2j hl, a2y hl]; exact h)
  exact callsIn_wide.1 this
end
section
variable [DecidableEq Vl]
attribute [local go_sem] Oper.semAt_some
def scan (past : Bool) (k : Vl) : List Vl → Vl × Int
 | [] => (nilV, if past then 0 else 4)
 | x :: r => if past then (x, 0) else scan (decide (x = k)) k r
def a3j (xs ys : List Vl) (k : Vl) : Vl × Int := if mayT xs ys = true ∧ mayB k.k k.n k.s = true then scan (k.k == 0) k xs else (nilV, 2)
theorem res9 {c : Int} (h : tm[4]?.getD undef = .pointer (some ⟨B, 0, none⟩)) (h' : tm[5]?.getD undef = .pointer (some ⟨C, 0, none⟩)) (hx : W.heap[B]? = some (bx x)) (hc : W.heap[C]? = some (.cells #[.int .i64 c] 28)) :
  (results Tryz.f120 tm).run Tryz.prog W = .ok (.tuple #[x.v, .int .i64 c]) W := by
 obtain ⟨c0, c1, c2, _, _, _⟩ := in3 hx
 have c3 := Boxed.cell hc
 simp [results, Tryz.results120, go_sem, h, h', c0, c1, c2, c3]
theorem b1j (w : World) (o0 : Obj) (k : Vl) {W1 : World} (hW : (((w.alloc o0).alloc (bx k)).alloc (bx nilV)).alloc (.cells #[.int .i64 0] 28) = W1) :
  W1.heap.size = w.heap.size + 4 ∧ Below w.heap.size w W1 ∧ W1.heap[w.heap.size]? = some o0 ∧ W1.heap[w.heap.size + 1]? = some (bx k) ∧ W1.heap[w.heap.size + 1 + 1]? = some (bx nilV) ∧ W1.heap[w.heap.size + 1 + 1 + 1]? = some (.cells #[.int .i64 0] 28) := by
 subst hW
 refine ⟨by simp, ((((Below.refl _ w).alloc (Nat.le_refl _) _).alloc (by simp) _).alloc (by simp; omega) _).alloc (by simp; omega) _, a0g _ (a0g _ (a0g _ (World.alloc_heap_new w _))), ?_, ?_, ?_⟩
 ·have := a0g (.cells #[.int .i64 0] 28) (a0g (bx nilV) (World.alloc_heap_new (w.alloc o0) (bx k)))
  simpa only [World.size_alloc] using this
 ·have := a0g (.cells #[.int .i64 0] 28) (World.alloc_heap_new ((w.alloc o0).alloc (bx k)) (bx nilV))
  simpa only [World.size_alloc] using this
 ·have := World.alloc_heap_new (((w.alloc o0).alloc (bx k)).alloc (bx nilV)) (.cells #[.int .i64 0] 28)
  simpa only [World.size_alloc] using this
theorem c3f (ks vs : Value) (xs ys : List Vl) (k : Vl) (w : World) (hT : Tab w.heap.size w ks vs xs ys) (h : mayT xs ys = false) :
  Calls Tryz.prog 120 #[.agg #[ks, vs], k.v] w fun e w' => e = .returned (.tuple #[nilV.v, .int .i64 2]) ∧ Below w.heap.size w w' := by
 obtain ⟨a, c1, rfl⟩ := hT.keys.slice
 obtain ⟨a', c2, rfl⟩ := hT.vals.slice
 obtain ⟨W1, hW1⟩ := exq (((((w.alloc (.cells #[.slice a xs.length c1, .slice a' ys.length c2] 57)).alloc (bx k)).alloc (bx nilV)).alloc (.cells #[.int .i64 0] 28)))
 obtain ⟨hs1, hb0, ht0, hk0, hr0, he0⟩ := b1j w _ k hW1
 have hC := b5f h (.slice a xs.length c1) (.slice a' ys.length c2) _ ((hT.below hb0).mono hb0.size)
 rw [← hW1] at hC
 clear hT h
 go_enter Tryz.func120, Tryz.ntmps120
 go_wp2_with (go_at_call 43; refine hC.mono ?_; rintro e w1 ⟨rfl, hb1⟩; refine Hid.out ?_)
 rw [hW1] at hb1
 have hr1 := a0d hb1 hr0
 have he1 := a0d hb1 he0
 obtain ⟨c0, c1', c2', f0, f1, f2⟩ := in3 hr1
 have z0 := Boxed.cell he1
 have z1 := Boxed.frozen he1
 clear hC hW1
 refine Lib.hid ?_
 go_wp2
 refine bodyPost_ret (v := .tuple #[nilV.v, .int .i64 2]) (res9 rfl rfl ((a0f _ _ (by omega)).trans (a0o nilV hr1)) (a0k _ ((a1o _ nilV (by omega)).trans he1))) rfl ⟨rfl, ?_⟩
 exact (a0r nilV (hb0.trans (hb1.mono hb0.size)) (by omega)).setCell (p := ⟨w.heap.size + 1 + 1 + 1, 0, none⟩) (by simp; omega) _
theorem c3g (ks vs : Value) (xs ys : List Vl) (k : Vl) (w : World) (hT : Tab w.heap.size w ks vs xs ys) (h : mayT xs ys = true) (h' : mayB k.k k.n k.s = false) :
  Calls Tryz.prog 120 #[.agg #[ks, vs], k.v] w fun e w' => e = .returned (.tuple #[nilV.v, .int .i64 2]) ∧ Below w.heap.size w w' := by
 obtain ⟨a, c1, rfl⟩ := hT.keys.slice
 obtain ⟨a', c2, rfl⟩ := hT.vals.slice
 obtain ⟨W1, hW1⟩ := exq (((((w.alloc (.cells #[.slice a xs.length c1, .slice a' ys.length c2] 57)).alloc (bx k)).alloc (bx nilV)).alloc (.cells #[.int .i64 0] 28)))
 obtain ⟨hs1, hb0, ht0, hk0, hr0, he0⟩ := b1j w _ k hW1
 have hC := a8r h (.slice a xs.length c1) (.slice a' ys.length c2) _ ((hT.below hb0).mono hb0.size)
 rw [← hW1] at hC
 clear hT h
 have hM := fun u => b6l k.k k.n k.s u h'
 clear h'
 go_enter Tryz.func120, Tryz.ntmps120
 go_wp2_with (go_at_call 43; refine hC.mono ?_; rintro e w1 ⟨rfl, hb1⟩; refine Hid.out ?_)
 rw [hW1] at hb1
 have hr1 := a0d hb1 hr0
 have he1 := a0d hb1 he0
 obtain ⟨q0, q1, q2, _, _, _⟩ := in3 (a0d hb1 hk0)
 clear hC hW1
 refine Lib.hid ?_
 go_wp2_with (go_at_call 60; refine (hM _).mono ?_; rintro e w2 ⟨rfl, hb2⟩; refine Hid.out ?_)
 have hr2 := a0d hb2 hr1
 have he2 := a0d hb2 he1
 obtain ⟨c0, c1', c2', f0, f1, f2⟩ := in3 hr2
 have z0 := Boxed.cell he2
 have z1 := Boxed.frozen he2
 refine Lib.hid ?_
 go_wp2
 refine bodyPost_ret (v := .tuple #[nilV.v, .int .i64 2]) (res9 rfl rfl ((a0f _ _ (by omega)).trans (a0o nilV hr2)) (a0k _ ((a1o _ nilV (by omega)).trans he2))) rfl ⟨rfl, ?_⟩
 exact (a0r nilV (hb0.trans ((a0b hb1 hb2).mono hb0.size)) (by omega)).setCell (p := ⟨w.heap.size + 1 + 1 + 1, 0, none⟩) (by simp; omega) _
theorem b9d (h : ∀ r, scan p k (pre ++ r) = scan false k r) (x : Vl) : ∀ r, scan p k ((pre ++ [x]) ++ r) = scan (decide (x = k)) k r := fun r => by
 rw [List.append_assoc, h]; rfl
theorem c3h (h : ∀ r, scan p k (pre ++ r) = scan true k r) (x : Vl) : ∀ r, scan p k ((pre ++ [x]) ++ r) = (x, 0) := fun r => by
 rw [List.append_assoc, h]; rfl
theorem c3i (n : Nat) (h3 : 3 ≤ n) (ks vs : Value) (zs : List (Vl × Vl)) (hlen : zs.length ≤ 100) (k : Vl) (w : World) (hT : Tab w.heap.size w ks vs (keysOf zs) (a0q zs)) (h : mayT (keysOf zs) (a0q zs) = true) (h' : mayB k.k k.n k.s = true) :
  CallsIn Fence.wide n Tryz.prog 120 #[.agg #[ks, vs], k.v] w fun e w' => e = .returned (.tuple #[(scan (k.k == 0) k (keysOf zs)).1.v, .int .i64 (scan (k.k == 0) k (keysOf zs)).2]) ∧ Below w.heap.size w w' := by
 have h1 : 1 ≤ n := by omega
 have hn1 : 1 ≤ n - 1 := by omega
 have hn2 : 1 ≤ n - 1 - 1 := by omega
 obtain ⟨a, c1, hks⟩ := hT.keys.slice
 obtain ⟨a', c2, hvs⟩ := hT.vals.slice
 simp only [keysOf, a0q, List.length_map] at hks hvs
 subst hks hvs
 obtain ⟨W1, hW1⟩ := exq (((((w.alloc (.cells #[.slice a zs.length c1, .slice a' zs.length c2] 57)).alloc (bx k)).alloc (bx nilV)).alloc (.cells #[.int .i64 0] 28)))
 obtain ⟨hs1, hb0, ht0, hk0, hr0, he0⟩ := b1j w _ k hW1
 have hC := a8r h (.slice a zs.length c1) (.slice a' zs.length c2) _ ((hT.below hb0).mono hb0.size)
 rw [← hW1] at hC
 have hM := fun u => a2r k.k k.n k.s u h'
 obtain ⟨p0, hp0⟩ := exq ((k.k == 0))
 rw [hp0]
 clear h h'
 refine callsIn_of_wp_marks Tryz.func120 rfl trivial ?_ rfl
 simp only [Tryz.ntmps120, List.size_toArray, List.length_cons, List.length_nil, Nat.reduceAdd, Nat.reduceSub, Array.replicate_succ, Array.replicate_zero, List.push_toArray, List.append_toArray, List.nil_append, List.cons_append]
 gi_wp2_with (refine ⟨trivial, ?_⟩; gi_at_call 43; refine (callsIn_wide.2 hC).mono ?_; rintro e w1 ⟨rfl, hb1⟩; refine Hid.out ?_)
 rw [hW1] at hb1
 replace hr0 := a0d hb1 hr0
 replace he0 := a0d hb1 he0
 replace hk0 := a0d hb1 hk0
 replace ht0 := a0d hb1 ht0
 obtain ⟨q0, q1, q2, _, _, _⟩ := in3 hk0
 clear hC hW1
 refine Lib.hid ?_
 gi_wp2_with (refine ⟨trivial, ?_⟩; gi_at_call 60; refine (callsIn_wide.2 (hM _)).mono ?_; rintro e w2 ⟨rfl, hb2⟩; refine Hid.out ?_)
 replace hr0 := a0d hb2 hr0
 replace he0 := a0d hb2 he0
 replace hk0 := a0d hb2 hk0
 replace ht0 := a0d hb2 ht0
 have x0 : w2.cell? ⟨w.heap.size, 0, none⟩ = some (.slice a zs.length c1) := a0a ht0 rfl
 have x1 : w2.cell? ⟨w.heap.size, 1, none⟩ = some (.slice a' zs.length c2) := a0a ht0 rfl
 have hb12 := hb0.trans ((a0b hb1 hb2).mono hb0.size)
 have hz1 : w.heap.size + 4 ≤ w2.heap.size := by have := hb1.size; have := hb2.size; omega
 clear q0 q1 q2 hb1 hb2 hM
 replace x0 := a2n (.cells #[.bool p0] 4) x0
 replace x1 := a2n (.cells #[.bool p0] 4) x1
 obtain ⟨q0, q1, q2, _, _, _⟩ := in3 hk0
 refine Lib.hid ?_
 gi_wp2_with (refine ⟨trivial, ?_⟩; gi_at_call 62; refine (a7a _ _ _ _).mono ?_; rintro e w' ⟨rfl, rfl⟩)
 obtain ⟨W0, hW0⟩ := exq ((w2.alloc (.cells #[.bool p0] 4)).alloc (.cells #[.slice a zs.length c1, .slice a' zs.length c2] 57))
 have hs0 : W0.heap.size = w2.heap.size + 2 := by rw [← hW0]; simp
 have hb2 : Below w.heap.size w W0 := by rw [← hW0]; exact (hb12.alloc (by omega) _).alloc (by simp; omega) _
 have hbt : W0.heap[w2.heap.size + 1]? = some (.cells #[.slice a zs.length c1, .slice a' zs.length c2] 57) := by
  have := World.alloc_heap_new (w2.alloc (.cells #[.bool p0] 4)) (.cells #[.slice a zs.length c1, .slice a' zs.length c2] 57)
  simp only [World.size_alloc] at this
  rw [← hW0]; exact this
 have hpb : W0.heap[w2.heap.size]? = some (.cells #[.bool p0] 4) := by rw [← hW0]; exact a0g _ (World.alloc_heap_new _ _)
 replace hr0 : W0.heap[w.heap.size + 1 + 1]? = some (bx nilV) := by rw [← hW0]; exact a0g _ (a0g _ hr0)
 replace hk0 : W0.heap[w.heap.size + 1]? = some (bx k) := by rw [← hW0]; exact a0g _ (a0g _ hk0)
 replace he0 : W0.heap[w.heap.size + 1 + 1 + 1]? = some (.cells #[.int .i64 0] 28) := by rw [← hW0]; exact a0g _ (a0g _ he0)
 rw [hW0]
 clear hW0 x0 x1 ht0 q0 q1 q2
 refine wpIn_rangeFunc_ownH rfl h1 (gf := 94) (lb := #[.pointer (some ⟨w2.heap.size + 1, 0, none⟩)]) rfl trivial (enters_of Tryz.func94 (by kernel_rfl) rfl)
  (a4n (n - 1) (w2.heap.size + 1) w.heap.size _ _ zs hlen W0 (by omega) (by omega) hbt (hT.below hb2)) (fun h k => h.trans k) (Kept.putObj (by omega) (by omega)) (Below.refl _ _) (fun _ => rfl)
  (fun (pre : List (Vl × Vl)) W => ((∃ pb, (∀ r, scan p0 k (keysOf pre ++ r) = scan pb k r) ∧ W.heap[w2.heap.size]? = some (.cells #[.bool pb] 4)) ∧ W0.heap.size ≤ W.heap.size ∧ W.heap[w.heap.size + 1]? = some (bx k) ∧ W.heap[w.heap.size + 1 + 1]? = some (bx nilV) ∧ W.heap[w.heap.size + 1 + 1 + 1]? = some (.cells #[.int .i64 0] 28)) ∧ Below w.heap.size w W)
  (fun c (pre : List (Vl × Vl)) W => (c = .ret ∧ (∃ y, (∀ r, scan p0 k (keysOf pre ++ r) = (y, 0)) ∧ W.heap[w.heap.size + 1 + 1]? = some (bx y)) ∧ W.heap[w.heap.size + 1 + 1 + 1]? = some (.cells #[.int .i64 0] 28)) ∧ Below w.heap.size w W)
  (OwnFrom.and (OwnFrom.and (fun s A B row hs hg hr => by obtain ⟨pb, e2, e3⟩ := hs; exact ⟨pb, e2, (a0y (β := Unit) _ (by omega)) () A B row e3 hg hr⟩) (OwnFrom.and a5y (OwnFrom.and (a0y _ (by omega)) (OwnFrom.and (a0y _ (by omega)) (a0y _ (by omega)))))) (ownFrom_below (Nat.le_refl _) (by omega)))
  (fun c => OwnFrom.and (OwnFrom.and (ownFrom_pure _ _) (OwnFrom.and (fun s A B row hs hg hr => by obtain ⟨y, e2, e3⟩ := hs; exact ⟨y, e2, (a0y (β := Unit) _ (by omega)) () A B row e3 hg hr⟩) (a0y _ (by omega)))) (ownFrom_below (Nat.le_refl _) (by omega)))
  ⟨⟨⟨p0, fun _ => rfl, hpb⟩, Nat.le_refl _, hk0, hr0, he0⟩, hb2⟩
  (fun x q W => ∃ Bx, w2.heap.size + 1 < Bx ∧ a1m W Bx 0 x.1 ∧ q = { tmps := #[.agg #[.slice a zs.length c1, .slice a' zs.length c2], k.v, .pointer (some ⟨w.heap.size, 0, none⟩), .pointer (some ⟨w.heap.size + 1, 0, none⟩), .pointer (some ⟨w.heap.size + 1 + 1, 0, none⟩), .pointer (some ⟨w.heap.size + 1 + 1 + 1, 0, none⟩), .pointer (some ⟨w2.heap.size, 0, none⟩), .pointer (some ⟨Bx, 0, none⟩), .agg #[.slice a zs.length c1, .slice a' zs.length c2], .bool true, .bool false, .bool false, k.v, .bool true, .bool false, .bool false, undef, .pointer (some ⟨w.heap.size + 1, 0, none⟩), .int .i64 k.k, .bool p0, .agg #[.slice a zs.length c1, .slice a' zs.length c2], .func (.func 94) #[] #[.pointer (some ⟨w2.heap.size + 1, 0, none⟩)], x.1.v, x.2.v, undef, undef, undef, undef, undef, undef, undef, undef, undef], defers := [] })
  (fun x q => fun _ A B row hs hg hr => by obtain ⟨Bx, h1, h2, h4⟩ := hs; exact ⟨Bx, h1, (a1m.own (β := Unit) Bx 0 x.1) () A B row h2 hg (fun r e => (hr r e).2), h4⟩)
  ?assign ?body ?done ?stop
 case assign =>
  rintro l pre x W K ⟨⟨⟨pb, hp, kb⟩, hz, k0, k1, k2⟩, hB⟩ hK
  gi_wp2
  have hb' : Below W.heap.size W (W.alloc (bx x.1)) := (Below.refl _ _).alloc (Nat.le_refl _) _
  exact hK _ _ (a1l hb') (a2s hb' (by omega) (by omega)) ⟨⟨⟨pb, hp, a0d hb' kb⟩, Nat.le_trans hz hb'.size, a0d hb' k0, a0d hb' k1, a0d hb' k2⟩, hB.trans (hb'.mono (by omega))⟩ ⟨W.heap.size, by omega, a5d W x.1, rfl⟩
 case body =>
  rintro l pre x q W hl ⟨r, hr⟩ ⟨⟨⟨pb, hp, kb⟩, hz, k0, k1, k2⟩, hB⟩ ⟨Bx, hBx, ⟨t0, t1, t2⟩, rfl⟩ hlt
  clear hr hT hbt hb2 hr0 hk0 hb0 hb12 hpb he0
  rename_i Kd ad
  clear ad Kd
  obtain ⟨u0, u1, u2, _, _, _⟩ := in3 k0
  have v0 := Boxed.cell kb
  have v1 := Boxed.frozen kb
  have ek : keysOf (pre ++ [x]) = keysOf pre ++ [x.1] := by simp [keysOf]
  cases pb
  ·replace hp : Hid _ := hp
   gi_wp2
   ·rename_i e1 e2 e3
    have e : decide (x.1 = k) = true := decide_eq_true (Vl.ext' e1 e2 e3)
    have hB' := hB.setCell (p := ⟨w2.heap.size, 0, none⟩) (by show w.heap.size ≤ w2.heap.size; omega) (.bool true)
    exact ⟨(KeepsOthers.setCell _ _ _).from _, ⟨(Below.refl _ _).setCell (p := ⟨w2.heap.size, 0, none⟩) (by show w.heap.size ≤ w2.heap.size; omega) _, a0f _ _ (by omega)⟩, ⟨⟨true, by rw [ek, ← e]; exact b9d hp.out x.1, Boxed.set _ kb⟩, Nat.le_trans hz (KeepsOthers.setCell W ⟨w2.heap.size, 0, none⟩ (.bool true)).size, (a0f _ _ (by omega)).trans k0, (a0f _ _ (by omega)).trans k1, (a0f _ _ (by omega)).trans k2⟩, hB'⟩
   all_goals
    have e : decide (x.1 = k) = false := decide_eq_false (fun e => by subst e; contradiction)
    have hB' := hB.setCell (p := ⟨w2.heap.size, 0, none⟩) (by show w.heap.size ≤ w2.heap.size; omega) (.bool false)
    exact ⟨(KeepsOthers.setCell _ _ _).from _, ⟨(Below.refl _ _).setCell (p := ⟨w2.heap.size, 0, none⟩) (by show w.heap.size ≤ w2.heap.size; omega) _, a0f _ _ (by omega)⟩, ⟨⟨false, by rw [ek, ← e]; exact b9d hp.out x.1, Boxed.set _ kb⟩, Nat.le_trans hz (KeepsOthers.setCell W ⟨w2.heap.size, 0, none⟩ (.bool false)).size, (a0f _ _ (by omega)).trans k0, (a0f _ _ (by omega)).trans k1, (a0f _ _ (by omega)).trans k2⟩, hB'⟩
  ·replace hp : Hid _ := hp
   obtain ⟨r0, r1, r2, f0, f1, f2⟩ := in3 k1
   have z0 := Boxed.cell k2
   have z1 := Boxed.frozen k2
   gi_wp2
   exact ⟨((a4i W _ x.1).trans (KeepsOthers.setCell _ _ _)).from _, ⟨rfl, ⟨x.1, by rw [ek]; exact c3h hp.out x.1, (a0f _ _ (by omega)).trans (a0o x.1 k1)⟩, a0k _ ((a1o _ x.1 (by omega)).trans k2)⟩, (a0r x.1 hB (by omega)).setCell (p := ⟨w.heap.size + 1 + 1 + 1, 0, none⟩) (by simp; omega) _⟩
 case done =>
  rintro D ys W hD rfl ⟨⟨⟨pb, hp, kb⟩, hz, k0, k1, k2⟩, hB⟩ hK
  obtain ⟨r0, r1, r2, f0, f1, f2⟩ := in3 k1
  have z0 := Boxed.cell k2
  have z1 := Boxed.frozen k2
  have v0 := Boxed.cell kb
  have v1 := Boxed.frozen kb
  have hp' := hp []
  rw [List.append_nil] at hp'
  replace hp' : Hid _ := hp'
  clear hp
  cases pb
  ·gi_wp2
   have hK' : ((put3 W (w.heap.size + 1 + 1) nilV).setCell ⟨w.heap.size + 1 + 1 + 1, 0, none⟩ (.int .i64 4)).heap[D]? = some (.deferred (some [])) := ((a4i W _ _).trans (KeepsOthers.setCell _ _ _)).same D _ hK rfl
   refine ⟨by simp, .inl ⟨_, _, rfl, run_takeDeferred hK', ?_⟩⟩
   refine ⟨.tuple #[nilV.v, .int .i64 4], res9 rfl rfl (a2m ((a0f _ _ (by omega)).trans (a0o nilV k1)) (by omega)) (a2m (a0k _ ((a1o _ nilV (by omega)).trans k2)) (by omega)), by rw [hp'.out]; rfl, ?_⟩
   exact ((a0r nilV hB (by omega)).setCell (p := ⟨w.heap.size + 1 + 1 + 1, 0, none⟩) (by simp; omega) _).trans (belowK_b (w := w) (Nat.le_refl _) _ D _ _ (by omega) hK' rfl rfl)
  ·gi_wp2
   have hK' : ((put3 W (w.heap.size + 1 + 1) nilV).setCell ⟨w.heap.size + 1 + 1 + 1, 0, none⟩ (.int .i64 0)).heap[D]? = some (.deferred (some [])) := ((a4i W _ _).trans (KeepsOthers.setCell _ _ _)).same D _ hK rfl
   refine ⟨by simp, .inl ⟨_, _, rfl, run_takeDeferred hK', ?_⟩⟩
   refine ⟨.tuple #[nilV.v, .int .i64 0], res9 rfl rfl (a2m ((a0f _ _ (by omega)).trans (a0o nilV k1)) (by omega)) (a2m (a0k _ ((a1o _ nilV (by omega)).trans k2)) (by omega)), by rw [hp'.out]; rfl, ?_⟩
   exact ((a0r nilV hB (by omega)).setCell (p := ⟨w.heap.size + 1 + 1 + 1, 0, none⟩) (by simp; omega) _).trans (belowK_b (w := w) (Nat.le_refl _) _ D _ _ (by omega) hK' rfl rfl)
 case stop =>
  rintro D c pre W hD hpre ⟨⟨rfl, ⟨y, hy, k1⟩, k2⟩, hB⟩ hK
  gi_wp2
  refine ⟨by simp, .inl ⟨_, _, rfl, run_takeDeferred hK, ?_⟩⟩
  refine ⟨.tuple #[y.v, .int .i64 0], res9 rfl rfl (a2m k1 (by omega)) (a2m k2 (by omega)), ?_, hB.trans (belowK_b (w := w) (Nat.le_refl _) _ D _ _ (by omega) hK rfl rfl)⟩
  obtain ⟨r, rfl⟩ := hpre
  rw [keysOf, List.map_append, hy]
theorem c3j (ks vs : Value) (xs ys : List Vl) (k : Vl) (w : World) (hT : Tab w.heap.size w ks vs xs ys) :
  Calls Tryz.prog 120 #[.agg #[ks, vs], k.v] w fun e w' => e = .returned (.tuple #[(a3j xs ys k).1.v, .int .i64 (a3j xs ys k).2]) ∧ Below w.heap.size w w' := by
 unfold a3j
 cases h : mayT xs ys
 ·exact c3f ks vs xs ys k w hT h
 ·cases h' : mayB k.k k.n k.s
  ·exact c3g ks vs xs ys k w hT h h'
  ·obtain ⟨hl, hl'⟩ := a2z h
   have := c3i 3 (by omega) ks vs (xs.zip ys) (by rw [List.length_zip]; omega) k w (by rw [a2j hl, a2y hl]; exact hT) (by rw [a2j hl, a2y hl]; exact h) h'
   rw [a2j hl] at this
   exact callsIn_wide.1 this
end
section
variable [DecidableEq Vl]
def numV (i : Nat) : Vl := if h : i ≤ 1000 then ⟨2, i, E0, by decide, WalkArith.wf_i64 (by omega), by decide⟩ else nilV
theorem b9e (h : i ≤ 1000) : (numV i).v = val 2 i E0 := by simp [numV, h]
theorem c3k {j : Nat} (hi : i ≤ 1000) (hj : j ≤ 1000) (h : numV i = numV j) : i = j := by
 have : (numV i).n = (numV j).n := by rw [h]
 simp [numV, hi, hj] at this
 omega
theorem b9f {l m : List Vl} (hn : l.Nodup) (h : ∀ x ∈ l, x ∈ m) : l.length ≤ m.length := by
 induction l generalizing m with
 | nil => simp
 | cons a l ih =>
  obtain ⟨h1, h2⟩ := List.nodup_cons.1 hn
  have hm := h a (by simp)
  have := ih (m := m.erase a) h2 (fun x hx => (List.mem_erase_of_ne (fun e => h1 (by rw [← e]; exact hx))).2 (h x (by simp [hx])))
  rw [List.length_erase_of_mem hm] at this
  have := List.length_pos_of_mem hm
  simp; omega
def c3l (xs : List Vl) (n : Nat) : Prop := (∀ j, j < n → numV (j + 1) ∈ xs) ∧ ¬ numV (n + 1) ∈ xs
theorem b9g {n : Nat} (hx : xs.length ≤ 100) (h : ∀ j, j < n → numV (j + 1) ∈ xs) : n ≤ xs.length := by
 have key : ∀ k, k ≤ n → k ≤ 101 → k ≤ xs.length := fun k hk hk' => by
  have := b9f (l := (List.range k).map (fun j => numV (j + 1))) (m := xs) (by
   rw [List.nodup_iff_pairwise_ne, List.pairwise_map]
   refine List.Pairwise.imp_of_mem ?_ List.nodup_range
   intro i j hi hj hne e
   simp at hi hj
   exact hne (by have := c3k (by omega) (by omega) e; omega)) (by
   intro x hm
   obtain ⟨j, hj, rfl⟩ := List.mem_map.1 hm
   exact h j (by simp at hj; omega))
  simpa using this
 by_cases hn : n ≤ 101
 ·exact key n (Nat.le_refl _) hn
 ·have := key 101 (by omega) (Nat.le_refl _); omega
theorem b0n (n : Int) (w : World) : Calls Tryz.prog 118 #[.int .i64 n] w fun e w' => e = .returned (val 2 n E0) ∧ w' = w.alloc (box 2 n E0) := by
 go_enter Tryz.func118, Tryz.ntmps118
 go_wp2
 exact bodyPost_ret (v := val 2 n E0) (by simp [results, Tryz.results118, go_sem]) rfl ⟨rfl, rfl⟩
theorem d1l (ks vs : Value) (xs ys : List Vl) (w : World) (hT : Tab w.heap.size w ks vs xs ys) (h : mayT xs ys = false) :
  Calls Tryz.prog 119 #[.agg #[ks, vs]] w fun e w' => e = .returned (.int .i64 0) ∧ Below w.heap.size w w' := by
 obtain ⟨a, c1, rfl⟩ := hT.keys.slice
 obtain ⟨a', c2, rfl⟩ := hT.vals.slice
 have hb0 : Below w.heap.size w (w.alloc (.cells #[.slice a xs.length c1, .slice a' ys.length c2] 57)) := (Below.refl _ w).alloc (Nat.le_refl _) _
 have hC := b5f h (.slice a xs.length c1) (.slice a' ys.length c2) _ ((hT.below hb0).mono hb0.size)
 clear hT h
 go_enter Tryz.func119, Tryz.ntmps119
 go_wp2_with (go_at_call 43; refine hC.mono ?_; rintro e w1 ⟨rfl, hb1⟩)
 go_ret
 exact ⟨rfl, hb0.trans (hb1.mono hb0.size)⟩
theorem c8k (ks vs : Value) (zs : List (Vl × Vl)) (hlen : zs.length ≤ 100) (w : World) (hT : Tab w.heap.size w ks vs (keysOf zs) (a0q zs)) (h : mayT (keysOf zs) (a0q zs) = true) :
  Calls Tryz.prog 119 #[.agg #[ks, vs]] w fun e w' => (∃ m : Nat, c3l (keysOf zs) m ∧ e = .returned (.int .i64 m)) ∧ Below w.heap.size w w' := by
 obtain ⟨a, c1, hks⟩ := hT.keys.slice
 obtain ⟨a', c2, hvs⟩ := hT.vals.slice
 simp only [keysOf, a0q, List.length_map] at hks hvs
 subst hks hvs
 have hb0 : Below w.heap.size w (w.alloc (.cells #[.slice a zs.length c1, .slice a' zs.length c2] 57)) := (Below.refl _ w).alloc (Nat.le_refl _) _
 have hC := a8r h (.slice a zs.length c1) (.slice a' zs.length c2) _ ((hT.below hb0).mono hb0.size)
 have ht0 := World.alloc_heap_new w (.cells #[.slice a zs.length c1, .slice a' zs.length c2] 57)
 clear h
 go_enter Tryz.func119, Tryz.ntmps119
 go_wp2_with (go_at_call 43; refine hC.mono ?_; rintro e w1 ⟨rfl, hb1⟩; refine Hid.out ?_)
 have hb01 := hb0.trans (hb1.mono hb0.size)
 have hC2 := callsIn_wide.1 (b7z 3 (by omega) (.slice a zs.length c1) (.slice a' zs.length c2) zs hlen w1 ((hT.below hb01).mono hb01.size))
 have ht1 := a0d hb1 ht0
 have x0 : w1.cell? ⟨w.heap.size, 0, none⟩ = some (.slice a zs.length c1) := a0a ht1 rfl
 have x1 : w1.cell? ⟨w.heap.size, 1, none⟩ = some (.slice a' zs.length c2) := a0a ht1 rfl
 clear hC hb1 hb0 ht0 ht1 hT
 refine Lib.hid ?_
 go_wp2_with (go_at_call 64; refine hC2.mono ?_; rintro e w2 ⟨rfl, hown, hb2⟩; refine Hid.out ?_)
 have hb02 := hb01.trans (hb2.mono hb01.size)
 clear hC2 x0 x1 hb01 hb2
 refine Lib.hid ?_
 go_wp2
 go_loopw [3] (fun i wr => ∃ m : Nat, i = .int .i64 m ∧ (∀ j, j < m → numV (j + 1) ∈ keysOf zs) ∧ wr.ownsMap Tryz.prog 30 (plainElem (H := Unit) Tryz.prog 3) (w1.heap.size + 1) zs.length (a4u (keysOf zs)) ∧ Below w.heap.size w wr) (fun i _ => 101 - (intOf i).toNat)
 case atStart => exact ⟨0, rfl, fun j hj => by omega, hown, hb02⟩
 case round =>
  obtain ⟨m, rfl, hj, ho, hb⟩ := hrel
  have hm := b9g (by simpa using hlen) hj
  simp only [keysOf, List.length_map] at hm
  obtain ⟨c, hat, hc0, hc1, hc2⟩ := c2q (keysOf zs) (by simp; omega) (numV (m + 1))
  obtain ⟨c', hl, hat', _⟩ := (ho.alloc (box 2 (m + 1) E0)).lookup_int c7t Tryz.underlying99 Tryz.underlying3 (Tryz.zeroValue3 _) (a8h (numV (m + 1)))
  rw [hat] at hat'
  cases hat'
  rw [b9e (by omega)] at hl
  push_cast at hl
  clear hown hb02 hat
  by_cases hpos : 0 < c
  ·have hq : Hid (numV (m + 1) ∈ keysOf zs) := hc2.1 hpos
   replace hj : Hid _ := hj
   clear hc2
   go_wp2_with (go_at_call 118; refine (b0n _ _).mono ?_; rintro e w3 ⟨rfl, rfl⟩)
   refine ⟨⟨m + 1, by simp, fun j hlt => ?_, ho.alloc _, hb.alloc hb.size _⟩, by simp [intOf]; omega⟩
   rcases Nat.lt_or_ge j m with h | h
   ·exact hj.out j h
   ·obtain rfl : j = m := by omega
    exact hq.out
  ·have hq : Hid (¬ numV (m + 1) ∈ keysOf zs) := fun hm => hpos (hc2.2 hm)
   replace hj : Hid _ := hj
   clear hc2
   go_wp2_with (go_at_call 118; refine (b0n _ _).mono ?_; rintro e w3 ⟨rfl, rfl⟩)
   go_ret
   exact ⟨⟨m, ⟨hj.out, hq.out⟩, rfl⟩, hb.alloc hb.size _⟩
def LenT (xs ys : List Vl) (m : Nat) : Prop := if mayT xs ys = true then c3l xs m else m = 0
theorem c8l (ks vs : Value) (xs ys : List Vl) (w : World) (hT : Tab w.heap.size w ks vs xs ys) :
  Calls Tryz.prog 119 #[.agg #[ks, vs]] w fun e w' => (∃ m : Nat, LenT xs ys m ∧ e = .returned (.int .i64 m)) ∧ Below w.heap.size w w' := by
 unfold LenT
 cases h : mayT xs ys
 ·exact (d1l ks vs xs ys w hT h).mono fun e w' ⟨he, hb⟩ => ⟨⟨0, by simp, he⟩, hb⟩
 ·obtain ⟨hl, hl'⟩ := a2z h
  have := c8k ks vs (xs.zip ys) (by rw [List.length_zip]; omega) w (by rw [a2j hl, a2y hl]; exact hT) (by rw [a2j hl, a2y hl]; exact h)
  rw [a2j hl] at this
  exact this.mono fun e w' ⟨⟨m, hm, he⟩, hb⟩ => ⟨⟨m, by simpa using hm, he⟩, hb⟩
end
abbrev fbox (f : Fd) : Obj := .cells #[.int .i64 f.p, .int .i64 f.r, f.cv, f.iv] 54
theorem a4w (f : Fd) (n : Int) (w : World) : Calls Tryz.prog 66 #[f.v, .int .i64 n] w fun e w' => e = .returned (.bool (belB n f.r)) ∧ w' = w.alloc (fbox f) := by
 rcases (Bool.eq_false_or_eq_true (decide (0 ≤ n))) with hn | hn
 all_goals
  go_enter Tryz.func66, Tryz.ntmps66
  go_wp2
  go_ret
  exact ⟨a1b (by simp [belB, hn]), rfl⟩
theorem a4b (f : Fd) (n : Int) (w : World) : Calls Tryz.prog 20 #[f.v, .int .i64 n] w fun e w' => e = .returned (.bool (belB n f.is.length)) ∧ w' = w.alloc (fbox f) := by
 rcases (Bool.eq_false_or_eq_true (decide (0 ≤ n))) with hn | hn
 all_goals
  go_enter Tryz.func20, Tryz.ntmps20
  go_wp2
  go_ret
  exact ⟨a1b (by simp [belB, hn]), rfl⟩
end Go.Proofs.YthpgbienakcbeaaGreatDoor
