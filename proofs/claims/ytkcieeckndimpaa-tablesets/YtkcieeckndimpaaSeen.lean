/- seen: the keys of a table, counted. -/
import Derived.Test.YtkcieeckndimpaaKey
namespace Go.Proofs.Ytkcieeckndimpaa
open Go.RowKit Go.Shelf
open Go

attribute [local go_sem] Oper.semAt_some

theorem Three.own {β : Type} (b o : Nat) (x : Vl) : Own (fun (_ : β) W => Three W b o x) := fun _ _ _ _ hs hg hr => ⟨cell_kept hs.k hg hr, cell_kept hs.n hg hr, cell_kept hs.s hg hr⟩

theorem makeMap_hint (c : Int) (w : World) : (Instr.makeMap 45 (some (.int .i64 c))).run Try.prog w = .ok (.map (some w.heap.size)) (w.alloc (.map #[] 0)) := by
  have u := Try.underlying45
  simp [Instr.makeMap, run_underlying u, asInt, asIntOf, Result.andThen]

/-- What lay below w's end, behind a call. -/
theorem kept_of_below {m Bt : Nat} {W W' : World} (h : Below W.heap.size W W') (hm : m ≤ W.heap.size) (hB : Bt < W.heap.size) : Kept m Bt W W' := ⟨h.mono hm, h.block Bt hB⟩
theorem keepsFrom_of_below {B : Nat} {W W' : World} (h : Below W.heap.size W W') : KeepsFrom B W W' := ⟨h.size, fun k _ _ hk _ => (h.block k (Array.getElem?_eq_some_iff.1 hk).1).trans hk⟩

theorem cell_alloc {W : World} {b i : Nat} {v : Value} (o : Obj) (h : W.cell? ⟨b, i, none⟩ = some v) : (W.alloc o).cell? ⟨b, i, none⟩ = some v := (World.cell?_alloc_past _ _ _ (World.block_lt_of_cell? _ _ h)).trans h

theorem three_new (W : World) (x : Vl) : Three (W.alloc (.cells #[.int .i64 x.k, .int .i64 x.n, .string x.s] 26)) W.heap.size 0 x := by
  refine ⟨?_, ?_, ?_⟩ <;> (rw [World.cell?_alloc_at _ _ _ _ rfl]; rfl)

/-- The keys of the pairs. -/
abbrev keysOf (zs : List (Vl × Vl)) : List Vl := zs.map Prod.fst
abbrev valsOf (zs : List (Vl × Vl)) : List Vl := zs.map Prod.snd

set_option maxRecDepth 100000 in
set_option maxHeartbeats 2000000 in
theorem seen_in (n : Nat) (h1 : 1 ≤ n) (ks vs : Value) (zs : List (Vl × Vl)) (hlen : zs.length ≤ 100) (w : World) (hT : Tab w.heap.size w ks vs (keysOf zs) (valsOf zs)) :
    CallsIn Fence.wide n Try.prog 23 #[.agg #[ks, vs]] w fun e W' => e = .returned (.map (some (w.heap.size + 1))) ∧
      W'.ownsMap Try.prog 26 (plainElem Try.prog 3) (w.heap.size + 1) zs.length (tally (keysOf zs)) ∧ Below w.heap.size w W' := by
  have hmm := makeMap_hint
  obtain ⟨a, c1, hks, _, _⟩ := hT.keys
  simp only [List.length_map] at hks
  subst hks
  refine callsIn_of_wp_marks Try.func23 rfl trivial ?_ rfl
  simp only [Try.ntmps23, List.size_toArray, List.length_cons, List.length_nil, Nat.reduceAdd, Nat.reduceSub, Array.replicate_succ, Array.replicate_zero, List.push_toArray, List.append_toArray, List.nil_append, List.cons_append]
  gi_wp2_with (refine ⟨trivial, ?_⟩; gi_at_call 19; refine (pairs_in _ _ _ _).mono ?_; rintro e w' ⟨rfl, rfl⟩)
  have hm0 := World.ownsMap_made (w.alloc (.cells #[.slice a zs.length c1, vs] 24)) Try.prog 26 (plainElem (H := Unit) Try.prog 3)
  obtain ⟨W0, hW0⟩ : ∃ W0, (((w.alloc (.cells #[.slice a zs.length c1, vs] 24)).alloc (.map #[] 0)).alloc (.cells #[.map (some (w.heap.size + 1))] 45)).alloc (.cells #[.slice a zs.length c1, vs] 24) = W0 := ⟨_, rfl⟩
  have hs0 : W0.heap.size = w.heap.size + 4 := by rw [← hW0]; simp
  have bS : Boxed W0 (w.heap.size + 1 + 1) 45 (.map (some (w.heap.size + 1))) := by
    have := (Boxed.new ((w.alloc (.cells #[.slice a zs.length c1, vs] 24)).alloc (.map #[] 0)) 45 (.map (some (w.heap.size + 1)))).alloc (.cells #[.slice a zs.length c1, vs] 24)
    simp only [World.size_alloc] at this
    rw [← hW0]; exact this
  have hbt : W0.heap[w.heap.size + 1 + 1 + 1]? = some (.cells #[.slice a zs.length c1, vs] 24) := by
    have := World.alloc_heap_new (((w.alloc (.cells #[.slice a zs.length c1, vs] 24)).alloc (.map #[] 0)).alloc (.cells #[.map (some (w.heap.size + 1))] 45)) (.cells #[.slice a zs.length c1, vs] 24)
    simp only [World.size_alloc] at this
    rw [← hW0]; exact this
  have hB0 : Below w.heap.size w W0 := by rw [← hW0]; exact ((((Below.refl _ w).alloc (Nat.le_refl _) _).alloc (by simp) _).alloc (by simp; omega) _).alloc (by simp; omega) _
  have hm1 : W0.ownsMap Try.prog 26 (plainElem (H := Unit) Try.prog 3) (w.heap.size + 1) 0 (.map []) := by
    have := (hm0.alloc (.cells #[.map (some (w.heap.size + 1))] 45)).alloc (.cells #[.slice a zs.length c1, vs] 24)
    simp only [World.size_alloc] at this
    rw [← hW0]; exact this
  rw [hW0]
  clear hm0 hW0
  refine wpIn_rangeFunc_ownH rfl h1 (gf := 28) (lb := #[.pointer (some ⟨w.heap.size + 1 + 1 + 1, 0, none⟩)]) rfl trivial (enters_of Try.func28 (by kernel_rfl) rfl)
    (pairs_stops (n - 1) (w.heap.size + 1 + 1 + 1) w.heap.size _ _ zs hlen W0 (by omega) (by omega) hbt (hT.below hB0)) (fun h k => h.trans k) (Kept.putObj (by omega) (by omega)) (Below.refl _ _) (fun _ => rfl)
    (fun (pre : List (Vl × Vl)) W => (W0.heap.size ≤ W.heap.size ∧ W.cell? ⟨w.heap.size + 1 + 1, 0, none⟩ = some (.map (some (w.heap.size + 1))) ∧ W.ownsMap Try.prog 26 (plainElem (H := Unit) Try.prog 3) (w.heap.size + 1) pre.length (tally (keysOf pre))) ∧ Below w.heap.size w W)
    (fun _ _ _ => False)
    (OwnFrom.and (fun s A B row hs hg hr => ⟨Nat.le_trans hs.1 hg.size, cell_kept hs.2.1 hg (fun r e => (hr r e).2), hs.2.2.kept hg (fun e => by have := (hr _ e.symm).1; omega)⟩) (ownFrom_below (Nat.le_refl _) (by omega)))
    (fun _ _ _ _ _ hs _ _ => hs)
    ⟨⟨Nat.le_refl _, bS.cell, hm1⟩, hB0⟩
    (fun x a' W => ∃ Bx, w.heap.size + 1 + 1 + 1 < Bx ∧ Three W Bx 0 x.1 ∧ a' = { tmps := #[.agg #[.slice a zs.length c1, vs], .pointer (some ⟨w.heap.size, 0, none⟩), .map none, .pointer (some ⟨w.heap.size + 1 + 1, 0, none⟩), .pointer (some ⟨Bx, 0, none⟩), .pointer (some ⟨w.heap.size, 0, none⟩), .slice a zs.length c1, .int .i64 zs.length, .map (some (w.heap.size + 1)), .agg #[.slice a zs.length c1, vs], .func (.func 28) #[] #[.pointer (some ⟨w.heap.size + 1 + 1 + 1, 0, none⟩)], x.1.v, x.2.v, undef, undef, undef, undef, undef, undef, undef], defers := [] })
    (fun x a' => fun _ A B row hs hg hr => by obtain ⟨Bx, h1, h2, h3⟩ := hs; exact ⟨Bx, h1, (Three.own (β := Unit) Bx 0 x.1) () A B row h2 hg (fun r e => (hr r e).2), h3⟩)
    ?assign ?body ?done ?stop
  case assign =>
    rintro l pre x W K ⟨⟨hz, hc, hown⟩, hB⟩ hK
    gi_wp2
    have hb' : Below W.heap.size W (W.alloc (.cells #[.int .i64 x.1.k, .int .i64 x.1.n, .string x.1.s] 26)) := (Below.refl _ _).alloc (Nat.le_refl _) _
    exact hK _ _ (keepsFrom_of_below hb') (kept_of_below hb' (by omega) (by omega)) ⟨⟨by have := hb'.size; omega, cell_alloc _ hc, hown.alloc _⟩, hB.trans (hb'.mono (by omega))⟩ ⟨W.heap.size, by omega, three_new W x.1, rfl⟩
  case body =>
    rintro l pre x a' W hl ⟨r, hr⟩ ⟨⟨hz, hc, hown⟩, hB⟩ ⟨Bx, hBx, ⟨t0, t1, t2⟩, rfl⟩ hlt
    obtain ⟨c, st, w1, w2, q1, q2, q3, q4, hat, hown2, hgrow, hoth⟩ := count_step hown.drew (by unfold maxLen; omega) x.1
    rw [show wrap64 (c + 1) = IntKind.i64.wrap (c + 1) from (IntWalk.i64_left _).symm] at q4
    gi_wp2
    obtain ⟨K0, hK0⟩ : ∃ K0 : Act → World → Prop, K0 = (fun (_ : Act) w' => w' = w2) := ⟨_, rfl⟩
    refine wpIn_mono (Q := Exit.then K0 (fun _ _ _ => False)) ?_ ?_
    · clear hown hown2 hgrow hoth hat hB hlt hz hr hl hT hmm hbt hB0 hm1 hs0 bS
      replace hK0 : Hid _ := hK0
      gi_region
      all_goals (rw [hK0.out]; exact rfl)
    · intro e a' w' hQ
      rw [hK0] at hQ
      obtain ⟨rfl, rfl⟩ := then_normal hQ
      obtain ⟨es, ck, hh, _⟩ := hown
      refine ⟨((KeepsOthers.drew W).from _).trans (KeepsFrom.of_grownBy hgrow (fun j e => by cases e; omega)), ⟨((Below.refl w.heap.size W).drew).grown hgrow (by show _ ≤ W.heap.size; omega) (fun k e => by cases e; omega), hgrow.block _ (by show _ < W.heap.size; omega) (fun e => by injection e with e; omega)⟩, ⟨Nat.le_trans hz hgrow.size, cell_kept (W := W.drew) hc hgrow (fun r e => by cases e; exact ⟨_, hh, rfl⟩), ?_⟩, (hB.drew).grown hgrow (by show _ ≤ W.heap.size; omega) (fun k e => by cases e; omega)⟩
      rw [keysOf, List.map_append, List.length_append, List.map_singleton, tally_snoc, bump, hat]
      exact hown2
  case done =>
    rintro D ys W hD rfl ⟨⟨hz, hc, hown⟩, hB⟩ hK
    gi_wp2
    refine ⟨by simp, .inl ⟨_, _, rfl, run_takeDeferred hK, ?_⟩⟩
    exact ⟨_, results_tmp rfl _ _ _, rfl, hown.kept (grownBy_putObj' _ D _) (fun e => by cases e; omega), hB.trans (belowK_b (w := w) (Nat.le_refl _) W D _ _ (by omega) hK rfl rfl)⟩
  case stop =>
    rintro D c pre W _ _ h _
    exact h.elim

end Go.Proofs.Ytkcieeckndimpaa
