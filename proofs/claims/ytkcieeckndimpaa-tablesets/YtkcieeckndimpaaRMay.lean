/- The document's own answer: which tables may be. -/
import Derived.Test.YtkcieeckndimpaaFind
namespace Go.Proofs.Ytkcieeckndimpaa
open Go.RowKit Go.Shelf
open Go

set_option linter.unusedSectionVars false
variable [DecidableEq Vl]

theorem wf_bounds {n : Int} (h : (Lit.int .i64 n).wf = true) : -9223372036854775808 ≤ n ∧ n ≤ 9223372036854775807 := by
  simpa [Lit.wf, IntKind.min, IntKind.max, IntKind.signed, IntKind.bits] using h

theorem rmay_v (x : Vl) (w : World) : Calls Try.prog 22 #[x.v] w fun e w' => e = .returned (.bool (mayB x.k x.n x.s)) ∧ Below w.heap.size w w' :=
  (rmay_any x.k x.n x.s w (wf_bounds x.wn).1 (wf_bounds x.wn).2).mono fun e w' ⟨he, hw⟩ => ⟨he, by rw [hw]; exact (Below.refl _ _).alloc (Nat.le_refl _) _⟩

set_option maxRecDepth 100000 in
set_option maxHeartbeats 2000000 in
theorem rtmay_len (ks vs : Value) (xs ys : List Vl) (w : World) (hT : Tab w.heap.size w ks vs xs ys) (h : (xs.length == ys.length) = false) :
    Calls Try.prog 13 #[.agg #[ks, vs]] w fun e w' => e = .returned (.bool false) ∧ Below w.heap.size w w' := by
  obtain ⟨a, c1, rfl⟩ := hT.keys.slice
  obtain ⟨a', c2, rfl⟩ := hT.vals.slice
  have h' : ((xs.length : Int) != (ys.length : Int)) = true := by simp at h ⊢; omega
  clear hT h
  go_enter Try.func13, Try.ntmps13
  go_wp2
  go_ret
  exact ⟨rfl, (Below.refl _ _).alloc (Nat.le_refl _) _⟩

set_option maxRecDepth 100000 in
set_option maxHeartbeats 2000000 in
theorem rtmay_long (ks vs : Value) (xs ys : List Vl) (w : World) (hT : Tab w.heap.size w ks vs xs ys) (h : xs.length = ys.length) (hl : 100 < xs.length) :
    Calls Try.prog 13 #[.agg #[ks, vs]] w fun e w' => e = .returned (.bool false) ∧ Below w.heap.size w w' := by
  obtain ⟨a, c1, rfl⟩ := hT.keys.slice
  obtain ⟨a', c2, rfl⟩ := hT.vals.slice
  have h' : ((xs.length : Int) != (ys.length : Int)) = false := by simp; omega
  have h2 : (100 : Int) < (xs.length : Int) := by omega
  clear hT hl h
  go_enter Try.func13, Try.ntmps13
  go_wp2
  go_ret
  exact ⟨rfl, (Below.refl _ _).alloc (Nat.le_refl _) _⟩

/-- What has been seen when m rounds are over. -/
def Good (xs ys : List Vl) (m : Nat) : Prop := ∀ j x y, j < m → xs[j]? = some x → ys[j]? = some y → stB x = true ∧ stB y = true ∧ findI xs x = j

theorem good_all {xs ys : List Vl} (hl : xs.length = ys.length) (hc : xs.length ≤ 100) (h : Good xs ys xs.length) : mayT xs ys = true := by
  unfold mayT
  simp only [Bool.and_eq_true, decide_eq_true_eq, List.all_eq_true]
  refine ⟨⟨⟨hl, hc⟩, fun x hx => ?_, fun y hy => ?_⟩, ?_⟩
  · obtain ⟨j, hj, rfl⟩ := List.mem_iff_getElem.1 hx
    exact (h j _ _ hj (List.getElem?_eq_getElem hj) (List.getElem?_eq_getElem (by omega))).1
  · obtain ⟨j, hj, rfl⟩ := List.mem_iff_getElem.1 hy
    exact (h j _ _ (by omega) (List.getElem?_eq_getElem (by omega)) (List.getElem?_eq_getElem hj)).2.1
  · rw [List.nodup_iff_pairwise_ne, List.pairwise_iff_getElem]
    intro i j hi hj hij e
    have h1 := (h i _ _ hi (List.getElem?_eq_getElem hi) (List.getElem?_eq_getElem (by omega))).2.2
    have h2 := (h j _ _ hj (List.getElem?_eq_getElem hj) (List.getElem?_eq_getElem (by omega))).2.2
    rw [e] at h1
    omega

theorem find_nodup {xs : List Vl} (hn : xs.Nodup) {m : Nat} {x : Vl} (hx : xs[m]? = some x) : findI xs x = m := by
  refine findI_at (fun j hj e => ?_) hx
  rw [List.nodup_iff_pairwise_ne] at hn
  exact pair_ne hn e hx hj rfl

theorem bad_one {xs ys : List Vl} {m : Nat} {x y : Vl} (hx : xs[m]? = some x) (hy : ys[m]? = some y) (h : ¬ (stB x = true ∧ stB y = true ∧ findI xs x = m)) : mayT xs ys = false := by
  cases h' : mayT xs ys
  · rfl
  · obtain ⟨_, _, h1, h2, h3⟩ := mayT_parts h'
    exact absurd ⟨h1 x (List.mem_of_getElem? hx), h2 y (List.mem_of_getElem? hy), find_nodup h3 hx⟩ h

set_option maxRecDepth 100000 in
set_option maxHeartbeats 4000000 in
theorem rtmay_loop (ks vs : Value) (xs ys : List Vl) (w : World) (hT : Tab w.heap.size w ks vs xs ys) (hl : xs.length = ys.length) (hc : xs.length ≤ 100) :
    Calls Try.prog 13 #[.agg #[ks, vs]] w fun e w' => e = .returned (.bool (mayT xs ys)) ∧ Below w.heap.size w w' := by
  obtain ⟨a, c1, rfl, _, hrow⟩ := hT.keys
  obtain ⟨a', c2, rfl, _, hrow'⟩ := hT.vals
  rw [← hl] at hT ⊢
  replace hl : Hid _ := hl
  have g1 : ((xs.length : Int) != (xs.length : Int)) = false := by simp
  have g2 : ¬ (100 : Int) < (xs.length : Int) := by omega
  have ht0 := World.alloc_heap_new w (.cells #[.slice a xs.length c1, .slice a' xs.length c2] 24)
  have hb0 : Below w.heap.size w (w.alloc (.cells #[.slice a xs.length c1, .slice a' xs.length c2] 24)) := (Below.refl _ _).alloc (Nat.le_refl _) _
  replace hT : Hid _ := hT
  go_enter Try.func13, Try.ntmps13
  go_wp2
  go_loopw [4] (fun i wr => ∃ m : Nat, m ≤ xs.length ∧ i = .int .i64 m ∧ Hid (Good xs ys m) ∧ wr.heap[w.heap.size]? = some (.cells #[.slice a xs.length c1, .slice a' xs.length c2] 24) ∧ Below w.heap.size w wr) (fun i _ => xs.length - (intOf i).toNat)
  case atStart => exact ⟨0, Nat.zero_le _, rfl, fun j x y hj => by omega, ht0, hb0⟩
  case round =>
    clear ht0 hb0
    obtain ⟨m, hm, rfl, hG, ht, hb⟩ := hrel
    have x0 : wr.cell? ⟨w.heap.size, 0, none⟩ = some (.slice a xs.length c1) := cell_block ht rfl
    have x1 : wr.cell? ⟨w.heap.size, 1, none⟩ = some (.slice a' xs.length c2) := cell_block ht rfl
    by_cases hlt : m < xs.length
    · obtain ⟨x, hx⟩ : ∃ x, xs[m]? = some x := ⟨xs[m], by simp [hlt]⟩
      obtain ⟨y, hy⟩ : ∃ y, ys[m]? = some y := ⟨ys[m]'(by rw [← hl.out]; exact hlt), by rw [List.getElem?_eq_getElem]⟩
      obtain ⟨b, off, rfl, hbl, hel⟩ := hrow (by intro e; subst e; simp at hlt)
      obtain ⟨b', off', rfl, hbl', hel'⟩ := hrow' (by intro e; subst e; simp at hy)
      have T1 := (hel m x hx).below hb hbl
      have T2 := (hel' m y hy).below hb hbl'
      have hbad := bad_one hx hy
      have hnext : stB x = true ∧ stB y = true ∧ findI xs x = m → Hid (Good xs ys (m + 1)) := fun h j x' y' hj hx' hy' => by
        rcases Nat.lt_or_ge j m with h' | h'
        · exact hG.out j x' y' h' hx' hy'
        · obtain rfl : j = m := by omega
          rw [hx] at hx'
          rw [hy] at hy'
          cases hx'
          cases hy'
          exact h
      obtain ⟨t0, t1, t2⟩ := T1
      obtain ⟨s0, s1, s2⟩ := T2
      replace hbad : Hid _ := hbad
      replace hnext : Hid _ := hnext
      clear hx hy hG hrow hrow' hel hel'
      cases e1 : (x.k == 0)
      · cases e2 : (y.k == 0)
        · cases e3 : mayB x.k x.n x.s
          · have hC := rmay_v x
            rw [e3] at hC
            replace e3 : Hid _ := e3
            go_wp2_with (go_at_call 22; refine (hC _).mono ?_; rintro e w3 ⟨rfl, hb3⟩)
            go_ret
            exact ⟨by rw [hbad.out (fun h => by simp [stB, e3.out] at h)]; rfl, hb.trans (hb3.mono hb.size)⟩
          · have hC := rmay_v x
            rw [e3] at hC
            replace e3 : Hid _ := e3
            cases e4 : mayB y.k y.n y.s
            · have hC' := rmay_v y
              rw [e4] at hC'
              replace e4 : Hid _ := e4
              go_wp2_with (go_at_call 22; refine (hC _).mono ?_; rintro e w3 ⟨rfl, hb3⟩; refine Hid.out ?_)
              replace ht := block_below hb3 ht
              obtain ⟨s0, s1, s2⟩ := (Three.mk s0 s1 s2).below hb3 (World.block_lt_of_cell? _ _ s0)
              replace hb := hb.trans (hb3.mono hb.size)
              clear hC t0 t1 t2 hb3
              have x0 : w3.cell? ⟨w.heap.size, 0, none⟩ = some (.slice (some ⟨b, off, none⟩) xs.length c1) := cell_block ht rfl
              have x1 : w3.cell? ⟨w.heap.size, 1, none⟩ = some (.slice (some ⟨b', off', none⟩) xs.length c2) := cell_block ht rfl
              refine Lib.hid ?_
              go_wp2_with (go_at_call 22; refine (hC' _).mono ?_; rintro e w4 ⟨rfl, hb4⟩)
              go_ret
              exact ⟨by rw [hbad.out (fun h => by simp [stB, e4.out] at h)]; rfl, hb.trans (hb4.mono hb.size)⟩
            · have hC' := rmay_v y
              rw [e4] at hC'
              replace e4 : Hid _ := e4
              go_wp2_with (go_at_call 22; refine (hC _).mono ?_; rintro e w3 ⟨rfl, hb3⟩; refine Hid.out ?_)
              replace ht := block_below hb3 ht
              obtain ⟨t0, t1, t2⟩ := (Three.mk t0 t1 t2).below hb3 (World.block_lt_of_cell? _ _ t0)
              obtain ⟨s0, s1, s2⟩ := (Three.mk s0 s1 s2).below hb3 (World.block_lt_of_cell? _ _ s0)
              replace hb := hb.trans (hb3.mono hb.size)
              clear hC hb3 x0 x1
              have x0 : w3.cell? ⟨w.heap.size, 0, none⟩ = some (.slice (some ⟨b, off, none⟩) xs.length c1) := cell_block ht rfl
              have x1 : w3.cell? ⟨w.heap.size, 1, none⟩ = some (.slice (some ⟨b', off', none⟩) xs.length c2) := cell_block ht rfl
              refine Lib.hid ?_
              go_wp2_with (go_at_call 22; refine (hC' _).mono ?_; rintro e w4 ⟨rfl, hb4⟩; refine Hid.out ?_)
              replace ht := block_below hb4 ht
              obtain ⟨t0, t1, t2⟩ := (Three.mk t0 t1 t2).below hb4 (World.block_lt_of_cell? _ _ t0)
              replace hb := hb.trans (hb4.mono hb.size)
              have hF := find_any (.slice (some ⟨b, off, none⟩) xs.length c1) (.slice (some ⟨b', off', none⟩) xs.length c2) xs ys x w4.drew ((hT.out.below hb.drew).mono hb.drew.size)
              obtain ⟨fi, hfi⟩ : ∃ fi, findI xs x = fi := ⟨_, rfl⟩
              have hF2 : Calls Try.prog 20 #[.agg #[.slice (some ⟨b, off, none⟩) xs.length c1, .slice (some ⟨b', off', none⟩) xs.length c2], x.v] w4.drew fun e w5 => e = .returned (.int .i64 fi) ∧ w5.heap[w.heap.size]? = some (.cells #[.slice (some ⟨b, off, none⟩) xs.length c1, .slice (some ⟨b', off', none⟩) xs.length c2] 24) ∧ Below w.heap.size w w5 := hF.mono (fun e w5 ⟨he, hb5⟩ =>
                ⟨by rw [he, hfi], block_below (W := w4.drew) hb5 ht, hb.drew.trans (hb5.mono hb.size)⟩)
              clear hC' hb4 x0 x1 s0 s1 s2 hF
              have x0 : w4.cell? ⟨w.heap.size, 0, none⟩ = some (.slice (some ⟨b, off, none⟩) xs.length c1) := cell_block ht rfl
              have x1 : w4.cell? ⟨w.heap.size, 1, none⟩ = some (.slice (some ⟨b', off', none⟩) xs.length c2) := cell_block ht rfl
              replace hfi : Hid _ := hfi
              refine Lib.hid ?_
              by_cases hfm : fi = m
              · subst hfm
                go_wp2
                go_region_with (first | (go_at_call 20; refine hF2.mono ?_; rintro e w5 ⟨rfl, ht5, hb5⟩))
                all_goals
                  go_wp2
                  refine ⟨⟨fi + 1, hlt, by simp, hnext.out ⟨by simp [stB, bne, e1, e3.out], by simp [stB, bne, e2, e4.out], hfi.out⟩, ht5, hb5⟩, by simp [intOf]; omega⟩
              · have hne : ((fi : Int) != (m : Int)) = true := by simp; omega
                replace hfm : Hid _ := hfm
                go_wp2
                go_region_with (first | (go_at_call 20; refine hF2.mono ?_; rintro e w5 ⟨rfl, ht5, hb5⟩))
                all_goals
                  go_wp2
                  go_ret
                  exact ⟨by rw [hbad.out (fun h => hfm.out (hfi.out.symm.trans h.2.2))]; rfl, hb5⟩
        · go_wp2
          go_ret
          exact ⟨by rw [hbad.out (fun h => by simp [stB, bne, e2] at h)]; rfl, hb⟩
      · go_wp2
        go_ret
        exact ⟨by rw [hbad.out (fun h => by simp [stB, bne, e1] at h)]; rfl, hb⟩
    · obtain rfl : m = xs.length := by omega
      go_wp2
      go_ret
      exact ⟨by rw [good_all hl.out hc hG.out]; rfl, hb⟩

/-- The document's May, whatever the table. -/
theorem rtmay_any (ks vs : Value) (xs ys : List Vl) (w : World) (hT : Tab w.heap.size w ks vs xs ys) :
    Calls Try.prog 13 #[.agg #[ks, vs]] w fun e w' => e = .returned (.bool (mayT xs ys)) ∧ Below w.heap.size w w' := by
  by_cases h : xs.length = ys.length
  · by_cases hl : xs.length ≤ 100
    · exact rtmay_loop ks vs xs ys w hT h hl
    · have := rtmay_long ks vs xs ys w hT h (by omega)
      have e : mayT xs ys = false := by simp [mayT, hl]
      rw [e]; exact this
  · have := rtmay_len ks vs xs ys w hT (by simpa using h)
    have e : mayT xs ys = false := by simp [mayT, h]
    rw [e]; exact this
theorem rtmay_t {xs ys : List Vl} (h : mayT xs ys = true) (ks vs : Value) (w : World) (hT : Tab w.heap.size w ks vs xs ys) :
    Calls Try.prog 13 #[.agg #[ks, vs]] w fun e w' => e = .returned (.bool true) ∧ Below w.heap.size w w' := h ▸ rtmay_any ks vs xs ys w hT
theorem rtmay_f {xs ys : List Vl} (h : mayT xs ys = false) (ks vs : Value) (w : World) (hT : Tab w.heap.size w ks vs xs ys) :
    Calls Try.prog 13 #[.agg #[ks, vs]] w fun e w' => e = .returned (.bool false) ∧ Below w.heap.size w w' := h ▸ rtmay_any ks vs xs ys w hT

end Go.Proofs.Ytkcieeckndimpaa
