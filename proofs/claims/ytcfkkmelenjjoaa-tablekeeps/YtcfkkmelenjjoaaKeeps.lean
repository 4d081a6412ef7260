/- TableKeeps: what is set is got, all else is as it was, keys stay in their order. -/
import Derived.Test.YtcfkkmelenjjoaaSetB
import Derived.Test.YtcfkkmelenjjoaaKeepsA
namespace Go.Proofs.Ytcfkkmelenjjoaa
open Go.RowKit Go.Shelf
open Go

set_option linter.unusedSectionVars false
variable [DecidableEq Vl]

/-- What lies in memory when the law has begun. -/
theorem keep_mem (w : World) (o0 : Obj) (k v o : Vl) {W1 : World} (hW : (((w.alloc o0).alloc (bx k)).alloc (bx v)).alloc (bx o) = W1) :
    W1.heap.size = w.heap.size + 4 ∧ Below w.heap.size w W1 ∧ W1.heap[w.heap.size]? = some o0 ∧ W1.heap[w.heap.size + 1]? = some (bx k) ∧ W1.heap[w.heap.size + 1 + 1]? = some (bx v) ∧ W1.heap[w.heap.size + 1 + 1 + 1]? = some (bx o) := by
  subst hW
  refine ⟨by simp, ((((Below.refl _ w).alloc (Nat.le_refl _) _).alloc (by simp) _).alloc (by simp; omega) _).alloc (by simp; omega) _, block_alloc _ (block_alloc _ (block_alloc _ (World.alloc_heap_new w _))), ?_, ?_, ?_⟩
  · have := block_alloc (bx o) (block_alloc (bx v) (World.alloc_heap_new (w.alloc o0) (bx k)))
    simpa only [World.size_alloc] using this
  · have := block_alloc (bx o) (World.alloc_heap_new ((w.alloc o0).alloc (bx k)) (bx v))
    simpa only [World.size_alloc] using this
  · have := World.alloc_heap_new (((w.alloc o0).alloc (bx k)).alloc (bx v)) (bx o)
    simpa only [World.size_alloc] using this

set_option maxRecDepth 100000 in
set_option maxHeartbeats 4000000 in
theorem keeps_err (ks vs : Value) (xs ys : List Vl) (k v o : Vl) (w : World) (hT : Tab w.heap.size w ks vs xs ys) (ec : Int) (he : setT xs ys k v = ([], ec)) (hne : (ec != 0) = true) :
    Calls Try.prog 5 #[.agg #[ks, vs], k.v, v.v, o.v] w fun e w' => e = .returned (.bool true) ∧ Below w.heap.size w w' := by
  obtain ⟨a, c1, rfl⟩ := hT.keys.slice
  obtain ⟨a', c2, rfl⟩ := hT.vals.slice
  obtain ⟨W1, hW1⟩ : ∃ W1, (((w.alloc (.cells #[.slice a xs.length c1, .slice a' ys.length c2] 24)).alloc (bx k)).alloc (bx v)).alloc (bx o) = W1 := ⟨_, rfl⟩
  obtain ⟨hs1, hb0, ht, hk, hv, ho⟩ := keep_mem w _ k v o hW1
  have hC := set_any (.slice a xs.length c1) (.slice a' ys.length c2) xs ys k v _ ((hT.below hb0).mono hb0.size)
  rw [he, ← hW1] at hC
  dsimp only at hC
  replace hW1 : Hid _ := hW1
  clear hT he
  go_enter Try.func5, Try.ntmps5
  go_wp2_with (go_at_call 16; refine hC.mono ?_; rintro e w1 ⟨b, m, d, b', m', d', rfl, hT1, hb1⟩; refine Hid.out ?_)
  rw [hW1.out] at hb1
  have hm : m = 0 := by
    obtain ⟨_, _, e, _⟩ := hT1.keys
    simp [keysOf] at e
    exact e.2.1
  subst hm
  replace hb0 := hb0.trans (hb1.mono hb0.size)
  clear hC hT1 hb1 hW1
  refine Lib.hid ?_
  go_wp2
  go_ret
  exact ⟨rfl, hb0.alloc hb0.size _⟩

/-- The boxes' cells, in whatever world has only grown. -/
structure KC (w W2 : World) (bu : Nat) (ks vs us us' : Value) (k v o : Vl) (u : World) : Prop where
  t0 : u.cell? ⟨w.heap.size, 0, none⟩ = some ks
  t1 : u.cell? ⟨w.heap.size, 1, none⟩ = some vs
  u0 : u.cell? ⟨bu, 0, none⟩ = some us
  u1 : u.cell? ⟨bu, 1, none⟩ = some us'
  k0 : u.cell? ⟨w.heap.size + 1, 0, none⟩ = some (.int .i64 k.k)
  k1 : u.cell? ⟨w.heap.size + 1, 1, none⟩ = some (.int .i64 k.n)
  k2 : u.cell? ⟨w.heap.size + 1, 2, none⟩ = some (.string k.s)
  v0 : u.cell? ⟨w.heap.size + 1 + 1, 0, none⟩ = some (.int .i64 v.k)
  v1 : u.cell? ⟨w.heap.size + 1 + 1, 1, none⟩ = some (.int .i64 v.n)
  v2 : u.cell? ⟨w.heap.size + 1 + 1, 2, none⟩ = some (.string v.s)
  o0 : u.cell? ⟨w.heap.size + 1 + 1 + 1, 0, none⟩ = some (.int .i64 o.k)
  o1 : u.cell? ⟨w.heap.size + 1 + 1 + 1, 1, none⟩ = some (.int .i64 o.n)
  o2 : u.cell? ⟨w.heap.size + 1 + 1 + 1, 2, none⟩ = some (.string o.s)

theorem kc {w W2 : World} {bu : Nat} {ks vs us us' : Value} {k v o : Vl} {u : World} (ht : W2.heap[w.heap.size]? = some (.cells #[ks, vs] 24)) (hu : W2.heap[bu]? = some (.cells #[us, us'] 24)) (hk : W2.heap[w.heap.size + 1]? = some (bx k)) (hv : W2.heap[w.heap.size + 1 + 1]? = some (bx v)) (ho : W2.heap[w.heap.size + 1 + 1 + 1]? = some (bx o))
    (hb : Below W2.heap.size W2 u) : KC w W2 bu ks vs us us' k v o u :=
  ⟨cell_block (block_below hb ht) rfl, cell_block (block_below hb ht) rfl, cell_block (block_below hb hu) rfl, cell_block (block_below hb hu) rfl, (in3 (block_below hb hk)).c0, (in3 (block_below hb hk)).c1, (in3 (block_below hb hk)).c2, (in3 (block_below hb hv)).c0, (in3 (block_below hb hv)).c1, (in3 (block_below hb hv)).c2, (in3 (block_below hb ho)).c0, (in3 (block_below hb ho)).c1, (in3 (block_below hb ho)).c2⟩

set_option maxRecDepth 100000 in
set_option maxHeartbeats 4000000 in
theorem keeps_ne1 (ks vs : Value) (xs ys : List Vl) (k v o : Vl) (w : World) (hok1 : ¬ o.k = k.k) (hT : Tab w.heap.size w ks vs xs ys) (hmay : mayT xs ys = true) (hF : Fine k v (xs.zip ys)) (hl : ¬ 100 < (setZ k v (xs.zip ys)).length) (he : setT xs ys k v = (setZ k v (xs.zip ys), 0)) :
    Calls Try.prog 5 #[.agg #[ks, vs], k.v, v.v, o.v] w fun e w' => e = .returned (.bool true) ∧ Below w.heap.size w w' := by
  obtain ⟨a, c1, rfl⟩ := hT.keys.slice
  obtain ⟨a', c2, rfl⟩ := hT.vals.slice
  obtain ⟨W1, hW1⟩ : ∃ W1, (((w.alloc (.cells #[.slice a xs.length c1, .slice a' ys.length c2] 24)).alloc (bx k)).alloc (bx v)).alloc (bx o) = W1 := ⟨_, rfl⟩
  obtain ⟨hs1, hb0, ht, hk, hv, ho⟩ := keep_mem w _ k v o hW1
  have hC := set_any (.slice a xs.length c1) (.slice a' ys.length c2) xs ys k v _ ((hT.below hb0).mono hb0.size)
  obtain ⟨R, hR⟩ : ∃ R, setZ k v (xs.zip ys) = R := ⟨_, rfl⟩
  have hmR := set_may hF hl
  have hgk : getT (keysOf R) (valsOf R) k = v := by rw [← hR]; unfold getT; rw [if_pos hmR, zip_of]; exact set_get hF
  have hgo : o ≠ k → getT (keysOf R) (valsOf R) o = getT xs ys o := fun hne => by
    rw [← hR]; unfold getT; rw [if_pos hmR, if_pos hmay, zip_of]; exact set_other hF hne
  rw [he, ← hW1] at hC
  dsimp only at hC
  rw [hR] at hC hmR
  replace hW1 : Hid _ := hW1
  replace hT : Hid _ := hT
  replace he : Hid _ := he
  replace hmay : Hid _ := hmay
  replace hmR : Hid _ := hmR
  replace hgk : Hid _ := hgk
  replace hgo : Hid _ := hgo
  replace hl : Hid _ := hl
  replace hR : Hid _ := hR
  replace hF : Hid _ := hF
  have hok : o ≠ k := fun e => hok1 (by rw [e])
  replace hok : Hid _ := hok
  go_enter Try.func5, Try.ntmps5
  go_wp2_with (go_at_call 16; refine hC.mono ?_; rintro e w1 ⟨b, m, d, b', m', d', rfl, hT1, hb1⟩; refine Hid.out ?_)
  rw [hW1.out] at hb1
  replace hb0 := hb0.trans (hb1.mono hb0.size)
  have hbu : Below w1.heap.size w1 (w1.alloc (.cells #[.slice b m d, .slice b' m' d'] 24)) := (Below.refl _ _).alloc (Nat.le_refl _) _
  replace ht := block_below hbu (block_below hb1 ht)
  replace hk := block_below hbu (block_below hb1 hk)
  replace hv := block_below hbu (block_below hb1 hv)
  replace ho := block_below hbu (block_below hb1 ho)
  have hu := World.alloc_heap_new w1 (.cells #[.slice b m d, .slice b' m' d'] 24)
  have hz : w.heap.size + 4 ≤ w1.heap.size := by have := hb1.size; omega
  obtain ⟨W2, hW2⟩ : ∃ W2, w1.alloc (.cells #[.slice b m d, .slice b' m' d'] 24) = W2 := ⟨_, rfl⟩
  rw [hW2] at hbu ht hk hv ho hu
  replace hb0 := hb0.trans (hbu.mono hb0.size)
  have hT2 := (hT1.below hbu).mono hbu.size
  have hs2 : W2.heap.size = w1.heap.size + 1 := by rw [← hW2]; simp
  have D12t : ∀ u, Below W2.heap.size W2 u → Calls Try.prog 12 #[.agg #[.slice a xs.length c1, .slice a' ys.length c2]] u fun e u' => e = .returned (.bool true) ∧ Below W2.heap.size W2 u' := fun u hu => (tmay_t hmay.out (.slice a xs.length c1) (.slice a' ys.length c2) u ((hT.out.below (hb0.trans (hu.mono hb0.size))).mono (Nat.le_trans hb0.size hu.size))).mono (fun e u' ⟨he, hb⟩ => ⟨he, ext_trans hu hb⟩)
  have D12u : ∀ u, Below W2.heap.size W2 u → Calls Try.prog 12 #[.agg #[.slice b m d, .slice b' m' d']] u fun e u' => e = .returned (.bool true) ∧ Below W2.heap.size W2 u' := fun u hu => (tmay_t hmR.out (.slice b m d) (.slice b' m' d') u ((hT2.below hu).mono hu.size)).mono (fun e u' ⟨he, hb⟩ => ⟨he, ext_trans hu hb⟩)
  have D7k : ∀ u, Below W2.heap.size W2 u → Calls Try.prog 7 #[.agg #[.slice b m d, .slice b' m' d'], k.v] u fun e u' => e = .returned v.v ∧ Below W2.heap.size W2 u' := fun u hu => (get_any (.slice b m d) (.slice b' m' d') _ _ k u ((hT2.below hu).mono hu.size)).mono (fun e u' ⟨he, hb⟩ => ⟨by rw [he, hgk.out], ext_trans hu hb⟩)
  obtain ⟨g, hg⟩ : ∃ g, getT xs ys o = g := ⟨_, rfl⟩
  have D7u : o ≠ k → ∀ u, Below W2.heap.size W2 u → Calls Try.prog 7 #[.agg #[.slice b m d, .slice b' m' d'], o.v] u fun e u' => e = .returned g.v ∧ Below W2.heap.size W2 u' := fun hne u hu => (get_any (.slice b m d) (.slice b' m' d') _ _ o u ((hT2.below hu).mono hu.size)).mono (fun e u' ⟨he, hb⟩ => ⟨by rw [he, hgo.out hne, hg], ext_trans hu hb⟩)
  have D7t : ∀ u, Below W2.heap.size W2 u → Calls Try.prog 7 #[.agg #[.slice a xs.length c1, .slice a' ys.length c2], o.v] u fun e u' => e = .returned g.v ∧ Below W2.heap.size W2 u' := fun u hu => (get_any (.slice a xs.length c1) (.slice a' ys.length c2) xs ys o u ((hT.out.below (hb0.trans (hu.mono hb0.size))).mono (Nat.le_trans hb0.size hu.size))).mono (fun e u' ⟨he, hb⟩ => ⟨by rw [he, hg], ext_trans hu hb⟩)
  have KCf := fun u => kc (u := u) ht hu hk hv ho
  have hB0 : Below W2.heap.size W2 W2.drew := (Below.refl _ _).drew
  obtain ⟨t0, t1, u0, u1, k0, k1, k2, v0, v1, v2, o0, o1, o2⟩ := KCf W2 (Below.refl _ _)
  clear hC hb1 hW1 hT1 ht hk hv ho hu hg hgk hgo
  replace hW2 : Hid _ := hW2
  replace KCf : Hid _ := KCf
  replace D7u : Hid _ := D7u
  replace D7t : Hid _ := D7t
  replace hT2 : Hid _ := hT2
  refine Lib.hid ?_
  go_wp2
  rw [hW2.out]
  go_region_held3 (fun u => u.cell? ⟨w.heap.size, 0, none⟩ = some (.slice a xs.length c1) ∧ u.cell? ⟨w.heap.size, 1, none⟩ = some (.slice a' ys.length c2) ∧ u.cell? ⟨w1.heap.size, 0, none⟩ = some (.slice b m d) ∧ u.cell? ⟨w1.heap.size, 1, none⟩ = some (.slice b' m' d') ∧ u.cell? ⟨w.heap.size + 1, 0, none⟩ = some (.int .i64 k.k) ∧ u.cell? ⟨w.heap.size + 1, 1, none⟩ = some (.int .i64 k.n) ∧ u.cell? ⟨w.heap.size + 1, 2, none⟩ = some (.string k.s) ∧ u.cell? ⟨w.heap.size + 1 + 1, 0, none⟩ = some (.int .i64 v.k) ∧ u.cell? ⟨w.heap.size + 1 + 1, 1, none⟩ = some (.int .i64 v.n) ∧ u.cell? ⟨w.heap.size + 1 + 1, 2, none⟩ = some (.string v.s)) (go_keep)
    (first
      | (go_at_call_of 12 c1; refine (D12t _ hB0).mono ?_; rintro e w2 ⟨rfl, hB1⟩; obtain ⟨t0', t1', u0', u1', k0', k1', k2', v0', v1', v2', o0', o1', o2'⟩ := KCf.out _ hB1)
      | (go_at_call_of 12 d; refine (D12u _ hB1).mono ?_; rintro e w3 ⟨rfl, hB2⟩; obtain ⟨t0', t1', u0', u1', k0', k1', k2', v0', v1', v2', o0', o1', o2'⟩ := KCf.out _ hB2)
      | (go_at_call 7; refine (D7k _ hB2).mono ?_; rintro e w4 ⟨rfl, hB3⟩; obtain ⟨t0', t1', u0', u1', k0', k1', k2', v0', v1', v2', o0', o1', o2'⟩ := KCf.out _ hB3))
  go_wp2
  clear D12t D12u D7k t0 t1 u0 u1 k0 k1 k2 v0 v1 v2 o0 o1 o2
  obtain ⟨t0, t1, u0, u1, k0, k1, k2, v0, v1, v2, o0, o1, o2⟩ := KCf.out _ hB3
  have E7u := D7u.out hok.out
  have E7t := D7t.out
  have hB4 : Below W2.heap.size W2 w4.drew := hB3.drew
  go_region_held3 (fun u => u.cell? ⟨w.heap.size, 0, none⟩ = some (.slice a xs.length c1) ∧ u.cell? ⟨w.heap.size, 1, none⟩ = some (.slice a' ys.length c2) ∧ u.cell? ⟨w1.heap.size, 0, none⟩ = some (.slice b m d) ∧ u.cell? ⟨w1.heap.size, 1, none⟩ = some (.slice b' m' d') ∧ u.cell? ⟨w.heap.size + 1, 0, none⟩ = some (.int .i64 k.k) ∧ u.cell? ⟨w.heap.size + 1, 1, none⟩ = some (.int .i64 k.n) ∧ u.cell? ⟨w.heap.size + 1, 2, none⟩ = some (.string k.s) ∧ u.cell? ⟨w.heap.size + 1 + 1 + 1, 0, none⟩ = some (.int .i64 o.k) ∧ u.cell? ⟨w.heap.size + 1 + 1 + 1, 1, none⟩ = some (.int .i64 o.n) ∧ u.cell? ⟨w.heap.size + 1 + 1 + 1, 2, none⟩ = some (.string o.s)) (go_keep)
    (first
      | (go_at_call_of 7 d; refine (E7u _ hB4).mono ?_; rintro e w5 ⟨rfl, hB5⟩; obtain ⟨t0', t1', u0', u1', k0', k1', k2', v0', v1', v2', o0', o1', o2'⟩ := KCf.out _ hB5)
      | (go_at_call_of 7 c1; refine (E7t _ hB5).mono ?_; rintro e w6 ⟨rfl, hB6⟩; obtain ⟨t0', t1', u0', u1', k0', k1', k2', v0', v1', v2', o0', o1', o2'⟩ := KCf.out _ hB6))
  clear E7u E7t t0 t1 u0 u1 k0 k1 k2 v0 v1 v2 o0 o1 o2
  go_wp2
  obtain ⟨hml, hzr⟩ : m = R.length ∧ ∀ j z, (keysOf R)[j]? = some z → ∃ bb boff, b = some ⟨bb, boff, none⟩ ∧ ∀ u, Below W2.heap.size W2 u → Three u bb (boff + j * 3) z := by
    obtain ⟨_, _, e, _, hrow⟩ := hT2.out.keys
    cases e
    refine ⟨by simp [keysOf], fun j z hj => ?_⟩
    obtain ⟨bb, boff, e2, hbl, hel⟩ := hrow (by intro e; rw [e] at hj; simp at hj)
    exact ⟨bb, boff, e2, fun u hu => (hel j z hj).below hu hbl⟩
  have hxr : ∀ j z, xs[j]? = some z → ∃ ba oa, a = some ⟨ba, oa, none⟩ ∧ ∀ u, Below W2.heap.size W2 u → Three u ba (oa + j * 3) z := by
    obtain ⟨_, _, e, _, hrow⟩ := hT.out.keys
    cases e
    intro j z hj
    obtain ⟨ba, oa, e2, hbl, hel⟩ := hrow (by intro e; rw [e] at hj; simp at hj)
    exact ⟨ba, oa, e2, fun u hu => (hel j z hj).below (hb0.trans (hu.mono hb0.size)) hbl⟩
  have hll : xs.length = ys.length := (mayT_len hmay.out).1
  have hl100 : xs.length ≤ 100 := (mayT_len hmay.out).2
  have hR100 : R.length ≤ 100 := by
    have h9 : ¬ 100 < (setZ k v (xs.zip ys)).length := hl.out
    rw [hR.out] at h9
    exact Nat.le_of_not_lt h9
  replace hll : Hid _ := hll
  replace hxr : Hid _ := hxr
  replace hzr : Hid _ := hzr
  replace hml : Hid _ := hml
  clear hmR he hmay hl hT hT2 hbu hs1 hs2
  go_loopw [11, 12] (fun at' i wr => ∃ ni na : Nat, ni ≤ xs.length ∧ i = .int .i64 ni ∧ at' = .int .i64 na ∧ Hid (na ≤ pos k v (xs.zip ys) ni) ∧ Below W2.heap.size W2 wr) (fun _ i _ => xs.length - (intOf i).toNat)
  case atStart => exact ⟨0, 0, Nat.zero_le _, rfl, rfl, Nat.zero_le _, hB6⟩
  case round =>
    obtain ⟨ni, na, hni, rfl, rfl, hna, hB⟩ := hrel
    obtain ⟨t0, t1, u0, u1, k0, k1, k2, v0, v1, v2, o0, o1, o2⟩ := KCf.out _ hB
    have hBq : ∀ nq, Below W2.heap.size W2 (wr.drewN nq) := fun nq => ⟨hB.os, hB.tape, hB.output, hB.size, hB.block⟩
    clear hB6 hB0 hB1 hB2 hB3 hB4 hB5
    by_cases hlt : ni < xs.length
    · obtain ⟨x, hx⟩ : ∃ x, xs[ni]? = some x := ⟨xs[ni], by simp [hlt]⟩
      obtain ⟨ba, oa, rfl, hxc⟩ := hxr.out ni x hx
      by_cases hxk : x = k
      · have hxk' : k = x := hxk.symm
        subst hxk'
        obtain ⟨s0, s1, s2⟩ := hxc _ hB
        replace hx : Hid _ := hx
        replace hxc : Hid _ := hxc
        go_wp2
        go_quiet (fail)
        go_wp2
        refine ⟨⟨ni + 1, na, hlt, by simp, rfl, Nat.le_trans hna.out (pos_mono k v (xs.zip ys) ni), hBq nq⟩, by simp [intOf]; omega⟩
      · obtain ⟨P, hP⟩ : ∃ P, pos k v (xs.zip ys) ni = P := ⟨_, rfl⟩
        have hxz : (keysOf (xs.zip ys))[ni]? = some x := by rw [zip_keys hll.out]; exact hx
        have hPat := pos_at hF.out hxz hxk
        rw [hP, hR.out] at hPat
        have hPl : P < m := by rw [hml.out]; have := (List.getElem?_eq_some_iff.1 hPat).1; simpa [keysOf] using this
        have hbef : ∀ c, c < P → ∃ z, (keysOf R)[c]? = some z ∧ z ≠ x := fun c hc => by
          have h1 := pos_before hF.out hxz hxk (a := c) (by rw [hP]; exact hc)
          rw [hR.out] at h1
          have hcl : c < (keysOf R).length := by have := (List.getElem?_eq_some_iff.1 hPat).1; omega
          exact ⟨(keysOf R)[c], List.getElem?_eq_getElem hcl, fun e => h1 (by rw [List.getElem?_eq_getElem hcl, e])⟩
        obtain ⟨bb, boff, rfl, _⟩ := hzr.out P x hPat
        have hzc : ∀ j z, (keysOf R)[j]? = some z → ∀ u, Below W2.heap.size W2 u → Three u bb (boff + j * 3) z := fun j z hj u hu => by
          obtain ⟨b1, b2, e, h⟩ := hzr.out j z hj
          cases e
          exact h u hu
        have hmlt : m ≤ 100 := by rw [hml.out]; exact hR100
        rw [hP] at hna
        obtain ⟨s0, s1, s2⟩ := hxc _ hB
        replace hPat : Hid _ := hPat
        replace hP : Hid _ := hP
        replace hx : Hid _ := hx
        replace hxz : Hid _ := hxz
        replace hxk : Hid _ := hxk
        replace hxc : Hid _ := hxc
        replace hbef : Hid _ := hbef
        replace hzc : Hid _ := hzc
        obtain ⟨xk, xn, xz, xwk, xwn, xws⟩ := x
        dsimp only at s0 s1 s2
        by_cases e1 : xk = k.k
        · subst e1
          by_cases e2 : xn = k.n
          · subst e2
            have e3 : ¬ xz.toList = k.s.toList := fun e => hxk.out (Vl.ext' rfl rfl e)
            go_wp2
            go_quiet (fail)
            have hBin := hBq nq
            clear t0 t1 u0 u1 k0 k1 k2 v0 v1 v2 o0 o1 o2 s0 s1 s2 hB hBq
            go_wp2
            go_loopw [11] (fun at' wr => ∃ nb : Nat, at' = .int .i64 nb ∧ Hid (nb ≤ P) ∧ Below W2.heap.size W2 wr) (fun at' _ => P + 1 - (intOf at').toNat)
            case atStart => exact ⟨na, rfl, hna, hBin⟩
            case round =>
              clear hBin
              obtain ⟨nb, rfl, hnb, hBr⟩ := hrel
              obtain ⟨t0, t1, u0, u1, k0, k1, k2, v0, v1, v2, o0, o1, o2⟩ := KCf.out _ hBr
              obtain ⟨s0, s1, s2⟩ := hxc.out _ hBr
              have hBs : ∀ nq, Below W2.heap.size W2 (wr.drewN nq) := fun nq => ⟨hBr.os, hBr.tape, hBr.output, hBr.size, hBr.block⟩
              have hbm : nb < m := by have := hnb.out; omega
              have hbm2 : (nb : Int) < (m : Int) := by omega
              dsimp only at s0 s1 s2
              by_cases hq : nb < P
              · obtain ⟨z, hz, hzn⟩ := hbef.out nb hq
                obtain ⟨r0, r1, r2⟩ := hzc.out nb z hz _ hBr
                obtain ⟨zk, zn, zs, zwk, zwn, zws⟩ := z
                dsimp only at r0 r1 r2
                replace hz : Hid _ := hz
                replace hzn : Hid _ := hzn
                by_cases f1 : zk = k.k
                · subst f1
                  by_cases f2 : zn = k.n
                  · subst f2
                    have f3 : ¬ zs.toList = xz.toList := fun e => hzn.out (Vl.ext' rfl rfl e)
                    go_wp2
                    go_quiet (fail)
                    go_wp2
                    refine ⟨⟨nb + 1, by simp, hq, hBs nq⟩, by simp [intOf]; omega⟩
                  · go_wp2
                    go_quiet (fail)
                    go_wp2
                    refine ⟨⟨nb + 1, by simp, hq, hBs nq⟩, by simp [intOf]; omega⟩
                · go_wp2
                  go_quiet (fail)
                  go_wp2
                  refine ⟨⟨nb + 1, by simp, hq, hBs nq⟩, by simp [intOf]; omega⟩
              · obtain rfl : nb = P := by have := hnb.out; omega
                obtain ⟨r0, r1, r2⟩ := hzc.out nb _ hPat.out _ hBr
                dsimp only at r0 r1 r2
                have hne' : ((nb : Int) == (m : Int)) = false := by simp; omega
                go_wp2
                go_quiet (fail)
                go_wp2
                refine ⟨⟨ni + 1, nb, hlt, by simp, rfl, Nat.le_trans (Nat.le_of_eq hP.out.symm) (pos_mono k v (xs.zip ys) ni), hBs nq⟩, by simp [intOf]; omega⟩
          · go_wp2
            go_quiet (fail)
            have hBin := hBq nq
            clear t0 t1 u0 u1 k0 k1 k2 v0 v1 v2 o0 o1 o2 s0 s1 s2 hB hBq
            go_wp2
            go_loopw [11] (fun at' wr => ∃ nb : Nat, at' = .int .i64 nb ∧ Hid (nb ≤ P) ∧ Below W2.heap.size W2 wr) (fun at' _ => P + 1 - (intOf at').toNat)
            case atStart => exact ⟨na, rfl, hna, hBin⟩
            case round =>
              clear hBin
              obtain ⟨nb, rfl, hnb, hBr⟩ := hrel
              obtain ⟨t0, t1, u0, u1, k0, k1, k2, v0, v1, v2, o0, o1, o2⟩ := KCf.out _ hBr
              obtain ⟨s0, s1, s2⟩ := hxc.out _ hBr
              have hBs : ∀ nq, Below W2.heap.size W2 (wr.drewN nq) := fun nq => ⟨hBr.os, hBr.tape, hBr.output, hBr.size, hBr.block⟩
              have hbm : nb < m := by have := hnb.out; omega
              have hbm2 : (nb : Int) < (m : Int) := by omega
              dsimp only at s0 s1 s2
              by_cases hq : nb < P
              · obtain ⟨z, hz, hzn⟩ := hbef.out nb hq
                obtain ⟨r0, r1, r2⟩ := hzc.out nb z hz _ hBr
                obtain ⟨zk, zn, zs, zwk, zwn, zws⟩ := z
                dsimp only at r0 r1 r2
                replace hz : Hid _ := hz
                replace hzn : Hid _ := hzn
                by_cases f1 : zk = k.k
                · subst f1
                  by_cases f2 : zn = xn
                  · subst f2
                    have f3 : ¬ zs.toList = xz.toList := fun e => hzn.out (Vl.ext' rfl rfl e)
                    go_wp2
                    go_quiet (fail)
                    go_wp2
                    refine ⟨⟨nb + 1, by simp, hq, hBs nq⟩, by simp [intOf]; omega⟩
                  · go_wp2
                    go_quiet (fail)
                    go_wp2
                    refine ⟨⟨nb + 1, by simp, hq, hBs nq⟩, by simp [intOf]; omega⟩
                · go_wp2
                  go_quiet (fail)
                  go_wp2
                  refine ⟨⟨nb + 1, by simp, hq, hBs nq⟩, by simp [intOf]; omega⟩
              · obtain rfl : nb = P := by have := hnb.out; omega
                obtain ⟨r0, r1, r2⟩ := hzc.out nb _ hPat.out _ hBr
                dsimp only at r0 r1 r2
                have hne' : ((nb : Int) == (m : Int)) = false := by simp; omega
                go_wp2
                go_quiet (fail)
                go_wp2
                refine ⟨⟨ni + 1, nb, hlt, by simp, rfl, Nat.le_trans (Nat.le_of_eq hP.out.symm) (pos_mono k v (xs.zip ys) ni), hBs nq⟩, by simp [intOf]; omega⟩
        · go_wp2
          go_quiet (fail)
          have hBin := hBq nq
          clear t0 t1 u0 u1 k0 k1 k2 v0 v1 v2 o0 o1 o2 s0 s1 s2 hB hBq
          go_wp2
          go_loopw [11] (fun at' wr => ∃ nb : Nat, at' = .int .i64 nb ∧ Hid (nb ≤ P) ∧ Below W2.heap.size W2 wr) (fun at' _ => P + 1 - (intOf at').toNat)
          case atStart => exact ⟨na, rfl, hna, hBin⟩
          case round =>
            clear hBin
            obtain ⟨nb, rfl, hnb, hBr⟩ := hrel
            obtain ⟨t0, t1, u0, u1, k0, k1, k2, v0, v1, v2, o0, o1, o2⟩ := KCf.out _ hBr
            obtain ⟨s0, s1, s2⟩ := hxc.out _ hBr
            have hBs : ∀ nq, Below W2.heap.size W2 (wr.drewN nq) := fun nq => ⟨hBr.os, hBr.tape, hBr.output, hBr.size, hBr.block⟩
            have hbm : nb < m := by have := hnb.out; omega
            have hbm2 : (nb : Int) < (m : Int) := by omega
            dsimp only at s0 s1 s2
            by_cases hq : nb < P
            · obtain ⟨z, hz, hzn⟩ := hbef.out nb hq
              obtain ⟨r0, r1, r2⟩ := hzc.out nb z hz _ hBr
              obtain ⟨zk, zn, zs, zwk, zwn, zws⟩ := z
              dsimp only at r0 r1 r2
              replace hz : Hid _ := hz
              replace hzn : Hid _ := hzn
              by_cases f1 : zk = xk
              · subst f1
                by_cases f2 : zn = xn
                · subst f2
                  have f3 : ¬ zs.toList = xz.toList := fun e => hzn.out (Vl.ext' rfl rfl e)
                  go_wp2
                  go_quiet (fail)
                  go_wp2
                  refine ⟨⟨nb + 1, by simp, hq, hBs nq⟩, by simp [intOf]; omega⟩
                · go_wp2
                  go_quiet (fail)
                  go_wp2
                  refine ⟨⟨nb + 1, by simp, hq, hBs nq⟩, by simp [intOf]; omega⟩
              · go_wp2
                go_quiet (fail)
                go_wp2
                refine ⟨⟨nb + 1, by simp, hq, hBs nq⟩, by simp [intOf]; omega⟩
            · obtain rfl : nb = P := by have := hnb.out; omega
              obtain ⟨r0, r1, r2⟩ := hzc.out nb _ hPat.out _ hBr
              dsimp only at r0 r1 r2
              have hne' : ((nb : Int) == (m : Int)) = false := by simp; omega
              go_wp2
              go_quiet (fail)
              go_wp2
              refine ⟨⟨ni + 1, nb, hlt, by simp, rfl, Nat.le_trans (Nat.le_of_eq hP.out.symm) (pos_mono k v (xs.zip ys) ni), hBs nq⟩, by simp [intOf]; omega⟩
    · obtain rfl : ni = xs.length := by omega
      go_wp2
      go_ret
      exact ⟨rfl, hb0.trans (hB.mono hb0.size)⟩

end Go.Proofs.Ytcfkkmelenjjoaa
