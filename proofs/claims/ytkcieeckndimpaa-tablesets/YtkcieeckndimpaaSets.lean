/- TableSets, walked. -/
import Derived.Test.YtkcieeckndimpaaRSetL
import Derived.Test.YtkcieeckndimpaaRSame
namespace Go.Proofs.Ytkcieeckndimpaa
open Go.RowKit Go.Shelf
open Go

set_option linter.unusedSectionVars false
variable [DecidableEq Vl]

theorem rset_any (ks vs : Value) (xs ys : List Vl) (k v : Vl) (w : World) (hT : Tab w.heap.size w ks vs xs ys) :
    Calls Try.prog 17 #[.agg #[ks, vs], k.v, v.v] w fun e w' => ∃ a m c a' m' c', e = .returned (.tuple #[.agg #[.slice a m c, .slice a' m' c'], .int .i64 (setT xs ys k v).2]) ∧
      Tab w'.heap.size w' (.slice a m c) (.slice a' m' c') (keysOf (setT xs ys k v).1) (valsOf (setT xs ys k v).1) ∧ Below w.heap.size w w' := by
  have err : ∀ ec : Int, setT xs ys k v = ([], ec) → (Calls Try.prog 17 #[.agg #[ks, vs], k.v, v.v] w fun e w' => e = .returned (.tuple #[.agg #[.slice none 0 0, .slice none 0 0], .int .i64 ec]) ∧ Below w.heap.size w w') → Calls Try.prog 17 #[.agg #[ks, vs], k.v, v.v] w fun e w' => ∃ a m c a' m' c', e = .returned (.tuple #[.agg #[.slice a m c, .slice a' m' c'], .int .i64 (setT xs ys k v).2]) ∧
      Tab w'.heap.size w' (.slice a m c) (.slice a' m' c') (keysOf (setT xs ys k v).1) (valsOf (setT xs ys k v).1) ∧ Below w.heap.size w w' := fun ec he h => by
    rw [he]
    exact h.mono fun e w' ⟨h1, h2⟩ => ⟨none, 0, 0, none, 0, 0, h1, tab_nil _ _, h2⟩
  cases h : mayT xs ys
  · exact err 2 (by simp [setT, h]) (rset_e1 ks vs xs ys k v w hT h)
  · cases h1 : mayB k.k k.n k.s
    · exact err 2 (by simp [setT, h1]) (rset_e2 ks vs xs ys k v w hT h h1)
    · cases h2 : mayB v.k v.n v.s
      · exact err 2 (by simp [setT, h2]) (rset_e3 ks vs xs ys k v w hT h h1 h2)
      · cases h3 : (k.k == 0)
        · obtain ⟨hl, hl', hx, hy, hn⟩ := mayT_parts h
          have hfu : ∀ p ∈ xs.zip ys, full p = true := fun p hp => by
            have := hy _ (List.of_mem_zip hp).2
            simp [stB] at this
            simp [full, this.1]
          have := rset_ok ks vs (xs.zip ys) (by rw [List.length_zip]; omega) k v w (by rw [zip_keys hl, zip_vals hl]; exact hT) (by rw [zip_keys hl, zip_vals hl]; exact h) h1 h2 h3 hfu (by rw [zip_keys hl]; exact hn)
          have e : setT xs ys k v = (if 100 < (setZ k v (xs.zip ys)).length then [] else setZ k v (xs.zip ys), if 100 < (setZ k v (xs.zip ys)).length then 1 else 0) := by
            have h3' : ¬ k.k = 0 := by simpa using h3
            unfold setT
            rw [if_neg (by simp [h, h1, h2]), if_neg h3']
            split <;> rfl
          rw [e]
          exact this
        · have h3' : k.k = 0 := by simpa using h3
          exact err 3 (by unfold setT; rw [if_neg (by simp [h, h1, h2]), if_pos h3']) (rset_e4 ks vs xs ys k v w hT h h1 h2 h3)

theorem setT_len (xs ys : List Vl) (k v : Vl) : (setT xs ys k v).1.length ≤ 100 := by
  unfold setT
  split
  · simp
  · split
    · simp
    · split
      · simp
      · rename_i h; simpa using h

set_option maxRecDepth 100000 in
set_option maxHeartbeats 2000000 in
theorem sets_any (ks vs : Value) (xs ys : List Vl) (k v : Vl) (w : World) (hT : Tab w.heap.size w ks vs xs ys) :
    Calls Try.prog 4 #[.agg #[ks, vs], k.v, v.v] w fun e w' => e = .returned (.bool true) ∧ Below w.heap.size w w' := by
  have hA := fun u (hb : Below w.heap.size w u) => set_any ks vs xs ys k v u ((hT.below hb).mono hb.size)
  have hB := fun u (hb : Below w.heap.size w u) => rset_any ks vs xs ys k v u ((hT.below hb).mono hb.size)
  have hlen := setT_len xs ys k v
  obtain ⟨Z, ec, hZ⟩ : ∃ Z ec, setT xs ys k v = (Z, ec) := ⟨_, _, rfl⟩
  rw [hZ] at hA hB hlen
  simp only at hA hB hlen
  have hk1 : (keysOf Z).length ≤ 1000 := by simp [keysOf]; omega
  have hk2 : (valsOf Z).length ≤ 1000 := by simp [valsOf]; omega
  obtain ⟨Zk, hZk⟩ : ∃ Zk, keysOf Z = Zk := ⟨_, rfl⟩
  obtain ⟨Zv, hZv⟩ : ∃ Zv, valsOf Z = Zv := ⟨_, rfl⟩
  rw [hZk, hZv] at hA hB
  rw [hZk] at hk1
  rw [hZv] at hk2
  clear hZ hZk hZv hlen
  obtain ⟨a, c1, rfl, _, _⟩ := hT.keys
  obtain ⟨a', c2, rfl, _, _⟩ := hT.vals
  have hSame := fun p q p' q' u (h1 : Tab (World.heap u).size u p q Zk Zv) (h2 : Tab u.heap.size u p' q' Zk Zv) => tsame_any p q p' q' Zk Zv u h1 h2 hk1 hk2
  have hb0 : Below w.heap.size w (((w.alloc (.cells #[.slice a xs.length c1, .slice a' ys.length c2] 24)).alloc (bx k)).alloc (bx v)) := (((Below.refl _ _).alloc (Nat.le_refl _) _).alloc (by simp) _).alloc (by simp; omega) _
  have ht := block_alloc (bx v) (block_alloc (bx k) (World.alloc_heap_new w (.cells #[.slice a xs.length c1, .slice a' ys.length c2] 24)))
  have hkb := block_alloc (bx v) (World.alloc_heap_new (w.alloc (.cells #[.slice a xs.length c1, .slice a' ys.length c2] 24)) (bx k))
  have hvb := World.alloc_heap_new ((w.alloc (.cells #[.slice a xs.length c1, .slice a' ys.length c2] 24)).alloc (bx k)) (bx v)
  simp only [World.size_alloc] at hkb hvb
  have hC := hA _ hb0
  replace hT : Hid _ := hT
  replace hB : Hid _ := hB
  replace hSame : Hid _ := hSame
  clear hA
  go_enter Try.func4, Try.ntmps4
  go_wp2_with (go_at_call 16; refine hC.mono ?_; rintro e w1 ⟨a1, m1, d1, a2, m2, d2, rfl, hT1, hb1⟩; refine Hid.out ?_)
  clear hC
  obtain ⟨o1, ho1⟩ : ∃ o1 : Obj, o1 = .cells #[.slice a1 m1 d1, .slice a2 m2 d2] 24 := ⟨_, rfl⟩
  have hn1 := World.alloc_heap_new w1 (.cells #[.slice a1 m1 d1, .slice a2 m2 d2] 24)
  replace ht := block_alloc (.cells #[.slice a1 m1 d1, .slice a2 m2 d2] 24) (block_below hb1 ht)
  replace hkb := block_alloc (.cells #[.slice a1 m1 d1, .slice a2 m2 d2] 24) (block_below hb1 hkb)
  replace hvb := block_alloc (.cells #[.slice a1 m1 d1, .slice a2 m2 d2] 24) (block_below hb1 hvb)
  replace hb0 := (hb0.trans (hb1.mono hb0.size)).alloc (by have := hb1.size; have := hb0.size; omega) (.cells #[.slice a1 m1 d1, .slice a2 m2 d2] 24)
  have x0 : (w1.alloc (.cells #[.slice a1 m1 d1, .slice a2 m2 d2] 24)).cell? ⟨w.heap.size, 0, none⟩ = some (.slice a xs.length c1) := cell_block ht rfl
  have x1 : (w1.alloc (.cells #[.slice a1 m1 d1, .slice a2 m2 d2] 24)).cell? ⟨w.heap.size, 1, none⟩ = some (.slice a' ys.length c2) := cell_block ht rfl
  obtain ⟨k0, k1, k2, _, _, _⟩ := in3 hkb
  obtain ⟨v0, v1, v2, _, _, _⟩ := in3 hvb
  have hC := hB.out _ hb0
  have hbA : Below w1.heap.size w1 (w1.alloc (.cells #[.slice a1 m1 d1, .slice a2 m2 d2] 24)) := (Below.refl _ _).alloc (Nat.le_refl _) _
  clear hB hb1 ho1
  refine Lib.hid ?_
  go_wp2_with (go_at_call 17; refine hC.mono ?_; rintro e w2 ⟨b1, n1, e1, b2, n2, e2, rfl, hT2, hb2⟩; refine Hid.out ?_)
  clear hC x0 x1 k0 k1 k2 v0 v1 v2
  have hn1' := block_alloc (.cells #[.slice b1 n1 e1, .slice b2 n2 e2] 24) (block_below hb2 hn1)
  have hn2 := World.alloc_heap_new w2 (.cells #[.slice b1 n1 e1, .slice b2 n2 e2] 24)
  have hbB : Below w2.heap.size w2 (w2.alloc (.cells #[.slice b1 n1 e1, .slice b2 n2 e2] 24)) := (Below.refl _ _).alloc (Nat.le_refl _) _
  have hb12 : Below w1.heap.size w1 (w2.alloc (.cells #[.slice b1 n1 e1, .slice b2 n2 e2] 24)) := (hbA.trans (hb2.mono hbA.size)).alloc (by have := hb2.size; have := hbA.size; omega) _
  have hS1 := (hT1.below hb12).mono hb12.size
  have hS2 := (hT2.below hbB).mono hbB.size
  have hbE := (hb0.trans (hb2.mono hb0.size)).alloc (by have := hb2.size; have := hb0.size; omega) (.cells #[.slice b1 n1 e1, .slice b2 n2 e2] 24)
  have x0 : (w2.alloc (.cells #[.slice b1 n1 e1, .slice b2 n2 e2] 24)).cell? ⟨w1.heap.size, 0, none⟩ = some (.slice a1 m1 d1) := cell_block hn1' rfl
  have x1 : (w2.alloc (.cells #[.slice b1 n1 e1, .slice b2 n2 e2] 24)).cell? ⟨w1.heap.size, 1, none⟩ = some (.slice a2 m2 d2) := cell_block hn1' rfl
  have x2 : (w2.alloc (.cells #[.slice b1 n1 e1, .slice b2 n2 e2] 24)).cell? ⟨w2.heap.size, 0, none⟩ = some (.slice b1 n1 e1) := cell_block hn2 rfl
  have x3 : (w2.alloc (.cells #[.slice b1 n1 e1, .slice b2 n2 e2] 24)).cell? ⟨w2.heap.size, 1, none⟩ = some (.slice b2 n2 e2) := cell_block hn2 rfl
  have hC := hSame.out _ _ _ _ _ hS1 hS2
  clear hSame hn1' hn2 hbB hb12 hS1 hS2 hT1 hT2 ht hkb hvb hn1 hbA hb2 hb0
  refine Lib.hid ?_
  go_wp2_with (go_at_call 18; refine hC.mono ?_; rintro e w3 ⟨rfl, hb3⟩)
  go_ret
  exact ⟨rfl, hbE.trans (hb3.mono hbE.size)⟩
end Go.Proofs.Ytkcieeckndimpaa
