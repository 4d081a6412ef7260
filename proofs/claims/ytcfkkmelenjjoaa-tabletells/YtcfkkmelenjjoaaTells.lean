/- TableTells: the program and the document answer alike. -/
import Derived.Test.YtcfkkmelenjjoaaRLen
namespace Go.Proofs.Ytcfkkmelenjjoaa
open Go.RowKit Go.Shelf
open Go

set_option linter.unusedSectionVars false
variable [DecidableEq Vl]

/-- What lies in memory at the law's last row. -/
structure Mem (w : World) (ks vs : Value) (xs ys : List Vl) (g y : Vl) (bv bw bn bm : Nat) (u : World) : Prop where
  ht : u.heap[w.heap.size]? = some (.cells #[ks, vs] 24)
  hv : u.heap[bv]? = some (bx g)
  hw : u.heap[bw]? = some (bx g)
  hn : u.heap[bn]? = some (bx y)
  hm : u.heap[bm]? = some (bx y)
  b : Below w.heap.size w u

theorem Mem.on {w : World} {ks vs : Value} {xs ys : List Vl} {g y : Vl} {bv bw bn bm : Nat} {u u' : World} (h : Mem w ks vs xs ys g y bv bw bn bm u) (hb : Below u.heap.size u u') : Mem w ks vs xs ys g y bv bw bn bm u' :=
  ⟨block_below hb h.ht, block_below hb h.hv, block_below hb h.hw, block_below hb h.hn, block_below hb h.hm, h.b.trans (hb.mono h.b.size)⟩

structure MemCells (w : World) (ks vs : Value) (g y : Vl) (bv bw bn bm : Nat) (u : World) : Prop where
  t0 : u.cell? ⟨w.heap.size, 0, none⟩ = some ks
  t1 : u.cell? ⟨w.heap.size, 1, none⟩ = some vs
  v0 : u.cell? ⟨bv, 0, none⟩ = some (.int .i64 g.k)
  v1 : u.cell? ⟨bv, 1, none⟩ = some (.int .i64 g.n)
  v2 : u.cell? ⟨bv, 2, none⟩ = some (.string g.s)
  w0 : u.cell? ⟨bw, 0, none⟩ = some (.int .i64 g.k)
  w1 : u.cell? ⟨bw, 1, none⟩ = some (.int .i64 g.n)
  w2 : u.cell? ⟨bw, 2, none⟩ = some (.string g.s)
  n0 : u.cell? ⟨bn, 0, none⟩ = some (.int .i64 y.k)
  n1 : u.cell? ⟨bn, 1, none⟩ = some (.int .i64 y.n)
  n2 : u.cell? ⟨bn, 2, none⟩ = some (.string y.s)
  m0 : u.cell? ⟨bm, 0, none⟩ = some (.int .i64 y.k)
  m1 : u.cell? ⟨bm, 1, none⟩ = some (.int .i64 y.n)
  m2 : u.cell? ⟨bm, 2, none⟩ = some (.string y.s)

theorem Mem.cells {w : World} {ks vs : Value} {xs ys : List Vl} {g y : Vl} {bv bw bn bm : Nat} {u : World} (h : Mem w ks vs xs ys g y bv bw bn bm u) : MemCells w ks vs g y bv bw bn bm u :=
  ⟨cell_block h.ht rfl, cell_block h.ht rfl, (in3 h.hv).c0, (in3 h.hv).c1, (in3 h.hv).c2, (in3 h.hw).c0, (in3 h.hw).c1, (in3 h.hw).c2, (in3 h.hn).c0, (in3 h.hn).c1, (in3 h.hn).c2, (in3 h.hm).c0, (in3 h.hm).c1, (in3 h.hm).c2⟩

set_option maxRecDepth 100000 in
set_option maxHeartbeats 4000000 in
theorem tells_any (ks vs : Value) (xs ys : List Vl) (k : Vl) (w : World) (hT : Tab w.heap.size w ks vs xs ys) :
    Calls Try.prog 3 #[.agg #[ks, vs], k.v] w fun e w' => e = .returned (.bool true) ∧ Below w.heap.size w w' := by
  obtain ⟨a, c1, rfl⟩ := hT.keys.slice
  obtain ⟨a', c2, rfl⟩ := hT.vals.slice
  obtain ⟨g, hg⟩ : ∃ g, getT xs ys k = g := ⟨_, rfl⟩
  obtain ⟨y, hy⟩ : ∃ y, (nextT xs ys k).1 = y := ⟨_, rfl⟩
  obtain ⟨ec, hec⟩ : ∃ ec, (nextT xs ys k).2 = ec := ⟨_, rfl⟩
  obtain ⟨bb, hbb⟩ : ∃ bb, mayT xs ys = bb := ⟨_, rfl⟩
  have C7 := fun u (hb : Below w.heap.size w u) => get_any (.slice a xs.length c1) (.slice a' ys.length c2) xs ys k u ((hT.below hb).mono hb.size)
  have C8 := fun u (hb : Below w.heap.size w u) => rget_any (.slice a xs.length c1) (.slice a' ys.length c2) xs ys k u ((hT.below hb).mono hb.size)
  have C9 := fun u (hb : Below w.heap.size w u) => next_any (.slice a xs.length c1) (.slice a' ys.length c2) xs ys k u ((hT.below hb).mono hb.size)
  have C10 := fun u (hb : Below w.heap.size w u) => rnext_any (.slice a xs.length c1) (.slice a' ys.length c2) xs ys k u ((hT.below hb).mono hb.size)
  have C11 := fun u (hb : Below w.heap.size w u) => len_any (.slice a xs.length c1) (.slice a' ys.length c2) xs ys u ((hT.below hb).mono hb.size)
  have D12 := fun u (hb : Below w.heap.size w u) => tmay_any (.slice a xs.length c1) (.slice a' ys.length c2) xs ys u ((hT.below hb).mono hb.size)
  have D13 := fun u (hb : Below w.heap.size w u) => rtmay_any (.slice a xs.length c1) (.slice a' ys.length c2) xs ys u ((hT.below hb).mono hb.size)
  have D15 := fun u (hb : Below w.heap.size w u) => rlen_any (.slice a xs.length c1) (.slice a' ys.length c2) xs ys u ((hT.below hb).mono hb.size)
  rw [hg] at C7 C8
  rw [hy, hec] at C9 C10
  rw [hbb] at D12 D13
  clear hg hy hec hbb hT
  replace C8 : Hid _ := C8
  replace C9 : Hid _ := C9
  replace C10 : Hid _ := C10
  replace C11 : Hid _ := C11
  replace D12 : Hid _ := D12
  replace D13 : Hid _ := D13
  replace D15 : Hid _ := D15
  obtain ⟨W0, hW0⟩ : ∃ W0, (w.alloc (.cells #[.slice a xs.length c1, .slice a' ys.length c2] 24)).alloc (bx k) = W0 := ⟨_, rfl⟩
  have hb : Below w.heap.size w W0 := by rw [← hW0]; exact ((Below.refl _ w).alloc (Nat.le_refl _) _).alloc (by simp) _
  have ht : W0.heap[w.heap.size]? = some (.cells #[.slice a xs.length c1, .slice a' ys.length c2] 24) := by rw [← hW0]; exact block_alloc _ (World.alloc_heap_new w _)
  have hk : W0.heap[w.heap.size + 1]? = some (bx k) := by
    have := World.alloc_heap_new (w.alloc (.cells #[.slice a xs.length c1, .slice a' ys.length c2] 24)) (bx k)
    simp only [World.size_alloc] at this
    rw [← hW0]; exact this
  replace C7 := C7 W0 hb
  rw [← hW0] at C7
  replace hW0 : Hid _ := hW0
  go_enter Try.func3, Try.ntmps3
  go_wp2_with (go_at_call 7; refine C7.mono ?_; rintro e w1 ⟨rfl, hb1⟩; refine Hid.out ?_)
  rw [hW0.out] at hb1
  replace ht := block_alloc (bx g) (block_below hb1 ht)
  replace hk := block_alloc (bx g) (block_below hb1 hk)
  have hv := World.alloc_heap_new w1 (bx g)
  replace hb := (hb.trans (hb1.mono hb.size)).alloc (by have := hb1.size; have := hb.size; omega) (bx g)
  have X := C8.out _ hb
  obtain ⟨k0, k1, k2, _, _, _⟩ := in3 hk
  have x0 : (w1.alloc (bx g)).cell? ⟨w.heap.size, 0, none⟩ = some (.slice a xs.length c1) := cell_block ht rfl
  have x1 : (w1.alloc (bx g)).cell? ⟨w.heap.size, 1, none⟩ = some (.slice a' ys.length c2) := cell_block ht rfl
  clear C7 C8 hb1 hW0
  refine Lib.hid ?_
  go_wp2_with (go_at_call 8; refine X.mono ?_; rintro e w2 ⟨rfl, hb1⟩; refine Hid.out ?_)
  replace ht := block_alloc (bx g) (block_below hb1 ht)
  replace hk := block_alloc (bx g) (block_below hb1 hk)
  replace hv := block_alloc (bx g) (block_below hb1 hv)
  have hw := World.alloc_heap_new w2 (bx g)
  replace hb := (hb.trans (hb1.mono hb.size)).alloc (by have := hb1.size; have := hb.size; omega) (bx g)
  clear X k0 k1 k2 x0 x1 hb1
  have X := C9.out _ hb
  obtain ⟨k0, k1, k2, _, _, _⟩ := in3 hk
  have x0 : (w2.alloc (bx g)).cell? ⟨w.heap.size, 0, none⟩ = some (.slice a xs.length c1) := cell_block ht rfl
  have x1 : (w2.alloc (bx g)).cell? ⟨w.heap.size, 1, none⟩ = some (.slice a' ys.length c2) := cell_block ht rfl
  clear C9
  refine Lib.hid ?_
  go_wp2_with (go_at_call 9; refine X.mono ?_; rintro e w3 ⟨rfl, hb1⟩; refine Hid.out ?_)
  replace ht := block_alloc (bx y) (block_below hb1 ht)
  replace hk := block_alloc (bx y) (block_below hb1 hk)
  replace hv := block_alloc (bx y) (block_below hb1 hv)
  replace hw := block_alloc (bx y) (block_below hb1 hw)
  have hn := World.alloc_heap_new w3 (bx y)
  replace hb := (hb.trans (hb1.mono hb.size)).alloc (by have := hb1.size; have := hb.size; omega) (bx y)
  clear X k0 k1 k2 x0 x1 hb1
  have X := C10.out _ hb
  obtain ⟨k0, k1, k2, _, _, _⟩ := in3 hk
  have x0 : (w3.alloc (bx y)).cell? ⟨w.heap.size, 0, none⟩ = some (.slice a xs.length c1) := cell_block ht rfl
  have x1 : (w3.alloc (bx y)).cell? ⟨w.heap.size, 1, none⟩ = some (.slice a' ys.length c2) := cell_block ht rfl
  clear C10
  refine Lib.hid ?_
  go_wp2_with (go_at_call 10; refine X.mono ?_; rintro e w4 ⟨rfl, hb1⟩; refine Hid.out ?_)
  replace ht := block_alloc (bx y) (block_below hb1 ht)
  replace hv := block_alloc (bx y) (block_below hb1 hv)
  replace hw := block_alloc (bx y) (block_below hb1 hw)
  replace hn := block_alloc (bx y) (block_below hb1 hn)
  have hm := World.alloc_heap_new w4 (bx y)
  replace hb := (hb.trans (hb1.mono hb.size)).alloc (by have := hb1.size; have := hb.size; omega) (bx y)
  clear X k0 k1 k2 x0 x1 hb1 hk
  have M0 : Mem w (.slice a xs.length c1) (.slice a' ys.length c2) xs ys g y w1.heap.size w2.heap.size w3.heap.size w4.heap.size (w4.alloc (bx y)) := ⟨ht, hv, hw, hn, hm, hb⟩
  clear ht hv hw hn hm hb
  have X := C11.out _ M0.b
  have x0 := M0.cells.t0
  have x1 := M0.cells.t1
  clear C11
  refine Lib.hid ?_
  go_wp2_with (go_at_call 11; refine X.mono ?_; rintro e w5 ⟨⟨ml, hml, rfl⟩, hb1⟩; refine Hid.out ?_)
  have M1 := M0.on hb1
  have M2 : Mem w (.slice a xs.length c1) (.slice a' ys.length c2) xs ys g y w1.heap.size w2.heap.size w3.heap.size w4.heap.size w5.drew := ⟨M1.ht, M1.hv, M1.hw, M1.hn, M1.hm, M1.b.drew⟩
  clear X M0 hb1 x0 x1
  have C12 : ∀ u, Mem w (.slice a xs.length c1) (.slice a' ys.length c2) xs ys g y w1.heap.size w2.heap.size w3.heap.size w4.heap.size u → Calls Try.prog 12 #[.agg #[.slice a xs.length c1, .slice a' ys.length c2]] u fun e u' => e = .returned (.bool bb) ∧ Mem w (.slice a xs.length c1) (.slice a' ys.length c2) xs ys g y w1.heap.size w2.heap.size w3.heap.size w4.heap.size u' := fun u hu => (D12.out u hu.b).mono (fun e u' ⟨he, hb⟩ => ⟨he, hu.on hb⟩)
  have C13 : ∀ u, Mem w (.slice a xs.length c1) (.slice a' ys.length c2) xs ys g y w1.heap.size w2.heap.size w3.heap.size w4.heap.size u → Calls Try.prog 13 #[.agg #[.slice a xs.length c1, .slice a' ys.length c2]] u fun e u' => e = .returned (.bool bb) ∧ Mem w (.slice a xs.length c1) (.slice a' ys.length c2) xs ys g y w1.heap.size w2.heap.size w3.heap.size w4.heap.size u' := fun u hu => (D13.out u hu.b).mono (fun e u' ⟨he, hb⟩ => ⟨he, hu.on hb⟩)
  have C14 : ∀ (z : Vl) u, Mem w (.slice a xs.length c1) (.slice a' ys.length c2) xs ys g y w1.heap.size w2.heap.size w3.heap.size w4.heap.size u → Calls Try.prog 14 #[z.v, z.v] u fun e u' => e = .returned (.bool true) ∧ Mem w (.slice a xs.length c1) (.slice a' ys.length c2) xs ys g y w1.heap.size w2.heap.size w3.heap.size w4.heap.size u' := fun z u hu => (rsame_any z z u).mono (fun e u' ⟨he, hw⟩ => ⟨by rw [he, decide_eq_true rfl], hu.on (by rw [hw]; exact ((Below.refl _ _).alloc (Nat.le_refl _) _).alloc (by simp) _)⟩)
  have C15 : ∀ u, Mem w (.slice a xs.length c1) (.slice a' ys.length c2) xs ys g y w1.heap.size w2.heap.size w3.heap.size w4.heap.size u → Calls Try.prog 15 #[.agg #[.slice a xs.length c1, .slice a' ys.length c2]] u fun e u' => e = .returned (.int .i64 ml) ∧ Mem w (.slice a xs.length c1) (.slice a' ys.length c2) xs ys g y w1.heap.size w2.heap.size w3.heap.size w4.heap.size u' := fun u hu => (D15.out u hu.b).mono (fun e u' ⟨⟨m', hm', he⟩, hb⟩ => ⟨by rw [he, lenT_unique hm' hml], hu.on hb⟩)
  clear D12 D13 D15 hml
  obtain ⟨t0, t1, v0, v1, v2, y0, y1, y2, n0, n1, n2, m0, m1, m2⟩ := M1.cells
  clear M1
  refine Lib.hid ?_
  go_wp2
  go_region_held3 (fun u => u.cell? ⟨w.heap.size, 0, none⟩ = some (.slice a xs.length c1) ∧ u.cell? ⟨w.heap.size, 1, none⟩ = some (.slice a' ys.length c2) ∧ u.cell? ⟨w1.heap.size, 0, none⟩ = some (.int .i64 g.k) ∧ u.cell? ⟨w1.heap.size, 1, none⟩ = some (.int .i64 g.n) ∧ u.cell? ⟨w1.heap.size, 2, none⟩ = some (.string g.s) ∧ u.cell? ⟨w2.heap.size, 0, none⟩ = some (.int .i64 g.k) ∧ u.cell? ⟨w2.heap.size, 1, none⟩ = some (.int .i64 g.n) ∧ u.cell? ⟨w2.heap.size, 2, none⟩ = some (.string g.s) ∧ u.cell? ⟨w3.heap.size, 0, none⟩ = some (.int .i64 y.k) ∧ u.cell? ⟨w3.heap.size, 1, none⟩ = some (.int .i64 y.n) ∧ u.cell? ⟨w3.heap.size, 2, none⟩ = some (.string y.s) ∧ u.cell? ⟨w4.heap.size, 0, none⟩ = some (.int .i64 y.k) ∧ u.cell? ⟨w4.heap.size, 1, none⟩ = some (.int .i64 y.n) ∧ u.cell? ⟨w4.heap.size, 2, none⟩ = some (.string y.s)) (go_keep)
    (first
      | (go_at_call 12; refine (C12 _ M2).mono ?_; rintro e w6 ⟨rfl, M3⟩; obtain ⟨t0', t1', v0', v1', v2', y0', y1', y2', n0', n1', n2', m0', m1', m2'⟩ := M3.cells)
      | (go_at_call 13; refine (C13 _ M3).mono ?_; rintro e w7 ⟨rfl, M4⟩; obtain ⟨t0', t1', v0', v1', v2', y0', y1', y2', n0', n1', n2', m0', m1', m2'⟩ := M4.cells)
      | (go_at_call_of 14 g; refine (C14 g _ M4).mono ?_; rintro e w8 ⟨rfl, M5⟩; obtain ⟨t0', t1', v0', v1', v2', y0', y1', y2', n0', n1', n2', m0', m1', m2'⟩ := M5.cells)
      | (go_at_call_of 14 y; refine (C14 y _ M5).mono ?_; rintro e w9 ⟨rfl, M6⟩; obtain ⟨t0', t1', v0', v1', v2', y0', y1', y2', n0', n1', n2', m0', m1', m2'⟩ := M6.cells)
      | (go_at_call 15; refine (C15 _ M6).mono ?_; rintro e w10 ⟨rfl, M7⟩; obtain ⟨t0', t1', v0', v1', v2', y0', y1', y2', n0', n1', n2', m0', m1', m2'⟩ := M7.cells))
  go_wp2
  go_ret
  exact ⟨rfl, M7.b⟩

end Go.Proofs.Ytcfkkmelenjjoaa
