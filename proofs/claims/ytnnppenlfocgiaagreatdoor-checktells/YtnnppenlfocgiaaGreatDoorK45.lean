/- CheckTells, walked. -/
import Derived.Test.YtnnppenlfocgiaaGreatDoorK42
import Derived.Test.YtnnppenlfocgiaaGreatDoorK44
import Derived.Test.YtnnppenlfocgiaaGreatDoorK14
namespace Go.Proofs.YtnnppenlfocgiaaGreatDoor
open Go.RowKit
open Go

set_option maxRecDepth 20000 in
set_option maxHeartbeats 4000000 in
theorem tells_fault (s : ByteArray) (w : World) (c a : Int)
    (h4 : Calls Tryz.prog 4 #[.string s] w fun e w' => ∃ b cap, e = .returned (.tuple #[ndv nil0 b cap, .agg #[.int .i64 c, .int .i64 a]]) ∧ NdV (fun g => w.heap.size ≤ g) w' nil0 (ndv nil0 b cap) ∧ Below w.heap.size w w')
    (h5 : ∀ u, Below w.heap.size w u → Calls Tryz.prog 5 #[.string s] u fun e w' => ∃ sb sc, e = .returned (.tuple #[.slice sb 0 sc, .agg #[.int .i64 c, .int .i64 a]]) ∧ Below u.heap.size u w')
    (h6 : ∀ u, Calls Tryz.prog 6 #[.string s] u fun e w' => ∃ B nn b cap sl ls, e = .returned (.pointer (some ⟨B, 0, none⟩)) ∧ Lo u B nn b cap sl ls c a true w') :
    Calls Tryz.prog 3 #[.string s] w fun e w' => e = .returned (.bool true) ∧ Below w.heap.size w w' := by
  replace h4 : Calls Tryz.prog 4 #[.string s] w fun e w' => ∃ b cap, e = .returned (.tuple #[.agg #[.int .i64 0, .string ⟨#[]⟩, .int .i64 0, .slice b 0 cap], .agg #[.int .i64 c, .int .i64 a]]) ∧ NdV (fun g => w.heap.size ≤ g) w' nil0 (ndv nil0 b cap) ∧ Below w.heap.size w w' := h4
  replace h5 : Hid _ := h5
  replace h6 : Hid _ := h6
  go_enter Tryz.func3, Tryz.ntmps3
  go_wp2_with (first
    | (go_at_call 4; refine h4.mono ?_; rintro e w1 ⟨b, cap, rfl, hN, hb1⟩)
    | (go_at_call 5; refine Hid.out ?_))
  have hbA : Below w1.heap.size w1 ((w1.alloc (.cells #[.int .i64 0, .string ⟨#[]⟩, .int .i64 0, .slice b 0 cap] 24)).alloc (.cells #[.int .i64 c, .int .i64 a] 27)) := ext_alloc (ext_alloc (Below.refl _ _) _) _
  have gD : ((w1.alloc (.cells #[.int .i64 0, .string ⟨#[]⟩, .int .i64 0, .slice b 0 cap] 24)).alloc (.cells #[.int .i64 c, .int .i64 a] 27)).heap[w1.heap.size]? = some (.cells #[.int .i64 0, .string ⟨#[]⟩, .int .i64 0, .slice b 0 cap] 24) := block_alloc _ (alloc_new _ _)
  have gC : ((w1.alloc (.cells #[.int .i64 0, .string ⟨#[]⟩, .int .i64 0, .slice b 0 cap] 24)).alloc (.cells #[.int .i64 c, .int .i64 a] 27)).heap[w1.heap.size + 1]? = some (.cells #[.int .i64 c, .int .i64 a] 27) := by
    have := alloc_new (w1.alloc (.cells #[.int .i64 0, .string ⟨#[]⟩, .int .i64 0, .slice b 0 cap] 24)) (.cells #[.int .i64 c, .int .i64 a] 27)
    rw [World.size_alloc] at this
    exact this
  obtain ⟨U, hU⟩ : ∃ U, (w1.alloc (.cells #[.int .i64 0, .string ⟨#[]⟩, .int .i64 0, .slice b 0 cap] 24)).alloc (.cells #[.int .i64 c, .int .i64 a] 27) = U := ⟨_, rfl⟩
  rw [hU] at hbA gD gC
  replace hU : (w1.alloc (.cells #[.int .i64 0, .string ⟨#[]⟩, .int .i64 0, .slice b 0 cap] 24)).alloc (.cells #[.int .i64 c, .int .i64 a] 27) = U := hU
  rw [hU]
  clear hU
  have hbU := ext_trans hb1 hbA
  have hNU := hN.below hbA
  obtain ⟨T, hT⟩ : ∃ T, w1.heap.size = T := ⟨_, rfl⟩
  rw [hT] at gD gC
  rw [hT]
  have h5' := h5.out U hbU
  clear hT hN hbA hb1 h4 h5
  refine Lib.hid ?_
  go_wp2_with (first
    | (go_at_call 5; refine h5'.mono ?_; rintro e w2 ⟨sb, sc, rfl, hb2⟩)
    | (go_at_call 6; refine Hid.out ?_))
  have hbB : Below w2.heap.size w2 (w2.alloc (.cells #[.int .i64 c, .int .i64 a] 27)) := ext_alloc (Below.refl _ _) _
  have gF := alloc_new w2 (.cells #[.int .i64 c, .int .i64 a] 27)
  have gD2 := block_below hbB (block_below hb2 gD)
  have gC2 := block_below hbB (block_below hb2 gC)
  have hNV := (hNU.below hb2).below hbB
  have hbV := ext_trans (ext_trans hbU hb2) hbB
  obtain ⟨V, hV⟩ : ∃ V, w2.alloc (.cells #[.int .i64 c, .int .i64 a] 27) = V := ⟨_, rfl⟩
  obtain ⟨F, hF⟩ : ∃ F, w2.heap.size = F := ⟨_, rfl⟩
  rw [hF] at gF
  rw [hV] at gF gD2 gC2 hNV hbV
  rw [hV, hF]
  have h6' := h6.out V
  clear hV hF hbB hb2 hbU hNU gD gC h5' h6
  refine Lib.hid ?_
  go_wp2_with (go_at_call 6; refine h6'.mono ?_; rintro e w3 ⟨B, nn, b2, cap2, sl2, ls2, rfl, hLo⟩; refine Hid.out ?_)
  have hb3 := hLo.bl
  have gD3 := block_below hb3 gD2
  have gC3 := block_below hb3 gC2
  have gF3 := block_below hb3 gF
  have hN3 := hNV.below hb3
  have hbw := ext_trans hbV hb3
  obtain ⟨l8, _, l6, _, l7, _⟩ := hLo.cells
  obtain ⟨d0, d1, d2, d3, _, _, _, _⟩ := in4 gD3
  obtain ⟨e0, e1, _, _⟩ := in2 gC3
  obtain ⟨f0, f1, _, _⟩ := in2 gF3
  have hbd : Below w3.heap.size w3 w3.drew := (Below.refl _ _).drew
  have hsame := fun u (hb : Below w3.heap.size w3 u) => same_any nil0 _ (fun _ => True) b none cap 0 u (by decide) (hN3.below hb) (ndV_leaf _ u 0 [] 0)
  replace hsame : Hid _ := hsame
  clear h6' hLo gD2 gC2 gF hNV hbV gD3 gC3 gF3 hN3 hb3
  refine Lib.hid ?_
  go_wp2
  go_region_held3 (fun u => u.cell? ⟨T + 1, 0, none⟩ = some (.int .i64 c) ∧ u.cell? ⟨T + 1, 1, none⟩ = some (.int .i64 a) ∧ u.cell? ⟨B, 6, none⟩ = some (.int .i64 c) ∧ u.cell? ⟨B, 7, none⟩ = some (.int .i64 a) ∧ u.cell? ⟨F, 0, none⟩ = some (.int .i64 c) ∧ u.cell? ⟨F, 1, none⟩ = some (.int .i64 a)) (go_keep) (fail)
  have hs := hsame.out w3.drew hbd
  replace hs : Calls Tryz.prog 7 #[.agg #[.int .i64 0, .string ⟨#[]⟩, .int .i64 0, .slice b 0 cap], .agg #[.int .i64 0, .string ⟨#[]⟩, .int .i64 0, .slice none 0 0]] w3.drew fun e w' => e = .returned (.bool true) ∧ Below w3.drew.heap.size w3.drew w' := hs
  go_wp2_with (go_at_call 7; refine hs.mono ?_; rintro e w5 ⟨rfl, hb5⟩)
  go_ret
  exact ⟨rfl, ext_trans hbw.drew hb5⟩
theorem Lo.slots_at {w0 : World} {B : Nat} {u : Nd} {ub : Option Addr} {uc : Nat} {sl : List Int} {ls : List Ld} {c a : Int} {st : Bool} {W : World} (h : Lo w0 B u ub uc sl ls c a st W) : ∃ sb sc, W.cell? ⟨B, 4, none⟩ = some (.slice sb sl.length sc) ∧ SlAt w0.heap.size W sb sl ∧ W.cell? ⟨B, 0, none⟩ = some (.int .i64 u.k) ∧ W.cell? ⟨B, 1, none⟩ = some (sk u.t) ∧ W.cell? ⟨B, 2, none⟩ = some (.int .i64 u.n) ∧ W.cell? ⟨B, 3, none⟩ = some (.slice ub u.kids.length uc) := by
  obtain ⟨⟨sb, sc, lb, lc, h1, h2, h3, h4, h5⟩, h6, h7⟩ := h
  exact ⟨sb, sc, cell_block h1 rfl, SlAt.of h2, cell_block h1 rfl, cell_block h1 rfl, cell_block h1 rfl, cell_block h1 rfl⟩
set_option maxRecDepth 20000 in
set_option maxHeartbeats 8000000 in
theorem tells_ok (s : ByteArray) (w : World) (n : Nd) (sl : List Int) (hM : manyN n ≤ 600) (hsl : sl.length ≤ 100000)
    (h4 : Calls Tryz.prog 4 #[.string s] w fun e w' => ∃ b cap, e = .returned (.tuple #[ndv n b cap, .agg #[.int .i64 0, .int .i64 0]]) ∧ NdV (fun g => w.heap.size ≤ g) w' n (ndv n b cap) ∧ Below w.heap.size w w')
    (h5 : ∀ u, Below w.heap.size w u → Calls Tryz.prog 5 #[.string s] u fun e w' => ∃ sb sc, e = .returned (.tuple #[.slice sb sl.length sc, .agg #[.int .i64 0, .int .i64 0]]) ∧ SlAt u.heap.size w' sb sl ∧ Below u.heap.size u w')
    (h6 : ∀ u, Calls Tryz.prog 6 #[.string s] u fun e w' => ∃ B b cap ls, e = .returned (.pointer (some ⟨B, 0, none⟩)) ∧ Lo u B n b cap sl ls 0 0 false w' ∧ NdV (fun g => u.heap.size ≤ g) w' n (ndv n b cap)) :
    Calls Tryz.prog 3 #[.string s] w fun e w' => e = .returned (.bool true) ∧ Below w.heap.size w w' := by
  obtain ⟨k0, t0, n0, ks⟩ := n
  replace h5 : Hid _ := h5
  replace h6 : Hid _ := h6
  obtain ⟨L, hL⟩ : ∃ L, sl.length = L := ⟨_, rfl⟩
  replace hL : Hid _ := hL
  go_enter Tryz.func3, Tryz.ntmps3
  go_wp2_with (first
    | (go_at_call 4; refine h4.mono ?_; rintro e w1 ⟨b, cap, rfl, hN, hb1⟩)
    | (go_at_call 5; refine Hid.out ?_))
  have hbA : Below w1.heap.size w1 ((w1.alloc (nbx ⟨k0, t0, n0, ks⟩ b cap)).alloc (.cells #[.int .i64 0, .int .i64 0] 27)) := ext_alloc (ext_alloc (Below.refl _ _) _) _
  have gD : ((w1.alloc (nbx ⟨k0, t0, n0, ks⟩ b cap)).alloc (.cells #[.int .i64 0, .int .i64 0] 27)).heap[w1.heap.size]? = some (nbx ⟨k0, t0, n0, ks⟩ b cap) := block_alloc _ (alloc_new _ _)
  have gC : ((w1.alloc (nbx ⟨k0, t0, n0, ks⟩ b cap)).alloc (.cells #[.int .i64 0, .int .i64 0] 27)).heap[w1.heap.size + 1]? = some (.cells #[.int .i64 0, .int .i64 0] 27) := by
    have := alloc_new (w1.alloc (nbx ⟨k0, t0, n0, ks⟩ b cap)) (.cells #[.int .i64 0, .int .i64 0] 27)
    rw [World.size_alloc] at this
    exact this
  obtain ⟨U, hU⟩ : ∃ U, (w1.alloc (nbx ⟨k0, t0, n0, ks⟩ b cap)).alloc (.cells #[.int .i64 0, .int .i64 0] 27) = U := ⟨_, rfl⟩
  rw [hU] at hbA gD gC
  replace hU : (w1.alloc (.cells #[.int .i64 k0, sk t0, .int .i64 n0, .slice b ks.length cap] 24)).alloc (.cells #[.int .i64 0, .int .i64 0] 27) = U := hU
  rw [hU]
  clear hU
  have hbU := ext_trans hb1 hbA
  have hNU := hN.below hbA
  obtain ⟨T, hT⟩ : ∃ T, w1.heap.size = T := ⟨_, rfl⟩
  rw [hT] at gD gC
  rw [hT]
  have h5' := h5.out U hbU
  rw [hL.out] at h5'
  clear hT hN hbA hb1 h4 h5
  refine Lib.hid ?_
  go_wp2_with (first
    | (go_at_call 5; refine h5'.mono ?_; rintro e w2 ⟨sb, sc, rfl, hS2, hb2⟩)
    | (go_at_call 6; refine Hid.out ?_))
  have hbB : Below w2.heap.size w2 (w2.alloc (.cells #[.int .i64 0, .int .i64 0] 27)) := ext_alloc (Below.refl _ _) _
  have gF := alloc_new w2 (.cells #[.int .i64 0, .int .i64 0] 27)
  have gD2 := block_below hbB (block_below hb2 gD)
  have gC2 := block_below hbB (block_below hb2 gC)
  have hNV := (hNU.below hb2).below hbB
  have hbV := ext_trans (ext_trans hbU hb2) hbB
  have hSV := hS2.below hbB
  obtain ⟨V, hV⟩ : ∃ V, w2.alloc (.cells #[.int .i64 0, .int .i64 0] 27) = V := ⟨_, rfl⟩
  obtain ⟨F, hF⟩ : ∃ F, w2.heap.size = F := ⟨_, rfl⟩
  rw [hF] at gF
  rw [hV] at gF gD2 gC2 hNV hbV hSV
  rw [hV, hF]
  have h6' := h6.out V
  clear hV hF hbB hb2 hbU hNU gD gC h5' h6 hS2
  refine Lib.hid ?_
  go_wp2_with (go_at_call 6; refine h6'.mono ?_; rintro e w3 ⟨B, b2, cap2, ls2, rfl, hLo, hN2⟩; refine Hid.out ?_)
  have hb3 := hLo.bl
  have gD3 := block_below hb3 gD2
  have gC3 := block_below hb3 gC2
  have gF3 := block_below hb3 gF
  have hN3 := hNV.below hb3
  have hS3 := hSV.below hb3
  have hbw := ext_trans hbV hb3
  obtain ⟨l8, _, l6, _, l7, _⟩ := hLo.cells
  obtain ⟨lb, lc, l4, hSL, m0, m1, m2, m3⟩ := hLo.slots_at
  obtain ⟨d0, d1, d2, d3, _, _, _, _⟩ := in4 gD3
  obtain ⟨e0, e1, _, _⟩ := in2 gC3
  obtain ⟨f0, f1, _, _⟩ := in2 gF3
  simp only at d0 d1 d2 d3 m0 m1 m2 m3
  rw [hL.out] at l4
  have hbd : Below w3.heap.size w3 w3.drew := (Below.refl _ _).drew
  have hsame := fun u (hb : Below w3.heap.size w3 u) => same_any ⟨k0, t0, n0, ks⟩ _ _ b b2 cap cap2 u hM (hN3.below hb) (hN2.below hb)
  replace hsame : Hid _ := hsame
  replace hS3 : Hid (SlAt U.heap.size w3 sb sl) := hS3
  replace hSL : Hid (SlAt V.heap.size w3 lb sl) := hSL
  clear h6' hLo gD2 gC2 gF hNV hbV gD3 gC3 gF3 hN3 hN2 hb3 hSV
  have hs : Calls Tryz.prog 7 #[.agg #[.int .i64 k0, sk t0, .int .i64 n0, .slice b ks.length cap], .agg #[.int .i64 k0, sk t0, .int .i64 n0, .slice b2 ks.length cap2]] w3.drew.drew fun e w' => e = .returned (.bool true) ∧ Below w3.drew.drew.heap.size w3.drew.drew w' := hsame.out w3.drew.drew (hbd.drew)
  clear hsame
  have hlt : ∀ (p : Addr) (v : Value), w3.cell? p = some v → ∀ w5, Below w3.drew.drew.heap.size w3.drew.drew w5 → w5.cell? p = some v := fun p v hp w5 hb => (hb.cell (p := p) (World.block_lt_of_cell? _ _ hp)).trans hp
  replace hlt : Hid _ := hlt
  refine Lib.hid ?_
  go_wp2
  go_region_held3 (fun u => u.cell? ⟨T + 1, 0, none⟩ = some (.int .i64 0) ∧ u.cell? ⟨T + 1, 1, none⟩ = some (.int .i64 0) ∧ u.cell? ⟨B, 6, none⟩ = some (.int .i64 0) ∧ u.cell? ⟨B, 7, none⟩ = some (.int .i64 0) ∧ u.cell? ⟨F, 0, none⟩ = some (.int .i64 0) ∧ u.cell? ⟨F, 1, none⟩ = some (.int .i64 0)) (go_keep) (fail)
  go_wp2
  go_region_held3 (fun u => u.cell? ⟨B, 4, none⟩ = some (.slice lb L lc) ∧ u.cell? ⟨T, 0, none⟩ = some (.int .i64 k0) ∧ u.cell? ⟨T, 1, none⟩ = some (sk t0) ∧ u.cell? ⟨T, 2, none⟩ = some (.int .i64 n0) ∧ u.cell? ⟨T, 3, none⟩ = some (.slice b ks.length cap) ∧ u.cell? ⟨B, 0, none⟩ = some (.int .i64 k0) ∧ u.cell? ⟨B, 1, none⟩ = some (sk t0) ∧ u.cell? ⟨B, 2, none⟩ = some (.int .i64 n0) ∧ u.cell? ⟨B, 3, none⟩ = some (.slice b2 ks.length cap2)) (first | go_keep | (exact ⟨hlt.out _ _ l4 _ hb5, hlt.out _ _ d0 _ hb5, hlt.out _ _ d1 _ hb5, hlt.out _ _ d2 _ hb5, hlt.out _ _ d3 _ hb5, hlt.out _ _ m0 _ hb5, hlt.out _ _ m1 _ hb5, hlt.out _ _ m2 _ hb5, hlt.out _ _ m3 _ hb5⟩)) ((go_at_call 7; refine hs.mono ?_; rintro e w5 ⟨rfl, hb5⟩))
  have hb35 : Below w.heap.size w w5 := ext_trans (hbw.drew.drew) hb5
  replace hb5 : Hid (Below w3.drew.drew.heap.size w3.drew.drew w5) := hb5
  replace hbw : Hid (Below w.heap.size w w5) := hb35
  clear hb35 hs
  go_wp2
  go_loopw [8] (fun ix wr => ∃ j : Nat, j ≤ L ∧ ix = .int .i64 (j : Nat) ∧ Below w5.heap.size w5 wr) (fun ix _ => L - (intOf ix).toNat)
  case atStart => exact ⟨0, Nat.zero_le _, rfl, Below.refl _ _⟩
  case round =>
    obtain ⟨j, hj, rfl, hbr⟩ := hrel
    by_cases hjl : j < L
    · have hj1 : (j : Int) < (L : Int) := by omega
      have hj0 : (0 : Int) ≤ (j : Int) := by omega
      have hjs : j < sl.length := by have := hL.out; omega
      obtain ⟨x, hx⟩ : ∃ x, sl[j]? = some x := ⟨_, List.getElem?_eq_getElem hjs⟩
      have hto : ∀ (p : Addr) (v : Value), w3.cell? p = some v → wr.cell? p = some v := fun p v hp => by
        have h1 := hlt.out p v hp w5 hb5.out
        exact (hbr.cell (p := p) (World.block_lt_of_cell? _ _ h1)).trans h1
      rcases hS3.out with h | ⟨g1, rfl, _, _, hc1⟩
      · rw [h] at hjs; simp at hjs
      rcases hSL.out with h | ⟨g2, rfl, _, _, hc2⟩
      · rw [h] at hjs; simp at hjs
      have y1 := hto _ _ (hc1 j x hx)
      have y2 := hto _ _ (hc2 j x hx)
      have y3 := hto _ _ l4
      clear hto hc1 hc2 hx
      go_wp2
      go_region_held3 (fun u => u.cell? ⟨g1, j, none⟩ = some (.int .i64 x) ∧ u.cell? ⟨B, 4, none⟩ = some (.slice (some ⟨g2, 0, none⟩) L lc) ∧ u.cell? ⟨g2, j, none⟩ = some (.int .i64 x)) (go_keep) (fail)
      go_wp2
      go_roundw
      case rel => exact ⟨j + 1, by omega, by go_num, hbr.drew⟩
      case measure => simp [intOf]; omega
    · have hj1 : ¬ (j : Int) < (L : Int) := by omega
      go_wp2
      go_ret
      exact ⟨rfl, ext_trans hbw.out hbr⟩
theorem vis_unit_len {n : Nd} {sl : List Int} (hn : isN n) (hk : n.k = 1) (h : unitC n = .ok sl) : sl.length ≤ 1 + manyN n := by
  have key : ∀ (l : List Nd) (i : Nat) (c c' : Cs), (∀ y ∈ l, y.kids ≠ []) → funsC (n.kids.map Nd.t) i l c = .ok c' → c'.sl.length ≤ c.sl.length + manyN.go l := by
    intro l
    induction l with
    | nil => intro i c c' _ h; rw [funsC] at h; cases h; exact Nat.le_add_right _ _
    | cons x l ih =>
      intro i c c' hm h
      rw [funsC] at h
      obtain ⟨d, h1, h2⟩ := bind_ok h
      have h3 := (fun_len _ _ _ _ _ h1 (hm x (by simp))).1
      have h4 := ih _ _ _ (fun y hy => hm y (by simp [hy])) h2
      simp only [manyN.go]
      omega
  rw [unitC_eq] at h
  have hm := manyN_eq n
  cases hR : funsC (n.kids.map Nd.t) 0 n.kids ⟨[-1], []⟩ with
  | error e => rw [hR] at h; cases h
  | ok c =>
    have h3 := key n.kids 0 _ c (fun y hy => by
      obtain ⟨j, hj⟩ := List.getElem?_of_mem hy
      obtain ⟨k, t, o, ks⟩ := n
      simp only at hk hj
      subst hk
      rw [isN] at hn
      obtain ⟨_, _, _, _, _, _, _, _, h9⟩ := hn
      rw [isN_go] at h9
      have h := h9 j y hj
      have h1 := h.1
      unfold fitsK at h1
      rw [if_pos rfl] at h1
      intro e
      have h2 := h.2
      obtain ⟨yk, yt, yo, ys⟩ := y
      rw [isN] at h2
      have h3 := h2.1
      simp only at h1 e
      subst h1 e
      unfold kidsOK at h3
      simp at h3) hR
    rw [hR] at h
    cases hf : funI (n.kids.map Nd.t) W.main_ with
    | none => rw [endC_none _ _ hf] at h; cases h
    | some j =>
      rw [endC_some _ _ _ hf] at h
      split at h
      · cases h
      · cases h
        simp at h3
        omega
/-- CheckTells. -/
theorem tells_any (s : ByteArray) (w : World) (hE : ErrV w) (hsp : SpTab w) : Calls Tryz.prog 3 #[.string s] w fun e w' => e = .returned (.bool true) ∧ Below w.heap.size w w' := by
  cases hR : parseR s.data.toList with
  | inl x =>
    obtain ⟨c, a⟩ := x
    have hK : koOf (checkR (parseR s.data.toList)) = ⟨nil0, [], c, (a : Nat)⟩ := by rw [hR]; rfl
    exact tells_fault s w c (a : Nat) (check_any s w hE hsp _ hK) (fun u hb => (slots_any s u (hE.on hb) (hsp.below hb) _ hK).mono fun e w' ⟨sb, sc, h1, h2, h3⟩ => ⟨sb, sc, h1, h3⟩) (fun u => (all_fault s u c a hR).mono fun e w' ⟨B, b, cap, sl, ls, c', a', st, h1, h2, _, h3, h4, h5⟩ => ⟨B, nil0, b, cap, sl, ls, h1, by rw [← h3, ← h4, ← h5]; exact h2⟩)
  | inr n =>
    obtain ⟨hn, hk, hM⟩ := parse_sound hR
    cases hU : unitC n with
    | error e =>
      obtain ⟨c, a⟩ := e
      have hK : koOf (checkR (parseR s.data.toList)) = ⟨nil0, [], c, (a : Nat)⟩ := by rw [hR]; unfold checkR; simp only [hU]; rfl
      exact tells_fault s w c (a : Nat) (check_any s w hE hsp _ hK) (fun u hb => (slots_any s u (hE.on hb) (hsp.below hb) _ hK).mono fun e w' ⟨sb, sc, h1, h2, h3⟩ => ⟨sb, sc, h1, h3⟩) (fun u => (all_node s u n hR).mono fun e w' ⟨B, b, cap, sl, ls, c', a', st, h1, h2, _, h3⟩ => by
        rw [hU] at h3
        obtain ⟨h4, h5, h6⟩ := h3
        exact ⟨B, n, b, cap, sl, ls, h1, by rw [← h4, ← h5, ← h6]; exact h2⟩)
    | ok sl =>
      have hK : koOf (checkR (parseR s.data.toList)) = ⟨n, sl, 0, 0⟩ := by rw [hR]; unfold checkR; simp only [hU]; rfl
      have hl := vis_unit_len hn hk hU
      exact tells_ok s w n sl hM (by omega) (check_any s w hE hsp _ hK) (fun u hb => slots_any s u (hE.on hb) (hsp.below hb) _ hK) (fun u => (all_node s u n hR).mono fun e w' ⟨B, b, cap, sl', ls, c', a', st, h1, h2, hN, h3⟩ => by
        rw [hU] at h3
        obtain ⟨rfl, h4, h5, h6⟩ := h3
        exact ⟨B, b, cap, ls, h1, by rw [← h4, ← h6]; have := h2; rw [h5] at this; rw [h4] at this ⊢; exact this, hN⟩)
end Go.Proofs.YtnnppenlfocgiaaGreatDoor
