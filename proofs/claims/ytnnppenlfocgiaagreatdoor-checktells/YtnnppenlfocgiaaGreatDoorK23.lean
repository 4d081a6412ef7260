/- The document's reader: signs ahead. -/
import Derived.Test.YtnnppenlfocgiaaGreatDoorK19
namespace Go.Proofs.YtnnppenlfocgiaaGreatDoor
open Go.RowKit
open Go

theorem res143 {tm : Array Value} {W : World} {B : Nat} {a b c d : Value} (h : tm[2]?.getD undef = .pointer (some ⟨B, 0, none⟩)) (hx : W.heap[B]? = some (.cells #[a, b, c, d] 24)) : (results Tryz.f104 tm).run Tryz.prog W = .ok (.agg #[a, b, c, d]) W := by
  obtain ⟨c0, c1, c2, c3, _, _, _, _⟩ := in4 hx
  simp [results, Tryz.results104, go_sem, h, c0, c1, c2, c3]
abbrev sgs : Obj := .cells #[sk S.mi, sk W.not_, sk S.hs] 9
abbrev kds : Obj := .cells #[.int .i64 24, .int .i64 23, .int .i64 25] 3
/-- The boxes of unary. -/
structure UB (w U : World) (B : Nat) : Prop where
  z : U.heap[w.heap.size]? = some zbx
  s : U.heap[w.heap.size + 1]? = some sgs
  k : U.heap[w.heap.size + 1 + 1]? = some kds
  K : Keeps (fun q => q = B) w U
theorem UB.on {w U U' : World} {B : Nat} (h : UB w U B) (hB : B < w.heap.size) (hk : Keeps (fun q => q = B) U U') : UB w U' B := ⟨hk.box h.z (by omega), hk.box h.s (by omega), hk.box h.k (by omega), h.K.trans hk⟩
theorem ub_new (w : World) (B : Nat) : UB w (((w.alloc zbx).alloc sgs).alloc kds) B := by
  have h0 := alloc_new w zbx
  have h1 := alloc_new (w.alloc zbx) sgs
  have h2 := alloc_new ((w.alloc zbx).alloc sgs) kds
  rw [World.size_alloc] at h1
  rw [World.size_alloc, World.size_alloc] at h2
  exact ⟨block_alloc _ (block_alloc _ h0), block_alloc _ h1, h2, Keeps.of_below (ext_alloc (ext_alloc (ext_alloc (Below.refl _ _) _) _) _)⟩
theorem ub_below (w : World) : Below w.heap.size w (((w.alloc zbx).alloc sgs).alloc kds) := ext_alloc (ext_alloc (ext_alloc (Below.refl _ _) _) _) _
structure UBc (w U : World) : Prop where
  s0 : U.cell? ⟨w.heap.size + 1, 0, none⟩ = some (sk S.mi)
  s1 : U.cell? ⟨w.heap.size + 1, 1, none⟩ = some (sk W.not_)
  s2 : U.cell? ⟨w.heap.size + 1, 2, none⟩ = some (sk S.hs)
  k0 : U.cell? ⟨w.heap.size + 1 + 1, 0, none⟩ = some (.int .i64 24)
  k1 : U.cell? ⟨w.heap.size + 1 + 1, 1, none⟩ = some (.int .i64 23)
  k2 : U.cell? ⟨w.heap.size + 1 + 1, 2, none⟩ = some (.int .i64 25)
theorem UB.c {w U : World} {B : Nat} (h : UB w U B) : UBc w U := ⟨cell_block h.s rfl, cell_block h.s rfl, cell_block h.s rfl, cell_block h.k rfl, cell_block h.k rfl, cell_block h.k rfl⟩
/-- Between two of those behind. -/
def UnI (f t : Nat) (w : World) (B : Nat) (ts : List Tok) (Fin : Nat → Prop) (r : PRes) (g : Nd → List PT → PR) (k : Nat) (wr : World) : Prop :=
  ∃ (x : Nd) (b : Option Addr) (cap j : Nat) (bad : Bool), wr.heap[t]? = some (nbx x b cap) ∧ wr.heap[w.heap.size]? = some zbx ∧ NdV (fun q => w.heap.size < q ∧ q ≠ t) wr x (ndv x b cap) ∧ Dr wr B ts j bad ∧ Keeps (fun k => k = B) w wr ∧ k ≤ f ∧ Fl ts Fin r j bad (fun l => (P k 4 x 0 l).on g)
set_option maxRecDepth 20000 in
set_option maxHeartbeats 1000000 in
theorem un_0 (f : Nat) (hU : DUn f) (r : PRes) (Fin : Nat → Prop) (g : Nd → List PT → PR) (B : Nat) (ts : List Tok) (i : Nat) (w : World) (hF : FinOK ts Fin r) (hR : Dr w B ts i false) (hy : tx (rest ts i) = S.mi) (hP : (P f 1 nil0 0 (rest ts (i + 1))).on (fun x l => g (nd 24 [x]) l) = some r) : Calls Tryz.prog 104 #[.pointer (some ⟨B, 0, none⟩)] w (NA no w B ts Fin r g) := by
  have hBw := hR.lt
  have hub := ub_new w B
  have hb0 := ub_below w
  have hR0 := hR.below hb0
  obtain ⟨U, hU0⟩ : ∃ U, ((w.alloc zbx).alloc sgs).alloc kds = U := ⟨_, rfl⟩
  rw [hU0] at hub hR0 hb0
  replace hU0 : ((w.alloc (.cells #[.int .i64 0, .string ⟨#[]⟩, .int .i64 0, .slice none 0 0] 24)).alloc (.cells #[.string ⟨#[45]⟩, .string ⟨#[110, 111, 116]⟩, .string ⟨#[35]⟩] 9)).alloc (.cells #[.int .i64 24, .int .i64 23, .int .i64 25] 3) = U := hU0
  obtain ⟨s0, s1, s2, k0, k1, k2⟩ := hub.c
  have hTy := fun u h => eat_yes B ts i false S.mi hy (tx_lt hy (by decide)) u h
  go_enter Tryz.func104, Tryz.ntmps104
  go_wp2
  clear hU0
  refine wp_loop_rounds 4 ?_
  rw [rounds_succ]
  go_wp2_with (first | (go_at_call 31; refine (hTy _ hR0).mono ?_; rintro e w4 ⟨rfl, hR4, hk4⟩; have hub4 := hub.on hBw hk4) | (go_at_call 104; refine (hU r Fin _ B ts (i + 1) _ hF hR4 hP).mono ?_; rintro e w5 ⟨x, bx, cx, j, bad, rfl, hN, hR5, hk5, hFl⟩; refine Hid.out ?_))
  have hub5 := hub4.on hBw hk5
  obtain ⟨s0, s1, s2, k0, k1, k2⟩ := hub5.c
  have hz5 := block_lt hub4.k
  have hN5 : NdV (fun q => w.heap.size ≤ q ∧ q ≠ w.heap.size) w5 x (ndv x bx cx) := hN.weak (fun q hq _ => by have := hq.resolve_left id; exact ⟨by omega, by omega⟩)
  have hb6 := ext_alloc (Below.refl w5.heap.size w5) (nbx x bx cx)
  have gx := alloc_new w5 (nbx x bx cx)
  have hN6 := hN5.below hb6
  have hub6 := hub5.on hBw (Keeps.of_below hb6)
  have hR6 := hR5.below hb6
  obtain ⟨w6, hw6⟩ : ∃ w6, w5.alloc (nbx x bx cx) = w6 := ⟨_, rfl⟩
  rw [hw6] at gx hN6 hub6 hR6
  have hz6 := block_lt hub6.k
  obtain ⟨W7, hW7⟩ : ∃ W7, put4 (w6.alloc (nbx x bx cx)) w.heap.size (.int .i64 24) (sk []) (.int .i64 0) (.slice (some ⟨w6.heap.size, 0, none⟩) 1 1) = W7 := ⟨_, rfl⟩
  obtain ⟨hRow7, g7, hk7⟩ := one_box (D := fun q => w.heap.size ≤ q ∧ q ≠ w.heap.size) 24 0 hN6 (fun q hq => hq.2) ⟨by omega, by omega⟩ hub6.z hW7
  have hR7 := hR6.keep hk7 (fun q hq e => by omega)
  have hkw7 := hub6.K.then hk7 (fun q hq e => by omega)
  have hN7 := hRow7.node 24 [] 0
  replace hw6 : w5.alloc (.cells #[.int .i64 x.k, .string ⟨x.t.toArray⟩, .int .i64 x.n, .slice bx x.kids.length cx] 24) = w6 := hw6
  replace hW7 : ((((w6.alloc (.cells #[.int .i64 x.k, .string ⟨x.t.toArray⟩, .int .i64 x.n, .slice bx x.kids.length cx] 24)).setCell ⟨w.heap.size, 0, none⟩ (.int .i64 24)).setCell ⟨w.heap.size, 1, none⟩ (.string ⟨#[]⟩)).setCell ⟨w.heap.size, 2, none⟩ (.int .i64 0)).setCell ⟨w.heap.size, 3, none⟩ (.slice (some ⟨w6.heap.size, 0, none⟩) 1 1) = W7 := hW7
  obtain ⟨c0, c1, c2, c3, f0, f1, f2, f3⟩ := in4 hub6.z
  obtain ⟨x0, x1, x2, x3, y0, y1, y2, y3⟩ := in4a hub6.z
  obtain ⟨a0, a1, a2, a3, _, _, _, _⟩ := in4 gx
  obtain ⟨u0, u1, u2, v0, v1, v2⟩ := hub6.c
  have q0 := fun o => cellB (ext_alloc (Below.refl _ w6) o) v0
  have q1 := fun o => cellB (ext_alloc (Below.refl _ w6) o) v1
  have q2 := fun o => cellB (ext_alloc (Below.refl _ w6) o) v2
  have n1 : ¬ w.heap.size = w6.heap.size := by omega
  have n2 : ¬ w6.heap.size = w.heap.size := by omega
  replace hFl : Hid _ := hFl
  replace hN7 : Hid _ := hN7
  replace hR7 : Hid _ := hR7
  replace hkw7 : Hid _ := hkw7
  clear hF hP hU hTy hub hN hR5 hk5 hub5 hN5 hb6 gx hN6 hub6 hR6 hRow7 hk7 hR0 hR4 hk4 hub4 hR hb0
  refine Lib.hid ?_
  go_wp2
  go_region_with (fail)
  all_goals
    go_wp2
    have hd := (Below.refl W7.heap.size W7).drew
    refine bodyPost_ret (res143 (W := W7.drew) rfl g7) rfl ?_
    exact ⟨nd 24 [x], _, 1, j, bad, rfl, NdV.weak (NdV.below (x := nd 24 [x]) hN7.out hd) (fun q hq _ => .inr hq.1), hR7.out.below hd, hkw7.out.drew, hFl.out⟩
set_option maxRecDepth 20000 in
set_option maxHeartbeats 1000000 in
theorem un_1 (f : Nat) (hU : DUn f) (r : PRes) (Fin : Nat → Prop) (g : Nd → List PT → PR) (B : Nat) (ts : List Tok) (i : Nat) (w : World) (hF : FinOK ts Fin r) (hR : Dr w B ts i false) (hn0 : ¬ tx (rest ts i) = S.mi) (hy : tx (rest ts i) = W.not_) (hP : (P f 1 nil0 0 (rest ts (i + 1))).on (fun x l => g (nd 23 [x]) l) = some r) : Calls Tryz.prog 104 #[.pointer (some ⟨B, 0, none⟩)] w (NA no w B ts Fin r g) := by
  have hBw := hR.lt
  have hub := ub_new w B
  have hb0 := ub_below w
  have hR0 := hR.below hb0
  obtain ⟨U, hU0⟩ : ∃ U, ((w.alloc zbx).alloc sgs).alloc kds = U := ⟨_, rfl⟩
  rw [hU0] at hub hR0 hb0
  replace hU0 : ((w.alloc (.cells #[.int .i64 0, .string ⟨#[]⟩, .int .i64 0, .slice none 0 0] 24)).alloc (.cells #[.string ⟨#[45]⟩, .string ⟨#[110, 111, 116]⟩, .string ⟨#[35]⟩] 9)).alloc (.cells #[.int .i64 24, .int .i64 23, .int .i64 25] 3) = U := hU0
  obtain ⟨s0, s1, s2, k0, k1, k2⟩ := hub.c
  have hT0 := fun u h => eat_no B ts i false S.mi hn0 u h
  have hTy := fun u h => eat_yes B ts i false W.not_ hy (tx_lt hy (by decide)) u h
  go_enter Tryz.func104, Tryz.ntmps104
  go_wp2
  clear hU0
  refine wp_loop_rounds 4 ?_
  rw [rounds_succ]
  go_wp2_with (go_at_call 31; refine (hT0 _ hR0).mono ?_; rintro e w1 ⟨rfl, hx1⟩; have hR1 := hR0.below hx1; have hub1 := hub.on hBw (Keeps.of_below hx1); obtain ⟨s0, s1, s2, k0, k1, k2⟩ := hub1.c)
  rw [rounds_succ]
  go_wp2_with (first | (go_at_call 31; refine (hTy _ hR1).mono ?_; rintro e w4 ⟨rfl, hR4, hk4⟩; have hub4 := hub1.on hBw hk4) | (go_at_call 104; refine (hU r Fin _ B ts (i + 1) _ hF hR4 hP).mono ?_; rintro e w5 ⟨x, bx, cx, j, bad, rfl, hN, hR5, hk5, hFl⟩; refine Hid.out ?_))
  have hub5 := hub4.on hBw hk5
  obtain ⟨s0, s1, s2, k0, k1, k2⟩ := hub5.c
  have hz5 := block_lt hub4.k
  have hN5 : NdV (fun q => w.heap.size ≤ q ∧ q ≠ w.heap.size) w5 x (ndv x bx cx) := hN.weak (fun q hq _ => by have := hq.resolve_left id; exact ⟨by omega, by omega⟩)
  have hb6 := ext_alloc (Below.refl w5.heap.size w5) (nbx x bx cx)
  have gx := alloc_new w5 (nbx x bx cx)
  have hN6 := hN5.below hb6
  have hub6 := hub5.on hBw (Keeps.of_below hb6)
  have hR6 := hR5.below hb6
  obtain ⟨w6, hw6⟩ : ∃ w6, w5.alloc (nbx x bx cx) = w6 := ⟨_, rfl⟩
  rw [hw6] at gx hN6 hub6 hR6
  have hz6 := block_lt hub6.k
  obtain ⟨W7, hW7⟩ : ∃ W7, put4 (w6.alloc (nbx x bx cx)) w.heap.size (.int .i64 23) (sk []) (.int .i64 0) (.slice (some ⟨w6.heap.size, 0, none⟩) 1 1) = W7 := ⟨_, rfl⟩
  obtain ⟨hRow7, g7, hk7⟩ := one_box (D := fun q => w.heap.size ≤ q ∧ q ≠ w.heap.size) 23 0 hN6 (fun q hq => hq.2) ⟨by omega, by omega⟩ hub6.z hW7
  have hR7 := hR6.keep hk7 (fun q hq e => by omega)
  have hkw7 := hub6.K.then hk7 (fun q hq e => by omega)
  have hN7 := hRow7.node 23 [] 0
  replace hw6 : w5.alloc (.cells #[.int .i64 x.k, .string ⟨x.t.toArray⟩, .int .i64 x.n, .slice bx x.kids.length cx] 24) = w6 := hw6
  replace hW7 : ((((w6.alloc (.cells #[.int .i64 x.k, .string ⟨x.t.toArray⟩, .int .i64 x.n, .slice bx x.kids.length cx] 24)).setCell ⟨w.heap.size, 0, none⟩ (.int .i64 23)).setCell ⟨w.heap.size, 1, none⟩ (.string ⟨#[]⟩)).setCell ⟨w.heap.size, 2, none⟩ (.int .i64 0)).setCell ⟨w.heap.size, 3, none⟩ (.slice (some ⟨w6.heap.size, 0, none⟩) 1 1) = W7 := hW7
  obtain ⟨c0, c1, c2, c3, f0, f1, f2, f3⟩ := in4 hub6.z
  obtain ⟨x0, x1, x2, x3, y0, y1, y2, y3⟩ := in4a hub6.z
  obtain ⟨a0, a1, a2, a3, _, _, _, _⟩ := in4 gx
  obtain ⟨u0, u1, u2, v0, v1, v2⟩ := hub6.c
  have q0 := fun o => cellB (ext_alloc (Below.refl _ w6) o) v0
  have q1 := fun o => cellB (ext_alloc (Below.refl _ w6) o) v1
  have q2 := fun o => cellB (ext_alloc (Below.refl _ w6) o) v2
  have n1 : ¬ w.heap.size = w6.heap.size := by omega
  have n2 : ¬ w6.heap.size = w.heap.size := by omega
  replace hFl : Hid _ := hFl
  replace hN7 : Hid _ := hN7
  replace hR7 : Hid _ := hR7
  replace hkw7 : Hid _ := hkw7
  clear hF hP hU hTy hub hN hR5 hk5 hub5 hN5 hb6 gx hN6 hub6 hR6 hRow7 hk7 hR0 hR4 hk4 hub4 hR hb0
  refine Lib.hid ?_
  go_wp2
  go_region_with (fail)
  all_goals
    go_wp2
    have hd := (Below.refl W7.heap.size W7).drew
    refine bodyPost_ret (res143 (W := W7.drew) rfl g7) rfl ?_
    exact ⟨nd 23 [x], _, 1, j, bad, rfl, NdV.weak (NdV.below (x := nd 23 [x]) hN7.out hd) (fun q hq _ => .inr hq.1), hR7.out.below hd, hkw7.out.drew, hFl.out⟩
set_option maxRecDepth 20000 in
set_option maxHeartbeats 1000000 in
theorem un_2 (f : Nat) (hU : DUn f) (r : PRes) (Fin : Nat → Prop) (g : Nd → List PT → PR) (B : Nat) (ts : List Tok) (i : Nat) (w : World) (hF : FinOK ts Fin r) (hR : Dr w B ts i false) (hn0 : ¬ tx (rest ts i) = S.mi) (hn1 : ¬ tx (rest ts i) = W.not_) (hy : tx (rest ts i) = S.hs) (hP : (P f 1 nil0 0 (rest ts (i + 1))).on (fun x l => g (nd 25 [x]) l) = some r) : Calls Tryz.prog 104 #[.pointer (some ⟨B, 0, none⟩)] w (NA no w B ts Fin r g) := by
  have hBw := hR.lt
  have hub := ub_new w B
  have hb0 := ub_below w
  have hR0 := hR.below hb0
  obtain ⟨U, hU0⟩ : ∃ U, ((w.alloc zbx).alloc sgs).alloc kds = U := ⟨_, rfl⟩
  rw [hU0] at hub hR0 hb0
  replace hU0 : ((w.alloc (.cells #[.int .i64 0, .string ⟨#[]⟩, .int .i64 0, .slice none 0 0] 24)).alloc (.cells #[.string ⟨#[45]⟩, .string ⟨#[110, 111, 116]⟩, .string ⟨#[35]⟩] 9)).alloc (.cells #[.int .i64 24, .int .i64 23, .int .i64 25] 3) = U := hU0
  obtain ⟨s0, s1, s2, k0, k1, k2⟩ := hub.c
  have hT0 := fun u h => eat_no B ts i false S.mi hn0 u h
  have hT1 := fun u h => eat_no B ts i false W.not_ hn1 u h
  have hTy := fun u h => eat_yes B ts i false S.hs hy (tx_lt hy (by decide)) u h
  go_enter Tryz.func104, Tryz.ntmps104
  go_wp2
  clear hU0
  refine wp_loop_rounds 4 ?_
  rw [rounds_succ]
  go_wp2_with (go_at_call 31; refine (hT0 _ hR0).mono ?_; rintro e w1 ⟨rfl, hx1⟩; have hR1 := hR0.below hx1; have hub1 := hub.on hBw (Keeps.of_below hx1); obtain ⟨s0, s1, s2, k0, k1, k2⟩ := hub1.c)
  rw [rounds_succ]
  go_wp2_with (go_at_call 31; refine (hT1 _ hR1).mono ?_; rintro e w2 ⟨rfl, hx2⟩; have hR2 := hR1.below hx2; have hub2 := hub1.on hBw (Keeps.of_below hx2); obtain ⟨s0, s1, s2, k0, k1, k2⟩ := hub2.c)
  rw [rounds_succ]
  go_wp2_with (first | (go_at_call 31; refine (hTy _ hR2).mono ?_; rintro e w4 ⟨rfl, hR4, hk4⟩; have hub4 := hub2.on hBw hk4) | (go_at_call 104; refine (hU r Fin _ B ts (i + 1) _ hF hR4 hP).mono ?_; rintro e w5 ⟨x, bx, cx, j, bad, rfl, hN, hR5, hk5, hFl⟩; refine Hid.out ?_))
  have hub5 := hub4.on hBw hk5
  obtain ⟨s0, s1, s2, k0, k1, k2⟩ := hub5.c
  have hz5 := block_lt hub4.k
  have hN5 : NdV (fun q => w.heap.size ≤ q ∧ q ≠ w.heap.size) w5 x (ndv x bx cx) := hN.weak (fun q hq _ => by have := hq.resolve_left id; exact ⟨by omega, by omega⟩)
  have hb6 := ext_alloc (Below.refl w5.heap.size w5) (nbx x bx cx)
  have gx := alloc_new w5 (nbx x bx cx)
  have hN6 := hN5.below hb6
  have hub6 := hub5.on hBw (Keeps.of_below hb6)
  have hR6 := hR5.below hb6
  obtain ⟨w6, hw6⟩ : ∃ w6, w5.alloc (nbx x bx cx) = w6 := ⟨_, rfl⟩
  rw [hw6] at gx hN6 hub6 hR6
  have hz6 := block_lt hub6.k
  obtain ⟨W7, hW7⟩ : ∃ W7, put4 (w6.alloc (nbx x bx cx)) w.heap.size (.int .i64 25) (sk []) (.int .i64 0) (.slice (some ⟨w6.heap.size, 0, none⟩) 1 1) = W7 := ⟨_, rfl⟩
  obtain ⟨hRow7, g7, hk7⟩ := one_box (D := fun q => w.heap.size ≤ q ∧ q ≠ w.heap.size) 25 0 hN6 (fun q hq => hq.2) ⟨by omega, by omega⟩ hub6.z hW7
  have hR7 := hR6.keep hk7 (fun q hq e => by omega)
  have hkw7 := hub6.K.then hk7 (fun q hq e => by omega)
  have hN7 := hRow7.node 25 [] 0
  replace hw6 : w5.alloc (.cells #[.int .i64 x.k, .string ⟨x.t.toArray⟩, .int .i64 x.n, .slice bx x.kids.length cx] 24) = w6 := hw6
  replace hW7 : ((((w6.alloc (.cells #[.int .i64 x.k, .string ⟨x.t.toArray⟩, .int .i64 x.n, .slice bx x.kids.length cx] 24)).setCell ⟨w.heap.size, 0, none⟩ (.int .i64 25)).setCell ⟨w.heap.size, 1, none⟩ (.string ⟨#[]⟩)).setCell ⟨w.heap.size, 2, none⟩ (.int .i64 0)).setCell ⟨w.heap.size, 3, none⟩ (.slice (some ⟨w6.heap.size, 0, none⟩) 1 1) = W7 := hW7
  obtain ⟨c0, c1, c2, c3, f0, f1, f2, f3⟩ := in4 hub6.z
  obtain ⟨x0, x1, x2, x3, y0, y1, y2, y3⟩ := in4a hub6.z
  obtain ⟨a0, a1, a2, a3, _, _, _, _⟩ := in4 gx
  obtain ⟨u0, u1, u2, v0, v1, v2⟩ := hub6.c
  have q0 := fun o => cellB (ext_alloc (Below.refl _ w6) o) v0
  have q1 := fun o => cellB (ext_alloc (Below.refl _ w6) o) v1
  have q2 := fun o => cellB (ext_alloc (Below.refl _ w6) o) v2
  have n1 : ¬ w.heap.size = w6.heap.size := by omega
  have n2 : ¬ w6.heap.size = w.heap.size := by omega
  replace hFl : Hid _ := hFl
  replace hN7 : Hid _ := hN7
  replace hR7 : Hid _ := hR7
  replace hkw7 : Hid _ := hkw7
  clear hF hP hU hTy hub hN hR5 hk5 hub5 hN5 hb6 gx hN6 hub6 hR6 hRow7 hk7 hR0 hR4 hk4 hub4 hR hb0
  refine Lib.hid ?_
  go_wp2
  go_region_with (fail)
  all_goals
    go_wp2
    have hd := (Below.refl W7.heap.size W7).drew
    refine bodyPost_ret (res143 (W := W7.drew) rfl g7) rfl ?_
    exact ⟨nd 25 [x], _, 1, j, bad, rfl, NdV.weak (NdV.below (x := nd 25 [x]) hN7.out hd) (fun q hq _ => .inr hq.1), hR7.out.below hd, hkw7.out.drew, hFl.out⟩
set_option maxRecDepth 20000 in
set_option maxHeartbeats 1000000 in
theorem un_3 (f : Nat) (hM : DFst f) (hB : ∀ k, k < f → DBeh k) (r : PRes) (Fin : Nat → Prop) (g : Nd → List PT → PR) (B : Nat) (ts : List Tok) (i : Nat) (w : World) (hF : FinOK ts Fin r) (hR : Dr w B ts i false) (hn0 : ¬ tx (rest ts i) = S.mi) (hn1 : ¬ tx (rest ts i) = W.not_) (hn2 : ¬ tx (rest ts i) = S.hs) (hP : (P f 3 nil0 0 (rest ts i)).on (fun n l => (P f 4 n 0 l).on g) = some r) : Calls Tryz.prog 104 #[.pointer (some ⟨B, 0, none⟩)] w (NA no w B ts Fin r g) := by
  have hBw := hR.lt
  have hub := ub_new w B
  have hb0 := ub_below w
  have hR0 := hR.below hb0
  obtain ⟨U, hU0⟩ : ∃ U, ((w.alloc zbx).alloc sgs).alloc kds = U := ⟨_, rfl⟩
  rw [hU0] at hub hR0 hb0
  replace hU0 : ((w.alloc (.cells #[.int .i64 0, .string ⟨#[]⟩, .int .i64 0, .slice none 0 0] 24)).alloc (.cells #[.string ⟨#[45]⟩, .string ⟨#[110, 111, 116]⟩, .string ⟨#[35]⟩] 9)).alloc (.cells #[.int .i64 24, .int .i64 23, .int .i64 25] 3) = U := hU0
  obtain ⟨s0, s1, s2, k0, k1, k2⟩ := hub.c
  have hT0 := fun u h => eat_no B ts i false S.mi hn0 u h
  have hT1 := fun u h => eat_no B ts i false W.not_ hn1 u h
  have hT2 := fun u h => eat_no B ts i false S.hs hn2 u h
  go_enter Tryz.func104, Tryz.ntmps104
  go_wp2
  clear hU0
  refine wp_loop_rounds 4 ?_
  rw [rounds_succ]
  go_wp2_with (go_at_call 31; refine (hT0 _ hR0).mono ?_; rintro e w1 ⟨rfl, hx1⟩; have hR1 := hR0.below hx1; have hub1 := hub.on hBw (Keeps.of_below hx1); obtain ⟨s0, s1, s2, k0, k1, k2⟩ := hub1.c)
  rw [rounds_succ]
  go_wp2_with (go_at_call 31; refine (hT1 _ hR1).mono ?_; rintro e w2 ⟨rfl, hx2⟩; have hR2 := hR1.below hx2; have hub2 := hub1.on hBw (Keeps.of_below hx2); obtain ⟨s0, s1, s2, k0, k1, k2⟩ := hub2.c)
  rw [rounds_succ]
  go_wp2_with (go_at_call 31; refine (hT2 _ hR2).mono ?_; rintro e w3 ⟨rfl, hx3⟩; have hR3 := hR2.below hx3; have hub3 := hub2.on hBw (Keeps.of_below hx3); obtain ⟨s0, s1, s2, k0, k1, k2⟩ := hub3.c)
  rw [rounds_succ]
  go_wp2_with (go_at_call 123; refine (hM r Fin _ B ts i _ hF hR3 hP).mono ?_; rintro e w5 ⟨x, b, cap, j, bad, rfl, hN, hR5, hk5, hFl⟩; refine Hid.out ?_)
  have hub5 := hub3.on hBw hk5
  have hz3 := block_lt hub3.k
  have hz5 := block_lt hub5.k
  have hb6 := ext_alloc (Below.refl w5.heap.size w5) (nbx x b cap)
  have gt := alloc_new w5 (nbx x b cap)
  have hI : UnI f w5.heap.size w B ts Fin r g f (w5.alloc (nbx x b cap)) := ⟨x, b, cap, j, bad, gt, block_below hb6 hub5.z, (hN.weak (fun q hq hlt => by have := hq.resolve_left id; exact ⟨by omega, by omega⟩)).below hb6, hR5.below hb6, hub5.K.trans (Keeps.of_below hb6), Nat.le_refl _, hFl⟩
  obtain ⟨t, ht⟩ : ∃ t, w5.heap.size = t := ⟨_, rfl⟩
  rw [ht] at hI hz5
  clear hP hN hR5 hk5 hFl hb6 gt hb0 hub hub1 hub2 hub3 hub5 s0 s1 s2 k0 k1 k2 hT0 hT1 hT2 hR0 hR1 hR2 hR3 hx1 hx2 hx3 hR
  refine Lib.hid ?_
  go_wp2
  clear ht
  go_loopg [31] f (fun k _ wr => UnI f t w B ts Fin r g k wr)
  case atStart => exact hI
  case round =>
    obtain ⟨x, b, cap, j, bad, p3, p2, hN, hR1, hk, hgf, hFl⟩ := hrel
    clear hI
    have hz3 := block_lt p3
    have hz2 := block_lt p2
    obtain ⟨c0, c1, c2, c3, f0, f1, f2, f3⟩ := in4 p3
    obtain ⟨d0, d1, d2, d3, e0, e1, e2, e3⟩ := in4 p2
    obtain ⟨b', cap', s0, s1, s2, v1, v2⟩ := hR1.cells
    have hNw : NdV (fun q => (no q ∨ w.heap.size ≤ q) ∧ q ≠ w.heap.size) wr x (ndv x b cap) := hN.weak (fun q hq _ => ⟨.inr (by omega), by omega⟩)
    rcases hFl with ⟨rfl, hFi⟩ | ⟨rfl, hP⟩
    · go_wp2
      refine bodyPost_ret (res143 rfl (put4_same _ _ _ _ p2)) rfl ?_
      exact na_close hNw hR1 hk (Nat.le_refl _) hBw (.inl ⟨rfl, hFi⟩)
    have hT := fun u (h : Dr u B ts j false) => text_any B ts j false u h
    rw [show txd ts j false = tx (rest ts j) from rfl] at hT
    cases gk with
    | zero => cases hP
    | succ k =>
    dsimp only at hP
    rw [P, ite_on] at hP
    by_cases hlb : tx (rest ts j) = S.lb
    · rw [if_pos (.inl hlb), on_on] at hP
      rw [hlb] at hT
      have hcall := fun u (h : Dr u B ts j false) (hN' : NdV (fun q => w.heap.size < q ∧ q ≠ t) u x (ndv x b cap)) => hB k (by omega) x b cap _ r Fin _ B ts j u hF h hN' (fun q hq => by omega) hP
      clear hlb
      have hcall2 := fun u (hb : Below wr.heap.size wr u) => hcall u (hR1.below hb) (hN.below hb)
      clear hP hcall
      go_wp2_with (first | (go_at_call 30; refine (hT wr hR1).mono ?_; rintro e w2 ⟨rfl, hb2⟩; have q3 := block_below hb2 p3; have q2 := block_below hb2 p2; obtain ⟨c0, c1, c2, c3, f0, f1, f2, f3⟩ := in4 q3) | (go_at_call 89; refine (hcall2 _ hb2).mono ?_; rintro e w4 ⟨x2, b2, cap2, j2, bad2, rfl, hN2, hR2, hk2, hFl2⟩; have r3 := hk2.box q3 (by omega); have r2 := hk2.box q2 (by omega); obtain ⟨c0, c1, c2, c3, f0, f1, f2, f3⟩ := in4 r3))
      have hz4 := hb2.size
      have hkw := (hk.trans (Keeps.of_below hb2)).trans hk2
      go_roundg k
      case measure => omega
      case rel => exact ⟨x2, b2, cap2, j2, bad2, put4_same _ _ _ _ r3, (put4_other _ _ _ _ (by omega)).trans r2, (hN2.weak (fun q hq _ => by rcases hq with hq | hq; exact hq; exact ⟨by omega, by omega⟩)).put4 _ _ _ _ _ (fun q hq => hq.2), hR2.put4 _ _ _ _ _ (by omega), put4_keeps hkw _ _ _ _ _ (by omega), by omega, hFl2⟩
    by_cases hlp : tx (rest ts j) = S.lp
    · rw [if_pos (.inr hlp), on_on] at hP
      rw [hlp] at hT
      have hcall := fun u (h : Dr u B ts j false) (hN' : NdV (fun q => w.heap.size < q ∧ q ≠ t) u x (ndv x b cap)) => hB k (by omega) x b cap _ r Fin _ B ts j u hF h hN' (fun q hq => by omega) hP
      clear hlp hlb
      have hcall2 := fun u (hb : Below wr.heap.size wr u) => hcall u (hR1.below hb) (hN.below hb)
      clear hP hcall
      go_wp2_with (first | (go_at_call 30; refine (hT wr hR1).mono ?_; rintro e w2 ⟨rfl, hb2⟩; have q3 := block_below hb2 p3; have q2 := block_below hb2 p2; obtain ⟨c0, c1, c2, c3, f0, f1, f2, f3⟩ := in4 q3) | (go_at_call 30; refine (hT w2 (hR1.below hb2)).mono ?_; rintro e w3 ⟨rfl, hb3⟩; have hb23 := ext_trans hb2 hb3; have q33 := block_below hb3 q3; have q23 := block_below hb3 q2; obtain ⟨c0, c1, c2, c3, f0, f1, f2, f3⟩ := in4 q33; obtain ⟨d0, d1, d2, d3, e0, e1, e2, e3⟩ := in4 q23) | (go_at_call 89; refine (hcall2 _ hb23).mono ?_; rintro e w4 ⟨x2, b2, cap2, j2, bad2, rfl, hN2, hR2, hk2, hFl2⟩; have r3 := hk2.box q33 (by omega); have r2 := hk2.box q23 (by omega); obtain ⟨c0, c1, c2, c3, f0, f1, f2, f3⟩ := in4 r3))
      have hz4 := hb23.size
      have hkw := (hk.trans (Keeps.of_below hb23)).trans hk2
      go_roundg k
      case measure => omega
      case rel => exact ⟨x2, b2, cap2, j2, bad2, put4_same _ _ _ _ r3, (put4_other _ _ _ _ (by omega)).trans r2, (hN2.weak (fun q hq _ => by rcases hq with hq | hq; exact hq; exact ⟨by omega, by omega⟩)).put4 _ _ _ _ _ (fun q hq => hq.2), hR2.put4 _ _ _ _ _ (by omega), put4_keeps hkw _ _ _ _ _ (by omega), by omega, hFl2⟩
    rw [if_neg (by rintro (h | h); exact hlb h; exact hlp h)] at hP
    obtain ⟨tt, htt⟩ : ∃ tt, tx (rest ts j) = tt := ⟨_, rfl⟩
    rw [htt] at hT hlb hlp
    have g1 : (tt == [91]) = false := by simpa using hlb
    have g2 : (tt == [40]) = false := by simpa using hlp
    clear htt hlb hlp
    go_wp2_with (first | (go_at_call 30; refine (hT wr hR1).mono ?_; rintro e w2 ⟨rfl, hb2⟩; have q3 := block_below hb2 p3; have q2 := block_below hb2 p2) | (go_at_call 30; refine (hT w2 (hR1.below hb2)).mono ?_; rintro e w3 ⟨rfl, hb3⟩; have hb23 := ext_trans hb2 hb3; have q33 := block_below hb3 q3; have q23 := block_below hb3 q2; obtain ⟨c0, c1, c2, c3, f0, f1, f2, f3⟩ := in4 q33; obtain ⟨d0, d1, d2, d3, e0, e1, e2, e3⟩ := in4 q23))
    refine bodyPost_ret (res143 rfl (put4_same _ _ _ _ q23)) rfl ?_
    exact na_close (hNw.below hb23) (hR1.below hb23) (hk.trans (Keeps.of_below hb23)) (Nat.le_refl _) hBw (.inr ⟨rfl, hP⟩)
theorem unary_of (f : Nat) (hU : DUn f) (hM : DFst f) (hB : ∀ k, k < f → DBeh k) : DUn (f + 1) := by
  intro r Fin g B ts i w hF hR hP
  rw [P, ite_on] at hP
  split at hP
  · rename_i h
    rw [on_on, rest_tail] at hP
    exact un_0 f hU r Fin g B ts i w hF hR h hP
  rename_i h0
  rw [ite_on] at hP
  split at hP
  · rename_i h
    rw [on_on, rest_tail] at hP
    exact un_1 f hU r Fin g B ts i w hF hR h0 h hP
  rename_i h1
  rw [ite_on] at hP
  split at hP
  · rename_i h
    rw [on_on, rest_tail] at hP
    exact un_2 f hU r Fin g B ts i w hF hR h0 h1 h hP
  rename_i h2
  rw [on_on] at hP
  exact un_3 f hM hB r Fin g B ts i w hF hR h0 h1 h2 hP
end Go.Proofs.YtnnppenlfocgiaaGreatDoor
