/- The document's reader: what stands first: the end, numbers, texts. The document's reader: what stands first: words and signs. The document's reader: what stands first: next. -/
import Derived.Test.YtnnppenlfocgiaaGreatDoorK33
namespace Go.Proofs.YtnnppenlfocgiaaGreatDoor
open Go.RowKit
open Go

theorem res157 {tm : Array Value} {W : World} {B : Nat} {a b c d : Value} (h : tm[2]?.getD undef = .pointer (some ⟨B, 0, none⟩)) (hx : W.heap[B]? = some (.cells #[a, b, c, d] 24)) : (results Tryz.f123 tm).run Tryz.prog W = .ok (.agg #[a, b, c, d]) W := by
  obtain ⟨c0, c1, c2, c3, _, _, _, _⟩ := in4 hx
  simp [results, Tryz.results123, go_sem, h, c0, c1, c2, c3]
set_option maxRecDepth 20000 in
set_option maxHeartbeats 1000000 in
theorem fst_end (B : Nat) (ts : List Tok) (i : Nat) (hi : i = ts.length) (r : PRes) (Fin : Nat → Prop) (g : Nd → List PT → PR) (w : World) (hR : Dr w B ts i false) (hFi : Fin i) : Calls Tryz.prog 123 #[.pointer (some ⟨B, 0, none⟩)] w (NA no w B ts Fin r g) := by
  have hb0 : Below w.heap.size w (w.alloc zbx) := ext_alloc (Below.refl _ _) _
  have hBw := hR.lt
  have hR0 := hR.below hb0
  have h2 := alloc_new w zbx
  obtain ⟨b, cap, s0, s1, s2, v1, v2⟩ := hR0.cells
  obtain ⟨U, hU⟩ : ∃ U, w.alloc zbx = U := ⟨_, rfl⟩
  rw [hU] at hb0 hR0 h2 s0 s1 s2 v1 v2
  replace hU : w.alloc (.cells #[.int .i64 0, .string ⟨#[]⟩, .int .i64 0, .slice none 0 0] 24) = U := hU
  obtain ⟨c0, c1, c2, c3, f0, f1, f2, f3⟩ := in4 h2
  rw [← hi] at s0
  have n1 : ¬ B = w.heap.size := by omega
  have n2 : ¬ w.heap.size = B := by omega
  clear hi
  go_enter Tryz.func123, Tryz.ntmps123
  go_wp2
  go_quiet (fail)
  go_wp2
  have hd : Below U.heap.size U (U.drewN nq) := drewN_below (Below.refl _ _)
  have hRf := (hR0.below hd).fail true
  have h2d := block_below hd h2
  have hkF : Keeps (fun q => q = B) w ((U.drewN nq).setCell ⟨B, 2, none⟩ (.bool true)) := ((Keeps.of_below hb0).trans (Keeps.of_below hd)).set B 2 _ (fun _ => rfl)
  refine bodyPost_ret (res157 rfl (put4_same _ _ _ _ ((set1_other _ _ (by omega)).trans h2d))) rfl ?_
  exact na_close (x := ⟨0, [], 0, []⟩) (b := none) (cap := 0) (ndV_leaf _ _ 0 [] 0) hRf hkF (Nat.le_refl _) hBw (.inl ⟨rfl, hFi⟩)
set_option maxRecDepth 20000 in
set_option maxHeartbeats 2000000 in
theorem fst_text (B : Nat) (ts : List Tok) (i : Nat) (t : List UInt8) (a : Nat) (hx : ts[i]? = some ⟨3, t, a⟩) (r : PRes) (Fin : Nat → Prop) (g : Nd → List PT → PR) (w : World) (hF : FinOK ts Fin r) (hR : Dr w B ts i false) (hP : g ⟨14, t, 0, []⟩ (rest ts (i + 1)) = some r) : Calls Tryz.prog 123 #[.pointer (some ⟨B, 0, none⟩)] w (NA no w B ts Fin r g) := by
  have hb0 : Below w.heap.size w (w.alloc zbx) := ext_alloc (Below.refl _ _) _
  have hBw := hR.lt
  have hR0 := hR.below hb0
  have h2 := alloc_new w zbx
  obtain ⟨b, cap, h1, ht, hcap⟩ := hR0.box
  obtain ⟨s0, s1, s2, v1, v2⟩ := drC h1
  have hs := hR.short
  obtain ⟨hi, _⟩ := List.getElem?_eq_some_iff.1 hx
  rcases ht with rfl | ⟨q, rfl, hg, hgw, hcells⟩
  · simp at hx
  have t0 : (w.alloc zbx).cell? ⟨q, i * 3, none⟩ = some (.int .i64 3) := hcells i _ hx 0 _ rfl
  have t1 := hcells i _ hx 1 _ rfl
  have t2 := hcells i _ hx 2 _ rfl
  dsimp only at t1 t2
  obtain ⟨n, hn⟩ : ∃ n, ts.length = n := ⟨_, rfl⟩
  rw [hn] at s0 hi hs hcap
  have hi' : (i : Int) < (n : Int) := by omega
  have hge : decide (n ≤ i) = false := decide_eq_false (by omega)
  obtain ⟨U, hU⟩ : ∃ U, w.alloc zbx = U := ⟨_, rfl⟩
  rw [hU] at hb0 hR0 h2 s0 s1 s2 v1 v2 t0 t1 t2
  replace hU : w.alloc (.cells #[.int .i64 0, .string ⟨#[]⟩, .int .i64 0, .slice none 0 0] 24) = U := hU
  have hqU : q < U.heap.size := World.block_lt_of_cell? _ _ t0
  have hBU : B < U.heap.size := World.block_lt_of_cell? _ _ s0
  have m1 : ¬ B = U.heap.size := by omega
  have m2 : ¬ U.heap.size = B := by omega
  have m3 : ¬ q = U.heap.size := by omega
  have m4 : ¬ U.heap.size = q := by omega
  clear hcells hx h1
  go_enter Tryz.func123, Tryz.ntmps123
  go_wp2
  go_quiet (fail)
  go_wp2
  have hd : Below U.heap.size U (U.drewN nq) := drewN_below (Below.refl _ _)
  have hRX := hR0.below hd
  have h2X := block_below hd h2
  have hbX := ext_trans hb0 hd
  have S0 := cellB hd s0
  have S1 := cellB hd s1
  have T0 := cellB hd t0
  have T1 := cellB hd t1
  have T2 := cellB hd t2
  have esz : (U.drewN nq).heap.size = U.heap.size := rfl
  obtain ⟨X, hX⟩ : ∃ X, U.drewN nq = X := ⟨_, rfl⟩
  rw [hX] at hRX h2X hbX S0 S1 T0 T1 T2 esz
  rw [hX]
  rw [← esz] at m1 m2 m3 m4
  clear hX hd s0 s1 s2 v1 v2 t0 t1 t2 hR0 h2 hb0 hqU hBU esz hU
  go_region_held3 (fun u => u.cell? ⟨B, 0, none⟩ = some (.slice (some ⟨q, 0, none⟩) n cap) ∧ u.cell? ⟨B, 1, none⟩ = some (.int .i64 (i : Nat)) ∧ u.cell? ⟨q, i * 3, none⟩ = some (.int .i64 3) ∧ u.cell? ⟨q, i * 3 + 1, none⟩ = some (.string ⟨t.toArray⟩) ∧ u.cell? ⟨q, i * 3 + 2, none⟩ = some (.int .i64 (a : Nat))) (go_keep) (fail)
  have hb4 := (ext_alloc (Below.refl X.heap.size X) (tbx 3 ⟨t.toArray⟩ (a : Nat))).drew
  have gT : (X.alloc (tbx 3 ⟨t.toArray⟩ (a : Nat))).drew.heap[X.heap.size]? = some (tbx 3 ⟨t.toArray⟩ (a : Nat)) := alloc_new X _
  have hRY := hRX.below hb4
  have h2Y := block_below hb4 h2X
  have hbY := ext_trans hbX hb4
  have hzY := block_lt h2X
  obtain ⟨Y, hY⟩ : ∃ Y, (X.alloc (tbx 3 ⟨t.toArray⟩ (a : Nat))).drew = Y := ⟨_, rfl⟩
  rw [hY] at hb4 gT hRY h2Y hbY
  replace hY : (X.alloc (.cells #[.int .i64 3, .string ⟨t.toArray⟩, .int .i64 (a : Nat)] 55)).drew = Y := hY
  rw [hY]
  obtain ⟨tb, htb⟩ : ∃ m, X.heap.size = m := ⟨_, rfl⟩
  rw [htb] at gT hzY m1 m2
  rw [htb]
  clear hY htb hb4 hRX h2X hbX S0 S1 T0 T1 T2 m3 m4
  obtain ⟨u0, u1⟩ := box44 gT
  obtain ⟨b', cap', s0, s1, s2, v1, v2⟩ := hRY.cells
  obtain ⟨d0, d1, d2, d3, e0, e1, e2, e3⟩ := in4 h2Y
  refine Lib.hid ?_
  go_wp2
  refine bodyPost_ret (res157 rfl (put4_same _ _ _ _ ((set1_other _ _ (by omega)).trans h2Y))) rfl ?_
  exact na_close (x := ⟨14, t, 0, []⟩) (b := none) (cap := 0) (ndV_leaf _ _ 14 t 0) (hRY.go (j := i + 1) (by omega)) ((Keeps.of_below hbY).set B 1 _ (fun _ => rfl)) (Nat.le_refl _) hBw (.inr ⟨rfl, hP⟩)
end Go.Proofs.YtnnppenlfocgiaaGreatDoor
namespace Go.Proofs.YtnnppenlfocgiaaGreatDoor
open Go.RowKit
open Go

abbrev wdsO : Obj := .cells #[sk W.nil_, sk W.true_, sk W.false_] 9
set_option maxRecDepth 20000 in
set_option maxHeartbeats 2000000 in
theorem fst_lp (k : Int) (f : Nat) (hE : DRow f) (B : Nat) (ts : List Tok) (i : Nat) (t : List UInt8) (a : Nat) (hx : ts[i]? = some ⟨k, t, a⟩) (r : PRes) (Fin : Nat → Prop) (g : Nd → List PT → PR) (w : World) (hF : FinOK ts Fin r) (hR : Dr w B ts i false) (q2 : (k == 2) = false) (q3 : (k == 3) = false) (hy : tx (rest ts i) = S.lp) (hP : (P f 0 nil0 0 (rest ts (i + 1))).on (fun n l => need S.rp l fun l => g n l) = some r) : Calls Tryz.prog 123 #[.pointer (some ⟨B, 0, none⟩)] w (NA no w B ts Fin r g) := by
  have hb0 : Below w.heap.size w (w.alloc zbx) := ext_alloc (Below.refl _ _) _
  have hBw := hR.lt
  have hR0 := hR.below hb0
  have h2 := alloc_new w zbx
  obtain ⟨b, cap, h1, ht, hcap⟩ := hR0.box
  obtain ⟨s0, s1, s2, v1, v2⟩ := drC h1
  have hs := hR.short
  obtain ⟨hi, _⟩ := List.getElem?_eq_some_iff.1 hx
  rcases ht with rfl | ⟨q, rfl, hg, hgw, hcells⟩
  · simp at hx
  have t0 : (w.alloc zbx).cell? ⟨q, i * 3, none⟩ = some (.int .i64 k) := hcells i _ hx 0 _ rfl
  have t1 := hcells i _ hx 1 _ rfl
  have t2 := hcells i _ hx 2 _ rfl
  dsimp only at t1 t2
  obtain ⟨n, hn⟩ : ∃ n, ts.length = n := ⟨_, rfl⟩
  rw [hn] at s0 hi hs hcap
  have hi' : (i : Int) < (n : Int) := by omega
  have hge : decide (n ≤ i) = false := decide_eq_false (by omega)
  obtain ⟨U, hU⟩ : ∃ U, w.alloc zbx = U := ⟨_, rfl⟩
  rw [hU] at hb0 hR0 h2 s0 s1 s2 v1 v2 t0 t1 t2
  replace hU : w.alloc (.cells #[.int .i64 0, .string ⟨#[]⟩, .int .i64 0, .slice none 0 0] 24) = U := hU
  have hqU : q < U.heap.size := World.block_lt_of_cell? _ _ t0
  have hBU : B < U.heap.size := World.block_lt_of_cell? _ _ s0
  have m1 : ¬ B = U.heap.size := by omega
  have m2 : ¬ U.heap.size = B := by omega
  have m3 : ¬ q = U.heap.size := by omega
  have m4 : ¬ U.heap.size = q := by omega
  clear hcells hx h1
  go_enter Tryz.func123, Tryz.ntmps123
  go_wp2
  go_quiet (fail)
  go_wp2
  have hd : Below U.heap.size U (U.drewN nq) := drewN_below (Below.refl _ _)
  have hRX := hR0.below hd
  have h2X := block_below hd h2
  have hbX := ext_trans hb0 hd
  have S0 := cellB hd s0
  have S1 := cellB hd s1
  have T0 := cellB hd t0
  have T1 := cellB hd t1
  have T2 := cellB hd t2
  have esz : (U.drewN nq).heap.size = U.heap.size := rfl
  obtain ⟨X, hX⟩ : ∃ X, U.drewN nq = X := ⟨_, rfl⟩
  rw [hX] at hRX h2X hbX S0 S1 T0 T1 T2 esz
  rw [hX]
  rw [← esz] at m1 m2 m3 m4
  clear hX hd s0 s1 s2 v1 v2 t0 t1 t2 hR0 h2 hb0 hqU hBU esz hU
  go_region_held3 (fun u => u.cell? ⟨B, 0, none⟩ = some (.slice (some ⟨q, 0, none⟩) n cap) ∧ u.cell? ⟨B, 1, none⟩ = some (.int .i64 (i : Nat)) ∧ u.cell? ⟨q, i * 3, none⟩ = some (.int .i64 k) ∧ u.cell? ⟨q, i * 3 + 1, none⟩ = some (.string ⟨t.toArray⟩) ∧ u.cell? ⟨q, i * 3 + 2, none⟩ = some (.int .i64 (a : Nat))) (go_keep) (fail)
  have hb4 := (ext_alloc (Below.refl X.heap.size X) (tbx k ⟨t.toArray⟩ (a : Nat))).drew
  have gT : (X.alloc (tbx k ⟨t.toArray⟩ (a : Nat))).drew.heap[X.heap.size]? = some (tbx k ⟨t.toArray⟩ (a : Nat)) := alloc_new X _
  have hRY := hRX.below hb4
  have h2Y := block_below hb4 h2X
  have hbY := ext_trans hbX hb4
  have hzY := block_lt h2X
  obtain ⟨Y, hY⟩ : ∃ Y, (X.alloc (tbx k ⟨t.toArray⟩ (a : Nat))).drew = Y := ⟨_, rfl⟩
  rw [hY] at hb4 gT hRY h2Y hbY
  replace hY : (X.alloc (.cells #[.int .i64 k, .string ⟨t.toArray⟩, .int .i64 (a : Nat)] 55)).drew = Y := hY
  rw [hY]
  obtain ⟨tb, htb⟩ : ∃ m, X.heap.size = m := ⟨_, rfl⟩
  rw [htb] at gT hzY m1 m2
  rw [htb]
  clear hY htb hb4 hRX h2X hbX S0 S1 T0 T1 T2 m3 m4
  obtain ⟨u0, u1⟩ := box44 gT
  obtain ⟨b', cap', s0, s1, s2, v1, v2⟩ := hRY.cells
  obtain ⟨d0, d1, d2, d3, e0, e1, e2, e3⟩ := in4 h2Y
  have hR1 := hRY
  have hk1 := Keeps.of_below (S := fun q => q = B) hbY
  have z1 := h2Y
  have hTy := fun u h => eat_yes B ts i false S.lp hy (tx_lt hy (by decide)) u h
  clear hRY hbY h2Y s0 s1 v1 v2
  refine Lib.hid ?_
  go_wp2_with (first | (go_at_call_of 31 (Value.string ⟨#[40]⟩); refine (hTy _ hR1).mono ?_; rintro e wy ⟨rfl, hRy, hxy⟩; have hky := hk1.trans hxy; have zy := hxy.box z1 (by omega); obtain ⟨d0, d1, d2, d3, e0, e1, e2, e3⟩ := in4 zy) | (go_at_call 88; refine (hE 0 r Fin _ B ts (i + 1) _ (by omega) hF hRy hP).mono ?_; rintro e w5 ⟨x, bx, cx, j, bad, rfl, hN, hR5, hk5, hFl⟩; refine Hid.out ?_))
  have z5 := hk5.box zy (by omega)
  have hzy := block_lt zy
  have hz5 := block_lt z5
  have hb6 := ext_alloc (Below.refl w5.heap.size w5) (nbx x bx cx)
  have gx := alloc_new w5 (nbx x bx cx)
  have z6 := block_below hb6 z5
  have hN6 : NdV (fun q => w.heap.size < q) _ x (ndv x bx cx) := (hN.weak (fun q hq _ => by have := hq.resolve_left id; omega)).below hb6
  have hM := must_any (s := S.rp) (by decide) hF hFl _ (hR5.below hb6)
  have hk6 := (hky.trans hk5).trans (Keeps.of_below hb6)
  clear hE hP hTy hN hR5 hk5 hFl d0 d1 d2 d3 e0 e1 e2 e3
  refine Lib.hid ?_
  go_wp2_with (go_at_call 28; refine hM.mono ?_; rintro e w7 ⟨rfl, j2, bad2, hR7, hk7, hFl7⟩; have g7 := hk7.box gx (by omega); have z7 := hk7.box z6 (by omega); obtain ⟨c0, c1, c2, c3, f0, f1, f2, f3⟩ := in4 g7; obtain ⟨d0, d1, d2, d3, e0, e1, e2, e3⟩ := in4 z7)
  refine bodyPost_ret (res157 rfl (put4_same _ _ _ _ z7)) rfl ?_
  exact na_close ((hN6.keep hk7 (fun q hq _ e => by omega)).weak (fun q hq _ => ⟨.inr (by omega), by omega⟩)) hR7 (hk6.trans hk7) (Nat.le_refl _) hBw hFl7
set_option maxRecDepth 20000 in
set_option maxHeartbeats 2000000 in
theorem fst_nil (k : Int) (B : Nat) (ts : List Tok) (i : Nat) (t : List UInt8) (a : Nat) (hx : ts[i]? = some ⟨k, t, a⟩) (r : PRes) (Fin : Nat → Prop) (g : Nd → List PT → PR) (w : World) (hF : FinOK ts Fin r) (hR : Dr w B ts i false) (q2 : (k == 2) = false) (q3 : (k == 3) = false) (hn0 : ¬ tx (rest ts i) = S.lp) (hy : tx (rest ts i) = W.nil_) (hP : g (nd 15 []) (rest ts (i + 1)) = some r) : Calls Tryz.prog 123 #[.pointer (some ⟨B, 0, none⟩)] w (NA no w B ts Fin r g) := by
  have hb0 : Below w.heap.size w (w.alloc zbx) := ext_alloc (Below.refl _ _) _
  have hBw := hR.lt
  have hR0 := hR.below hb0
  have h2 := alloc_new w zbx
  obtain ⟨b, cap, h1, ht, hcap⟩ := hR0.box
  obtain ⟨s0, s1, s2, v1, v2⟩ := drC h1
  have hs := hR.short
  obtain ⟨hi, _⟩ := List.getElem?_eq_some_iff.1 hx
  rcases ht with rfl | ⟨q, rfl, hg, hgw, hcells⟩
  · simp at hx
  have t0 : (w.alloc zbx).cell? ⟨q, i * 3, none⟩ = some (.int .i64 k) := hcells i _ hx 0 _ rfl
  have t1 := hcells i _ hx 1 _ rfl
  have t2 := hcells i _ hx 2 _ rfl
  dsimp only at t1 t2
  obtain ⟨n, hn⟩ : ∃ n, ts.length = n := ⟨_, rfl⟩
  rw [hn] at s0 hi hs hcap
  have hi' : (i : Int) < (n : Int) := by omega
  have hge : decide (n ≤ i) = false := decide_eq_false (by omega)
  obtain ⟨U, hU⟩ : ∃ U, w.alloc zbx = U := ⟨_, rfl⟩
  rw [hU] at hb0 hR0 h2 s0 s1 s2 v1 v2 t0 t1 t2
  replace hU : w.alloc (.cells #[.int .i64 0, .string ⟨#[]⟩, .int .i64 0, .slice none 0 0] 24) = U := hU
  have hqU : q < U.heap.size := World.block_lt_of_cell? _ _ t0
  have hBU : B < U.heap.size := World.block_lt_of_cell? _ _ s0
  have m1 : ¬ B = U.heap.size := by omega
  have m2 : ¬ U.heap.size = B := by omega
  have m3 : ¬ q = U.heap.size := by omega
  have m4 : ¬ U.heap.size = q := by omega
  clear hcells hx h1
  go_enter Tryz.func123, Tryz.ntmps123
  go_wp2
  go_quiet (fail)
  go_wp2
  have hd : Below U.heap.size U (U.drewN nq) := drewN_below (Below.refl _ _)
  have hRX := hR0.below hd
  have h2X := block_below hd h2
  have hbX := ext_trans hb0 hd
  have S0 := cellB hd s0
  have S1 := cellB hd s1
  have T0 := cellB hd t0
  have T1 := cellB hd t1
  have T2 := cellB hd t2
  have esz : (U.drewN nq).heap.size = U.heap.size := rfl
  obtain ⟨X, hX⟩ : ∃ X, U.drewN nq = X := ⟨_, rfl⟩
  rw [hX] at hRX h2X hbX S0 S1 T0 T1 T2 esz
  rw [hX]
  rw [← esz] at m1 m2 m3 m4
  clear hX hd s0 s1 s2 v1 v2 t0 t1 t2 hR0 h2 hb0 hqU hBU esz hU
  go_region_held3 (fun u => u.cell? ⟨B, 0, none⟩ = some (.slice (some ⟨q, 0, none⟩) n cap) ∧ u.cell? ⟨B, 1, none⟩ = some (.int .i64 (i : Nat)) ∧ u.cell? ⟨q, i * 3, none⟩ = some (.int .i64 k) ∧ u.cell? ⟨q, i * 3 + 1, none⟩ = some (.string ⟨t.toArray⟩) ∧ u.cell? ⟨q, i * 3 + 2, none⟩ = some (.int .i64 (a : Nat))) (go_keep) (fail)
  have hb4 := (ext_alloc (Below.refl X.heap.size X) (tbx k ⟨t.toArray⟩ (a : Nat))).drew
  have gT : (X.alloc (tbx k ⟨t.toArray⟩ (a : Nat))).drew.heap[X.heap.size]? = some (tbx k ⟨t.toArray⟩ (a : Nat)) := alloc_new X _
  have hRY := hRX.below hb4
  have h2Y := block_below hb4 h2X
  have hbY := ext_trans hbX hb4
  have hzY := block_lt h2X
  obtain ⟨Y, hY⟩ : ∃ Y, (X.alloc (tbx k ⟨t.toArray⟩ (a : Nat))).drew = Y := ⟨_, rfl⟩
  rw [hY] at hb4 gT hRY h2Y hbY
  replace hY : (X.alloc (.cells #[.int .i64 k, .string ⟨t.toArray⟩, .int .i64 (a : Nat)] 55)).drew = Y := hY
  rw [hY]
  obtain ⟨tb, htb⟩ : ∃ m, X.heap.size = m := ⟨_, rfl⟩
  rw [htb] at gT hzY m1 m2
  rw [htb]
  clear hY htb hb4 hRX h2X hbX S0 S1 T0 T1 T2 m3 m4
  obtain ⟨u0, u1⟩ := box44 gT
  obtain ⟨b', cap', s0, s1, s2, v1, v2⟩ := hRY.cells
  obtain ⟨d0, d1, d2, d3, e0, e1, e2, e3⟩ := in4 h2Y
  have hR1 := hRY
  have hk1 := Keeps.of_below (S := fun q => q = B) hbY
  have z1 := h2Y
  have hT0 := fun u h => eat_no B ts i false S.lp hn0 u h
  have hTy := fun u h => eat_yes B ts i false W.nil_ hy (tx_lt hy (by decide)) u h
  clear hRY hbY h2Y s0 s1 v1 v2
  refine Lib.hid ?_
  go_wp2_with (first | (go_at_call_of 31 (Value.string ⟨#[40]⟩); refine (hT0 _ hR1).mono ?_; rintro e w2 ⟨rfl, hx2⟩; have hR2 := hR1.below hx2; have hk2 := hk1.trans (Keeps.of_below hx2); have z2 := block_below hx2 z1))
  have hxw := ext_alloc (Below.refl w2.heap.size w2) wdsO
  have gw := alloc_new w2 wdsO
  have hR3 := hR2.below hxw
  have hk3 := hk2.trans (Keeps.of_below hxw)
  have z3 := block_below hxw z2
  obtain ⟨W3, hW3⟩ : ∃ W, w2.alloc wdsO = W := ⟨_, rfl⟩
  rw [hW3] at gw hR3 hk3 z3
  replace hW3 : w2.alloc (.cells #[.string ⟨#[110, 105, 108]⟩, .string ⟨#[116, 114, 117, 101]⟩, .string ⟨#[102, 97, 108, 115, 101]⟩] 9) = W3 := hW3
  rw [hW3]
  obtain ⟨gb, hgb⟩ : ∃ m, w2.heap.size = m := ⟨_, rfl⟩
  rw [hgb] at gw
  rw [hgb]
  have a0 : W3.cell? ⟨gb, 0, none⟩ = some (sk W.nil_) := cell_block gw rfl
  have a1 : W3.cell? ⟨gb, 1, none⟩ = some (sk W.true_) := cell_block gw rfl
  have a2 : W3.cell? ⟨gb, 2, none⟩ = some (sk W.false_) := cell_block gw rfl
  clear hW3 hgb gw hxw hR1 hk1 z1 hR2 hk2 z2 hx2 d0 d1 d2 d3 e0 e1 e2 e3 u0 u1 gT
  refine wp_loop_rounds 4 ?_
  rw [rounds_succ]
  go_wp2_with (go_at_call 31; refine (hTy _ hR3).mono ?_; rintro e wy ⟨rfl, hRy, hxy⟩; have hky := hk3.trans hxy; have zy := hxy.box z3 (by omega); obtain ⟨d0, d1, d2, d3, e0, e1, e2, e3⟩ := in4 zy)
  refine bodyPost_ret (res157 rfl (put4_same _ _ _ _ zy)) rfl ?_
  exact na_close (x := nd 15 []) (b := none) (cap := 0) (ndV_leaf _ _ 15 [] 0) hRy hky (Nat.le_refl _) hBw (.inr ⟨rfl, hP⟩)
set_option maxRecDepth 20000 in
set_option maxHeartbeats 2000000 in
theorem fst_true (k : Int) (B : Nat) (ts : List Tok) (i : Nat) (t : List UInt8) (a : Nat) (hx : ts[i]? = some ⟨k, t, a⟩) (r : PRes) (Fin : Nat → Prop) (g : Nd → List PT → PR) (w : World) (hF : FinOK ts Fin r) (hR : Dr w B ts i false) (q2 : (k == 2) = false) (q3 : (k == 3) = false) (hn0 : ¬ tx (rest ts i) = S.lp) (hn1 : ¬ tx (rest ts i) = W.nil_) (hy : tx (rest ts i) = W.true_) (hP : g (nd 16 []) (rest ts (i + 1)) = some r) : Calls Tryz.prog 123 #[.pointer (some ⟨B, 0, none⟩)] w (NA no w B ts Fin r g) := by
  have hb0 : Below w.heap.size w (w.alloc zbx) := ext_alloc (Below.refl _ _) _
  have hBw := hR.lt
  have hR0 := hR.below hb0
  have h2 := alloc_new w zbx
  obtain ⟨b, cap, h1, ht, hcap⟩ := hR0.box
  obtain ⟨s0, s1, s2, v1, v2⟩ := drC h1
  have hs := hR.short
  obtain ⟨hi, _⟩ := List.getElem?_eq_some_iff.1 hx
  rcases ht with rfl | ⟨q, rfl, hg, hgw, hcells⟩
  · simp at hx
  have t0 : (w.alloc zbx).cell? ⟨q, i * 3, none⟩ = some (.int .i64 k) := hcells i _ hx 0 _ rfl
  have t1 := hcells i _ hx 1 _ rfl
  have t2 := hcells i _ hx 2 _ rfl
  dsimp only at t1 t2
  obtain ⟨n, hn⟩ : ∃ n, ts.length = n := ⟨_, rfl⟩
  rw [hn] at s0 hi hs hcap
  have hi' : (i : Int) < (n : Int) := by omega
  have hge : decide (n ≤ i) = false := decide_eq_false (by omega)
  obtain ⟨U, hU⟩ : ∃ U, w.alloc zbx = U := ⟨_, rfl⟩
  rw [hU] at hb0 hR0 h2 s0 s1 s2 v1 v2 t0 t1 t2
  replace hU : w.alloc (.cells #[.int .i64 0, .string ⟨#[]⟩, .int .i64 0, .slice none 0 0] 24) = U := hU
  have hqU : q < U.heap.size := World.block_lt_of_cell? _ _ t0
  have hBU : B < U.heap.size := World.block_lt_of_cell? _ _ s0
  have m1 : ¬ B = U.heap.size := by omega
  have m2 : ¬ U.heap.size = B := by omega
  have m3 : ¬ q = U.heap.size := by omega
  have m4 : ¬ U.heap.size = q := by omega
  clear hcells hx h1
  go_enter Tryz.func123, Tryz.ntmps123
  go_wp2
  go_quiet (fail)
  go_wp2
  have hd : Below U.heap.size U (U.drewN nq) := drewN_below (Below.refl _ _)
  have hRX := hR0.below hd
  have h2X := block_below hd h2
  have hbX := ext_trans hb0 hd
  have S0 := cellB hd s0
  have S1 := cellB hd s1
  have T0 := cellB hd t0
  have T1 := cellB hd t1
  have T2 := cellB hd t2
  have esz : (U.drewN nq).heap.size = U.heap.size := rfl
  obtain ⟨X, hX⟩ : ∃ X, U.drewN nq = X := ⟨_, rfl⟩
  rw [hX] at hRX h2X hbX S0 S1 T0 T1 T2 esz
  rw [hX]
  rw [← esz] at m1 m2 m3 m4
  clear hX hd s0 s1 s2 v1 v2 t0 t1 t2 hR0 h2 hb0 hqU hBU esz hU
  go_region_held3 (fun u => u.cell? ⟨B, 0, none⟩ = some (.slice (some ⟨q, 0, none⟩) n cap) ∧ u.cell? ⟨B, 1, none⟩ = some (.int .i64 (i : Nat)) ∧ u.cell? ⟨q, i * 3, none⟩ = some (.int .i64 k) ∧ u.cell? ⟨q, i * 3 + 1, none⟩ = some (.string ⟨t.toArray⟩) ∧ u.cell? ⟨q, i * 3 + 2, none⟩ = some (.int .i64 (a : Nat))) (go_keep) (fail)
  have hb4 := (ext_alloc (Below.refl X.heap.size X) (tbx k ⟨t.toArray⟩ (a : Nat))).drew
  have gT : (X.alloc (tbx k ⟨t.toArray⟩ (a : Nat))).drew.heap[X.heap.size]? = some (tbx k ⟨t.toArray⟩ (a : Nat)) := alloc_new X _
  have hRY := hRX.below hb4
  have h2Y := block_below hb4 h2X
  have hbY := ext_trans hbX hb4
  have hzY := block_lt h2X
  obtain ⟨Y, hY⟩ : ∃ Y, (X.alloc (tbx k ⟨t.toArray⟩ (a : Nat))).drew = Y := ⟨_, rfl⟩
  rw [hY] at hb4 gT hRY h2Y hbY
  replace hY : (X.alloc (.cells #[.int .i64 k, .string ⟨t.toArray⟩, .int .i64 (a : Nat)] 55)).drew = Y := hY
  rw [hY]
  obtain ⟨tb, htb⟩ : ∃ m, X.heap.size = m := ⟨_, rfl⟩
  rw [htb] at gT hzY m1 m2
  rw [htb]
  clear hY htb hb4 hRX h2X hbX S0 S1 T0 T1 T2 m3 m4
  obtain ⟨u0, u1⟩ := box44 gT
  obtain ⟨b', cap', s0, s1, s2, v1, v2⟩ := hRY.cells
  obtain ⟨d0, d1, d2, d3, e0, e1, e2, e3⟩ := in4 h2Y
  have hR1 := hRY
  have hk1 := Keeps.of_below (S := fun q => q = B) hbY
  have z1 := h2Y
  have hT0 := fun u h => eat_no B ts i false S.lp hn0 u h
  have hT1 := fun u h => eat_no B ts i false W.nil_ hn1 u h
  have hTy := fun u h => eat_yes B ts i false W.true_ hy (tx_lt hy (by decide)) u h
  clear hRY hbY h2Y s0 s1 v1 v2
  refine Lib.hid ?_
  go_wp2_with (first | (go_at_call_of 31 (Value.string ⟨#[40]⟩); refine (hT0 _ hR1).mono ?_; rintro e w2 ⟨rfl, hx2⟩; have hR2 := hR1.below hx2; have hk2 := hk1.trans (Keeps.of_below hx2); have z2 := block_below hx2 z1))
  have hxw := ext_alloc (Below.refl w2.heap.size w2) wdsO
  have gw := alloc_new w2 wdsO
  have hR3 := hR2.below hxw
  have hk3 := hk2.trans (Keeps.of_below hxw)
  have z3 := block_below hxw z2
  obtain ⟨W3, hW3⟩ : ∃ W, w2.alloc wdsO = W := ⟨_, rfl⟩
  rw [hW3] at gw hR3 hk3 z3
  replace hW3 : w2.alloc (.cells #[.string ⟨#[110, 105, 108]⟩, .string ⟨#[116, 114, 117, 101]⟩, .string ⟨#[102, 97, 108, 115, 101]⟩] 9) = W3 := hW3
  rw [hW3]
  obtain ⟨gb, hgb⟩ : ∃ m, w2.heap.size = m := ⟨_, rfl⟩
  rw [hgb] at gw
  rw [hgb]
  have a0 : W3.cell? ⟨gb, 0, none⟩ = some (sk W.nil_) := cell_block gw rfl
  have a1 : W3.cell? ⟨gb, 1, none⟩ = some (sk W.true_) := cell_block gw rfl
  have a2 : W3.cell? ⟨gb, 2, none⟩ = some (sk W.false_) := cell_block gw rfl
  clear hW3 hgb gw hxw hR1 hk1 z1 hR2 hk2 z2 hx2 d0 d1 d2 d3 e0 e1 e2 e3 u0 u1 gT
  refine wp_loop_rounds 4 ?_
  rw [rounds_succ]
  go_wp2_with (go_at_call 31; refine (hT1 _ hR3).mono ?_; rintro e w4 ⟨rfl, hx4⟩; have hR4 := hR3.below hx4; have hk4 := hk3.trans (Keeps.of_below hx4); have z4 := block_below hx4 z3; have a0 := cellB hx4 a0; have a1 := cellB hx4 a1; have a2 := cellB hx4 a2)
  rw [rounds_succ]
  go_wp2_with (go_at_call 31; refine (hTy _ hR4).mono ?_; rintro e wy ⟨rfl, hRy, hxy⟩; have hky := hk4.trans hxy; have zy := hxy.box z4 (by omega); obtain ⟨d0, d1, d2, d3, e0, e1, e2, e3⟩ := in4 zy)
  refine bodyPost_ret (res157 rfl (put4_same _ _ _ _ zy)) rfl ?_
  exact na_close (x := nd 16 []) (b := none) (cap := 0) (ndV_leaf _ _ 16 [] 0) hRy hky (Nat.le_refl _) hBw (.inr ⟨rfl, hP⟩)
set_option maxRecDepth 20000 in
set_option maxHeartbeats 2000000 in
theorem fst_false (k : Int) (B : Nat) (ts : List Tok) (i : Nat) (t : List UInt8) (a : Nat) (hx : ts[i]? = some ⟨k, t, a⟩) (r : PRes) (Fin : Nat → Prop) (g : Nd → List PT → PR) (w : World) (hF : FinOK ts Fin r) (hR : Dr w B ts i false) (q2 : (k == 2) = false) (q3 : (k == 3) = false) (hn0 : ¬ tx (rest ts i) = S.lp) (hn1 : ¬ tx (rest ts i) = W.nil_) (hn2 : ¬ tx (rest ts i) = W.true_) (hy : tx (rest ts i) = W.false_) (hP : g (nd 17 []) (rest ts (i + 1)) = some r) : Calls Tryz.prog 123 #[.pointer (some ⟨B, 0, none⟩)] w (NA no w B ts Fin r g) := by
  have hb0 : Below w.heap.size w (w.alloc zbx) := ext_alloc (Below.refl _ _) _
  have hBw := hR.lt
  have hR0 := hR.below hb0
  have h2 := alloc_new w zbx
  obtain ⟨b, cap, h1, ht, hcap⟩ := hR0.box
  obtain ⟨s0, s1, s2, v1, v2⟩ := drC h1
  have hs := hR.short
  obtain ⟨hi, _⟩ := List.getElem?_eq_some_iff.1 hx
  rcases ht with rfl | ⟨q, rfl, hg, hgw, hcells⟩
  · simp at hx
  have t0 : (w.alloc zbx).cell? ⟨q, i * 3, none⟩ = some (.int .i64 k) := hcells i _ hx 0 _ rfl
  have t1 := hcells i _ hx 1 _ rfl
  have t2 := hcells i _ hx 2 _ rfl
  dsimp only at t1 t2
  obtain ⟨n, hn⟩ : ∃ n, ts.length = n := ⟨_, rfl⟩
  rw [hn] at s0 hi hs hcap
  have hi' : (i : Int) < (n : Int) := by omega
  have hge : decide (n ≤ i) = false := decide_eq_false (by omega)
  obtain ⟨U, hU⟩ : ∃ U, w.alloc zbx = U := ⟨_, rfl⟩
  rw [hU] at hb0 hR0 h2 s0 s1 s2 v1 v2 t0 t1 t2
  replace hU : w.alloc (.cells #[.int .i64 0, .string ⟨#[]⟩, .int .i64 0, .slice none 0 0] 24) = U := hU
  have hqU : q < U.heap.size := World.block_lt_of_cell? _ _ t0
  have hBU : B < U.heap.size := World.block_lt_of_cell? _ _ s0
  have m1 : ¬ B = U.heap.size := by omega
  have m2 : ¬ U.heap.size = B := by omega
  have m3 : ¬ q = U.heap.size := by omega
  have m4 : ¬ U.heap.size = q := by omega
  clear hcells hx h1
  go_enter Tryz.func123, Tryz.ntmps123
  go_wp2
  go_quiet (fail)
  go_wp2
  have hd : Below U.heap.size U (U.drewN nq) := drewN_below (Below.refl _ _)
  have hRX := hR0.below hd
  have h2X := block_below hd h2
  have hbX := ext_trans hb0 hd
  have S0 := cellB hd s0
  have S1 := cellB hd s1
  have T0 := cellB hd t0
  have T1 := cellB hd t1
  have T2 := cellB hd t2
  have esz : (U.drewN nq).heap.size = U.heap.size := rfl
  obtain ⟨X, hX⟩ : ∃ X, U.drewN nq = X := ⟨_, rfl⟩
  rw [hX] at hRX h2X hbX S0 S1 T0 T1 T2 esz
  rw [hX]
  rw [← esz] at m1 m2 m3 m4
  clear hX hd s0 s1 s2 v1 v2 t0 t1 t2 hR0 h2 hb0 hqU hBU esz hU
  go_region_held3 (fun u => u.cell? ⟨B, 0, none⟩ = some (.slice (some ⟨q, 0, none⟩) n cap) ∧ u.cell? ⟨B, 1, none⟩ = some (.int .i64 (i : Nat)) ∧ u.cell? ⟨q, i * 3, none⟩ = some (.int .i64 k) ∧ u.cell? ⟨q, i * 3 + 1, none⟩ = some (.string ⟨t.toArray⟩) ∧ u.cell? ⟨q, i * 3 + 2, none⟩ = some (.int .i64 (a : Nat))) (go_keep) (fail)
  have hb4 := (ext_alloc (Below.refl X.heap.size X) (tbx k ⟨t.toArray⟩ (a : Nat))).drew
  have gT : (X.alloc (tbx k ⟨t.toArray⟩ (a : Nat))).drew.heap[X.heap.size]? = some (tbx k ⟨t.toArray⟩ (a : Nat)) := alloc_new X _
  have hRY := hRX.below hb4
  have h2Y := block_below hb4 h2X
  have hbY := ext_trans hbX hb4
  have hzY := block_lt h2X
  obtain ⟨Y, hY⟩ : ∃ Y, (X.alloc (tbx k ⟨t.toArray⟩ (a : Nat))).drew = Y := ⟨_, rfl⟩
  rw [hY] at hb4 gT hRY h2Y hbY
  replace hY : (X.alloc (.cells #[.int .i64 k, .string ⟨t.toArray⟩, .int .i64 (a : Nat)] 55)).drew = Y := hY
  rw [hY]
  obtain ⟨tb, htb⟩ : ∃ m, X.heap.size = m := ⟨_, rfl⟩
  rw [htb] at gT hzY m1 m2
  rw [htb]
  clear hY htb hb4 hRX h2X hbX S0 S1 T0 T1 T2 m3 m4
  obtain ⟨u0, u1⟩ := box44 gT
  obtain ⟨b', cap', s0, s1, s2, v1, v2⟩ := hRY.cells
  obtain ⟨d0, d1, d2, d3, e0, e1, e2, e3⟩ := in4 h2Y
  have hR1 := hRY
  have hk1 := Keeps.of_below (S := fun q => q = B) hbY
  have z1 := h2Y
  have hT0 := fun u h => eat_no B ts i false S.lp hn0 u h
  have hT1 := fun u h => eat_no B ts i false W.nil_ hn1 u h
  have hT2 := fun u h => eat_no B ts i false W.true_ hn2 u h
  have hTy := fun u h => eat_yes B ts i false W.false_ hy (tx_lt hy (by decide)) u h
  clear hRY hbY h2Y s0 s1 v1 v2
  refine Lib.hid ?_
  go_wp2_with (first | (go_at_call_of 31 (Value.string ⟨#[40]⟩); refine (hT0 _ hR1).mono ?_; rintro e w2 ⟨rfl, hx2⟩; have hR2 := hR1.below hx2; have hk2 := hk1.trans (Keeps.of_below hx2); have z2 := block_below hx2 z1))
  have hxw := ext_alloc (Below.refl w2.heap.size w2) wdsO
  have gw := alloc_new w2 wdsO
  have hR3 := hR2.below hxw
  have hk3 := hk2.trans (Keeps.of_below hxw)
  have z3 := block_below hxw z2
  obtain ⟨W3, hW3⟩ : ∃ W, w2.alloc wdsO = W := ⟨_, rfl⟩
  rw [hW3] at gw hR3 hk3 z3
  replace hW3 : w2.alloc (.cells #[.string ⟨#[110, 105, 108]⟩, .string ⟨#[116, 114, 117, 101]⟩, .string ⟨#[102, 97, 108, 115, 101]⟩] 9) = W3 := hW3
  rw [hW3]
  obtain ⟨gb, hgb⟩ : ∃ m, w2.heap.size = m := ⟨_, rfl⟩
  rw [hgb] at gw
  rw [hgb]
  have a0 : W3.cell? ⟨gb, 0, none⟩ = some (sk W.nil_) := cell_block gw rfl
  have a1 : W3.cell? ⟨gb, 1, none⟩ = some (sk W.true_) := cell_block gw rfl
  have a2 : W3.cell? ⟨gb, 2, none⟩ = some (sk W.false_) := cell_block gw rfl
  clear hW3 hgb gw hxw hR1 hk1 z1 hR2 hk2 z2 hx2 d0 d1 d2 d3 e0 e1 e2 e3 u0 u1 gT
  refine wp_loop_rounds 4 ?_
  rw [rounds_succ]
  go_wp2_with (go_at_call 31; refine (hT1 _ hR3).mono ?_; rintro e w4 ⟨rfl, hx4⟩; have hR4 := hR3.below hx4; have hk4 := hk3.trans (Keeps.of_below hx4); have z4 := block_below hx4 z3; have a0 := cellB hx4 a0; have a1 := cellB hx4 a1; have a2 := cellB hx4 a2)
  rw [rounds_succ]
  go_wp2_with (go_at_call 31; refine (hT2 _ hR4).mono ?_; rintro e w5 ⟨rfl, hx5⟩; have hR5 := hR4.below hx5; have hk5 := hk4.trans (Keeps.of_below hx5); have z5 := block_below hx5 z4; have a0 := cellB hx5 a0; have a1 := cellB hx5 a1; have a2 := cellB hx5 a2)
  rw [rounds_succ]
  go_wp2_with (go_at_call 31; refine (hTy _ hR5).mono ?_; rintro e wy ⟨rfl, hRy, hxy⟩; have hky := hk5.trans hxy; have zy := hxy.box z5 (by omega); obtain ⟨d0, d1, d2, d3, e0, e1, e2, e3⟩ := in4 zy)
  refine bodyPost_ret (res157 rfl (put4_same _ _ _ _ zy)) rfl ?_
  exact na_close (x := nd 17 []) (b := none) (cap := 0) (ndV_leaf _ _ 17 [] 0) hRy hky (Nat.le_refl _) hBw (.inr ⟨rfl, hP⟩)
set_option maxRecDepth 20000 in
set_option maxHeartbeats 2000000 in
theorem fst_lc (k : Int) (B : Nat) (ts : List Tok) (i : Nat) (t : List UInt8) (a : Nat) (hx : ts[i]? = some ⟨k, t, a⟩) (r : PRes) (Fin : Nat → Prop) (g : Nd → List PT → PR) (w : World) (hF : FinOK ts Fin r) (hR : Dr w B ts i false) (q2 : (k == 2) = false) (q3 : (k == 3) = false) (hn0 : ¬ tx (rest ts i) = S.lp) (hn1 : ¬ tx (rest ts i) = W.nil_) (hn2 : ¬ tx (rest ts i) = W.true_) (hn3 : ¬ tx (rest ts i) = W.false_) (hy : tx (rest ts i) = S.lc) (hP : need S.rc (rest ts (i + 1)) (fun l => g (nd 19 []) l) = some r) : Calls Tryz.prog 123 #[.pointer (some ⟨B, 0, none⟩)] w (NA no w B ts Fin r g) := by
  have hb0 : Below w.heap.size w (w.alloc zbx) := ext_alloc (Below.refl _ _) _
  have hBw := hR.lt
  have hR0 := hR.below hb0
  have h2 := alloc_new w zbx
  obtain ⟨b, cap, h1, ht, hcap⟩ := hR0.box
  obtain ⟨s0, s1, s2, v1, v2⟩ := drC h1
  have hs := hR.short
  obtain ⟨hi, _⟩ := List.getElem?_eq_some_iff.1 hx
  rcases ht with rfl | ⟨q, rfl, hg, hgw, hcells⟩
  · simp at hx
  have t0 : (w.alloc zbx).cell? ⟨q, i * 3, none⟩ = some (.int .i64 k) := hcells i _ hx 0 _ rfl
  have t1 := hcells i _ hx 1 _ rfl
  have t2 := hcells i _ hx 2 _ rfl
  dsimp only at t1 t2
  obtain ⟨n, hn⟩ : ∃ n, ts.length = n := ⟨_, rfl⟩
  rw [hn] at s0 hi hs hcap
  have hi' : (i : Int) < (n : Int) := by omega
  have hge : decide (n ≤ i) = false := decide_eq_false (by omega)
  obtain ⟨U, hU⟩ : ∃ U, w.alloc zbx = U := ⟨_, rfl⟩
  rw [hU] at hb0 hR0 h2 s0 s1 s2 v1 v2 t0 t1 t2
  replace hU : w.alloc (.cells #[.int .i64 0, .string ⟨#[]⟩, .int .i64 0, .slice none 0 0] 24) = U := hU
  have hqU : q < U.heap.size := World.block_lt_of_cell? _ _ t0
  have hBU : B < U.heap.size := World.block_lt_of_cell? _ _ s0
  have m1 : ¬ B = U.heap.size := by omega
  have m2 : ¬ U.heap.size = B := by omega
  have m3 : ¬ q = U.heap.size := by omega
  have m4 : ¬ U.heap.size = q := by omega
  clear hcells hx h1
  go_enter Tryz.func123, Tryz.ntmps123
  go_wp2
  go_quiet (fail)
  go_wp2
  have hd : Below U.heap.size U (U.drewN nq) := drewN_below (Below.refl _ _)
  have hRX := hR0.below hd
  have h2X := block_below hd h2
  have hbX := ext_trans hb0 hd
  have S0 := cellB hd s0
  have S1 := cellB hd s1
  have T0 := cellB hd t0
  have T1 := cellB hd t1
  have T2 := cellB hd t2
  have esz : (U.drewN nq).heap.size = U.heap.size := rfl
  obtain ⟨X, hX⟩ : ∃ X, U.drewN nq = X := ⟨_, rfl⟩
  rw [hX] at hRX h2X hbX S0 S1 T0 T1 T2 esz
  rw [hX]
  rw [← esz] at m1 m2 m3 m4
  clear hX hd s0 s1 s2 v1 v2 t0 t1 t2 hR0 h2 hb0 hqU hBU esz hU
  go_region_held3 (fun u => u.cell? ⟨B, 0, none⟩ = some (.slice (some ⟨q, 0, none⟩) n cap) ∧ u.cell? ⟨B, 1, none⟩ = some (.int .i64 (i : Nat)) ∧ u.cell? ⟨q, i * 3, none⟩ = some (.int .i64 k) ∧ u.cell? ⟨q, i * 3 + 1, none⟩ = some (.string ⟨t.toArray⟩) ∧ u.cell? ⟨q, i * 3 + 2, none⟩ = some (.int .i64 (a : Nat))) (go_keep) (fail)
  have hb4 := (ext_alloc (Below.refl X.heap.size X) (tbx k ⟨t.toArray⟩ (a : Nat))).drew
  have gT : (X.alloc (tbx k ⟨t.toArray⟩ (a : Nat))).drew.heap[X.heap.size]? = some (tbx k ⟨t.toArray⟩ (a : Nat)) := alloc_new X _
  have hRY := hRX.below hb4
  have h2Y := block_below hb4 h2X
  have hbY := ext_trans hbX hb4
  have hzY := block_lt h2X
  obtain ⟨Y, hY⟩ : ∃ Y, (X.alloc (tbx k ⟨t.toArray⟩ (a : Nat))).drew = Y := ⟨_, rfl⟩
  rw [hY] at hb4 gT hRY h2Y hbY
  replace hY : (X.alloc (.cells #[.int .i64 k, .string ⟨t.toArray⟩, .int .i64 (a : Nat)] 55)).drew = Y := hY
  rw [hY]
  obtain ⟨tb, htb⟩ : ∃ m, X.heap.size = m := ⟨_, rfl⟩
  rw [htb] at gT hzY m1 m2
  rw [htb]
  clear hY htb hb4 hRX h2X hbX S0 S1 T0 T1 T2 m3 m4
  obtain ⟨u0, u1⟩ := box44 gT
  obtain ⟨b', cap', s0, s1, s2, v1, v2⟩ := hRY.cells
  obtain ⟨d0, d1, d2, d3, e0, e1, e2, e3⟩ := in4 h2Y
  have hR1 := hRY
  have hk1 := Keeps.of_below (S := fun q => q = B) hbY
  have z1 := h2Y
  have hT0 := fun u h => eat_no B ts i false S.lp hn0 u h
  have hT1 := fun u h => eat_no B ts i false W.nil_ hn1 u h
  have hT2 := fun u h => eat_no B ts i false W.true_ hn2 u h
  have hT3 := fun u h => eat_no B ts i false W.false_ hn3 u h
  have hTy := fun u h => eat_yes B ts i false S.lc hy (tx_lt hy (by decide)) u h
  clear hRY hbY h2Y s0 s1 v1 v2
  refine Lib.hid ?_
  go_wp2_with (first | (go_at_call_of 31 (Value.string ⟨#[40]⟩); refine (hT0 _ hR1).mono ?_; rintro e w2 ⟨rfl, hx2⟩; have hR2 := hR1.below hx2; have hk2 := hk1.trans (Keeps.of_below hx2); have z2 := block_below hx2 z1))
  have hxw := ext_alloc (Below.refl w2.heap.size w2) wdsO
  have gw := alloc_new w2 wdsO
  have hR3 := hR2.below hxw
  have hk3 := hk2.trans (Keeps.of_below hxw)
  have z3 := block_below hxw z2
  obtain ⟨W3, hW3⟩ : ∃ W, w2.alloc wdsO = W := ⟨_, rfl⟩
  rw [hW3] at gw hR3 hk3 z3
  replace hW3 : w2.alloc (.cells #[.string ⟨#[110, 105, 108]⟩, .string ⟨#[116, 114, 117, 101]⟩, .string ⟨#[102, 97, 108, 115, 101]⟩] 9) = W3 := hW3
  rw [hW3]
  obtain ⟨gb, hgb⟩ : ∃ m, w2.heap.size = m := ⟨_, rfl⟩
  rw [hgb] at gw
  rw [hgb]
  have a0 : W3.cell? ⟨gb, 0, none⟩ = some (sk W.nil_) := cell_block gw rfl
  have a1 : W3.cell? ⟨gb, 1, none⟩ = some (sk W.true_) := cell_block gw rfl
  have a2 : W3.cell? ⟨gb, 2, none⟩ = some (sk W.false_) := cell_block gw rfl
  clear hW3 hgb gw hxw hR1 hk1 z1 hR2 hk2 z2 hx2 d0 d1 d2 d3 e0 e1 e2 e3 u0 u1 gT
  refine wp_loop_rounds 4 ?_
  rw [rounds_succ]
  go_wp2_with (go_at_call 31; refine (hT1 _ hR3).mono ?_; rintro e w4 ⟨rfl, hx4⟩; have hR4 := hR3.below hx4; have hk4 := hk3.trans (Keeps.of_below hx4); have z4 := block_below hx4 z3; have a0 := cellB hx4 a0; have a1 := cellB hx4 a1; have a2 := cellB hx4 a2)
  rw [rounds_succ]
  go_wp2_with (go_at_call 31; refine (hT2 _ hR4).mono ?_; rintro e w5 ⟨rfl, hx5⟩; have hR5 := hR4.below hx5; have hk5 := hk4.trans (Keeps.of_below hx5); have z5 := block_below hx5 z4; have a0 := cellB hx5 a0; have a1 := cellB hx5 a1; have a2 := cellB hx5 a2)
  rw [rounds_succ]
  go_wp2_with (go_at_call 31; refine (hT3 _ hR5).mono ?_; rintro e w6 ⟨rfl, hx6⟩; have hR6 := hR5.below hx6; have hk6 := hk5.trans (Keeps.of_below hx6); have z6 := block_below hx6 z5; have a0 := cellB hx6 a0; have a1 := cellB hx6 a1; have a2 := cellB hx6 a2)
  rw [rounds_succ]
  go_wp2_with (first | (go_at_call_of 31 (Value.string ⟨#[123]⟩); refine (hTy _ hR6).mono ?_; rintro e wy ⟨rfl, hRy, hxy⟩; have hky := hk6.trans hxy; have zy := hxy.box z6 (by omega); obtain ⟨d0, d1, d2, d3, e0, e1, e2, e3⟩ := in4 zy) | (go_at_call 28; refine (must_any (s := S.rc) (by decide) hF (.inr ⟨rfl, hP⟩) _ hRy).mono ?_; rintro e w9 ⟨rfl, j2, bad2, hR9, hk9, hFl9⟩; have z9 := hk9.box zy (by omega); obtain ⟨d0, d1, d2, d3, e0, e1, e2, e3⟩ := in4 z9))
  refine bodyPost_ret (res157 rfl (put4_same _ _ _ _ z9)) rfl ?_
  exact na_close (x := nd 19 []) (b := none) (cap := 0) (ndV_leaf _ _ 19 [] 0) hR9 (hky.trans hk9) (Nat.le_refl _) hBw hFl9
set_option maxRecDepth 20000 in
set_option maxHeartbeats 2000000 in
theorem fst_name (k : Int) (B : Nat) (ts : List Tok) (i : Nat) (t : List UInt8) (a : Nat) (hx : ts[i]? = some ⟨k, t, a⟩) (r : PRes) (Fin : Nat → Prop) (g : Nd → List PT → PR) (w : World) (hF : FinOK ts Fin r) (hR : Dr w B ts i false) (q2 : (k == 2) = false) (q3 : (k == 3) = false) (hn0 : ¬ tx (rest ts i) = S.lp) (hn1 : ¬ tx (rest ts i) = W.nil_) (hn2 : ¬ tx (rest ts i) = W.true_) (hn3 : ¬ tx (rest ts i) = W.false_) (hn4 : ¬ tx (rest ts i) = S.lc) (hn5 : ¬ tx (rest ts i) = W.next_) (hP : needName (rest ts i) (fun s l => g ⟨18, s, 0, []⟩ l) = some r) : Calls Tryz.prog 123 #[.pointer (some ⟨B, 0, none⟩)] w (NA no w B ts Fin r g) := by
  have hb0 : Below w.heap.size w (w.alloc zbx) := ext_alloc (Below.refl _ _) _
  have hBw := hR.lt
  have hR0 := hR.below hb0
  have h2 := alloc_new w zbx
  obtain ⟨b, cap, h1, ht, hcap⟩ := hR0.box
  obtain ⟨s0, s1, s2, v1, v2⟩ := drC h1
  have hs := hR.short
  obtain ⟨hi, _⟩ := List.getElem?_eq_some_iff.1 hx
  rcases ht with rfl | ⟨q, rfl, hg, hgw, hcells⟩
  · simp at hx
  have t0 : (w.alloc zbx).cell? ⟨q, i * 3, none⟩ = some (.int .i64 k) := hcells i _ hx 0 _ rfl
  have t1 := hcells i _ hx 1 _ rfl
  have t2 := hcells i _ hx 2 _ rfl
  dsimp only at t1 t2
  obtain ⟨n, hn⟩ : ∃ n, ts.length = n := ⟨_, rfl⟩
  rw [hn] at s0 hi hs hcap
  have hi' : (i : Int) < (n : Int) := by omega
  have hge : decide (n ≤ i) = false := decide_eq_false (by omega)
  obtain ⟨U, hU⟩ : ∃ U, w.alloc zbx = U := ⟨_, rfl⟩
  rw [hU] at hb0 hR0 h2 s0 s1 s2 v1 v2 t0 t1 t2
  replace hU : w.alloc (.cells #[.int .i64 0, .string ⟨#[]⟩, .int .i64 0, .slice none 0 0] 24) = U := hU
  have hqU : q < U.heap.size := World.block_lt_of_cell? _ _ t0
  have hBU : B < U.heap.size := World.block_lt_of_cell? _ _ s0
  have m1 : ¬ B = U.heap.size := by omega
  have m2 : ¬ U.heap.size = B := by omega
  have m3 : ¬ q = U.heap.size := by omega
  have m4 : ¬ U.heap.size = q := by omega
  clear hcells hx h1
  go_enter Tryz.func123, Tryz.ntmps123
  go_wp2
  go_quiet (fail)
  go_wp2
  have hd : Below U.heap.size U (U.drewN nq) := drewN_below (Below.refl _ _)
  have hRX := hR0.below hd
  have h2X := block_below hd h2
  have hbX := ext_trans hb0 hd
  have S0 := cellB hd s0
  have S1 := cellB hd s1
  have T0 := cellB hd t0
  have T1 := cellB hd t1
  have T2 := cellB hd t2
  have esz : (U.drewN nq).heap.size = U.heap.size := rfl
  obtain ⟨X, hX⟩ : ∃ X, U.drewN nq = X := ⟨_, rfl⟩
  rw [hX] at hRX h2X hbX S0 S1 T0 T1 T2 esz
  rw [hX]
  rw [← esz] at m1 m2 m3 m4
  clear hX hd s0 s1 s2 v1 v2 t0 t1 t2 hR0 h2 hb0 hqU hBU esz hU
  go_region_held3 (fun u => u.cell? ⟨B, 0, none⟩ = some (.slice (some ⟨q, 0, none⟩) n cap) ∧ u.cell? ⟨B, 1, none⟩ = some (.int .i64 (i : Nat)) ∧ u.cell? ⟨q, i * 3, none⟩ = some (.int .i64 k) ∧ u.cell? ⟨q, i * 3 + 1, none⟩ = some (.string ⟨t.toArray⟩) ∧ u.cell? ⟨q, i * 3 + 2, none⟩ = some (.int .i64 (a : Nat))) (go_keep) (fail)
  have hb4 := (ext_alloc (Below.refl X.heap.size X) (tbx k ⟨t.toArray⟩ (a : Nat))).drew
  have gT : (X.alloc (tbx k ⟨t.toArray⟩ (a : Nat))).drew.heap[X.heap.size]? = some (tbx k ⟨t.toArray⟩ (a : Nat)) := alloc_new X _
  have hRY := hRX.below hb4
  have h2Y := block_below hb4 h2X
  have hbY := ext_trans hbX hb4
  have hzY := block_lt h2X
  obtain ⟨Y, hY⟩ : ∃ Y, (X.alloc (tbx k ⟨t.toArray⟩ (a : Nat))).drew = Y := ⟨_, rfl⟩
  rw [hY] at hb4 gT hRY h2Y hbY
  replace hY : (X.alloc (.cells #[.int .i64 k, .string ⟨t.toArray⟩, .int .i64 (a : Nat)] 55)).drew = Y := hY
  rw [hY]
  obtain ⟨tb, htb⟩ : ∃ m, X.heap.size = m := ⟨_, rfl⟩
  rw [htb] at gT hzY m1 m2
  rw [htb]
  clear hY htb hb4 hRX h2X hbX S0 S1 T0 T1 T2 m3 m4
  obtain ⟨u0, u1⟩ := box44 gT
  obtain ⟨b', cap', s0, s1, s2, v1, v2⟩ := hRY.cells
  obtain ⟨d0, d1, d2, d3, e0, e1, e2, e3⟩ := in4 h2Y
  have hR1 := hRY
  have hk1 := Keeps.of_below (S := fun q => q = B) hbY
  have z1 := h2Y
  have hT0 := fun u h => eat_no B ts i false S.lp hn0 u h
  have hT1 := fun u h => eat_no B ts i false W.nil_ hn1 u h
  have hT2 := fun u h => eat_no B ts i false W.true_ hn2 u h
  have hT3 := fun u h => eat_no B ts i false W.false_ hn3 u h
  have hT4 := fun u h => eat_no B ts i false S.lc hn4 u h
  have hT5 := fun u h => eat_no B ts i false W.next_ hn5 u h
  clear hRY hbY h2Y s0 s1 v1 v2
  refine Lib.hid ?_
  go_wp2_with (first | (go_at_call_of 31 (Value.string ⟨#[40]⟩); refine (hT0 _ hR1).mono ?_; rintro e w2 ⟨rfl, hx2⟩; have hR2 := hR1.below hx2; have hk2 := hk1.trans (Keeps.of_below hx2); have z2 := block_below hx2 z1))
  have hxw := ext_alloc (Below.refl w2.heap.size w2) wdsO
  have gw := alloc_new w2 wdsO
  have hR3 := hR2.below hxw
  have hk3 := hk2.trans (Keeps.of_below hxw)
  have z3 := block_below hxw z2
  obtain ⟨W3, hW3⟩ : ∃ W, w2.alloc wdsO = W := ⟨_, rfl⟩
  rw [hW3] at gw hR3 hk3 z3
  replace hW3 : w2.alloc (.cells #[.string ⟨#[110, 105, 108]⟩, .string ⟨#[116, 114, 117, 101]⟩, .string ⟨#[102, 97, 108, 115, 101]⟩] 9) = W3 := hW3
  rw [hW3]
  obtain ⟨gb, hgb⟩ : ∃ m, w2.heap.size = m := ⟨_, rfl⟩
  rw [hgb] at gw
  rw [hgb]
  have a0 : W3.cell? ⟨gb, 0, none⟩ = some (sk W.nil_) := cell_block gw rfl
  have a1 : W3.cell? ⟨gb, 1, none⟩ = some (sk W.true_) := cell_block gw rfl
  have a2 : W3.cell? ⟨gb, 2, none⟩ = some (sk W.false_) := cell_block gw rfl
  clear hW3 hgb gw hxw hR1 hk1 z1 hR2 hk2 z2 hx2 d0 d1 d2 d3 e0 e1 e2 e3 u0 u1 gT
  refine wp_loop_rounds 4 ?_
  rw [rounds_succ]
  go_wp2_with (go_at_call 31; refine (hT1 _ hR3).mono ?_; rintro e w4 ⟨rfl, hx4⟩; have hR4 := hR3.below hx4; have hk4 := hk3.trans (Keeps.of_below hx4); have z4 := block_below hx4 z3; have a0 := cellB hx4 a0; have a1 := cellB hx4 a1; have a2 := cellB hx4 a2)
  rw [rounds_succ]
  go_wp2_with (go_at_call 31; refine (hT2 _ hR4).mono ?_; rintro e w5 ⟨rfl, hx5⟩; have hR5 := hR4.below hx5; have hk5 := hk4.trans (Keeps.of_below hx5); have z5 := block_below hx5 z4; have a0 := cellB hx5 a0; have a1 := cellB hx5 a1; have a2 := cellB hx5 a2)
  rw [rounds_succ]
  go_wp2_with (go_at_call 31; refine (hT3 _ hR5).mono ?_; rintro e w6 ⟨rfl, hx6⟩; have hR6 := hR5.below hx6; have hk6 := hk5.trans (Keeps.of_below hx6); have z6 := block_below hx6 z5; have a0 := cellB hx6 a0; have a1 := cellB hx6 a1; have a2 := cellB hx6 a2)
  rw [rounds_succ]
  go_wp2_with (first | (go_at_call_of 31 (Value.string ⟨#[123]⟩); refine (hT4 _ hR6).mono ?_; rintro e w7 ⟨rfl, hx7⟩; have hR7 := hR6.below hx7; have hk7 := hk6.trans (Keeps.of_below hx7); have z7 := block_below hx7 z6) | (go_at_call_of 31 (Value.string ⟨#[110, 101, 120, 116]⟩); refine (hT5 _ hR7).mono ?_; rintro e w8 ⟨rfl, hx8⟩; have hR8 := hR7.below hx8; have hk8 := hk7.trans (Keeps.of_below hx8); have z8 := block_below hx8 z7) | (go_at_call 29; refine (rnm_any hF (.inr ⟨rfl, hP⟩) _ hR8).mono ?_; rintro e w9 ⟨s, j2, bad2, rfl, hR9, hk9, hFl9⟩; have z9 := hk9.box z8 (by omega); obtain ⟨d0, d1, d2, d3, e0, e1, e2, e3⟩ := in4 z9))
  refine bodyPost_ret (res157 rfl (put4_same _ _ _ _ z9)) rfl ?_
  exact na_close (x := ⟨18, s, 0, []⟩) (b := none) (cap := 0) (ndV_leaf _ _ 18 s 0) hR9 (hk8.trans hk9) (Nat.le_refl _) hBw hFl9
end Go.Proofs.YtnnppenlfocgiaaGreatDoor
namespace Go.Proofs.YtnnppenlfocgiaaGreatDoor
open Go.RowKit
open Go

set_option maxRecDepth 20000 in
set_option maxHeartbeats 2000000 in
theorem fst_next (k : Int) (f : Nat) (hE : DRow f) (B : Nat) (ts : List Tok) (i : Nat) (t : List UInt8) (a : Nat) (hx : ts[i]? = some ⟨k, t, a⟩) (r : PRes) (Fin : Nat → Prop) (g : Nd → List PT → PR) (w : World) (hF : FinOK ts Fin r) (hR : Dr w B ts i false) (q2 : (k == 2) = false) (q3 : (k == 3) = false) (hn0 : ¬ tx (rest ts i) = S.lp) (hn1 : ¬ tx (rest ts i) = W.nil_) (hn2 : ¬ tx (rest ts i) = W.true_) (hn3 : ¬ tx (rest ts i) = W.false_) (hn4 : ¬ tx (rest ts i) = S.lc) (hy : tx (rest ts i) = W.next_) (hP : need S.lp (rest ts (i + 1)) (fun l => (P f 0 nil0 0 l).on fun x l => need S.cm l fun l => (P f 0 nil0 0 l).on fun y l => need S.rp l fun l => g (nd 26 ([] ++ [x] ++ [y])) l) = some r) : Calls Tryz.prog 123 #[.pointer (some ⟨B, 0, none⟩)] w (NA no w B ts Fin r g) := by
  have hb0 : Below w.heap.size w (w.alloc zbx) := ext_alloc (Below.refl _ _) _
  have hBw := hR.lt
  have hR0 := hR.below hb0
  have h2 := alloc_new w zbx
  obtain ⟨b, cap, h1, ht, hcap⟩ := hR0.box
  obtain ⟨s0, s1, s2, v1, v2⟩ := drC h1
  have hs := hR.short
  obtain ⟨hi, _⟩ := List.getElem?_eq_some_iff.1 hx
  rcases ht with rfl | ⟨q, rfl, hg, hgw, hcells⟩
  · simp at hx
  have t0 : (w.alloc zbx).cell? ⟨q, i * 3, none⟩ = some (.int .i64 k) := hcells i _ hx 0 _ rfl
  have t1 := hcells i _ hx 1 _ rfl
  have t2 := hcells i _ hx 2 _ rfl
  dsimp only at t1 t2
  obtain ⟨n, hn⟩ : ∃ n, ts.length = n := ⟨_, rfl⟩
  rw [hn] at s0 hi hs hcap
  have hi' : (i : Int) < (n : Int) := by omega
  have hge : decide (n ≤ i) = false := decide_eq_false (by omega)
  obtain ⟨U, hU⟩ : ∃ U, w.alloc zbx = U := ⟨_, rfl⟩
  rw [hU] at hb0 hR0 h2 s0 s1 s2 v1 v2 t0 t1 t2
  replace hU : w.alloc (.cells #[.int .i64 0, .string ⟨#[]⟩, .int .i64 0, .slice none 0 0] 24) = U := hU
  have hqU : q < U.heap.size := World.block_lt_of_cell? _ _ t0
  have hBU : B < U.heap.size := World.block_lt_of_cell? _ _ s0
  have m1 : ¬ B = U.heap.size := by omega
  have m2 : ¬ U.heap.size = B := by omega
  have m3 : ¬ q = U.heap.size := by omega
  have m4 : ¬ U.heap.size = q := by omega
  clear hcells hx h1
  go_enter Tryz.func123, Tryz.ntmps123
  go_wp2
  go_quiet (fail)
  go_wp2
  have hd : Below U.heap.size U (U.drewN nq) := drewN_below (Below.refl _ _)
  have hRX := hR0.below hd
  have h2X := block_below hd h2
  have hbX := ext_trans hb0 hd
  have S0 := cellB hd s0
  have S1 := cellB hd s1
  have T0 := cellB hd t0
  have T1 := cellB hd t1
  have T2 := cellB hd t2
  have esz : (U.drewN nq).heap.size = U.heap.size := rfl
  obtain ⟨X, hX⟩ : ∃ X, U.drewN nq = X := ⟨_, rfl⟩
  rw [hX] at hRX h2X hbX S0 S1 T0 T1 T2 esz
  rw [hX]
  rw [← esz] at m1 m2 m3 m4
  clear hX hd s0 s1 s2 v1 v2 t0 t1 t2 hR0 h2 hb0 hqU hBU esz hU
  go_region_held3 (fun u => u.cell? ⟨B, 0, none⟩ = some (.slice (some ⟨q, 0, none⟩) n cap) ∧ u.cell? ⟨B, 1, none⟩ = some (.int .i64 (i : Nat)) ∧ u.cell? ⟨q, i * 3, none⟩ = some (.int .i64 k) ∧ u.cell? ⟨q, i * 3 + 1, none⟩ = some (.string ⟨t.toArray⟩) ∧ u.cell? ⟨q, i * 3 + 2, none⟩ = some (.int .i64 (a : Nat))) (go_keep) (fail)
  have hb4 := (ext_alloc (Below.refl X.heap.size X) (tbx k ⟨t.toArray⟩ (a : Nat))).drew
  have gT : (X.alloc (tbx k ⟨t.toArray⟩ (a : Nat))).drew.heap[X.heap.size]? = some (tbx k ⟨t.toArray⟩ (a : Nat)) := alloc_new X _
  have hRY := hRX.below hb4
  have h2Y := block_below hb4 h2X
  have hbY := ext_trans hbX hb4
  have hzY := block_lt h2X
  obtain ⟨Y, hY⟩ : ∃ Y, (X.alloc (tbx k ⟨t.toArray⟩ (a : Nat))).drew = Y := ⟨_, rfl⟩
  rw [hY] at hb4 gT hRY h2Y hbY
  replace hY : (X.alloc (.cells #[.int .i64 k, .string ⟨t.toArray⟩, .int .i64 (a : Nat)] 55)).drew = Y := hY
  rw [hY]
  obtain ⟨tb, htb⟩ : ∃ m, X.heap.size = m := ⟨_, rfl⟩
  rw [htb] at gT hzY m1 m2
  rw [htb]
  clear hY htb hb4 hRX h2X hbX S0 S1 T0 T1 T2 m3 m4
  obtain ⟨u0, u1⟩ := box44 gT
  obtain ⟨b', cap', s0, s1, s2, v1, v2⟩ := hRY.cells
  obtain ⟨d0, d1, d2, d3, e0, e1, e2, e3⟩ := in4 h2Y
  have hR1 := hRY
  have hk1 := Keeps.of_below (S := fun q => q = B) hbY
  have z1 := h2Y
  have hT0 := fun u h => eat_no B ts i false S.lp hn0 u h
  have hT1 := fun u h => eat_no B ts i false W.nil_ hn1 u h
  have hT2 := fun u h => eat_no B ts i false W.true_ hn2 u h
  have hT3 := fun u h => eat_no B ts i false W.false_ hn3 u h
  have hT4 := fun u h => eat_no B ts i false S.lc hn4 u h
  have hTy := fun u h => eat_yes B ts i false W.next_ hy (tx_lt hy (by decide)) u h
  clear hRY hbY h2Y s0 s1 v1 v2
  refine Lib.hid ?_
  go_wp2_with (first | (go_at_call_of 31 (Value.string ⟨#[40]⟩); refine (hT0 _ hR1).mono ?_; rintro e w2 ⟨rfl, hx2⟩; have hR2 := hR1.below hx2; have hk2 := hk1.trans (Keeps.of_below hx2); have z2 := block_below hx2 z1))
  have hxw := ext_alloc (Below.refl w2.heap.size w2) wdsO
  have gw := alloc_new w2 wdsO
  have hR3 := hR2.below hxw
  have hk3 := hk2.trans (Keeps.of_below hxw)
  have z3 := block_below hxw z2
  obtain ⟨W3, hW3⟩ : ∃ W, w2.alloc wdsO = W := ⟨_, rfl⟩
  rw [hW3] at gw hR3 hk3 z3
  replace hW3 : w2.alloc (.cells #[.string ⟨#[110, 105, 108]⟩, .string ⟨#[116, 114, 117, 101]⟩, .string ⟨#[102, 97, 108, 115, 101]⟩] 9) = W3 := hW3
  rw [hW3]
  obtain ⟨gb, hgb⟩ : ∃ m, w2.heap.size = m := ⟨_, rfl⟩
  rw [hgb] at gw
  rw [hgb]
  have a0 : W3.cell? ⟨gb, 0, none⟩ = some (sk W.nil_) := cell_block gw rfl
  have a1 : W3.cell? ⟨gb, 1, none⟩ = some (sk W.true_) := cell_block gw rfl
  have a2 : W3.cell? ⟨gb, 2, none⟩ = some (sk W.false_) := cell_block gw rfl
  clear hW3 hgb gw hxw hR1 hk1 z1 hR2 hk2 z2 hx2 d0 d1 d2 d3 e0 e1 e2 e3 u0 u1 gT
  refine wp_loop_rounds 4 ?_
  rw [rounds_succ]
  go_wp2_with (go_at_call 31; refine (hT1 _ hR3).mono ?_; rintro e w4 ⟨rfl, hx4⟩; have hR4 := hR3.below hx4; have hk4 := hk3.trans (Keeps.of_below hx4); have z4 := block_below hx4 z3; have a0 := cellB hx4 a0; have a1 := cellB hx4 a1; have a2 := cellB hx4 a2)
  rw [rounds_succ]
  go_wp2_with (go_at_call 31; refine (hT2 _ hR4).mono ?_; rintro e w5 ⟨rfl, hx5⟩; have hR5 := hR4.below hx5; have hk5 := hk4.trans (Keeps.of_below hx5); have z5 := block_below hx5 z4; have a0 := cellB hx5 a0; have a1 := cellB hx5 a1; have a2 := cellB hx5 a2)
  rw [rounds_succ]
  go_wp2_with (go_at_call 31; refine (hT3 _ hR5).mono ?_; rintro e w6 ⟨rfl, hx6⟩; have hR6 := hR5.below hx6; have hk6 := hk5.trans (Keeps.of_below hx6); have z6 := block_below hx6 z5; have a0 := cellB hx6 a0; have a1 := cellB hx6 a1; have a2 := cellB hx6 a2)
  rw [rounds_succ]
  go_wp2_with (first | (go_at_call_of 31 (Value.string ⟨#[123]⟩); refine (hT4 _ hR6).mono ?_; rintro e w7 ⟨rfl, hx7⟩; have hR7 := hR6.below hx7; have hk7 := hk6.trans (Keeps.of_below hx7); have z7 := block_below hx7 z6) | (go_at_call_of 31 (Value.string ⟨#[110, 101, 120, 116]⟩); refine (hTy _ hR7).mono ?_; rintro e wy ⟨rfl, hRy, hxy⟩; have hky := hk7.trans hxy; have zy := hxy.box z7 (by omega)) | (go_at_call 28; refine (must_any (s := S.lp) (by decide) hF (.inr ⟨rfl, hP⟩) _ hRy).mono ?_; rintro e w9 ⟨rfl, j1, bad1, hR9, hk9, hFl9⟩; refine Hid.out ?_))
  have z9 := hk9.box zy (by omega)
  have hk9' := hky.trans hk9
  have hz9 := block_lt z9
  have hxn := ext_alloc (Below.refl w9.heap.size w9) (nbx (nd 26 []) none 0)
  have hE1 := exprs_any f hE [] none 0 no r Fin _ B ts j1 bad1 (w9.alloc (nbx (nd 26 []) none 0)) hF (hR9.below hxn) (Row.nil _ _) (fun q hq => hq.elim) (fun q e => by simp [Value.ownBlock] at e) (by simp) hFl9
  have gn := alloc_new w9 (nbx (nd 26 []) none 0)
  have zn := block_below hxn z9
  have hkn := hk9'.trans (Keeps.of_below hxn)
  obtain ⟨tn, htn⟩ : ∃ m, w9.heap.size = m := ⟨_, rfl⟩
  clear hT0 hT1 hT2 hT3 hT4 hTy hR9 hk9 hk9' hP
  refine Lib.hid ?_
  go_wp2_with (go_at_call 71; refine Hid.out ?_)
  rw [htn] at gn hz9
  obtain ⟨Wn, hWn⟩ : ∃ W, w9.alloc (nbx (nd 26 []) none 0) = W := ⟨_, rfl⟩
  rw [hWn] at hE1 gn zn hkn
  have hzn : tn < Wn.heap.size := block_lt gn
  replace hWn : w9.alloc (.cells #[.int .i64 26, .string ⟨#[]⟩, .int .i64 0, .slice none 0 0] 24) = Wn := hWn
  rw [hWn]
  clear hWn htn hxn z9
  refine Lib.hid ?_
  refine hE1.mono ?_
  rintro e wa ⟨⟨ks1, b1, cap1, j2, bad2, rfl, hRow1, hRa, hlen1, hown1, hFx1⟩, hka⟩
  have hka' : Keeps (fun q => q = B) Wn wa := hka.mono (fun q _ e => by rcases e with e | e; exact e; simp [Value.ownBlock] at e)
  have ga := hka'.box gn (by omega)
  have za := hka'.box zn (by omega)
  have hka2 := hkn.trans hka'
  have hFl1 := ex_fl (G := fun ks l => need S.cm l fun l => (P f 0 nil0 0 l).on fun y l => need S.rp l fun l => g (nd 26 (ks ++ [y])) l) hFx1
  have hza := hka'.size
  have hks : Keeps (fun q => q = tn) wa (wa.setCell ⟨tn, 3, none⟩ (.slice b1 ks1.length cap1)) := (Keeps.refl _ _).set tn 3 _ (fun _ => rfl)
  have gb1 : (wa.setCell ⟨tn, 3, none⟩ (.slice b1 ks1.length cap1)).heap[tn]? = some (.cells #[.int .i64 26, .string ⟨#[]⟩, .int .i64 0, .slice b1 ks1.length cap1] 24) := set_block _ ga
  have zb := hks.box za (by omega)
  have hRb := hRa.keep hks (fun q hq e => by omega)
  have hRow1b : Row (fun q => tn < q) (wa.setCell ⟨tn, 3, none⟩ (.slice b1 ks1.length cap1)) (.slice b1 ks1.length cap1) ks1 := (hRow1.weak (fun q hq _ => by have := hq.resolve_left id; omega)).keep hks (fun q hq _ e => by omega)
  have hkb := hka2.then hks (fun q hq e => by omega)
  have hM1 := must_any (s := S.cm) (by decide) hF hFl1 _ hRb
  obtain ⟨c0, c1, c2, c3, f0, f1, f2, f3⟩ := in4 ga
  obtain ⟨wb, hwb⟩ : ∃ W, wa.setCell ⟨tn, 3, none⟩ (.slice b1 ks1.length cap1) = W := ⟨_, rfl⟩
  rw [hwb] at gb1 zb hRow1b hkb hM1
  clear hka hka' hka2 hFx1 hFl1 hRa hRow1 hks hRb za gn zn hkn hE1
  go_wp2_with (go_at_call 28; refine hM1.mono ?_; rintro e wc ⟨rfl, j3, bad3, hRc, hkc, hFlc⟩; refine Hid.out ?_)
  have gc := hkc.box gb1 (by omega)
  have zc := hkc.box zb (by omega)
  have hkc2 := hkb.trans hkc
  have hRow1c := hRow1b.keep hkc (fun q hq _ e => by omega)
  have hE2 := exprs_any f hE ks1 b1 cap1 (fun q => tn < q) r Fin _ B ts j3 bad3 wc hF hRc hRow1c (fun q hq => by omega) (fun q e => by rcases hown1 q e with e | e; simp [Value.ownBlock] at e; omega) (by simp at hlen1; omega) hFlc
  obtain ⟨c0, c1, c2, c3, f0, f1, f2, f3⟩ := in4 gc
  clear hwb hM1 hkb hkc gb1 zb hRow1b hRow1c hFlc hRc hE
  refine Lib.hid ?_
  go_wp2_with (go_at_call 71; refine hE2.mono ?_; rintro e wd ⟨⟨ks2, b2, cap2, j4, bad4, rfl, hRow2, hRd, hlen2, hown2, hFx2⟩, hkd⟩; refine Hid.out ?_)
  have hownt : ∀ q, Value.ownBlock (.slice b1 ks1.length cap1) = some q → tn < q := fun q e => by rcases hown1 q e with e | e; simp [Value.ownBlock] at e; omega
  have gd := hkd.box gc (by rintro (e | e); omega; have := hownt _ e.symm; omega)
  have zd := hkd.box zc (by rintro (e | e); omega; have := hownt _ e.symm; omega)
  have hkd2 := hkc2.then hkd (fun q hq e => by rcases e with e | e; exact e; have := hownt _ e.symm; omega)
  have hzd := hkd.size
  have hzc := block_lt gc
  have hFl2 := ex_fl (G := fun ks l => need S.rp l fun l => g (nd 26 ks) l) hFx2
  have hks : Keeps (fun q => q = tn) wd (wd.setCell ⟨tn, 3, none⟩ (.slice b2 ks2.length cap2)) := (Keeps.refl _ _).set tn 3 _ (fun _ => rfl)
  have ge : (wd.setCell ⟨tn, 3, none⟩ (.slice b2 ks2.length cap2)).heap[tn]? = some (.cells #[.int .i64 26, .string ⟨#[]⟩, .int .i64 0, .slice b2 ks2.length cap2] 24) := set_block _ gd
  have ze := hks.box zd (by omega)
  have hRe := hRd.keep hks (fun q hq e => by omega)
  have hRow2e : Row (fun q => tn < q) (wd.setCell ⟨tn, 3, none⟩ (.slice b2 ks2.length cap2)) (.slice b2 ks2.length cap2) ks2 := (hRow2.weak (fun q hq _ => by rcases hq with hq | hq; exact hq; omega)).keep hks (fun q hq _ e => by omega)
  have hke := hkd2.then hks (fun q hq e => by omega)
  have hM2 := must_any (s := S.rp) (by decide) hF hFl2 _ hRe
  obtain ⟨c0, c1, c2, c3, f0, f1, f2, f3⟩ := in4 gd
  obtain ⟨we, hwe⟩ : ∃ W, wd.setCell ⟨tn, 3, none⟩ (.slice b2 ks2.length cap2) = W := ⟨_, rfl⟩
  rw [hwe] at ge ze hRow2e hke hM2
  clear hE2 hkd hkd2 hFx2 hFl2 hRd hRow2 hks hRe zd gc zc hkc2
  refine Lib.hid ?_
  go_wp2_with (go_at_call 28; refine hM2.mono ?_; rintro e wf ⟨rfl, j5, bad5, hRf, hkf, hFlf⟩; have gf := hkf.box ge (by omega); have zf := hkf.box ze (by omega); obtain ⟨c0, c1, c2, c3, f0, f1, f2, f3⟩ := in4 gf; obtain ⟨d0, d1, d2, d3, e0, e1, e2, e3⟩ := in4 zf)
  refine bodyPost_ret (res157 rfl (put4_same _ _ _ _ zf)) rfl ?_
  exact na_close (x := nd 26 ks2) (((hRow2e.keep hkf (fun q hq _ e => by omega)).node 26 [] 0).weak (fun q hq _ => ⟨.inr (by omega), by omega⟩)) hRf (hke.trans hkf) (Nat.le_refl _) hBw hFlf
end Go.Proofs.YtnnppenlfocgiaaGreatDoor
