/- The program's checker: a node. The program's checker: every node within a function. The program's checker: a function. The program's checker: a program. -/
import Derived.Test.YtnnppenlfocgiaaGreatDoorK29
import Derived.Test.YtnnppenlfocgiaaGreatDoorK09
namespace Go.Proofs.YtnnppenlfocgiaaGreatDoor
open Go.RowKit
open Go

set_option maxRecDepth 20000 in
set_option maxHeartbeats 2000000 in
theorem visit_for (t0 : List UInt8) (n0 : Int) (ks : List Nd) (ih : CntC ⟨10, t0, n0, ks⟩) : VisC ⟨10, t0, n0, ks⟩ := by
  intro w0 B u ub uc fm O sl bl b cap W hC hN hM hD hlv hNB hne hul
  have hb0 := ext_alloc (Below.refl W.heap.size W) (nbx ⟨10, t0, n0, ks⟩ b cap)
  have hCK0 := CK.below (O := O) hb0
  have hcall := ih w0 B u ub uc fm O sl bl b cap _ (hC.on hb0) hN hM hD hlv hNB hne hul
  replace hcall : Calls Tryz.prog 100 #[.pointer (some ⟨B, 0, none⟩), .agg #[.int .i64 10, sk t0, .int .i64 n0, .slice b ks.length cap]] (W.alloc (.cells #[.int .i64 10, sk t0, .int .i64 n0, .slice b ks.length cap] 24)) (CQ w0 B u ub uc fm O (W.alloc (.cells #[.int .i64 10, sk t0, .int .i64 n0, .slice b ks.length cap] 24)) (visC (u.kids.map Nd.t) false ⟨10, t0, n0, ks⟩ ⟨sl, bl⟩)) := hcall
  obtain ⟨R, hR⟩ : ∃ R, visC (u.kids.map Nd.t) false ⟨10, t0, n0, ks⟩ ⟨sl, bl⟩ = R := ⟨_, rfl⟩
  rw [hR] at hcall ⊢
  clear hR hC hN
  go_enter Tryz.func87, Tryz.ntmps87
  go_wp2_with (go_at_call 100; refine hcall.mono ?_; intro e w2 hq; rcases hq.par with ⟨cd, a, he, rfl, hbp⟩ | ⟨c2, he, rfl, O2, hC2, hK2⟩; (exact ⟨rfl, .inr ⟨cd, a, he, rfl, hbp⟩⟩))
  go_end0
  exact .inl ⟨c2, he, rfl, O2, hC2, hCK0.trans hK2⟩
set_option maxRecDepth 20000 in
set_option maxHeartbeats 2000000 in
theorem visit_block (t0 : List UInt8) (n0 : Int) (ks : List Nd) (ih : InC ⟨4, t0, n0, ks⟩) : VisC ⟨4, t0, n0, ks⟩ := by
  intro w0 B u ub uc fm O sl bl b cap W hC hN hM hD hlv hNB hne hul
  have hms := manyN_eq ⟨4, t0, n0, ks⟩
  have hb0 := ext_alloc (Below.refl W.heap.size W) (nbx ⟨4, t0, n0, ks⟩ b cap)
  have g0 := alloc_new W (nbx ⟨4, t0, n0, ks⟩ b cap)
  have hCK0 := CK.below (O := O) hb0
  have hnO : ¬ O W.heap.size := fun h => by have := (hC.hO _ h).2; omega
  have hbeg := begin_any w0 B u ub uc fm O sl bl (sumL bl) _ (hC.on hb0) (by omega)
  have hsum : sumL ([] :: bl) = sumL bl := by rw [sumL_cons]; simp
  have hin := fun O1 w1 (hC1 : Ck w0 B u ub uc fm O1 sl ([] :: bl) (sumL bl) w1) => ih w0 B u ub uc fm O1 sl ([] :: bl) b cap w1 (by rw [hsum]; exact hC1) hN hM (by simp; omega) (by rw [hsum]; exact hlv) (NB.begin (c := ⟨sl, bl⟩) hNB) (by simp) hul
  obtain ⟨R, hR⟩ : ∃ R, visC (u.kids.map Nd.t) false ⟨4, t0, n0, ks⟩ ⟨sl, bl⟩ = R := ⟨_, rfl⟩
  rw [hR]
  rw [vis_block, show (⟨sl, bl⟩ : Cs).begin = ⟨sl, [] :: bl⟩ from rfl] at hR
  have f1 : Hid (∀ cd a, visC (u.kids.map Nd.t) true ⟨4, t0, n0, ks⟩ ⟨sl, [] :: bl⟩ = .error (cd, a) → R = .error (cd, a)) := fun cd a e => by rw [← hR, e]; rfl
  have f2 : Hid (∀ h, visC (u.kids.map Nd.t) true ⟨4, t0, n0, ks⟩ ⟨sl, [] :: bl⟩ = .ok h → R = .ok h.close) := fun h e => by rw [← hR, e]; rfl
  obtain ⟨t, ht⟩ : ∃ t, W.heap.size = t := ⟨_, rfl⟩
  rw [ht] at g0 hnO
  clear hR hC hN
  go_enter Tryz.func87, Tryz.ntmps87
  go_wp2_with (first
    | (go_at_call 65; refine hbeg.mono ?_; rintro e w1 ⟨rfl, O1, hC1, hK1⟩; obtain ⟨g1, hn1⟩ := hK1.box g0 hnO; obtain ⟨z0, z1, z2, z3, _, _, _, _⟩ := in4 g1)
    | (go_at_call 67; refine (hin O1 w1 hC1).mono ?_; intro e w6 hq; rcases hq.par with ⟨cd, a, he, rfl, hbp⟩ | ⟨c6, he6, rfl, O6, hC6, hK6⟩; (exact ⟨rfl, .inr ⟨cd, a, f1.out _ _ he, rfl, hbp⟩⟩); refine Hid.out ?_))
  have hkp6 := vis_keep _ _ _ _ _ he6
  have hlv6 : sumL c6.bl ≤ 30 := vis_lv _ _ _ _ _ he6 (by show sumL ([] :: bl) ≤ 30; rw [hsum]; exact hlv)
  obtain ⟨fb, hfb⟩ := tail_of (r := bl) hkp6.tail (by rw [hkp6.len]; simp)
  have hend := end_any w0 B u ub uc fm O6 c6.sl fb bl (sumL c6.bl) w6 (by rw [← hfb]; exact hC6) (by omega) (by omega) (by rw [hfb])
  have hCK6 := hCK0.trans (hK1.trans hK6)
  have fin : Hid (∀ W', Ck w0 B u ub uc fm O6 c6.sl bl (sumL bl) W' → CK O6 w6 O6 W' → CQ w0 B u ub uc fm O W R (.returned (.tuple #[])) W') := fun W' h1 h2 => .inl ⟨c6.close, f2.out _ he6, rfl, O6, by rw [show c6.close.bl = bl by show c6.bl.tail = _; rw [hfb]; rfl]; exact h1, hCK6.trans h2⟩
  clear hbeg hin hC6 hK6 z0 z1 z2 z3
  refine Lib.hid ?_
  go_wp2_with (go_at_call 69; refine hend.mono ?_; rintro e w7 ⟨rfl, hC7, hK7⟩)
  go_end0
  exact fin.out _ hC7 hK7
set_option maxRecDepth 20000 in
set_option maxHeartbeats 2000000 in
theorem visit_rest (k0 : Int) (hk : k0 ≠ 10 ∧ k0 ≠ 4 ∧ k0 ≠ 3 ∧ k0 ≠ 5 ∧ k0 ≠ 18 ∧ k0 ≠ 6 ∧ k0 ≠ 21) (t0 : List UInt8) (n0 : Int) (ks : List Nd) (ih : AllC2 ks) : VisC ⟨k0, t0, n0, ks⟩ := by
  intro w0 B u ub uc fm O sl bl b cap W hC hN hM hD hlv hNB hne hul
  have hms : manyN ⟨k0, t0, n0, ks⟩ = manyN.go ks + 1 := rfl
  rw [hms] at hM hD
  have hkl := many_len ks
  have hK := KA.of hN
  have hb0 := ext_alloc (Below.refl W.heap.size W) (nbx ⟨k0, t0, n0, ks⟩ b cap)
  have g0 := alloc_new W (nbx ⟨k0, t0, n0, ks⟩ b cap)
  have hCK0 := CK.below (O := O) hb0
  have hnO : ¬ O W.heap.size := fun h => by have := (hC.hO _ h).2; omega
  have hen := enter_any w0 B u ub uc fm O sl bl (sumL bl) _ (hC.on hb0) (by omega)
  have hall := fun O1 w1 (hC1 : Ck w0 B u ub uc fm O1 (sl ++ [-1]) bl (sumL bl) w1) => ih w0 B u ub uc fm O1 (sl ++ [-1]) bl b cap w1 hC1 hK (by simp; omega) (by omega) hlv hNB hne hul
  obtain ⟨R, hR⟩ : ∃ R, visC (u.kids.map Nd.t) false ⟨k0, t0, n0, ks⟩ ⟨sl, bl⟩ = R := ⟨_, rfl⟩
  rw [hR]
  rw [vis_else _ _ _ _ _ _ (by omega) (by omega), show (⟨sl, bl⟩ : Cs).enter = ⟨sl ++ [-1], bl⟩ from rfl] at hR
  simp only at hR
  have f1 : Hid (∀ cd a, allC (u.kids.map Nd.t) ks ⟨sl ++ [-1], bl⟩ = .error (cd, a) → R = .error (cd, a)) := fun cd a e => by rw [← hR, e]; rfl
  have f2 : Hid (∀ d, allC (u.kids.map Nd.t) ks ⟨sl ++ [-1], bl⟩ = .ok d → R = .ok d) := fun d e => by
    rw [← hR, e]
    show actC _ _ _ _ _ _ = _
    rw [actC, if_neg (by omega), if_neg (by omega), if_neg (by omega), if_neg (by omega)]
  obtain ⟨t, ht⟩ : ∃ t, W.heap.size = t := ⟨_, rfl⟩
  rw [ht] at g0 hnO
  obtain ⟨L, hL⟩ : ∃ L, ks.length = L := ⟨_, rfl⟩
  have hL0 := hL
  replace hL : Hid _ := hL
  replace hL0 : Hid _ := hL0
  replace hK : Hid (KA (low w0) w0 b cap ks) := hK
  clear hR hC hN
  have e10 : (k0 == 10) = false := by simp; omega
  have e4 : (k0 == 4) = false := by simp; omega
  have e3 : (k0 == 3) = false := by simp; omega
  have e5 : (k0 == 5) = false := by simp; omega
  have e18 : (k0 == 18) = false := by simp; omega
  have e6 : (k0 == 6) = false := by simp; omega
  have e21 : (k0 == 21) = false := by simp; omega
  clear hk
  go_enter Tryz.func87, Tryz.ntmps87
  go_wp2_with (first
    | (go_at_call 42; refine hen.mono ?_; rintro e w1 ⟨rfl, O1, hC1, hK1⟩; obtain ⟨g1, hn1⟩ := hK1.box g0 hnO; obtain ⟨z0, z1, z2, z3, _, _, _, _⟩ := in4 g1)
    | (go_at_call 66; refine (hall O1 w1 hC1).mono ?_; intro e w2 hq; rcases hq.par with ⟨cd, a, he, rfl, hbp⟩ | ⟨c2, he2, rfl, O2, hC2, hK2⟩; (exact ⟨rfl, .inr ⟨cd, a, f1.out _ _ he, rfl, hbp⟩⟩); refine Hid.out ?_))
  have hkp2 := all_keep _ _ _ _ he2
  have hln2 := all_len _ _ _ _ he2
  have hlv2 : sumL c2.bl ≤ 30 := all_lv _ _ _ _ he2 hlv
  have hNB2 := hkp2.nb hNB
  have hl2 := hkp2.len
  simp only [List.length_append, List.length_singleton] at hln2
  simp only at hl2
  have hRr := f2.out _ he2
  replace hRr : Hid _ := hRr
  obtain ⟨g2, hn2⟩ := hK2.box g1 hn1
  obtain ⟨y0, y1, y2, y3, _, _, _, _⟩ := in4 g2
  simp only at y0 y1 y2 y3
  have hCK2 := hCK0.trans (hK1.trans hK2)
  clear hen hall z0 z1 z2 z3 hC1 hK1 hK2 hCK0
  refine Lib.hid ?_
  go_wp2
  go_end0
  exact .inl ⟨c2, hRr.out, rfl, O2, hC2, hCK2⟩
set_option maxRecDepth 20000 in
set_option maxHeartbeats 2000000 in
theorem visit_decl3 (t0 : List UInt8) (n0 : Int) (ks : List Nd) (ih : AllC2 ks) : VisC ⟨3, t0, n0, ks⟩ := by
  intro w0 B u ub uc fm O sl bl b cap W hC hN hM hD hlv hNB hne hul
  have hms : manyN ⟨3, t0, n0, ks⟩ = manyN.go ks + 1 := rfl
  rw [hms] at hM hD
  have hkl := many_len ks
  have hK := KA.of hN
  have hb0 := ext_alloc (Below.refl W.heap.size W) (nbx ⟨3, t0, n0, ks⟩ b cap)
  have g0 := alloc_new W (nbx ⟨3, t0, n0, ks⟩ b cap)
  have hCK0 := CK.below (O := O) hb0
  have hnO : ¬ O W.heap.size := fun h => by have := (hC.hO _ h).2; omega
  have hen := enter_any w0 B u ub uc fm O sl bl (sumL bl) _ (hC.on hb0) (by omega)
  have hall := fun O1 w1 (hC1 : Ck w0 B u ub uc fm O1 (sl ++ [-1]) bl (sumL bl) w1) => ih w0 B u ub uc fm O1 (sl ++ [-1]) bl b cap w1 hC1 hK (by simp; omega) (by omega) hlv hNB hne hul
  obtain ⟨R, hR⟩ : ∃ R, visC (u.kids.map Nd.t) false ⟨3, t0, n0, ks⟩ ⟨sl, bl⟩ = R := ⟨_, rfl⟩
  rw [hR]
  rw [vis_else _ _ _ _ _ _ (by omega) (by omega), show (⟨sl, bl⟩ : Cs).enter = ⟨sl ++ [-1], bl⟩ from rfl] at hR
  simp only at hR
  have f1 : Hid (∀ cd a, allC (u.kids.map Nd.t) ks ⟨sl ++ [-1], bl⟩ = .error (cd, a) → R = .error (cd, a)) := fun cd a e => by rw [← hR, e]; rfl
  have f2 : Hid (∀ d, allC (u.kids.map Nd.t) ks ⟨sl ++ [-1], bl⟩ = .ok d → R = declareC t0 false sl.length d) := fun d e => by
    rw [← hR, e]
    show actC _ _ _ _ _ _ = _
    rw [actC, if_pos (by omega)]
  obtain ⟨t, ht⟩ : ∃ t, W.heap.size = t := ⟨_, rfl⟩
  rw [ht] at g0 hnO
  obtain ⟨L, hL⟩ : ∃ L, ks.length = L := ⟨_, rfl⟩
  have hL0 := hL
  replace hL : Hid _ := hL
  replace hL0 : Hid _ := hL0
  replace hK : Hid (KA (low w0) w0 b cap ks) := hK
  clear hR hC hN
  go_enter Tryz.func87, Tryz.ntmps87
  go_wp2_with (first
    | (go_at_call 42; refine hen.mono ?_; rintro e w1 ⟨rfl, O1, hC1, hK1⟩; obtain ⟨g1, hn1⟩ := hK1.box g0 hnO; obtain ⟨z0, z1, z2, z3, _, _, _, _⟩ := in4 g1)
    | (go_at_call 66; refine (hall O1 w1 hC1).mono ?_; intro e w2 hq; rcases hq.par with ⟨cd, a, he, rfl, hbp⟩ | ⟨c2, he2, rfl, O2, hC2, hK2⟩; (exact ⟨rfl, .inr ⟨cd, a, f1.out _ _ he, rfl, hbp⟩⟩); refine Hid.out ?_))
  have hkp2 := all_keep _ _ _ _ he2
  have hln2 := all_len _ _ _ _ he2
  have hlv2 : sumL c2.bl ≤ 30 := all_lv _ _ _ _ he2 hlv
  have hNB2 := hkp2.nb hNB
  have hl2 := hkp2.len
  simp only [List.length_append, List.length_singleton] at hln2
  simp only at hl2
  have hRr := f2.out _ he2
  replace hRr : Hid _ := hRr
  obtain ⟨g2, hn2⟩ := hK2.box g1 hn1
  obtain ⟨y0, y1, y2, y3, _, _, _, _⟩ := in4 g2
  simp only at y0 y1 y2 y3
  have hCK2 := hCK0.trans (hK1.trans hK2)
  clear hen hall z0 z1 z2 z3 hC1 hK1 hK2 hCK0
  obtain ⟨fb, fr, hfb⟩ : ∃ fb fr, c2.bl = fb :: fr := by
    cases hc : c2.bl with
    | nil => rw [hc] at hl2; exact absurd (List.length_eq_zero_iff.1 hl2.symm) hne
    | cons fb fr => exact ⟨fb, fr, rfl⟩
  have hdec := declare_any w0 B u ub uc fm O2 c2.sl fb fr (sumL c2.bl) t0 false sl.length w2 (by rw [← hfb]; exact hC2) (by rw [hfb]) hlv2 (by rw [hfb] at hl2; simp at hl2; omega) (by omega) (hNB2 fb (by rw [hfb]; simp))
  rw [← hfb, show (⟨c2.sl, c2.bl⟩ : Cs) = c2 from rfl] at hdec
  clear hC2
  refine Lib.hid ?_
  go_wp2_with (go_at_call 101; refine hdec.mono ?_; intro e w4 hq; rcases hq.par with ⟨cd, a, he, rfl, hbp⟩ | ⟨c4, he4, rfl, O4, hC4, hK4⟩; (exact ⟨rfl, .inr ⟨cd, a, by rw [hRr.out]; exact he, rfl, hbp⟩⟩))
  go_end0
  exact .inl ⟨c4, by rw [hRr.out]; exact he4, rfl, O4, hC4, hCK2.trans hK4⟩
set_option maxRecDepth 20000 in
set_option maxHeartbeats 2000000 in
theorem visit_decl5 (t0 : List UInt8) (n0 : Int) (ks : List Nd) (ih : AllC2 ks) : VisC ⟨5, t0, n0, ks⟩ := by
  intro w0 B u ub uc fm O sl bl b cap W hC hN hM hD hlv hNB hne hul
  have hms : manyN ⟨5, t0, n0, ks⟩ = manyN.go ks + 1 := rfl
  rw [hms] at hM hD
  have hkl := many_len ks
  have hK := KA.of hN
  have hb0 := ext_alloc (Below.refl W.heap.size W) (nbx ⟨5, t0, n0, ks⟩ b cap)
  have g0 := alloc_new W (nbx ⟨5, t0, n0, ks⟩ b cap)
  have hCK0 := CK.below (O := O) hb0
  have hnO : ¬ O W.heap.size := fun h => by have := (hC.hO _ h).2; omega
  have hen := enter_any w0 B u ub uc fm O sl bl (sumL bl) _ (hC.on hb0) (by omega)
  have hall := fun O1 w1 (hC1 : Ck w0 B u ub uc fm O1 (sl ++ [-1]) bl (sumL bl) w1) => ih w0 B u ub uc fm O1 (sl ++ [-1]) bl b cap w1 hC1 hK (by simp; omega) (by omega) hlv hNB hne hul
  obtain ⟨R, hR⟩ : ∃ R, visC (u.kids.map Nd.t) false ⟨5, t0, n0, ks⟩ ⟨sl, bl⟩ = R := ⟨_, rfl⟩
  rw [hR]
  rw [vis_else _ _ _ _ _ _ (by omega) (by omega), show (⟨sl, bl⟩ : Cs).enter = ⟨sl ++ [-1], bl⟩ from rfl] at hR
  simp only at hR
  have f1 : Hid (∀ cd a, allC (u.kids.map Nd.t) ks ⟨sl ++ [-1], bl⟩ = .error (cd, a) → R = .error (cd, a)) := fun cd a e => by rw [← hR, e]; rfl
  have f2 : Hid (∀ d, allC (u.kids.map Nd.t) ks ⟨sl ++ [-1], bl⟩ = .ok d → R = declareC t0 false sl.length d) := fun d e => by
    rw [← hR, e]
    show actC _ _ _ _ _ _ = _
    rw [actC, if_pos (by omega)]
  obtain ⟨t, ht⟩ : ∃ t, W.heap.size = t := ⟨_, rfl⟩
  rw [ht] at g0 hnO
  obtain ⟨L, hL⟩ : ∃ L, ks.length = L := ⟨_, rfl⟩
  have hL0 := hL
  replace hL : Hid _ := hL
  replace hL0 : Hid _ := hL0
  replace hK : Hid (KA (low w0) w0 b cap ks) := hK
  clear hR hC hN
  go_enter Tryz.func87, Tryz.ntmps87
  go_wp2_with (first
    | (go_at_call 42; refine hen.mono ?_; rintro e w1 ⟨rfl, O1, hC1, hK1⟩; obtain ⟨g1, hn1⟩ := hK1.box g0 hnO; obtain ⟨z0, z1, z2, z3, _, _, _, _⟩ := in4 g1)
    | (go_at_call 66; refine (hall O1 w1 hC1).mono ?_; intro e w2 hq; rcases hq.par with ⟨cd, a, he, rfl, hbp⟩ | ⟨c2, he2, rfl, O2, hC2, hK2⟩; (exact ⟨rfl, .inr ⟨cd, a, f1.out _ _ he, rfl, hbp⟩⟩); refine Hid.out ?_))
  have hkp2 := all_keep _ _ _ _ he2
  have hln2 := all_len _ _ _ _ he2
  have hlv2 : sumL c2.bl ≤ 30 := all_lv _ _ _ _ he2 hlv
  have hNB2 := hkp2.nb hNB
  have hl2 := hkp2.len
  simp only [List.length_append, List.length_singleton] at hln2
  simp only at hl2
  have hRr := f2.out _ he2
  replace hRr : Hid _ := hRr
  obtain ⟨g2, hn2⟩ := hK2.box g1 hn1
  obtain ⟨y0, y1, y2, y3, _, _, _, _⟩ := in4 g2
  simp only at y0 y1 y2 y3
  have hCK2 := hCK0.trans (hK1.trans hK2)
  clear hen hall z0 z1 z2 z3 hC1 hK1 hK2 hCK0
  obtain ⟨fb, fr, hfb⟩ : ∃ fb fr, c2.bl = fb :: fr := by
    cases hc : c2.bl with
    | nil => rw [hc] at hl2; exact absurd (List.length_eq_zero_iff.1 hl2.symm) hne
    | cons fb fr => exact ⟨fb, fr, rfl⟩
  have hdec := declare_any w0 B u ub uc fm O2 c2.sl fb fr (sumL c2.bl) t0 false sl.length w2 (by rw [← hfb]; exact hC2) (by rw [hfb]) hlv2 (by rw [hfb] at hl2; simp at hl2; omega) (by omega) (hNB2 fb (by rw [hfb]; simp))
  rw [← hfb, show (⟨c2.sl, c2.bl⟩ : Cs) = c2 from rfl] at hdec
  clear hC2
  refine Lib.hid ?_
  go_wp2_with (go_at_call 101; refine hdec.mono ?_; intro e w4 hq; rcases hq.par with ⟨cd, a, he, rfl, hbp⟩ | ⟨c4, he4, rfl, O4, hC4, hK4⟩; (exact ⟨rfl, .inr ⟨cd, a, by rw [hRr.out]; exact he, rfl, hbp⟩⟩))
  go_end0
  exact .inl ⟨c4, by rw [hRr.out]; exact he4, rfl, O4, hC4, hCK2.trans hK4⟩
set_option maxRecDepth 20000 in
set_option maxHeartbeats 2000000 in
theorem visit_name (t0 : List UInt8) (n0 : Int) (ks : List Nd) (ih : AllC2 ks) : VisC ⟨18, t0, n0, ks⟩ := by
  intro w0 B u ub uc fm O sl bl b cap W hC hN hM hD hlv hNB hne hul
  have hms : manyN ⟨18, t0, n0, ks⟩ = manyN.go ks + 1 := rfl
  rw [hms] at hM hD
  have hkl := many_len ks
  have hK := KA.of hN
  have hb0 := ext_alloc (Below.refl W.heap.size W) (nbx ⟨18, t0, n0, ks⟩ b cap)
  have g0 := alloc_new W (nbx ⟨18, t0, n0, ks⟩ b cap)
  have hCK0 := CK.below (O := O) hb0
  have hnO : ¬ O W.heap.size := fun h => by have := (hC.hO _ h).2; omega
  have hen := enter_any w0 B u ub uc fm O sl bl (sumL bl) _ (hC.on hb0) (by omega)
  have hall := fun O1 w1 (hC1 : Ck w0 B u ub uc fm O1 (sl ++ [-1]) bl (sumL bl) w1) => ih w0 B u ub uc fm O1 (sl ++ [-1]) bl b cap w1 hC1 hK (by simp; omega) (by omega) hlv hNB hne hul
  obtain ⟨R, hR⟩ : ∃ R, visC (u.kids.map Nd.t) false ⟨18, t0, n0, ks⟩ ⟨sl, bl⟩ = R := ⟨_, rfl⟩
  rw [hR]
  rw [vis_else _ _ _ _ _ _ (by omega) (by omega), show (⟨sl, bl⟩ : Cs).enter = ⟨sl ++ [-1], bl⟩ from rfl] at hR
  simp only at hR
  have f1 : Hid (∀ cd a, allC (u.kids.map Nd.t) ks ⟨sl ++ [-1], bl⟩ = .error (cd, a) → R = .error (cd, a)) := fun cd a e => by rw [← hR, e]; rfl
  have f2 : Hid (∀ d, allC (u.kids.map Nd.t) ks ⟨sl ++ [-1], bl⟩ = .ok d → R = nameC (u.kids.map Nd.t) t0 sl.length d) := fun d e => by
    rw [← hR, e]
    show actC _ _ _ _ _ _ = _
    rw [actC, if_neg (by omega), if_pos rfl]
  obtain ⟨t, ht⟩ : ∃ t, W.heap.size = t := ⟨_, rfl⟩
  rw [ht] at g0 hnO
  obtain ⟨L, hL⟩ : ∃ L, ks.length = L := ⟨_, rfl⟩
  have hL0 := hL
  replace hL : Hid _ := hL
  replace hL0 : Hid _ := hL0
  replace hK : Hid (KA (low w0) w0 b cap ks) := hK
  clear hR hC hN
  go_enter Tryz.func87, Tryz.ntmps87
  go_wp2_with (first
    | (go_at_call 42; refine hen.mono ?_; rintro e w1 ⟨rfl, O1, hC1, hK1⟩; obtain ⟨g1, hn1⟩ := hK1.box g0 hnO; obtain ⟨z0, z1, z2, z3, _, _, _, _⟩ := in4 g1)
    | (go_at_call 66; refine (hall O1 w1 hC1).mono ?_; intro e w2 hq; rcases hq.par with ⟨cd, a, he, rfl, hbp⟩ | ⟨c2, he2, rfl, O2, hC2, hK2⟩; (exact ⟨rfl, .inr ⟨cd, a, f1.out _ _ he, rfl, hbp⟩⟩); refine Hid.out ?_))
  have hkp2 := all_keep _ _ _ _ he2
  have hln2 := all_len _ _ _ _ he2
  have hlv2 : sumL c2.bl ≤ 30 := all_lv _ _ _ _ he2 hlv
  have hNB2 := hkp2.nb hNB
  have hl2 := hkp2.len
  simp only [List.length_append, List.length_singleton] at hln2
  simp only at hl2
  have hRr := f2.out _ he2
  replace hRr : Hid _ := hRr
  obtain ⟨g2, hn2⟩ := hK2.box g1 hn1
  obtain ⟨y0, y1, y2, y3, _, _, _, _⟩ := in4 g2
  simp only at y0 y1 y2 y3
  have hCK2 := hCK0.trans (hK1.trans hK2)
  clear hen hall z0 z1 z2 z3 hC1 hK1 hK2 hCK0
  have hnm := name_any w0 B u ub uc fm O2 c2.sl c2.bl t0 sl.length w2 hC2 hNB2 (by omega) (by omega) hul
  rw [show (⟨c2.sl, c2.bl⟩ : Cs) = c2 from rfl] at hnm
  clear hC2
  refine Lib.hid ?_
  go_wp2_with (go_at_call 102; refine hnm.mono ?_; intro e w4 hq; rcases hq.par with ⟨cd, a, he, rfl, hbp⟩ | ⟨c4, he4, rfl, O4, hC4, hK4⟩; (exact ⟨rfl, .inr ⟨cd, a, by rw [hRr.out]; exact he, rfl, hbp⟩⟩))
  go_end0
  exact .inl ⟨c4, by rw [hRr.out]; exact he4, rfl, O4, hC4, hCK2.trans hK4⟩
set_option maxRecDepth 20000 in
set_option maxHeartbeats 2000000 in
theorem visit_call (t0 : List UInt8) (n0 : Int) (ks : List Nd) (ih : AllC2 ks) : VisC ⟨21, t0, n0, ks⟩ := by
  intro w0 B u ub uc fm O sl bl b cap W hC hN hM hD hlv hNB hne hul
  have hms : manyN ⟨21, t0, n0, ks⟩ = manyN.go ks + 1 := rfl
  rw [hms] at hM hD
  have hkl := many_len ks
  have hK := KA.of hN
  have hb0 := ext_alloc (Below.refl W.heap.size W) (nbx ⟨21, t0, n0, ks⟩ b cap)
  have g0 := alloc_new W (nbx ⟨21, t0, n0, ks⟩ b cap)
  have hCK0 := CK.below (O := O) hb0
  have hnO : ¬ O W.heap.size := fun h => by have := (hC.hO _ h).2; omega
  have hen := enter_any w0 B u ub uc fm O sl bl (sumL bl) _ (hC.on hb0) (by omega)
  have hall := fun O1 w1 (hC1 : Ck w0 B u ub uc fm O1 (sl ++ [-1]) bl (sumL bl) w1) => ih w0 B u ub uc fm O1 (sl ++ [-1]) bl b cap w1 hC1 hK (by simp; omega) (by omega) hlv hNB hne hul
  obtain ⟨R, hR⟩ : ∃ R, visC (u.kids.map Nd.t) false ⟨21, t0, n0, ks⟩ ⟨sl, bl⟩ = R := ⟨_, rfl⟩
  rw [hR]
  rw [vis_else _ _ _ _ _ _ (by omega) (by omega), show (⟨sl, bl⟩ : Cs).enter = ⟨sl ++ [-1], bl⟩ from rfl] at hR
  simp only at hR
  have f1 : Hid (∀ cd a, allC (u.kids.map Nd.t) ks ⟨sl ++ [-1], bl⟩ = .error (cd, a) → R = .error (cd, a)) := fun cd a e => by rw [← hR, e]; rfl
  have f2 : Hid (∀ d, allC (u.kids.map Nd.t) ks ⟨sl ++ [-1], bl⟩ = .ok d → R = (if 6 < ks.length then .error (1, sl.length) else .ok d)) := fun d e => by
    rw [← hR, e]
    show actC _ _ _ _ _ _ = _
    rw [actC, if_neg (by omega), if_neg (by omega), if_neg (by omega), if_pos rfl]
  obtain ⟨t, ht⟩ : ∃ t, W.heap.size = t := ⟨_, rfl⟩
  rw [ht] at g0 hnO
  obtain ⟨L, hL⟩ : ∃ L, ks.length = L := ⟨_, rfl⟩
  have hL0 := hL
  replace hL : Hid _ := hL
  replace hL0 : Hid _ := hL0
  replace hK : Hid (KA (low w0) w0 b cap ks) := hK
  clear hR hC hN
  go_enter Tryz.func87, Tryz.ntmps87
  go_wp2_with (first
    | (go_at_call 42; refine hen.mono ?_; rintro e w1 ⟨rfl, O1, hC1, hK1⟩; obtain ⟨g1, hn1⟩ := hK1.box g0 hnO; obtain ⟨z0, z1, z2, z3, _, _, _, _⟩ := in4 g1)
    | (go_at_call 66; refine (hall O1 w1 hC1).mono ?_; intro e w2 hq; rcases hq.par with ⟨cd, a, he, rfl, hbp⟩ | ⟨c2, he2, rfl, O2, hC2, hK2⟩; (exact ⟨rfl, .inr ⟨cd, a, f1.out _ _ he, rfl, hbp⟩⟩); refine Hid.out ?_))
  have hkp2 := all_keep _ _ _ _ he2
  have hln2 := all_len _ _ _ _ he2
  have hlv2 : sumL c2.bl ≤ 30 := all_lv _ _ _ _ he2 hlv
  have hNB2 := hkp2.nb hNB
  have hl2 := hkp2.len
  simp only [List.length_append, List.length_singleton] at hln2
  simp only at hl2
  have hRr := f2.out _ he2
  replace hRr : Hid _ := hRr
  obtain ⟨g2, hn2⟩ := hK2.box g1 hn1
  obtain ⟨y0, y1, y2, y3, _, _, _, _⟩ := in4 g2
  simp only at y0 y1 y2 y3
  have hCK2 := hCK0.trans (hK1.trans hK2)
  clear hen hall z0 z1 z2 z3 hC1 hK1 hK2 hCK0
  have hwL : IntKind.i64.wrap ((L : Int) - 1) = (L : Int) - 1 := by rw [IntKind.wrap_i64]; have := hL.out; omega
  rw [hL.out] at y3
  have hbl2 := hC2.bl
  refine Lib.hid ?_
  by_cases h6 : 6 < L
  · have h6' : (5 : Int) < (L : Int) - 1 := by omega
    go_wp2_with (go_at_call 44; refine (refuse_yes _ _ sl.length _).mono ?_; rintro e w4 ⟨rfl, rfl⟩)
    exact ⟨rfl, .inr ⟨1, sl.length, by rw [hRr.out, if_pos (by rw [hL.out]; exact h6)], rfl, hbl2⟩⟩
  · have h6' : ¬ (5 : Int) < (L : Int) - 1 := by omega
    go_wp2_with (go_at_call 44; refine (refuse_no _ _ _ _).mono ?_; rintro e w4 ⟨rfl, rfl⟩)
    go_end0
    exact .inl ⟨c2, by rw [hRr.out, if_neg (by rw [hL.out]; exact h6)], rfl, O2, hC2, hCK2⟩
set_option maxRecDepth 20000 in
set_option maxHeartbeats 2000000 in
theorem visit_set (t0 : List UInt8) (n0 : Int) (ks : List Nd) (p : Nd) (hp : ks[0]? = some p) (ih : AllC2 ks) : VisC ⟨6, t0, n0, ks⟩ := by
  intro w0 B u ub uc fm O sl bl b cap W hC hN hM hD hlv hNB hne hul
  have hms : manyN ⟨6, t0, n0, ks⟩ = manyN.go ks + 1 := rfl
  rw [hms] at hM hD
  have hkl := many_len ks
  have hK := KA.of hN
  have hb0 := ext_alloc (Below.refl W.heap.size W) (nbx ⟨6, t0, n0, ks⟩ b cap)
  have g0 := alloc_new W (nbx ⟨6, t0, n0, ks⟩ b cap)
  have hCK0 := CK.below (O := O) hb0
  have hnO : ¬ O W.heap.size := fun h => by have := (hC.hO _ h).2; omega
  have hen := enter_any w0 B u ub uc fm O sl bl (sumL bl) _ (hC.on hb0) (by omega)
  have hall := fun O1 w1 (hC1 : Ck w0 B u ub uc fm O1 (sl ++ [-1]) bl (sumL bl) w1) => ih w0 B u ub uc fm O1 (sl ++ [-1]) bl b cap w1 hC1 hK (by simp; omega) (by omega) hlv hNB hne hul
  obtain ⟨R, hR⟩ : ∃ R, visC (u.kids.map Nd.t) false ⟨6, t0, n0, ks⟩ ⟨sl, bl⟩ = R := ⟨_, rfl⟩
  rw [hR]
  rw [vis_else _ _ _ _ _ _ (by omega) (by omega), show (⟨sl, bl⟩ : Cs).enter = ⟨sl ++ [-1], bl⟩ from rfl] at hR
  simp only at hR
  have f1 : Hid (∀ cd a, allC (u.kids.map Nd.t) ks ⟨sl ++ [-1], bl⟩ = .error (cd, a) → R = .error (cd, a)) := fun cd a e => by rw [← hR, e]; rfl
  have f2 : Hid (∀ d, allC (u.kids.map Nd.t) ks ⟨sl ++ [-1], bl⟩ = .ok d → R = (if setB ks.head? d then .ok d else .error (3, sl.length))) := fun d e => by
    rw [← hR, e]
    show actC _ _ _ _ _ _ = _
    rw [actC, if_neg (by omega), if_neg (by omega), if_pos rfl]
  obtain ⟨t, ht⟩ : ∃ t, W.heap.size = t := ⟨_, rfl⟩
  rw [ht] at g0 hnO
  obtain ⟨L, hL⟩ : ∃ L, ks.length = L := ⟨_, rfl⟩
  have hL0 := hL
  replace hL : Hid _ := hL
  replace hL0 : Hid _ := hL0
  replace hK : Hid (KA (low w0) w0 b cap ks) := hK
  clear hR hC hN
  go_enter Tryz.func87, Tryz.ntmps87
  go_wp2_with (first
    | (go_at_call 42; refine hen.mono ?_; rintro e w1 ⟨rfl, O1, hC1, hK1⟩; obtain ⟨g1, hn1⟩ := hK1.box g0 hnO; obtain ⟨z0, z1, z2, z3, _, _, _, _⟩ := in4 g1)
    | (go_at_call 66; refine (hall O1 w1 hC1).mono ?_; intro e w2 hq; rcases hq.par with ⟨cd, a, he, rfl, hbp⟩ | ⟨c2, he2, rfl, O2, hC2, hK2⟩; (exact ⟨rfl, .inr ⟨cd, a, f1.out _ _ he, rfl, hbp⟩⟩); refine Hid.out ?_))
  have hkp2 := all_keep _ _ _ _ he2
  have hln2 := all_len _ _ _ _ he2
  have hlv2 : sumL c2.bl ≤ 30 := all_lv _ _ _ _ he2 hlv
  have hNB2 := hkp2.nb hNB
  have hl2 := hkp2.len
  simp only [List.length_append, List.length_singleton] at hln2
  simp only at hl2
  have hRr := f2.out _ he2
  replace hRr : Hid _ := hRr
  obtain ⟨g2, hn2⟩ := hK2.box g1 hn1
  obtain ⟨y0, y1, y2, y3, _, _, _, _⟩ := in4 g2
  simp only at y0 y1 y2 y3
  have hCK2 := hCK0.trans (hK1.trans hK2)
  clear hen hall z0 z1 z2 z3 hC1 hK1 hK2 hCK0
  obtain ⟨g', off, b', cap', rfl, v0, v1, v2, v3, hyV⟩ := KA.at hK.out hp
  simp only [Nat.zero_mul, Nat.add_zero] at v0 v1 v2 v3
  have hgw := World.block_lt_of_cell? _ _ v0
  simp only at hgw
  have hcell : ∀ i v, w0.cell? ⟨g', i, none⟩ = some v → w2.cell? ⟨g', i, none⟩ = some v := fun i v h => (hC2.bl.cell (p := ⟨g', i, none⟩) hgw).trans h
  replace v0 := hcell _ _ v0
  replace v1 := hcell _ _ v1
  replace v2 := hcell _ _ v2
  replace v3 := hcell _ _ v3
  have hL1 : (0 : Int) < (L : Int) := by have := (List.getElem?_eq_some_iff.1 hp).1; have := hL.out; omega
  rw [hL.out] at y3
  have hms2 := maySet_any w0 B u ub uc fm O2 c2.sl c2.bl p b' cap' w2 hC2 hNB2 (by omega)
  have hsb : setB ks.head? c2 = setV p c2.bl := by rw [List.head?_eq_getElem?, hp]; rfl
  obtain ⟨sv, hsv⟩ : ∃ sv, setV p c2.bl = sv := ⟨_, rfl⟩
  rw [hsv] at hms2 hsb
  rw [hsb] at hRr
  obtain ⟨pk, pt, pn, ps⟩ := p
  simp only at v0 v1 v2 v3
  replace hms2 : Calls Tryz.prog 103 #[.pointer (some ⟨B, 0, none⟩), .agg #[.int .i64 pk, sk pt, .int .i64 pn, .slice b' ps.length cap']] w2 fun e W' => e = .returned (.bool sv) ∧ Below w2.heap.size w2 W' := hms2
  clear hsv hsb hcell hyV hp
  refine Lib.hid ?_
  go_wp2_with (first
    | (go_at_call 103; refine hms2.mono ?_; rintro e w3 ⟨rfl, hb3⟩; have hC3 := hC2.on hb3; have hbl3 := hC3.bl)
    | (go_at_call 44; refine (refuse_any _ _ _ sl.length _).mono ?_; rintro e w4 ⟨rfl, (⟨hw, rfl⟩ | ⟨hw, rfl⟩)⟩; (exact ⟨rfl, .inr ⟨3, sl.length, by rw [hRr.out]; simp at hw; simp [hw], rfl, hbl3⟩⟩)))
  go_end0
  exact .inl ⟨c2, by rw [hRr.out]; simp at hw; simp [hw], rfl, O2, hC3, hCK2.trans (CK.below (O := O2) hb3)⟩
end Go.Proofs.YtnnppenlfocgiaaGreatDoor
namespace Go.Proofs.YtnnppenlfocgiaaGreatDoor
open Go

theorem vis_any (n : Nd) : isN n → VisC n ∧ (n.k = 4 → InC n) := by
  refine nd_ind (m := fun n => isN n → VisC n ∧ (n.k = 4 → InC n)) (fun k t o ks ih h => ?_) n
  rw [isN] at h
  obtain ⟨h1, _, _, _, _, _, _, _, h9⟩ := h
  rw [isN_go] at h9
  have hall : AllC2 ks := allV_of ks (fun y hy => by
    obtain ⟨j, hj⟩ := List.getElem?_of_mem hy
    exact (ih y hy (h9 j y hj).2).1)
  by_cases h4 : k = 4
  · subst h4
    have hin := inside_of t o ks hall
    exact ⟨visit_block t o ks hin, fun _ => hin⟩
  refine ⟨?_, fun e => absurd e h4⟩
  by_cases h10 : k = 10
  · subst h10
    have hl : ks.length = 3 := by unfold kidsOK at h1; omega
    match ks, hl with
    | [x, y, z], _ =>
      have hz := h9 2 z rfl
      have hzk : z.k = 4 := by
        have := hz.1
        unfold fitsK at this
        rw [if_neg (by omega), if_neg (by omega), if_neg (by omega), if_neg (by omega), if_pos rfl, if_pos (by omega)] at this
        exact this
      exact visit_for t o _ (cnt_of t o x y z (allV_of _ (fun w hw => by
        rcases List.mem_cons.1 hw with rfl | hw
        · exact (ih _ (by simp) (h9 0 _ rfl).2).1
        · rcases List.mem_cons.1 hw with rfl | hw
          · exact (ih _ (by simp) (h9 1 _ rfl).2).1
          · simp at hw)) ((ih z (by simp) hz.2).2 hzk))
  by_cases h3 : k = 3
  · subst h3; exact visit_decl3 t o ks hall
  by_cases h5 : k = 5
  · subst h5; exact visit_decl5 t o ks hall
  by_cases h18 : k = 18
  · subst h18; exact visit_name t o ks hall
  by_cases h21 : k = 21
  · subst h21; exact visit_call t o ks hall
  by_cases h6 : k = 6
  · subst h6
    have hl : ks.length = 2 := by unfold kidsOK at h1; omega
    obtain ⟨p, hp⟩ : ∃ p, ks[0]? = some p := ⟨_, List.getElem?_eq_getElem (by omega)⟩
    exact visit_set t o ks p hp hall
  exact visit_rest k ⟨h10, h4, h3, h5, h18, h6, h21⟩ t o ks hall
end Go.Proofs.YtnnppenlfocgiaaGreatDoor
namespace Go.Proofs.YtnnppenlfocgiaaGreatDoor
open Go.RowKit
open Go

set_option maxRecDepth 20000 in
set_option maxHeartbeats 4000000 in
theorem fnc_of (t0 : List UInt8) (n0 : Int) (ks : List Nd) (P : Nat) (z : Nd) (hP1 : P + 1 = ks.length) (hzk : ks[P]? = some z) (hz : InC z) (hps : AllC2 (ks.take P)) (i : Nat) (w0 : World) (B : Nat) (u : Nd) (ub : Option Addr) (uc fm : Nat) (O : Nat → Prop) (sl : List Int) (b : Option Addr) (cap : Nat) (W : World) (hC : Ck w0 B u ub uc fm O sl [] 0 W) (hN : NdV (low w0) w0 ⟨2, t0, n0, ks⟩ (ndv ⟨2, t0, n0, ks⟩ b cap)) (hM : sl.length + manyN ⟨2, t0, n0, ks⟩ ≤ 100000) (hui : u.kids[i]? = some ⟨2, t0, n0, ks⟩) (hul : u.kids.length ≤ 100000) :
    Calls Tryz.prog 43 #[.pointer (some ⟨B, 0, none⟩), ndv ⟨2, t0, n0, ks⟩ b cap, .int .i64 (i : Nat)] W (CQ w0 B u ub uc fm O W (funC (u.kids.map Nd.t) i ⟨2, t0, n0, ks⟩ ⟨sl, []⟩)) := by
  have hil : i < u.kids.length := (List.getElem?_eq_some_iff.1 hui).1
  have hms : manyN ⟨2, t0, n0, ks⟩ = manyN.go ks + 1 := rfl
  rw [hms] at hM
  have hkl := many_len ks
  have hK := KA.of hN
  obtain ⟨bz, cz, hzN, hbody⟩ := body_any w0 2 t0 n0 ks b cap hK P z hzk hP1 (by omega)
  have hcap := hK.1
  have hKp : KA (low w0) w0 b cap (ks.take P) := hK.take P
  have hpl : (ks.take P).length = P := by simp; omega
  obtain ⟨g', off, _, _, rfl, _⟩ := KA.at hK hzk
  have hpar := fun V => params_any 2 t0 n0 ks g' off cap P hP1 (by omega) hcap V
  have hsplit : ks = ks.take P ++ [z] := by
    have e : ks.drop P = [z] := by
      rw [List.drop_eq_getElem_cons (by omega), List.drop_eq_nil_of_le (by omega)]
      congr 1
      exact (List.getElem?_eq_some_iff.1 hzk).2
    rw [← e, List.take_append_drop]
  have hmsp : manyN.go ks = manyN.go (ks.take P) + manyN z := by
    have := congrArg manyN.go hsplit
    rw [many_app] at this
    simpa [manyN.go] using this
  have hmz := manyN_eq z
  obtain ⟨j, hj⟩ : ∃ j, funI (u.kids.map Nd.t) t0 = some j := by
    have hmem : t0 ∈ (u.kids.map Nd.t) := List.mem_map.2 ⟨_, List.mem_of_getElem? hui, rfl⟩
    cases hf : funI (u.kids.map Nd.t) t0 with
    | none =>
      unfold funI at hf
      rw [List.findIdx?_eq_none_iff] at hf
      have := hf t0 hmem
      simp at this
    | some j => exact ⟨j, rfl⟩
  obtain ⟨R, hR⟩ : ∃ R, funC (u.kids.map Nd.t) i ⟨2, t0, n0, ks⟩ ⟨sl, []⟩ = R := ⟨_, rfl⟩
  rw [hR]
  have hR' : (if j < i then .error (5, sl.length) else if 12 ≤ i ∨ 5 < P then .error (1, sl.length) else ((allC (u.kids.map Nd.t) (ks.take P) ⟨sl ++ [-1], [[]]⟩).bind (visC (u.kids.map Nd.t) true z)).map Cs.close) = R := by
    rw [← hR, funC]
    have e1 : twiceB (u.kids.map Nd.t) i t0 = decide (j < i) := by unfold twiceB; rw [hj]
    have e2 : (12 ≤ i ∨ 6 < ks.length) ↔ (12 ≤ i ∨ 5 < P) := by omega
    simp only [e1, decide_eq_true_eq, e2]
    split
    · rfl
    · split
      · rfl
      · rw [← body_all, ← hsplit]; rfl
  clear hR
  have hb0 := ext_alloc (Below.refl W.heap.size W) (nbx ⟨2, t0, n0, ks⟩ (some ⟨g', off, none⟩) cap)
  have g0 := alloc_new W (nbx ⟨2, t0, n0, ks⟩ (some ⟨g', off, none⟩) cap)
  have hCK0 := CK.below (O := O) hb0
  have hen := enter_any w0 B u ub uc fm O sl [] 0 _ (hC.on hb0) (by omega)
  have hnO : ¬ O W.heap.size := fun h => by have := (hC.hO _ h).2; omega
  obtain ⟨t, ht⟩ : ∃ t, W.heap.size = t := ⟨_, rfl⟩
  rw [ht] at g0 hnO
  obtain ⟨s0, hs0⟩ : ∃ s0, sl.length = s0 := ⟨_, rfl⟩
  rw [hs0] at hen hR' hM
  replace hs0 : Hid _ := hs0
  replace hR' : Hid _ := hR'
  replace hbody : Hid _ := hbody
  replace hpar : Hid _ := hpar
  replace hz : Hid (InC z) := hz
  replace hps : Hid (AllC2 (ks.take P)) := hps
  replace hzN : Hid (NdV (low w0) w0 z (ndv z bz cz)) := hzN
  replace hKp : Hid (KA (low w0) w0 (some ⟨g', off, none⟩) cap (ks.take P)) := hKp
  replace hsplit : Hid _ := hsplit
  replace hzk : Hid (ks[P]? = some z) := hzk
  replace hui : Hid _ := hui
  replace hj : Hid (funI (u.kids.map Nd.t) t0 = some j) := hj
  clear hC hN hK
  go_enter Tryz.func43, Tryz.ntmps43
  go_wp2_with (go_at_call 42; refine hen.mono ?_; rintro e w1 ⟨rfl, O1, hC1, hK1⟩; refine Hid.out ?_)
  obtain ⟨g1, hn1⟩ := hK1.box g0 hnO
  have hbd1 : Below w1.heap.size w1 w1.drew := (Below.refl _ _).drew
  obtain ⟨z0, z1, z2, z3, _, _, _, _⟩ := in4 g1
  simp only at z0 z1 z2 z3
  obtain ⟨_, c4, _, _⟩ := hC1.cells
  have hlook := (hC1.on hbd1).funs t0 false
  rw [hj.out] at hlook
  simp only [Bool.false_eq_true, if_false, Option.map_some, Option.getD_some] at hlook
  have hCK1 := hCK0.trans (hK1.trans (CK.below (O := O1) hbd1))
  have hC1d := hC1.on hbd1
  clear hen hCK0 hK1 hC1
  have hR2 := hR'.out
  by_cases hji : j < i
  · rw [if_pos hji] at hR2
    subst hR2
    have hji' : (j : Int) < (i : Int) := by omega
    have fin : Hid (Below w0.heap.size w0 w1.drew) := hC1d.bl
    refine Lib.hid ?_
    go_wp2
    go_region_with ((go_at_call 44; refine (refuse_any _ _ _ s0 _).mono ?_; rintro e w2 ⟨rfl, (⟨hw, rfl⟩ | ⟨hw, rfl⟩)⟩; (exact ⟨rfl, .inr ⟨5, s0, rfl, rfl, fin.out⟩⟩)))
    all_goals exact absurd hw (by simp; try omega)
  rw [if_neg hji] at hR2
  replace hR2 : Hid _ := hR2
  have hji' : ¬ (j : Int) < (i : Int) := by omega
  have c4d : w1.drew.cell? ⟨B, 4, none⟩ = some (.map (some fm)) := c4
  have z1d : w1.drew.cell? ⟨t, 1, none⟩ = some (sk t0) := z1
  refine Lib.hid ?_
  go_wp2
  go_region_held3 (fun w' => w'.cell? ⟨B, 4, none⟩ = some (.map (some fm)) ∧ w'.cell? ⟨t, 1, none⟩ = some (sk t0)) (go_keep) ((go_at_call 44; refine (refuse_no _ _ _ _).mono ?_; rintro e w2 ⟨rfl, rfl⟩))
  obtain ⟨V, hV⟩ : ∃ V, w1.drew = V := ⟨_, rfl⟩
  rw [hV] at hC1d hCK1 hlook c4d z1d
  have gV : V.heap[t]? = some (nbx ⟨2, t0, n0, ks⟩ (some ⟨g', off, none⟩) cap) := by rw [← hV]; exact g1
  rw [hV]
  clear hV c4 z0 z1 z2 z3 c4d z1d hlook g1 hbd1
  obtain ⟨z0, z1, z2, z3, _, _, _, _⟩ := in4 gV
  simp only at z0 z1 z2 z3
  have hR3 := hR2.out
  by_cases h12 : 12 ≤ i
  · rw [if_pos (.inl h12)] at hR3
    subst hR3
    have h12' : (12 : Int) ≤ (i : Int) := by omega
    have fin : Hid (Below w0.heap.size w0 V) := hC1d.bl
    go_wp2_with (go_at_call 44; refine (refuse_any _ _ _ s0 _).mono ?_; rintro e w3 ⟨rfl, (⟨hw, rfl⟩ | ⟨hw, rfl⟩)⟩; (exact ⟨rfl, .inr ⟨1, s0, rfl, rfl, fin.out⟩⟩))
    exact absurd hw (by simp; try omega)
  have h12' : ¬ (12 : Int) ≤ (i : Int) := by omega
  have hp1 := hpar.out V
  by_cases h5 : 5 < P
  · rw [if_pos (.inr h5)] at hR3
    subst hR3
    have h5' : (5 : Int) < (P : Int) := by omega
    have fin : Hid (∀ w3, Below V.heap.size V w3 → Below w0.heap.size w0 w3) := fun w3 h => ext_trans hC1d.bl h
    go_wp2_with (first
      | (go_at_call 45; refine hp1.mono ?_; rintro e w2 ⟨rfl, hb2⟩)
      | (go_at_call 44; refine (refuse_any _ _ _ s0 _).mono ?_; rintro e w3 ⟨rfl, (⟨hw, rfl⟩ | ⟨hw, rfl⟩)⟩; (exact ⟨rfl, .inr ⟨1, s0, rfl, rfl, fin.out _ hb2⟩⟩)))
    exact absurd hw (by simp; try omega)
  have h5' : ¬ (5 : Int) < (P : Int) := by omega
  rw [if_neg (by omega)] at hR3
  have f1 : Hid (∀ cd a, allC (u.kids.map Nd.t) (ks.take P) ⟨sl ++ [-1], [[]]⟩ = .error (cd, a) → R = .error (cd, a)) := fun cd a e => by rw [← hR3, e]; rfl
  have f2 : Hid (∀ d cd a, allC (u.kids.map Nd.t) (ks.take P) ⟨sl ++ [-1], [[]]⟩ = .ok d → visC (u.kids.map Nd.t) true z ⟨d.sl, d.bl⟩ = .error (cd, a) → R = .error (cd, a)) := fun d cd a e e2 => by rw [← hR3, e]; show Except.map _ (visC (u.kids.map Nd.t) true z ⟨d.sl, d.bl⟩) = _; rw [e2]; rfl
  have f3 : Hid (∀ d h, allC (u.kids.map Nd.t) (ks.take P) ⟨sl ++ [-1], [[]]⟩ = .ok d → visC (u.kids.map Nd.t) true z ⟨d.sl, d.bl⟩ = .ok h → R = .ok h.close) := fun d h e e2 => by rw [← hR3, e]; show Except.map _ (visC (u.kids.map Nd.t) true z ⟨d.sl, d.bl⟩) = _; rw [e2]; rfl
  clear hR3
  go_wp2_with (first
    | (go_at_call 45; refine hp1.mono ?_; rintro e w2 ⟨rfl, hb2⟩)
    | (go_at_call 44; refine (refuse_any _ _ _ s0 _).mono ?_; rintro e w3 ⟨rfl, (⟨hw, rfl⟩ | ⟨hw, rfl⟩)⟩; (exact absurd hw (by simp; try omega)); refine Hid.out ?_))
  have hC2 := hC1d.on hb2
  have hCK2 := hCK1.trans (CK.below (O := O1) hb2)
  obtain ⟨g2, hn2⟩ := (CK.below (O := O1) hb2).box gV hn1
  have hbeg := begin_any w0 B u ub uc fm O1 (sl ++ [-1]) [] 0 w3 hC2 (by simp)
  clear hp1 hC1d hCK1 z0 z1 z2 z3 hw
  refine Lib.hid ?_
  go_wp2_with (go_at_call 65; refine hbeg.mono ?_; rintro e w4 ⟨rfl, O4, hC4, hK4⟩; refine Hid.out ?_)
  obtain ⟨g4, hn4⟩ := hK4.box g2 hn2
  obtain ⟨z0, z1, z2, z3, _, _, _, _⟩ := in4 g4
  simp only at z0 z1 z2 z3
  have hp4 := hpar.out w4
  have hall := fun w5 (h5 : Ck w0 B u ub uc fm O4 (sl ++ [-1]) [[]] 0 w5) => hps.out w0 B u ub uc fm O4 (sl ++ [-1]) [[]] (some ⟨g', off, none⟩) cap w5 h5 hKp.out (by have := hs0.out; simp; omega) (by simp; omega) (by decide) (fun b hb => by simp at hb; subst hb; simp) (by simp) hul
  rw [hpl] at hall
  clear hbeg hC2
  refine Lib.hid ?_
  go_wp2_with (first
    | (go_at_call 45; refine hp4.mono ?_; rintro e w5 ⟨rfl, hb5⟩; have hC5 := hC4.on hb5)
    | (go_at_call 66; refine (hall _ hC5).mono ?_; intro e w6 hq; rcases hq.par with ⟨cd, a, he, rfl, hbp⟩ | ⟨c6, he6, rfl, O6, hC6, hK6⟩; (exact ⟨rfl, .inr ⟨cd, a, f1.out _ _ he, rfl, hbp⟩⟩); refine Hid.out ?_))
  have hCK6 := hCK2.trans (hK4.trans ((CK.below (O := O4) hb5).trans hK6))
  obtain ⟨g5, hn5⟩ := (CK.below (O := O4) hb5).box g4 hn4
  obtain ⟨g6, hn6⟩ := hK6.box g5 hn5
  obtain ⟨y0, y1, y2, y3, _, _, _, _⟩ := in4 g6
  simp only at y0 y1 y2 y3
  have hkp6 := all_keep _ _ _ _ he6
  have hln6 := all_len _ _ _ _ he6
  have hlv6 : sumL c6.bl ≤ 30 := all_lv _ _ _ _ he6 (by show sumL [[]] ≤ 30; decide)
  have hNB6 := hkp6.nb (fun b hb => by simp at hb; subst hb; simp)
  have hl6 := hkp6.len
  have ht6 := hkp6.tail
  simp only [List.length_append, List.length_singleton, List.tail_cons] at hln6 hl6 ht6
  have hbd := hbody.out w6 hC6.bl
  have hin := fun w7 (h7 : Ck w0 B u ub uc fm O6 c6.sl c6.bl (sumL c6.bl) w7) => hz.out w0 B u ub uc fm O6 c6.sl c6.bl bz cz w7 h7 hzN.out (by have := hs0.out; omega) (by omega) hlv6 hNB6 (fun e => by rw [e] at hl6; simp at hl6) hul
  clear hp4 hall hC4 hC5 hK4 hK6 hCK2 z0 z1 z2 z3
  refine Lib.hid ?_
  go_wp2_with (first
    | (go_at_call 68; refine hbd.mono ?_; rintro e w7 ⟨rfl, hb7⟩; have hC7 := hC6.on hb7)
    | (go_at_call 67; refine (hin w7 hC7).mono ?_; intro e w8 hq; rcases hq.par with ⟨cd, a, he, rfl, hbp⟩ | ⟨c8, he8, rfl, O8, hC8, hK8⟩; (exact ⟨rfl, .inr ⟨cd, a, f2.out _ _ _ he6 he, rfl, hbp⟩⟩); refine Hid.out ?_))
  have hkp8 := vis_keep _ _ _ _ _ he8
  have hlv8 : sumL c8.bl ≤ 30 := vis_lv _ _ _ _ _ he8 hlv6
  obtain ⟨fb, hfb⟩ := tail_of (r := []) (hkp8.tail.trans ht6) (by rw [hkp8.len]; simpa using hl6)
  have hend := end_any w0 B u ub uc fm O8 c8.sl fb [] (sumL c8.bl) w8 (by rw [← hfb]; exact hC8) (by simp) (by omega) (by rw [hfb])
  have hCK8 := hCK6.trans ((CK.below (O := O6) hb7).trans hK8)
  have fin : Hid (∀ W', Ck w0 B u ub uc fm O8 c8.sl [] (sumL []) W' → CK O8 w8 O8 W' → CQ w0 B u ub uc fm O W R (.returned (.tuple #[])) W') := fun W' h1 h2 => .inl ⟨c8.close, f3.out _ _ he6 he8, rfl, O8, by rw [show c8.close.bl = [] by show c8.bl.tail = _; rw [hfb]; rfl]; exact h1, hCK8.trans h2⟩
  clear hbd hin hC8 hK8 y0 y1 y2 y3
  refine Lib.hid ?_
  go_wp2_with (go_at_call 69; refine hend.mono ?_; rintro e w9 ⟨rfl, hC9, hK9⟩)
  go_end0
  exact fin.out _ hC9 hK9
end Go.Proofs.YtnnppenlfocgiaaGreatDoor
namespace Go.Proofs.YtnnppenlfocgiaaGreatDoor
open Go.RowKit
open Go

/-- A function of a program that may be. -/
theorem fun_any2 (n : Nd) (hn : isN n) (hk : n.k = 2) (i : Nat) (w0 : World) (B : Nat) (u : Nd) (ub : Option Addr) (uc fm : Nat) (O : Nat → Prop) (sl : List Int) (b : Option Addr) (cap : Nat) (W : World) (hC : Ck w0 B u ub uc fm O sl [] 0 W) (hN : NdV (low w0) w0 n (ndv n b cap)) (hM : sl.length + manyN n ≤ 100000) (hui : u.kids[i]? = some n) (hul : u.kids.length ≤ 100000) :
    Calls Tryz.prog 43 #[.pointer (some ⟨B, 0, none⟩), ndv n b cap, .int .i64 (i : Nat)] W (CQ w0 B u ub uc fm O W (funC (u.kids.map Nd.t) i n ⟨sl, []⟩)) := by
  obtain ⟨k, t, o, ks⟩ := n
  simp only at hk
  subst hk
  rw [isN] at hn
  obtain ⟨h1, _, _, _, _, _, _, _, h9⟩ := hn
  rw [isN_go] at h9
  have hl : 1 ≤ ks.length := by unfold kidsOK at h1; omega
  obtain ⟨P, hP⟩ : ∃ P, P + 1 = ks.length := ⟨ks.length - 1, by omega⟩
  obtain ⟨z, hz⟩ : ∃ z, ks[P]? = some z := ⟨_, List.getElem?_eq_getElem (by omega)⟩
  have hz9 := h9 P z hz
  have hzk : z.k = 4 := by
    have := hz9.1
    unfold fitsK at this
    rw [if_neg (by omega), if_pos rfl, if_pos (by omega)] at this
    exact this
  refine fnc_of t o ks P z hP hz ((vis_any z hz9.2).2 hzk) (allV_of _ (fun y hy => ?_)) i w0 B u ub uc fm O sl b cap W hC hN hM hui hul
  obtain ⟨j, hj⟩ := List.getElem?_of_mem (List.mem_of_mem_take hy)
  exact (vis_any y (h9 j y hj).2).1
theorem fun_len (fs : List (List UInt8)) (i : Nat) (n : Nd) (c c' : Cs) (h : funC fs i n c = .ok c') (hk : n.kids ≠ []) : c'.sl.length ≤ c.sl.length + manyN n ∧ (c.bl = [] → c'.bl = []) := by
  have hk2 := fun_keep fs i n c c' h
  refine ⟨?_, fun e => ?_⟩
  · unfold funC at h
    split at h
    · cases h
    split at h
    · cases h
    · obtain ⟨d, h1, rfl⟩ := map_ok h
      rw [manyN_eq]
      have e := List.dropLast_concat_getLast hk
      rw [← e, body_all] at h1
      obtain ⟨g, h2, h3⟩ := bind_ok h1
      have h4 := all_len fs _ _ _ h2
      have h5 := vis_len fs _ _ _ _ h3
      have h6 := congrArg manyN.go e
      rw [many_app] at h6
      simp only [manyN.go] at h6
      simp only [Cs.enter, Cs.begin, Cs.close, List.length_append, List.length_singleton] at *
      omega
  · have := hk2.len
    rw [e] at this
    exact List.length_eq_zero_iff.1 this
/-- Between two functions. -/
def UI (w0 : World) (B : Nat) (u : Nd) (ub : Option Addr) (uc fm : Nat) (O : Nat → Prop) (W : World) (M : Nat) (R : CR) (j : Nat) (wr : World) : Prop :=
  ∃ O' sl', Ck w0 B u ub uc fm O' sl' [] 0 wr ∧ CK O W O' wr ∧ funsC (u.kids.map Nd.t) j (u.kids.drop j) ⟨sl', []⟩ = R ∧ sl'.length + manyN.go (u.kids.drop j) ≤ M
/-- What a program's check leaves. -/
def UQ (w0 : World) (B : Nat) (u : Nd) (ub : Option Addr) (uc fm : Nat) (O : Nat → Prop) (W : World) (R : Except (Int × Nat) (List Int)) (e : Ending) (W' : World) : Prop :=
  (∃ cd a, R = .error (cd, a) ∧ e = .panicked (pan (flt cd a)) ∧ Below w0.heap.size w0 W') ∨ (∃ sl', R = .ok sl' ∧ e = .returned (.tuple #[]) ∧ ∃ O', Ck w0 B u ub uc fm O' sl' [] 0 W' ∧ CK O W O' W')
set_option maxRecDepth 20000 in
set_option maxHeartbeats 4000000 in
theorem unit_any (u : Nd) (hu : isN u) (hk : u.k = 1) (w0 : World) (B : Nat) (ub : Option Addr) (uc fm : Nat) (O : Nat → Prop) (W : World) (hC : Ck w0 B u ub uc fm O [] [] 0 W) (hK : KA (low w0) w0 ub uc u.kids) (hM : manyN u ≤ 90000) :
    Calls Tryz.prog 26 #[.pointer (some ⟨B, 0, none⟩)] W (UQ w0 B u ub uc fm O W (unitC u)) := by
  have hms := manyN_eq u
  have hkl := many_len u.kids
  have hul : u.kids.length ≤ 100000 := by omega
  have hkids : ∀ (j : Nat) (y : Nd), u.kids[j]? = some y → isN y ∧ y.k = 2 ∧ y.kids ≠ [] := fun j y hy => by
    obtain ⟨k, t, o, ks⟩ := u
    simp only at hk hy
    subst hk
    rw [isN] at hu
    obtain ⟨_, _, _, _, _, _, _, _, h9⟩ := hu
    rw [isN_go] at h9
    have h := h9 j y hy
    have h1 := h.1
    unfold fitsK at h1
    rw [if_pos rfl] at h1
    refine ⟨h.2, h1, fun e => ?_⟩
    have h2 := h.2
    obtain ⟨yk, yt, yo, ys⟩ := y
    rw [isN] at h2
    have h3 := h2.1
    simp only at h1 e
    subst h1 e
    unfold kidsOK at h3
    simp at h3
  obtain ⟨R, hR⟩ : ∃ R, funsC (u.kids.map Nd.t) 0 u.kids ⟨[-1], []⟩ = R := ⟨_, rfl⟩
  obtain ⟨RU, hRU⟩ : ∃ RU, unitC u = RU := ⟨_, rfl⟩
  rw [hRU]
  have hRU2 : endC u R = RU := by rw [← hRU, ← hR, unitC_eq]
  clear hRU
  have hen := enter_any w0 B u ub uc fm O [] [] 0 _ hC (by simp)
  obtain ⟨L, hL⟩ : ∃ L, u.kids.length = L := ⟨_, rfl⟩
  replace hL : Hid _ := hL
  replace hR : Hid _ := hR
  replace hRU2 : Hid _ := hRU2
  replace hkids : Hid _ := hkids
  replace hK : Hid (KA (low w0) w0 ub uc u.kids) := hK
  go_enter Tryz.func26, Tryz.ntmps26
  go_wp2_with (go_at_call 42; refine hen.mono ?_; rintro e w1 ⟨rfl, O1, hC1, hK1⟩; obtain ⟨c3, c4, c7, f7⟩ := hC1.cells; rw [hL.out] at c3)
  have hI : UI w0 B u ub uc fm O W 90001 R 0 w1 := ⟨O1, [-1], hC1, hK1, by rw [List.drop_zero]; exact hR.out, by rw [List.drop_zero]; simp; omega⟩
  clear hen hC hC1 c7 f7 c4 hK1
  go_loopw [15] (fun ix wr => ∃ j : Nat, j ≤ L ∧ ix = .int .i64 (j : Nat) ∧ UI w0 B u ub uc fm O W 90001 R j wr) (fun ix _ => L - (intOf ix).toNat)
  case atStart => exact ⟨0, Nat.zero_le _, rfl, hI⟩
  case round =>
    obtain ⟨j, hj, rfl, O2, sl2, hC, hCK, hgo, hs2⟩ := hrel
    clear hI
    by_cases hlt : j < L
    · have hlt' : (j : Int) < (L : Int) := by omega
      have hge : (0 : Int) ≤ (j : Int) := by omega
      have hjk : j < u.kids.length := by have := hL.out; omega
      obtain ⟨y, hy⟩ : ∃ y, u.kids[j]? = some y := ⟨_, List.getElem?_eq_getElem hjk⟩
      obtain ⟨hyN, hy2, hyk⟩ := hkids.out j y hy
      obtain ⟨g', off, b', cap', eb, v0, v1, v2, v3, hyV⟩ := KA.at hK.out hy
      subst eb
      have hgw := World.block_lt_of_cell? _ _ v0
      simp only at hgw
      have hcell : ∀ i v, w0.cell? ⟨g', i, none⟩ = some v → wr.cell? ⟨g', i, none⟩ = some v := fun i v h => (hC.bl.cell (p := ⟨g', i, none⟩) hgw).trans h
      replace v0 := hcell _ _ v0
      replace v1 := hcell _ _ v1
      replace v2 := hcell _ _ v2
      replace v3 := hcell _ _ v3
      have hdr : u.kids.drop j = y :: u.kids.drop (j + 1) := by rw [List.drop_eq_getElem_cons hjk]; congr 1; exact (List.getElem?_eq_some_iff.1 hy).2
      rw [hdr] at hgo hs2
      simp only [manyN.go] at hs2
      rw [funsC] at hgo
      have hb0 := ext_alloc (Below.refl wr.heap.size wr) (nbx y b' cap')
      have hcall := fun_any2 y hyN hy2 j w0 B u (some ⟨g', off, none⟩) uc fm O2 sl2 b' cap' _ (hC.on hb0) hyV (by omega) hy hul
      have hCK0 := hCK.trans (CK.below (O := O2) hb0)
      have hpan : ∀ cd a, funC (u.kids.map Nd.t) j y ⟨sl2, []⟩ = .error (cd, a) → RU = .error (cd, a) := fun cd a e => by rw [← hRU2.out, ← hgo, e]; rfl
      have hok : ∀ c', funC (u.kids.map Nd.t) j y ⟨sl2, []⟩ = .ok c' → c'.bl = [] ∧ funsC (u.kids.map Nd.t) (j + 1) (u.kids.drop (j + 1)) ⟨c'.sl, []⟩ = R ∧ c'.sl.length ≤ sl2.length + manyN y := fun c' e => by
        obtain ⟨h1, h2⟩ := fun_len _ _ _ _ _ e hyk
        have hb := h2 rfl
        refine ⟨hb, ?_, h1⟩
        rw [← hgo, e]
        show _ = funsC _ _ _ c'
        rw [show (⟨c'.sl, []⟩ : Cs) = c' by rw [← hb]]
      replace hpan : Hid _ := hpan
      replace hok : Hid _ := hok
      obtain ⟨yk, yt, yn, ys⟩ := y
      simp only at v0 v1 v2 v3
      replace hcall : Calls Tryz.prog 43 #[.pointer (some ⟨B, 0, none⟩), .agg #[.int .i64 yk, sk yt, .int .i64 yn, .slice b' ys.length cap'], .int .i64 (j : Nat)] (wr.alloc (.cells #[.int .i64 yk, sk yt, .int .i64 yn, .slice b' ys.length cap'] 24)) (CQ w0 B u (some ⟨g', off, none⟩) uc fm O2 (wr.alloc (.cells #[.int .i64 yk, sk yt, .int .i64 yn, .slice b' ys.length cap'] 24)) (funC (u.kids.map Nd.t) j ⟨yk, yt, yn, ys⟩ ⟨sl2, []⟩)) := hcall
      clear hy hdr hcell hgo hyN hy2 hyk hyV
      go_wp2_with (go_at_call 43; refine hcall.mono ?_; intro e w2 hq; rcases hq.par with ⟨cd, a, he, rfl, hbp⟩ | ⟨c2, he, rfl, O3, hC3, hK3⟩; (exact ⟨rfl, .inl ⟨cd, a, hpan.out _ _ he, rfl, hbp⟩⟩))
      go_roundw
      case rel =>
        obtain ⟨h1, h2, h3⟩ := hok.out _ he
        rw [h1] at hC3
        exact ⟨j + 1, by omega, by go_num, O3, c2.sl, hC3, hCK0.trans hK3, h2, by omega⟩
      case measure => simp [intOf]; omega
    · have hlt' : ¬ (j : Int) < (L : Int) := by omega
      have hRo : R = .ok ⟨sl2, []⟩ := by rw [← hgo, List.drop_eq_nil_of_le (by have := hL.out; omega), funsC]
      have hRU3 := hRU2.out
      rw [hRo] at hRU3
      obtain ⟨c3', c4, _, _⟩ := hC.cells
      rw [hL.out] at c3'
      have hlook := hC.funs Go.Proofs.YtnnppenlfocgiaaGreatDoor.W.main_ true
      have hlook' : (Instr.lookup 63 (.map (some fm)) (.string ⟨#[109, 97, 105, 110]⟩) true).run Tryz.prog wr = _ := hlook
      cases hf : funI (u.kids.map Nd.t) Go.Proofs.YtnnppenlfocgiaaGreatDoor.W.main_ with
      | none =>
        rw [hf] at hlook'
        rw [endC_none _ _ hf] at hRU3
        simp only [if_true, Option.map_none, Option.getD_none, Option.isSome_none] at hlook'
        subst hRU3
        have fin : Hid (Below w0.heap.size w0 wr) := hC.bl
        clear hlook hRo hgo
        go_wp2_with (go_at_call 44; refine (refuse_yes _ _ 0 _).mono ?_; rintro e w3 ⟨rfl, rfl⟩)
        exact ⟨rfl, .inl ⟨4, 0, rfl, rfl, fin.out⟩⟩
      | some q =>
        rw [hf] at hlook'
        rw [endC_some _ _ _ hf] at hRU3
        simp only [if_true, Option.map_some, Option.getD_some, Option.isSome_some] at hlook'
        have hqk : q < u.kids.length := by
          unfold funI at hf
          rw [List.findIdx?_eq_some_iff_getElem] at hf
          obtain ⟨hq, _⟩ := hf
          simpa using hq
        obtain ⟨y, hy⟩ : ∃ y, u.kids[q]? = some y := ⟨_, List.getElem?_eq_getElem hqk⟩
        obtain ⟨hyN, hy2, hyk⟩ := hkids.out q y hy
        rw [hy] at hRU3
        obtain ⟨g', off, b', cap', eb, v0, v1, v2, v3, hyV⟩ := KA.at hK.out hy
        subst eb
        have hgw := World.block_lt_of_cell? _ _ v0
        simp only at hgw
        have hcell : ∀ i v, w0.cell? ⟨g', i, none⟩ = some v → wr.cell? ⟨g', i, none⟩ = some v := fun i v h => (hC.bl.cell (p := ⟨g', i, none⟩) hgw).trans h
        replace v0 := hcell _ _ v0
        replace v1 := hcell _ _ v1
        replace v2 := hcell _ _ v2
        replace v3 := hcell _ _ v3
        have hq0 : (0 : Int) ≤ (q : Int) := by omega
        have hq1 : (q : Int) < (L : Int) := by have := hL.out; omega
        obtain ⟨yk, yt, yn, ys⟩ := y
        simp only at v0 v1 v2 v3 hyk
        obtain ⟨P, hP⟩ : ∃ P, P + 1 = ys.length := ⟨ys.length - 1, by have := List.length_pos_iff.2 hyk; omega⟩
        have hKy := KA.of hyV
        have hys : ys.length ≤ 100000 := by
          have h1 : manyN ⟨yk, yt, yn, ys⟩ ≤ manyN.go u.kids := by
            have := congrArg manyN.go (List.take_append_drop q u.kids)
            rw [many_app, List.drop_eq_getElem_cons hqk, (List.getElem?_eq_some_iff.1 hy).2] at this
            simp only [manyN.go] at this
            omega
          have h2 := manyN_eq ⟨yk, yt, yn, ys⟩
          have h3 := many_len ys
          simp only at h2
          omega
        obtain ⟨zz, hzz⟩ : ∃ zz, ys[0]? = some zz := ⟨_, List.getElem?_eq_getElem (by omega)⟩
        obtain ⟨gy, offy, _, _, eb2, _⟩ := KA.at hKy hzz
        subst eb2
        have hpar := params_any yk yt yn ys gy offy cap' P hP hys hKy.1 wr
        replace hpar : Calls Tryz.prog 45 #[.agg #[.int .i64 yk, sk yt, .int .i64 yn, .slice (some ⟨gy, offy, none⟩) ys.length cap']] wr fun e W' => e = .returned (.slice (some ⟨gy, offy, none⟩) P cap') ∧ Below wr.heap.size wr W' := hpar
        have hpb : paramB (some ⟨yk, yt, yn, ys⟩) = decide (0 < P) := by unfold paramB; simp only; rw [decide_eq_decide]; omega
        rw [hpb] at hRU3
        have hCw := hC
        clear hlook hRo hgo hcell hyV hKy hy hyN hy2 hyk hzz hf
        by_cases hP0 : 0 < P
        · rw [decide_eq_true hP0, if_pos rfl] at hRU3
          subst hRU3
          have hP0' : (0 : Int) < (P : Int) := by omega
          have fin : Hid (∀ w3, Below wr.heap.size wr w3 → Below w0.heap.size w0 w3) := fun w3 h => ext_trans hCw.bl h
          go_wp2_with (first
            | (go_at_call 45; refine hpar.mono ?_; rintro e w4 ⟨rfl, hb4⟩)
            | (go_at_call 44; refine (refuse_any _ _ _ 0 _).mono ?_; rintro e w3 ⟨rfl, (⟨hw, rfl⟩ | ⟨hw, rfl⟩)⟩; (first | (exact absurd hw (by decide)) | (exact ⟨rfl, .inl ⟨6, 0, rfl, rfl, fin.out _ hb4⟩⟩))))
          exact absurd hw (by simp; try omega)
        · rw [decide_eq_false hP0, if_neg (by simp)] at hRU3
          subst hRU3
          have hP0' : ¬ (0 : Int) < (P : Int) := by omega
          have fin : Hid (∀ w3, Below wr.heap.size wr w3 → UQ w0 B u (some ⟨g', off, none⟩) uc fm O W (.ok sl2) (.returned (.tuple #[])) w3) := fun w3 h => .inr ⟨sl2, rfl, rfl, O2, hCw.on h, hCK.trans (CK.below (O := O2) h)⟩
          go_wp2_with (first
            | (go_at_call 45; refine hpar.mono ?_; rintro e w4 ⟨rfl, hb4⟩)
            | (go_at_call 44; refine (refuse_no _ _ _ _).mono ?_; rintro e w3 ⟨rfl, rfl⟩))
          go_end0
          exact fin.out _ hb4
end Go.Proofs.YtnnppenlfocgiaaGreatDoor
