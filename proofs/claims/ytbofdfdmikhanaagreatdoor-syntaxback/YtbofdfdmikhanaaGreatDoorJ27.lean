/- The document's reader: a place or a call. The document's reader: what stands first: the end, numbers, texts. -/
import Derived.Test.YtbofdfdmikhanaaGreatDoorJ25
namespace Go.Proofs.YtbofdfdmikhanaaGreatDoor
open Go.RowKit
open Go

theorem res100 {tm : Array Value} {W : World} {B : Nat} {a b c d : Value} (h : tm[2]?.getD undef = .pointer (some ⟨B, 0, none⟩)) (hx : W.heap[B]? = some (.cells #[a, b, c, d] 24)) : (results Tryz.f100 tm).run Tryz.prog W = .ok (.agg #[a, b, c, d]) W := by
  obtain ⟨c0, c1, c2, c3, _, _, _, _⟩ := in4 hx
  simp [results, Tryz.results100, go_sem, h, c0, c1, c2, c3]
/-- The node alone in a row of its own, within another. -/
theorem nt_one {w W : World} {B t : Nat} {ts : List Tok} {x : Nd} {b : Option Addr} {cap j : Nat} {bad : Bool} {Fin : Nat → Prop} {r : PRes} {g : Nd → List PT → PR} (h : NT w B t ts W x b cap j bad) (k : Int) (hFl : Fl ts Fin r j bad (g (nd k [x]))) : NA no w B ts Fin r g (.returned (ndv (nd k [x]) (some ⟨W.heap.size, 0, none⟩) 1)) (put4 (W.alloc (nbx x b cap)) w.heap.size (.int .i64 k) (sk []) (.int .i64 0) (.slice (some ⟨W.heap.size, 0, none⟩) 1 1)) := by
  have h1 := h.lt
  have h3 := block_lt h.g
  have hb := ext_alloc (Below.refl W.heap.size W) (nbx x b cap)
  have hRow := Row.one (S := fun q => t < q) (W := W.alloc (nbx x b cap)) (g := W.heap.size) h3 ((h.nd.weak (fun q hq hlt => ⟨hq, by omega⟩)).below hb) (alloc_new W _)
  exact na_close (x := nd k [x]) ((hRow.node k [] 0).weak (fun q hq _ => ⟨.inr (by omega), by omega⟩)) (h.R.below hb) (h.K.trans (Keeps.of_below hb)) (Nat.le_refl _) h.hB hFl
/-- Between two of those behind. -/
def SiI (f t : Nat) (w : World) (B : Nat) (ts : List Tok) (Fin : Nat → Prop) (r : PRes) (g : Nd → List PT → PR) (k : Nat) (cv : Value) (wr : World) : Prop :=
  ∃ (x : Nd) (b : Option Addr) (cap j : Nat) (bad : Bool) (a : Nat), cv = .int .i64 (a : Nat) ∧ NT w B t ts wr x b cap j bad ∧ k ≤ f ∧ a + k ≤ f ∧ Fl ts Fin r j bad (fun l => (P k 9 x a l).on g)
set_option maxRecDepth 20000 in
set_option maxHeartbeats 2000000 in
theorem dsim_of (f : Nat) (hf : f ≤ 90000) (hX : ∀ k, k < f → DBeh k) (hE : ∀ k, k < f → DRow k) : DSim f := by
  intro r Fin g B ts i w hF hR hP
  have hBw := hR.lt
  have hb0 : Below w.heap.size w (w.alloc zbx) := ext_alloc (Below.refl _ _) _
  have h2 := alloc_new w zbx
  have hN := rnm_any hF (.inr ⟨rfl, hP⟩) _ (hR.below hb0)
  clear hP
  go_enter Tryz.func100, Tryz.ntmps100
  go_wp2_with (go_at_call 31; refine hN.mono ?_; rintro e w1 ⟨s, j, bad, rfl, hR1, hk1, hFl⟩; refine Hid.out ?_)
  have z1 := hk1.box h2 (by omega)
  have hz1 := block_lt z1
  have hb2 := ext_alloc (Below.refl w1.heap.size w1) (nbx ⟨18, s, 0, []⟩ none 0)
  have hT0 : NT w B w1.heap.size ts (w1.alloc (nbx ⟨18, s, 0, []⟩ none 0)) ⟨18, s, 0, []⟩ none 0 j bad := ⟨alloc_new _ _, block_below hb2 z1, (Row.nil _ _).node 18 s 0, hR1.below hb2, ((Keeps.of_below hb0).trans hk1).trans (Keeps.of_below hb2), hz1, hBw⟩
  have hI : SiI f w1.heap.size w B ts Fin r g f (.int .i64 0) (w1.alloc (nbx ⟨18, s, 0, []⟩ none 0)) := ⟨_, _, _, j, bad, 0, rfl, hT0, Nat.le_refl _, by omega, hFl⟩
  obtain ⟨t, ht⟩ : ∃ t, w1.heap.size = t := ⟨_, rfl⟩
  rw [ht] at hI hz1
  clear hN hT0 hFl hb2 hk1 hR1 z1 hb0 h2 hR
  refine Lib.hid ?_
  go_wp2
  clear ht
  go_loopg [4] f (fun k cv wr => SiI f t w B ts Fin r g k cv wr)
  case atStart => exact hI
  case round =>
    obtain ⟨x, b, cap, j, bad, a, rfl, hT1, hgf, hle, hFl⟩ := hrel
    clear hI
    have p3 := hT1.g
    have p2 := hT1.z
    have hR1 := hT1.R
    have hz3 := block_lt p3
    obtain ⟨c0, c1, c2, c3, f0, f1, f2, f3⟩ := in4 p3
    obtain ⟨d0, d1, d2, d3, e0, e1, e2, e3⟩ := in4 p2
    obtain ⟨b', cap', s0, s1, s2, v1, v2⟩ := hR1.cells
    rcases hFl with ⟨rfl, hFi⟩ | ⟨rfl, hP⟩
    · obtain ⟨x0, x1, x2, x3, y0, y1, y2, y3⟩ := in4a p2
      go_wp2
      refine bodyPost_ret (res100 rfl (put4_same _ _ _ _ (block_alloc _ p2))) rfl ?_
      exact nt_one hT1 7 (.inl ⟨rfl, hFi⟩)
    have hT := fun u (h : Dr u B ts j false) => text_any B ts j false u h
    rw [show txd ts j false = tx (rest ts j) from rfl] at hT
    cases gk with
    | zero => cases hP
    | succ k =>
    dsimp only at hP
    rw [P, ite_on] at hP
    by_cases hlb : tx (rest ts j) = S.lb
    · rw [if_pos hlb, on_on] at hP
      rw [hlb] at hT
      have hcall := fun u (hb : Below wr.heap.size wr u) => hX k (by omega) x b cap (fun q => t < q) r Fin _ B ts j u hF (hR1.below hb) (hT1.nd.below hb) (fun q hq => by omega) hP
      clear hP hlb
      go_wp2_with (first | (go_at_call 32; refine (hT wr hR1).mono ?_; rintro e w2 ⟨rfl, hb2⟩; have q3 := block_below hb2 p3; have q2 := block_below hb2 p2; obtain ⟨c0, c1, c2, c3, f0, f1, f2, f3⟩ := in4 q3) | (go_at_call 117; refine (hcall _ hb2).mono ?_; rintro e w4 ⟨x2, b2, cap2, j2, bad2, rfl, hN2, hR2, hk2, hFl2⟩; have r3 := hk2.box q3 (by omega); have r2 := hk2.box q2 (by omega); obtain ⟨c0, c1, c2, c3, f0, f1, f2, f3⟩ := in4 r3))
      have hz4 := hb2.size
      have hkw := (hT1.K.trans (Keeps.of_below hb2)).trans hk2
      go_roundg k
      case measure => omega
      case rel => exact ⟨x2, b2, cap2, j2, bad2, a, rfl, NT.put r3 r2 (hN2.weak (fun q hq _ => by rcases hq with hq | hq; exact hq; omega)) hR2 hkw hz1 hBw, by omega, by omega, hFl2⟩
    rw [if_neg hlb, ite_on] at hP
    have n1 : (tx (rest ts j) == [91]) = false := by simpa using hlb
    by_cases hlp : tx (rest ts j) = S.lp
    · rw [if_pos hlp, on_on] at hP
      rw [hlp] at hT
      have hcall := fun u (hb : Below wr.heap.size wr u) => hX k (by omega) x b cap (fun q => t < q) r Fin _ B ts j u hF (hR1.below hb) (hT1.nd.below hb) (fun q hq => by omega) hP
      clear hP hlp hlb n1
      go_wp2_with (first | (go_at_call 32; refine (hT wr hR1).mono ?_; rintro e w2 ⟨rfl, hb2⟩; have q3 := block_below hb2 p3; have q2 := block_below hb2 p2) | (go_at_call 32; refine (hT w2 (hR1.below hb2)).mono ?_; rintro e w3 ⟨rfl, hb3⟩; have hb23 := ext_trans hb2 hb3; have q33 := block_below hb3 q3; have q23 := block_below hb3 q2; obtain ⟨c0, c1, c2, c3, f0, f1, f2, f3⟩ := in4 q33) | (go_at_call 117; refine (hcall _ hb23).mono ?_; rintro e w4 ⟨x2, b2, cap2, j2, bad2, rfl, hN2, hR2, hk2, hFl2⟩; have r3 := hk2.box q33 (by omega); have r2 := hk2.box q23 (by omega); obtain ⟨c0, c1, c2, c3, f0, f1, f2, f3⟩ := in4 r3))
      have hz4 := hb23.size
      have hkw := (hT1.K.trans (Keeps.of_below hb23)).trans hk2
      go_roundg k
      case measure => omega
      case rel => exact ⟨x2, b2, cap2, j2, bad2, a + 1, by simp, NT.put r3 r2 (hN2.weak (fun q hq _ => by rcases hq with hq | hq; exact hq; omega)) hR2 hkw hz1 hBw, by omega, by omega, hFl2⟩
    rw [if_neg hlp] at hP
    have n2 : (tx (rest ts j) == [40]) = false := by simpa using hlp
    by_cases ha : a = 0
    · subst ha
      rw [if_pos rfl, need_on] at hP
      have hM := fun u (h : Dr u B ts j false) => must_any (s := S.eq) (by decide) hF (.inr ⟨rfl, hP⟩) u h
      obtain ⟨tt, htt⟩ : ∃ tt, tx (rest ts j) = tt := ⟨_, rfl⟩
      rw [htt] at hT n1 n2
      clear hP htt hlb hlp hX
      go_wp2_with (first | (go_at_call 32; refine (hT wr hR1).mono ?_; rintro e w2 ⟨rfl, hb2⟩; have q3 := block_below hb2 p3; have q2 := block_below hb2 p2) | (go_at_call 32; refine (hT w2 (hR1.below hb2)).mono ?_; rintro e w3 ⟨rfl, hb3⟩; have hb23 := ext_trans hb2 hb3) | (go_at_call 30; refine (hM _ (hR1.below hb23)).mono ?_; rintro e w4 ⟨rfl, j2, bad2, hR4, hk4, hFl4⟩; refine Hid.out ?_))
      have hT4 := (hT1.on (Keeps.of_below hb23) (hR1.below hb23)).on hk4 hR4
      have hz4 := block_lt hT4.g
      have hb5 := ext_alloc (Below.refl w4.heap.size w4) (nbx x b cap)
      have hRow := Row.one (S := fun q => t < q) (W := w4.alloc (nbx x b cap)) (g := w4.heap.size) hz4 ((hT4.nd.weak (fun q hq hlt => ⟨hq, by omega⟩)).below hb5) (alloc_new w4 _)
      have z5 := block_below hb5 hT4.z
      have hk5 := hT4.K.trans (Keeps.of_below (S := fun q => q = B) hb5)
      have hx := exprs_any k (hE k (by omega)) [x] (some ⟨w4.heap.size, 0, none⟩) 1 (fun q => t < q) r Fin (fun y l => (PR.ok (nd 6 [x, y]) l).on g) B ts j2 bad2 (w4.alloc (nbx x b cap)) hF (hR4.below hb5) hRow (fun q hq => by omega) (fun q e => by have := own_is e; omega) (by simp) (by simpa only [on_on] using hFl4)
      obtain ⟨c0, c1, c2, c3, f0, f1, f2, f3⟩ := in4 hT4.g
      clear hM hT hE hR4 hk4 hFl4 d0 d1 d2 d3 e0 e1 e2 e3
      refine Lib.hid ?_
      go_wp2_with (go_at_call 98; refine hx.mono ?_; rintro e wa ⟨⟨ks1, b1, cap1, j3, bad3, rfl, hRow1, hRa, hlen1, hown1, hFx1⟩, hka⟩; refine Hid.out ?_)
      have hzw := hk5.size
      have za := hka.box z5 (by rintro (e | e); omega; have := own_is e.symm; omega)
      have hkw := hk5.then hka (fun q hq e => by rcases e with e | e; exact e; have := own_is e.symm; omega)
      have hFl := ex_fl (G := fun ks l => g (nd 6 ks) l) hFx1
      obtain ⟨d0, d1, d2, d3, e0, e1, e2, e3⟩ := in4 za
      refine Lib.hid ?_
      go_wp2
      refine bodyPost_ret (res100 rfl (put4_same _ _ _ _ za)) rfl ?_
      refine na_close (x := nd 6 ks1) ((hRow1.node 6 [] 0).weak (fun q hq _ => ?_)) hRa hkw (Nat.le_refl _) hBw hFl
      rw [World.size_alloc] at hq
      rcases hq with hq | hq
      · exact ⟨.inr (by omega), by omega⟩
      · exact ⟨.inr (by omega), by omega⟩
    rw [if_neg ha, ite_on] at hP
    obtain ⟨tt, htt⟩ : ∃ tt, tx (rest ts j) = tt := ⟨_, rfl⟩
    rw [htt] at hT n1 n2
    have ha' : (a == 0) = false := by simpa using ha
    have ha2 : ((a : Int) == 0) = false := by simpa using ha
    obtain ⟨kx, tx1, nx, kids⟩ := x
    by_cases hk : kx = 21
    · subst hk
      rw [if_pos rfl] at hP
      clear htt hlb hlp hX hE
      go_wp2_with (first | (go_at_call 32; refine (hT wr hR1).mono ?_; rintro e w2 ⟨rfl, hb2⟩; have q3 := block_below hb2 p3; have q2 := block_below hb2 p2) | (go_at_call 32; refine (hT w2 (hR1.below hb2)).mono ?_; rintro e w3 ⟨rfl, hb3⟩; have hb23 := ext_trans hb2 hb3; refine Hid.out ?_))
      have hT3 := hT1.on (Keeps.of_below hb23) (hR1.below hb23)
      have hR3 := hT3.R
      have hT4 := hT3.on ((Keeps.refl _ _).set B 2 (.bool false) (fun _ => rfl)) (hR3.fail false)
      obtain ⟨c0, c1, c2, c3, f0, f1, f2, f3⟩ := in4 hT3.g
      obtain ⟨b', cap', s0, s1, s2, v1, v2⟩ := hR3.cells
      obtain ⟨V, hV⟩ : ∃ V, w3.setCell ⟨B, 2, none⟩ (.bool false) = V := ⟨_, rfl⟩
      rw [hV] at hT4
      obtain ⟨k0, k1, k2, k3, l0, l1, l2, l3⟩ := in4 hT4.g
      obtain ⟨x0, x1, x2, x3, y0, y1, y2, y3⟩ := in4a hT4.z
      clear d0 d1 d2 d3 e0 e1 e2 e3 hT3 hR3
      refine Lib.hid ?_
      go_wp2
      refine bodyPost_ret (res100 rfl (put4_same _ _ _ _ (block_alloc _ hT4.z))) rfl ?_
      exact nt_one hT4 7 (.inr ⟨rfl, hP⟩)
    · rw [if_neg (show ¬ (⟨kx, tx1, nx, kids⟩ : Nd).k = 21 from hk)] at hP
      have hk' : (kx != 21) = true := by simpa using hk
      have hk2 : (kx == 21) = false := by simpa using hk
      clear htt hlb hlp hX hE
      go_wp2_with (first | (go_at_call 32; refine (hT wr hR1).mono ?_; rintro e w2 ⟨rfl, hb2⟩; have q3 := block_below hb2 p3; have q2 := block_below hb2 p2) | (go_at_call 32; refine (hT w2 (hR1.below hb2)).mono ?_; rintro e w3 ⟨rfl, hb3⟩; have hb23 := ext_trans hb2 hb3; refine Hid.out ?_))
      have hT3 := hT1.on (Keeps.of_below hb23) (hR1.below hb23)
      have hR3 := hT3.R
      have hT4 := hT3.on ((Keeps.refl _ _).set B 2 (.bool true) (fun _ => rfl)) (hR3.fail true)
      obtain ⟨c0, c1, c2, c3, f0, f1, f2, f3⟩ := in4 hT3.g
      obtain ⟨b', cap', s0, s1, s2, v1, v2⟩ := hR3.cells
      obtain ⟨V, hV⟩ : ∃ V, w3.setCell ⟨B, 2, none⟩ (.bool true) = V := ⟨_, rfl⟩
      rw [hV] at hT4
      obtain ⟨k0, k1, k2, k3, l0, l1, l2, l3⟩ := in4 hT4.g
      obtain ⟨x0, x1, x2, x3, y0, y1, y2, y3⟩ := in4a hT4.z
      clear d0 d1 d2 d3 e0 e1 e2 e3 hT3 hR3
      refine Lib.hid ?_
      go_wp2
      refine bodyPost_ret (res100 rfl (put4_same _ _ _ _ (block_alloc _ hT4.z))) rfl ?_
      exact nt_one hT4 7 (.inl ⟨rfl, (hF.2 j hR1.le (Option.some.inj hP).symm)⟩)
end Go.Proofs.YtbofdfdmikhanaaGreatDoor
namespace Go.Proofs.YtbofdfdmikhanaaGreatDoor
open Go.RowKit
open Go

theorem res157 {tm : Array Value} {W : World} {B : Nat} {a b c d : Value} (h : tm[2]?.getD undef = .pointer (some ⟨B, 0, none⟩)) (hx : W.heap[B]? = some (.cells #[a, b, c, d] 24)) : (results Tryz.f157 tm).run Tryz.prog W = .ok (.agg #[a, b, c, d]) W := by
  obtain ⟨c0, c1, c2, c3, _, _, _, _⟩ := in4 hx
  simp [results, Tryz.results157, go_sem, h, c0, c1, c2, c3]
set_option maxRecDepth 20000 in
set_option maxHeartbeats 1000000 in
theorem fst_end (B : Nat) (ts : List Tok) (i : Nat) (hi : i = ts.length) (r : PRes) (Fin : Nat → Prop) (g : Nd → List PT → PR) (w : World) (hR : Dr w B ts i false) (hFi : Fin i) : Calls Tryz.prog 157 #[.pointer (some ⟨B, 0, none⟩)] w (NA no w B ts Fin r g) := by
  have hb0 : Below w.heap.size w (w.alloc zbx) := ext_alloc (Below.refl _ _) _
  have hBw := hR.lt
  have hR0 := hR.below hb0
  have h2 := alloc_new w zbx
  obtain ⟨b, cap, s0, s1, s2, v1, v2⟩ := hR0.cells
  obtain ⟨U, hU⟩ : ∃ U, w.alloc zbx = U := ⟨_, rfl⟩
  rw [hU] at hb0 hR0 h2 s0 s1 s2 v1 v2
  replace hU : w.alloc (.cells #[.int .i64 0, .string ⟨#[]⟩, .int .i64 0, .slice none 0 0] 24) = U := hU
  obtain ⟨c0, c1, c2, c3, f0, f1, f2, f3⟩ := in4 h2
  rw [← hi] at s0
  have n1 : ¬ B = w.heap.size := by omega
  have n2 : ¬ w.heap.size = B := by omega
  clear hi
  go_enter Tryz.func157, Tryz.ntmps157
  go_wp2
  go_quiet (fail)
  go_wp2
  have hd : Below U.heap.size U (U.drewN nq) := drewN_below (Below.refl _ _)
  have hRf := (hR0.below hd).fail true
  have h2d := block_below hd h2
  have hkF : Keeps (fun q => q = B) w ((U.drewN nq).setCell ⟨B, 2, none⟩ (.bool true)) := ((Keeps.of_below hb0).trans (Keeps.of_below hd)).set B 2 _ (fun _ => rfl)
  refine bodyPost_ret (res157 rfl (put4_same _ _ _ _ ((set1_other _ _ (by omega)).trans h2d))) rfl ?_
  exact na_close (x := ⟨0, [], 0, []⟩) (b := none) (cap := 0) (ndV_leaf _ _ 0 [] 0) hRf hkF (Nat.le_refl _) hBw (.inl ⟨rfl, hFi⟩)
set_option maxRecDepth 20000 in
set_option maxHeartbeats 2000000 in
theorem fst_text (B : Nat) (ts : List Tok) (i : Nat) (t : List UInt8) (a : Nat) (hx : ts[i]? = some ⟨3, t, a⟩) (r : PRes) (Fin : Nat → Prop) (g : Nd → List PT → PR) (w : World) (hF : FinOK ts Fin r) (hR : Dr w B ts i false) (hP : g ⟨14, t, 0, []⟩ (rest ts (i + 1)) = some r) : Calls Tryz.prog 157 #[.pointer (some ⟨B, 0, none⟩)] w (NA no w B ts Fin r g) := by
  have hb0 : Below w.heap.size w (w.alloc zbx) := ext_alloc (Below.refl _ _) _
  have hBw := hR.lt
  have hR0 := hR.below hb0
  have h2 := alloc_new w zbx
  obtain ⟨b, cap, h1, ht, hcap⟩ := hR0.box
  obtain ⟨s0, s1, s2, v1, v2⟩ := drC h1
  have hs := hR.short
  obtain ⟨hi, _⟩ := List.getElem?_eq_some_iff.1 hx
  rcases ht with rfl | ⟨q, rfl, hg, hgw, hcells⟩
  · simp at hx
  have t0 : (w.alloc zbx).cell? ⟨q, i * 3, none⟩ = some (.int .i64 3) := hcells i _ hx 0 _ rfl
  have t1 := hcells i _ hx 1 _ rfl
  have t2 := hcells i _ hx 2 _ rfl
  dsimp only at t1 t2
  obtain ⟨n, hn⟩ : ∃ n, ts.length = n := ⟨_, rfl⟩
  rw [hn] at s0 hi hs hcap
  have hi' : (i : Int) < (n : Int) := by omega
  have hge : decide (n ≤ i) = false := decide_eq_false (by omega)
  obtain ⟨U, hU⟩ : ∃ U, w.alloc zbx = U := ⟨_, rfl⟩
  rw [hU] at hb0 hR0 h2 s0 s1 s2 v1 v2 t0 t1 t2
  replace hU : w.alloc (.cells #[.int .i64 0, .string ⟨#[]⟩, .int .i64 0, .slice none 0 0] 24) = U := hU
  have hqU : q < U.heap.size := World.block_lt_of_cell? _ _ t0
  have hBU : B < U.heap.size := World.block_lt_of_cell? _ _ s0
  have m1 : ¬ B = U.heap.size := by omega
  have m2 : ¬ U.heap.size = B := by omega
  have m3 : ¬ q = U.heap.size := by omega
  have m4 : ¬ U.heap.size = q := by omega
  clear hcells hx h1
  go_enter Tryz.func157, Tryz.ntmps157
  go_wp2
  go_quiet (fail)
  go_wp2
  have hd : Below U.heap.size U (U.drewN nq) := drewN_below (Below.refl _ _)
  have hRX := hR0.below hd
  have h2X := block_below hd h2
  have hbX := ext_trans hb0 hd
  have S0 := cellB hd s0
  have S1 := cellB hd s1
  have T0 := cellB hd t0
  have T1 := cellB hd t1
  have T2 := cellB hd t2
  have esz : (U.drewN nq).heap.size = U.heap.size := rfl
  obtain ⟨X, hX⟩ : ∃ X, U.drewN nq = X := ⟨_, rfl⟩
  rw [hX] at hRX h2X hbX S0 S1 T0 T1 T2 esz
  rw [hX]
  rw [← esz] at m1 m2 m3 m4
  clear hX hd s0 s1 s2 v1 v2 t0 t1 t2 hR0 h2 hb0 hqU hBU esz hU
  go_region_held3 (fun u => u.cell? ⟨B, 0, none⟩ = some (.slice (some ⟨q, 0, none⟩) n cap) ∧ u.cell? ⟨B, 1, none⟩ = some (.int .i64 (i : Nat)) ∧ u.cell? ⟨q, i * 3, none⟩ = some (.int .i64 3) ∧ u.cell? ⟨q, i * 3 + 1, none⟩ = some (.string ⟨t.toArray⟩) ∧ u.cell? ⟨q, i * 3 + 2, none⟩ = some (.int .i64 (a : Nat))) (go_keep) (fail)
  have hb4 := (ext_alloc (Below.refl X.heap.size X) (tbx 3 ⟨t.toArray⟩ (a : Nat))).drew
  have gT : (X.alloc (tbx 3 ⟨t.toArray⟩ (a : Nat))).drew.heap[X.heap.size]? = some (tbx 3 ⟨t.toArray⟩ (a : Nat)) := alloc_new X _
  have hRY := hRX.below hb4
  have h2Y := block_below hb4 h2X
  have hbY := ext_trans hbX hb4
  have hzY := block_lt h2X
  obtain ⟨Y, hY⟩ : ∃ Y, (X.alloc (tbx 3 ⟨t.toArray⟩ (a : Nat))).drew = Y := ⟨_, rfl⟩
  rw [hY] at hb4 gT hRY h2Y hbY
  replace hY : (X.alloc (.cells #[.int .i64 3, .string ⟨t.toArray⟩, .int .i64 (a : Nat)] 44)).drew = Y := hY
  rw [hY]
  obtain ⟨tb, htb⟩ : ∃ m, X.heap.size = m := ⟨_, rfl⟩
  rw [htb] at gT hzY m1 m2
  rw [htb]
  clear hY htb hb4 hRX h2X hbX S0 S1 T0 T1 T2 m3 m4
  obtain ⟨u0, u1⟩ := box44 gT
  obtain ⟨b', cap', s0, s1, s2, v1, v2⟩ := hRY.cells
  obtain ⟨d0, d1, d2, d3, e0, e1, e2, e3⟩ := in4 h2Y
  refine Lib.hid ?_
  go_wp2
  refine bodyPost_ret (res157 rfl (put4_same _ _ _ _ ((set1_other _ _ (by omega)).trans h2Y))) rfl ?_
  exact na_close (x := ⟨14, t, 0, []⟩) (b := none) (cap := 0) (ndV_leaf _ _ 14 t 0) (hRY.go (j := i + 1) (by omega)) ((Keeps.of_below hbY).set B 1 _ (fun _ => rfl)) (Nat.le_refl _) hBw (.inr ⟨rfl, hP⟩)
end Go.Proofs.YtbofdfdmikhanaaGreatDoor
