/- The document's reader: an index behind a node. The document's reader: arguments behind a node. The document's reader: a node in its box that is being put together. The document's reader: a place or a call. -/
import Derived.Test.YtnnppenlfocgiaaGreatDoorK23
import Derived.Test.YtnnppenlfocgiaaGreatDoorK28
import Derived.Test.YtnnppenlfocgiaaGreatDoorK32
namespace Go.Proofs.YtnnppenlfocgiaaGreatDoor
open Go.RowKit
open Go

theorem res117 {tm : Array Value} {W : World} {B : Nat} {a b c d : Value} (h : tm[4]?.getD undef = .pointer (some ⟨B, 0, none⟩)) (hx : W.heap[B]? = some (.cells #[a, b, c, d] 24)) : (results Tryz.f89 tm).run Tryz.prog W = .ok (.agg #[a, b, c, d]) W := by
  obtain ⟨c0, c1, c2, c3, _, _, _, _⟩ := in4 hx
  simp [results, Tryz.results89, go_sem, h, c0, c1, c2, c3]
theorem ex_fl {ts : List Tok} {Fin : Nat → Prop} {r : PRes} {j : Nat} {bad : Bool} {ks ks' : List Nd} {G : List Nd → List PT → PR} (h : (bad = true ∧ Fin j) ∨ (bad = false ∧ ∃ x, ks' = ks ++ [x] ∧ G (ks ++ [x]) (rest ts j) = some r)) : Fl ts Fin r j bad (fun l => G ks' l) := by
  rcases h with h | ⟨h1, x, rfl, h2⟩
  · exact .inl h
  · exact .inr ⟨h1, h2⟩
set_option maxRecDepth 20000 in
set_option maxHeartbeats 1000000 in
theorem beh_ix (f : Nat) (hE : DRow f) (x : Nd) (b : Option Addr) (cap : Nat) (D : Nat → Prop) (r : PRes) (Fin : Nat → Prop) (g : Nd → List PT → PR) (B : Nat) (ts : List Tok) (i : Nat) (w : World) (hF : FinOK ts Fin r) (hR : Dr w B ts i false) (hx : NdV D w x (ndv x b cap)) (hD : ∀ q, D q → q ≠ B) (hy : tx (rest ts i) = S.lb) (hP : (P f 0 nil0 0 (rest ts (i + 1))).on (fun y l => need S.rb l fun l => g (nd 20 ([x] ++ [y])) l) = some r) : Calls Tryz.prog 89 #[.pointer (some ⟨B, 0, none⟩), ndv x b cap] w (NA D w B ts Fin r g) := by
  obtain ⟨h3, h4⟩ := new2 w (nbx x b cap) zbx
  have hb0 := below2 w (nbx x b cap) zbx
  have hBw := hR.lt
  have hTy := eat_yes B ts i false S.lb hy (tx_lt hy (by decide)) _ (hR.below hb0)
  go_enter Tryz.func89, Tryz.ntmps89
  go_wp2_with (first | (go_at_call 31; refine hTy.mono ?_; rintro e w1 ⟨rfl, hR1, hk1⟩; have p3 := hk1.box h3 (by omega); obtain ⟨c0, c1, c2, c3, f0, f1, f2, f3⟩ := in4 p3) | (go_at_call 71; refine Hid.out ?_))
  have hb2 := ext_alloc (Below.refl w1.heap.size w1) (nbx x b cap)
  have p4 := hk1.box h4 (by omega)
  have hz1 := block_lt p4
  have hx1 : NdV (fun q => D q ∧ q < w.heap.size) w1 x (ndv x b cap) := ((hx.weak (S' := fun q => D q ∧ q < w.heap.size) (fun q hq hlt => ⟨hq, hlt⟩)).below hb0).keep hk1 (fun q hq _ => hD q hq.1)
  have hRow := Row.one (S := fun q => (D q ∧ q < w.heap.size) ∨ w.heap.size + 1 < q) (W := w1.alloc (nbx x b cap)) (g := w1.heap.size) (.inr hz1) ((hx1.weak (fun q hq hlt => ⟨.inl hq, by omega⟩)).below hb2) (alloc_new w1 _)
  have hX : Calls Tryz.prog 71 #[.pointer (some ⟨B, 0, none⟩), .slice (some ⟨w1.heap.size, 0, none⟩) 1 1] (w1.alloc (nbx x b cap)) (EX _ _ B ts Fin r _ [x] (.slice (some ⟨w1.heap.size, 0, none⟩) 1 1)) := exprs_any f hE [x] (some ⟨w1.heap.size, 0, none⟩) 1 (fun q => (D q ∧ q < w.heap.size) ∨ w.heap.size + 1 < q) r Fin _ B ts (i + 1) false _ hF (hR1.below hb2) hRow (fun q hq => by rcases hq with hq | hq; exact hD q hq.1; omega) (fun q e => by have := own_is e; omega) (by simp) (.inr ⟨rfl, hP⟩)
  have q4 := block_below hb2 p4
  have hk2 := ((Keeps.of_below (S := fun q => q = B) hb0).trans hk1).trans (Keeps.of_below hb2)
  clear hP hTy hx hx1 hRow h3 h4 p3 p4 c0 c1 c2 c3 f0 f1 f2 f3
  refine Lib.hid ?_
  go_wp2_with (first | (go_at_call 71; refine hX.mono ?_; rintro e w3 ⟨⟨ks, b3, cap3, j, bad, rfl, hRow3, hR3, hlen, hown, hFx⟩, hk3⟩; have hFl := ex_fl (G := fun ks l => need S.rb l fun l => g (nd 20 ks) l) hFx; have q43 := hk3.box q4 (by rintro (e | e); omega; have := own_is e.symm; omega)) | (go_at_call 28; refine (must_any (by decide) hF hFl _ hR3).mono ?_; rintro e w4 ⟨rfl, j2, bad2, hR4, hk4, hFl4⟩; have q44 := hk4.box q43 (by omega); obtain ⟨d0, d1, d2, d3, e0, e1, e2, e3⟩ := in4 q44))
  have hz2 := hk2.size
  have hz3 := block_lt q4
  have hN4 := (hRow3.keep hk4 (fun q hq _ e => by subst e; rcases hq with (hq | hq) | hq; exact hD q hq.1 rfl; omega; omega)).node 20 [] 0
  refine bodyPost_ret (res117 rfl (put4_same _ _ _ _ q44)) rfl ?_
  refine na_close (x := nd 20 ks) (hN4.weak (fun q hq _ => ?_)) hR4 ((hk2.then hk3 (fun q hq e => ?_)).trans hk4) (by omega) hBw hFl4
  · rcases hq with (hq | hq) | hq
    · exact ⟨.inl hq.1, by omega⟩
    · exact ⟨.inr (by omega), by omega⟩
    · exact ⟨.inr (by omega), by omega⟩
  · rcases e with e | e
    · exact e
    · have := own_is e.symm; have := hk1.size; omega
end Go.Proofs.YtnnppenlfocgiaaGreatDoor
namespace Go.Proofs.YtnnppenlfocgiaaGreatDoor
open Go.RowKit
open Go

/-- A word that may be here. -/
def EatU (w : World) (B : Nat) (ts : List Tok) (i : Nat) (bad : Bool) (s : List UInt8) (e : Ending) (w' : World) : Prop :=
  ∃ y j, e = .returned (.bool y) ∧ Dr w' B ts j bad ∧ Keeps (fun k => k = B) w w' ∧ ((y = true ∧ bad = false ∧ tx (rest ts i) = s ∧ j = i + 1) ∨ (y = false ∧ ¬ txd ts i bad = s ∧ j = i))
theorem eat_any (B : Nat) (ts : List Tok) (i : Nat) (bad : Bool) (s : List UInt8) (hs : s ≠ []) (w : World) (hR : Dr w B ts i bad) : Calls Tryz.prog 31 #[.pointer (some ⟨B, 0, none⟩), sk s] w (EatU w B ts i bad s) := by
  by_cases h : txd ts i bad = s
  · obtain ⟨rfl, hi⟩ := txd_lt h hs
    refine (eat_yes B ts i false s h hi w hR).mono ?_
    rintro e w1 ⟨rfl, hR1, hk1⟩
    exact ⟨true, i + 1, rfl, hR1, hk1, .inl ⟨rfl, rfl, h, rfl⟩⟩
  · refine (eat_no B ts i bad s h w hR).mono ?_
    rintro e w1 ⟨rfl, hb⟩
    exact ⟨false, i, rfl, hR.below hb, Keeps.of_below hb, .inr ⟨rfl, h, rfl⟩⟩
/-- Between two arguments. -/
def AI (D : Nat → Prop) (f : Nat) (w : World) (B : Nat) (ts : List Tok) (Fin : Nat → Prop) (r : PRes) (g : Nd → List PT → PR) (k : Nat) (lv mv : Value) (wr : World) : Prop :=
  ∃ (ks : List Nd) (b : Option Addr) (cap j : Nat) (bad more : Bool), lv = .slice b ks.length cap ∧ mv = .bool more ∧ Row (fun q => (D q ∧ q < w.heap.size) ∨ w.heap.size + 1 < q) wr (.slice b ks.length cap) ks ∧ (∀ q, Value.ownBlock (.slice b ks.length cap) = some q → w.heap.size + 1 < q) ∧ wr.heap[w.heap.size + 1]? = some zbx ∧ Dr wr B ts j bad ∧ Keeps (fun k => k = B) w wr ∧ k ≤ f ∧ ks.length + k ≤ f + 1 ∧
    ((bad = true ∧ Fin j) ∨ (bad = false ∧ if more then (P k 6 (nd 21 ks) 0 (rest ts j)).on g = some r else need S.rp (rest ts j) (fun l => g (nd 21 ks) l) = some r))
set_option maxRecDepth 20000 in
set_option maxHeartbeats 2000000 in
theorem beh_args (f : Nat) (hf : f ≤ 90000) (hE : ∀ k, k ≤ f → DRow k) (x : Nd) (b : Option Addr) (cap : Nat) (D : Nat → Prop) (r : PRes) (Fin : Nat → Prop) (g : Nd → List PT → PR) (B : Nat) (ts : List Tok) (i : Nat) (w : World) (hF : FinOK ts Fin r) (hR : Dr w B ts i false) (hx : NdV D w x (ndv x b cap)) (hD : ∀ q, D q → q ≠ B) (hn : ¬ tx (rest ts i) = S.lb) (hP : need S.lp (rest ts i) (fun l => if tx l = S.rp then g (nd 21 [x]) l.tail else (P f 6 (nd 21 [x]) 0 l).on g) = some r) : Calls Tryz.prog 89 #[.pointer (some ⟨B, 0, none⟩), ndv x b cap] w (NA D w B ts Fin r g) := by
  obtain ⟨h3, h4⟩ := new2 w (nbx x b cap) zbx
  have hb0 := below2 w (nbx x b cap) zbx
  have hBw := hR.lt
  have hTn := eat_no B ts i false S.lb hn _ (hR.below hb0)
  have hM := fun u (h : Dr u B ts i false) => must_any (s := S.lp) (by decide) hF (.inr ⟨rfl, hP⟩) u h
  go_enter Tryz.func89, Tryz.ntmps89
  go_wp2_with (first | (go_at_call 31; refine hTn.mono ?_; rintro e w1 ⟨rfl, hb1⟩; have hR1 := (hR.below hb0).below hb1) | (go_at_call 28; refine (hM _ hR1).mono ?_; rintro e w2 ⟨rfl, j, bad, hR2, hk2, hFl⟩; refine Hid.out ?_))
  have p3 := hk2.box (block_below hb1 h3) (by omega)
  have p4 := hk2.box (block_below hb1 h4) (by omega)
  have hz2 := block_lt p4
  have hkw := ((Keeps.of_below (S := fun q => q = B) hb0).trans (Keeps.of_below hb1)).trans hk2
  have hx2 : NdV (fun q => D q ∧ q < w.heap.size) w2 x (ndv x b cap) := (((hx.weak (S' := fun q => D q ∧ q < w.heap.size) (fun q hq hlt => ⟨hq, hlt⟩)).below hb0).below hb1).keep hk2 (fun q hq _ => hD q hq.1)
  have hb3 := ext_alloc (Below.refl w2.heap.size w2) (nbx x b cap)
  have hRow := Row.one (S := fun q => (D q ∧ q < w.heap.size) ∨ w.heap.size + 1 < q) (W := w2.alloc (nbx x b cap)) (g := w2.heap.size) (.inr hz2) ((hx2.weak (fun q hq hlt => ⟨.inl hq, by omega⟩)).below hb3) (alloc_new w2 _)
  have hR3 := hR2.below hb3
  have q4 := block_below hb3 p4
  have hkw3 := hkw.trans (Keeps.of_below hb3)
  have hEt := eat_any B ts j bad S.rp (by decide) _ hR3
  obtain ⟨c0, c1, c2, c3, f0, f1, f2, f3⟩ := in4 p3
  have hown0 : ∀ q, Value.ownBlock (.slice (some ⟨w2.heap.size, 0, none⟩) 1 1) = some q → w.heap.size + 1 < q := fun q e => by have := own_is e; omega
  clear hM hTn hP hx hx2 hR2 hk2 h3 h4 hR1 hb1 hn
  refine Lib.hid ?_
  go_wp2_with (go_at_call 31; refine Hid.out ?_)
  obtain ⟨W3, hW3⟩ : ∃ W, w2.alloc (nbx x b cap) = W := ⟨_, rfl⟩
  obtain ⟨g1, hg1⟩ : ∃ m, w2.heap.size = m := ⟨_, rfl⟩
  rw [hW3] at hRow hR3 q4 hkw3 hEt
  rw [hg1] at hRow hown0 hz2
  replace hW3 : w2.alloc (.cells #[.int .i64 x.k, sk x.t, .int .i64 x.n, .slice b x.kids.length cap] 24) = W3 := hW3
  rw [hW3, hg1]
  clear hW3 hg1 hkw hb3 p3 p4 c0 c1 c2 c3 f0 f1 f2 f3
  replace hFl : Hid _ := hFl
  refine Lib.hid ?_
  refine hEt.mono ?_
  rintro e w4 ⟨y, j4, rfl, hR4, hk4, hY⟩
  have q44 := hk4.box q4 (by omega)
  have hRow4 := hRow.keep hk4 (fun q hq _ e => by subst e; rcases hq with hq | hq; exact hD q hq.1 rfl; omega)
  have hkw4 := hkw3.trans hk4
  obtain ⟨d0, d1, d2, d3, e0, e1, e2, e3⟩ := in4 q44
  clear hEt hRow hR3 q4 hkw3 hk4
  cases y with
  | true =>
    have hFl4 : Hid (Fl ts Fin r j4 bad (g (nd 21 [x]))) := by
      rcases hY with ⟨_, h1, h2, rfl⟩ | ⟨h, _⟩
      · rcases hFl.out with ⟨h0, _⟩ | ⟨_, h3⟩
        · rw [h1] at h0; cases h0
        · dsimp only at h3
          rw [if_pos h2, rest_tail] at h3
          exact .inr ⟨h1, h3⟩
      · cases h
    clear hFl hY hE
    go_wp2
    refine bodyPost_ret (res117 rfl (put4_same _ _ _ _ q44)) rfl ?_
    refine na_close (x := nd 21 [x]) ((hRow4.node 21 [] 0).weak (fun q hq _ => ?_)) hR4 hkw4 (by omega) hBw hFl4.out
    rcases hq with hq | hq
    · exact ⟨.inl hq.1, by omega⟩
    · exact ⟨.inr (by omega), by omega⟩
  | false =>
    have hI : AI D f w B ts Fin r g f (.slice (some ⟨g1, 0, none⟩) 1 1) (.bool true) w4 := by
      refine ⟨[x], _, 1, j4, bad, true, rfl, rfl, hRow4, hown0, q44, hR4, hkw4, Nat.le_refl _, by simp; omega, ?_⟩
      rcases hY with ⟨h, _⟩ | ⟨_, h2, rfl⟩
      · cases h
      · rcases hFl.out with h0 | ⟨h1, h3⟩
        · exact .inl h0
        · dsimp only at h3
          rw [if_neg (by subst h1; exact h2)] at h3
          exact .inr ⟨h1, by rw [if_pos rfl]; exact h3⟩
    clear hFl hY hRow4 hown0 q44 hR4 hkw4 d0 d1 d2 d3 e0 e1 e2 e3
    go_wp2
    go_loopg [6, 7] f (fun k lv mv wr => AI D f w B ts Fin r g k lv mv wr)
    case atStart => exact hI
    case round =>
      obtain ⟨ks, b1, cap1, j, bad, more, rfl, rfl, hRow, hown, p4, hR1, hk, hgf, hle, hst⟩ := hrel
      clear hI
      have hz2 := block_lt p4
      obtain ⟨d0, d1, d2, d3, e0, e1, e2, e3⟩ := in4 p4
      obtain ⟨b', cap', s0, s1, s2, v1, v2⟩ := hR1.cells
      have close : ∀ (hFl : Fl ts Fin r j bad (fun l => need S.rp l fun l => g (nd 21 ks) l)), Calls Tryz.prog 28 #[.pointer (some ⟨B, 0, none⟩), sk S.rp] wr (DU wr B ts Fin r (g (nd 21 ks))) := fun hFl => must_any (s := S.rp) (by decide) hF hFl wr hR1
      by_cases hgo : bad = false ∧ more = true
      · obtain ⟨rfl, rfl⟩ := hgo
        rcases hst with ⟨h, _⟩ | ⟨_, hst⟩
        · cases h
        rw [if_pos rfl] at hst
        cases gk with
        | zero => cases hst
        | succ k =>
        rw [P, on_on] at hst
        have hX := exprs_any k (hE k (by omega)) ks b1 cap1 (fun q => (D q ∧ q < w.heap.size) ∨ w.heap.size + 1 < q) r Fin (fun y l => (if tx l = S.cm then P k 6 (nd 21 (ks ++ [y])) 0 l.tail else need S.rp l fun l => .ok (nd 21 (ks ++ [y])) l).on g) B ts j false wr hF hR1 hRow (fun q hq => by rcases hq with hq | hq; exact hD q hq.1; omega) (fun q e => by have := hown q e; omega) (by omega) (.inr ⟨rfl, hst⟩)
        have hzw := hk.size
        clear hst close hE
        go_wp2_with (first | (go_at_call 71; refine hX.mono ?_; rintro e w3 ⟨⟨ks3, b3, cap3, j3, bad3, rfl, hRow3, hR3, hlen3, hown3, hFx⟩, hk3⟩) | (go_at_call 31; refine (eat_any B ts j3 bad3 S.cm (by decide) _ hR3).mono ?_; rintro e w5 ⟨y, j5, rfl, hR5, hk5, hY⟩))
        have hFl := ex_fl (G := fun ks l => (if tx l = S.cm then P k 6 (nd 21 ks) 0 l.tail else need S.rp l fun l => .ok (nd 21 ks) l).on g) hFx
        have q4 := hk5.box (hk3.box p4 (by rintro (e | e); omega; have := hown _ e.symm; omega)) (by omega)
        have hRow5 : Row (fun q => (D q ∧ q < w.heap.size) ∨ w.heap.size + 1 < q) w5 (.slice b3 ks3.length cap3) ks3 := (hRow3.keep hk5 (fun q hq _ e => by subst e; rcases hq with (hq | hq) | hq; exact hD q hq.1 rfl; omega; omega)).weak (fun q hq _ => by rcases hq with hq | hq; exact hq; exact .inr (by omega))
        have hkw5 := (hk.then hk3 (fun q hq e => by rcases e with e | e; exact e; have := hown q e.symm; omega)).trans hk5
        go_roundg k
        case measure => omega
        case rel =>
          refine ⟨ks3, b3, cap3, j5, bad3, y, rfl, rfl, hRow5, fun q e => ?_, q4, hR5, hkw5, by omega, by omega, ?_⟩
          · rcases hown3 q e with e | e
            · exact hown q e.symm
            · omega
          · rcases hFl with ⟨rfl, h⟩ | ⟨rfl, h⟩
            · rcases hY with ⟨_, h1, _⟩ | ⟨_, _, rfl⟩
              · cases h1
              · exact .inl ⟨rfl, h⟩
            · refine .inr ⟨rfl, ?_⟩
              dsimp only at h
              rcases hY with ⟨rfl, _, h2, rfl⟩ | ⟨rfl, h2, rfl⟩
              · rw [if_pos h2, rest_tail] at h
                rw [if_pos rfl]
                exact h
              · rw [if_neg (show ¬ tx (rest ts j5) = S.cm from h2), need_on] at h
                rw [if_neg (by decide)]
                exact h
      · have hFl : Fl ts Fin r j bad (fun l => need S.rp l fun l => g (nd 21 ks) l) := by
          rcases hst with h | ⟨h1, h2⟩
          · exact .inl h
          · have : more = false := by cases more with | false => rfl | true => exact absurd ⟨h1, rfl⟩ hgo
            subst this
            rw [if_neg (by decide)] at h2
            exact .inr ⟨h1, h2⟩
        have hc := close hFl
        have hNk := hRow.node 21 [] 0
        have hcl : ∀ (w5 : World) (h : DU wr B ts Fin r (g (nd 21 ks)) (.returned (.tuple #[])) w5), NA D w B ts Fin r g (.returned (ndv (nd 21 ks) b1 cap1)) (put4 w5 (w.heap.size + 1) (.int .i64 21) (sk []) (.int .i64 0) (.slice b1 ks.length cap1)) := by
          rintro w5 ⟨_, j2, bad2, hR5, hk5, hFl5⟩
          refine na_close (x := nd 21 ks) ((hNk.keep hk5 (fun q hq _ e => by subst e; rcases hq with hq | hq; exact hD q hq.1 rfl; omega)).weak (fun q hq _ => ?_)) hR5 (hk.trans hk5) (by omega) hBw hFl5
          rcases hq with hq | hq
          · exact ⟨.inl hq.1, by omega⟩
          · exact ⟨.inr (by omega), by omega⟩
        cases bad with
        | true =>
          cases more with
          | true =>
            go_wp2_with (go_at_call 28; refine hc.mono ?_; rintro e w5 hDU; have he := hDU.1; subst he; have q4 : w5.heap[w.heap.size + 1]? = some zbx := (by obtain ⟨_, _, _, _, hk5, _⟩ := hDU; exact hk5.box p4 (by omega)); obtain ⟨d0, d1, d2, d3, e0, e1, e2, e3⟩ := in4 q4)
            exact bodyPost_ret (res117 rfl (put4_same _ _ _ _ q4)) rfl (hcl w5 hDU)
          | false =>
            go_wp2_with (go_at_call 28; refine hc.mono ?_; rintro e w5 hDU; have he := hDU.1; subst he; have q4 : w5.heap[w.heap.size + 1]? = some zbx := (by obtain ⟨_, _, _, _, hk5, _⟩ := hDU; exact hk5.box p4 (by omega)); obtain ⟨d0, d1, d2, d3, e0, e1, e2, e3⟩ := in4 q4)
            exact bodyPost_ret (res117 rfl (put4_same _ _ _ _ q4)) rfl (hcl w5 hDU)
        | false =>
          cases more with
          | true => exact absurd ⟨rfl, rfl⟩ hgo
          | false =>
            go_wp2_with (go_at_call 28; refine hc.mono ?_; rintro e w5 hDU; have he := hDU.1; subst he; have q4 : w5.heap[w.heap.size + 1]? = some zbx := (by obtain ⟨_, _, _, _, hk5, _⟩ := hDU; exact hk5.box p4 (by omega)); obtain ⟨d0, d1, d2, d3, e0, e1, e2, e3⟩ := in4 q4)
            exact bodyPost_ret (res117 rfl (put4_same _ _ _ _ q4)) rfl (hcl w5 hDU)
theorem behind_of (f : Nat) (hf : f ≤ 90000) (hE : ∀ k, k ≤ f → DRow k) : DBeh (f + 1) := by
  intro x b cap D r Fin g B ts i w hF hR hx hD hP
  rw [P, ite_on] at hP
  split at hP
  · rename_i h
    rw [on_on, rest_tail] at hP
    refine beh_ix f (hE f (Nat.le_refl _)) x b cap D r Fin g B ts i w hF hR hx hD h ?_
    simp only [need_on, ok_on] at hP
    exact hP
  · rename_i h
    rw [need_on] at hP
    refine beh_args f hf hE x b cap D r Fin g B ts i w hF hR hx hD h ?_
    simp only [ite_on, ok_on] at hP
    exact hP
end Go.Proofs.YtnnppenlfocgiaaGreatDoor
namespace Go.Proofs.YtnnppenlfocgiaaGreatDoor
open Go.RowKit
open Go

/-- A node in its box t, the result's box behind all that was there. -/
structure NS (w : World) (B t : Nat) (ts : List Tok) (W : World) (x : Nd) (b : Option Addr) (cap j : Nat) (bad : Bool) : Prop where
  g : W.heap[t]? = some (nbx x b cap)
  z : W.heap[w.heap.size]? = some zbx
  row : Row (fun q => t < q) W (.slice b x.kids.length cap) x.kids
  R : Dr W B ts j bad
  K : Keeps (fun q => q = B) w W
  lt : w.heap.size < t
  hB : B < w.heap.size
theorem NS.own {w W : World} {B t : Nat} {ts : List Tok} {x : Nd} {b : Option Addr} {cap j : Nat} {bad : Bool} (h : NS w B t ts W x b cap j bad) : ∀ q, Value.ownBlock (.slice b x.kids.length cap) = some q → t < q ∧ q < W.heap.size := by
  obtain ⟨_, _, _, hlt9⟩ := h.row.form
  exact hlt9
theorem NS.on {w W W' : World} {B t : Nat} {ts : List Tok} {x : Nd} {b : Option Addr} {cap j j' : Nat} {bad bad' : Bool} (h : NS w B t ts W x b cap j bad) (hk : Keeps (fun q => q = B) W W') (hR : Dr W' B ts j' bad') : NS w B t ts W' x b cap j' bad' := by
  have h1 := h.lt
  have h2 := h.hB
  exact ⟨hk.box h.g (by omega), hk.box h.z (by omega), h.row.keep hk (fun q hq _ e => by omega), hR, h.K.trans hk, h1, h2⟩
theorem NS.below {w W W' : World} {B t : Nat} {ts : List Tok} {x : Nd} {b : Option Addr} {cap j : Nat} {bad : Bool} (h : NS w B t ts W x b cap j bad) (hb : Below W.heap.size W W') : NS w B t ts W' x b cap j bad := h.on (Keeps.of_below hb) (h.R.below hb)
theorem NS.new {w : World} {B : Nat} {ts : List Tok} {i : Nat} {bad : Bool} (x : Nd) (hx : x.kids = []) (hR : Dr w B ts i bad) : NS w B (w.heap.size + 1) ts ((w.alloc zbx).alloc (nbx x none 0)) x none 0 i bad := by
  obtain ⟨h1, h2⟩ := new2 w zbx (nbx x none 0)
  refine ⟨h2, h1, by rw [hx]; exact Row.nil _ _, hR.below (below2 _ _ _), Keeps.of_below (below2 _ _ _), by omega, hR.lt⟩
/-- Its kind is written. -/
theorem NS.kind {w W : World} {B t : Nat} {ts : List Tok} {k0 n : Int} {s : List UInt8} {ks : List Nd} {b : Option Addr} {cap j : Nat} {bad : Bool} (h : NS w B t ts W ⟨k0, s, n, ks⟩ b cap j bad) (k : Int) : NS w B t ts (W.setCell ⟨t, 0, none⟩ (.int .i64 k)) ⟨k, s, n, ks⟩ b cap j bad := by
  have h1 := h.lt
  have h2 := h.hB
  have hk : Keeps (fun q => q = t) W (W.setCell ⟨t, 0, none⟩ (.int .i64 k)) := (Keeps.refl _ _).set t 0 _ (fun _ => rfl)
  exact ⟨set_block _ h.g, hk.box h.z (by omega), h.row.keep hk (fun q hq _ e => by omega), h.R.keep hk (fun q hq e => by omega), h.K.then hk (fun q hq e => by omega), h1, h2⟩
/-- It is written anew. -/
theorem NS.put {w W : World} {B t : Nat} {ts : List Tok} {x : Nd} {b : Option Addr} {cap j : Nat} {bad : Bool} (h : NS w B t ts W x b cap j bad) (k n : Int) (s : List UInt8) : NS w B t ts (put4 W t (.int .i64 k) (sk s) (.int .i64 n) (.slice none 0 0)) ⟨k, s, n, []⟩ none 0 j bad := by
  have h1 := h.lt
  have h2 := h.hB
  have hk := put4_self W t (.int .i64 k) (sk s) (.int .i64 n) (.slice none 0 0)
  exact ⟨put4_same _ _ _ _ h.g, hk.box h.z (by omega), Row.nil _ _, h.R.keep hk (fun q hq e => by omega), h.K.then hk (fun q hq e => by omega), h1, h2⟩
/-- Its row has grown, or has not. -/
theorem NS.mid {w W wa : World} {B t : Nat} {ts : List Tok} {x : Nd} {b : Option Addr} {cap j : Nat} {bad : Bool} (h : NS w B t ts W x b cap j bad) (hk : Keeps (fun q => q = B ∨ some q = Value.ownBlock (.slice b x.kids.length cap)) W wa) : wa.heap[t]? = some (nbx x b cap) := by
  have h1 := h.lt
  have h2 := h.hB
  exact hk.box h.g (by rintro (e | e); omega; have := (h.own _ e.symm).1; omega)
theorem NS.grow {w W wa : World} {B t : Nat} {ts : List Tok} {k n : Int} {s : List UInt8} {ks : List Nd} {b : Option Addr} {cap j : Nat} {bad : Bool} (h : NS w B t ts W ⟨k, s, n, ks⟩ b cap j bad) {ks1 : List Nd} {b1 : Option Addr} {cap1 j1 : Nat} {bad1 : Bool} (hRow : Row (fun q => t < q ∨ W.heap.size ≤ q) wa (.slice b1 ks1.length cap1) ks1) (hR : Dr wa B ts j1 bad1) (hk : Keeps (fun q => q = B ∨ some q = Value.ownBlock (.slice b ks.length cap)) W wa) : NS w B t ts (wa.setCell ⟨t, 3, none⟩ (.slice b1 ks1.length cap1)) ⟨k, s, n, ks1⟩ b1 cap1 j1 bad1 := by
  have h1 := h.lt
  have h2 := h.hB
  have h3 := block_lt h.g
  have h4 := h.K.size
  have hs : Keeps (fun q => q = t) wa (wa.setCell ⟨t, 3, none⟩ (.slice b1 ks1.length cap1)) := (Keeps.refl _ _).set t 3 _ (fun _ => rfl)
  have hz := hk.box h.z (by rintro (e | e); omega; have := (h.own _ e.symm).1; omega)
  refine ⟨set_block _ (h.mid hk), hs.box hz (by omega), (hRow.weak (fun q hq _ => by rcases hq with hq | hq; exact hq; omega)).keep hs (fun q hq _ e => by omega), hR.keep hs (fun q hq e => by omega), ?_, h1, h2⟩
  exact (h.K.then hk (fun q hq e => by rcases e with e | e; exact e; have := (h.own q e.symm).1; omega)).then hs (fun q hq e => by omega)
theorem NS.close {w W : World} {B t : Nat} {ts : List Tok} {x : Nd} {b : Option Addr} {cap j : Nat} {bad : Bool} {Fin : Nat → Prop} {r : PRes} {g : Nd → List PT → PR} (h : NS w B t ts W x b cap j bad) (hFl : Fl ts Fin r j bad (g x)) : NA no w B ts Fin r g (.returned (ndv x b cap)) (put4 W w.heap.size (.int .i64 x.k) (sk x.t) (.int .i64 x.n) (.slice b x.kids.length cap)) := by
  have h1 := h.lt
  have hN : NdV (fun q => t < q) W x (ndv x b cap) := by
    obtain ⟨k, s, n, ks⟩ := x
    exact h.row.node k s n
  exact na_close (hN.weak (fun q hq _ => ⟨.inr (by omega), by omega⟩)) h.R h.K (Nat.le_refl _) h.hB hFl
/-- One more of its own row: an append that is stored. -/
theorem NS.app {w W w3 W4 : World} {B t : Nat} {ts : List Tok} {k n : Int} {s : List UInt8} {ks : List Nd} {b : Option Addr} {cap j : Nat} {bad : Bool} (h : NS w B t ts W ⟨k, s, n, ks⟩ b cap j bad) {y : Nd} {b1 : Option Addr} {cap1 : Nat} {xs : List Value} {g cap3 : Nat} (ho : W.ownsRow 0 24 4 (.slice b ks.length cap) ks.length xs) (hn : ∀ j y, ks[j]? = some y → NdAt (fun g => (t < g) ∧ some g ≠ Value.ownBlock (.slice b ks.length cap)) W y (fun i => if i < 4 then xs[j * 4 + i]? else none)) (hy : NdV (fun q => t < q ∧ some q ≠ Value.ownBlock (.slice b ks.length cap)) W y (ndv y b1 cap1))
    (hown : w3.ownsRow 0 24 4 (.slice (some ⟨g, 0, none⟩) (ks.length + 1) cap3) (ks.length + 1) (xs ++ [.int .i64 y.k, sk y.t, .int .i64 y.n, .slice b1 y.kids.length cap1])) (hgrow : W.grownBy w3 (Value.ownBlock (.slice b ks.length cap))) (hat : Value.ownBlock (.slice b ks.length cap) = some g ∨ g = W.heap.size) (hW4 : w3.setCell ⟨t, 3, none⟩ (.slice (some ⟨g, 0, none⟩) (ks.length + 1) cap3) = W4) : NS w B t ts W4 ⟨k, s, n, ks ++ [y]⟩ (some ⟨g, 0, none⟩) cap3 j bad := by
  have h1 := h.lt
  have h2 := h.hB
  have h3 := block_lt h.g
  have h4 := h.K.size
  obtain ⟨hRow6, g6, hk6, _⟩ := kids_step (lo := 0) ho (fun q e => (h.own q e).1) hn hy (fun q hq => by omega) (fun q hq => by omega) (fun q e => Nat.zero_le _) (Nat.zero_le _) h.g hown hgrow hat hW4
  refine ⟨g6, hk6.box h.z ?_, hRow6, h.R.keep hk6 ?_, h.K.then hk6 ?_, h1, h2⟩
  · rintro (e | e)
    · omega
    · have := (h.own _ e.symm).1; omega
  · intro q hq e
    rcases e with e | e
    · omega
    · have := (h.own _ e.symm).1; omega
  · intro q hq e
    rcases e with e | e
    · omega
    · have := (h.own _ e.symm).1; omega
/-- What an append asks for. -/
theorem NS.ready {w W : World} {B t : Nat} {ts : List Tok} {x : Nd} {b : Option Addr} {cap j : Nat} {bad : Bool} (h : NS w B t ts W x b cap j bad) : ∃ xs, W.ownsRow 0 24 4 (.slice b x.kids.length cap) x.kids.length xs ∧ (∀ j y, x.kids[j]? = some y → NdAt (fun g => (t < g) ∧ some g ≠ Value.ownBlock (.slice b x.kids.length cap)) W y (fun i => if i < 4 then xs[j * 4 + i]? else none)) := by
  obtain ⟨xs, ho, _, hn⟩ := h.row.own
  exact ⟨xs, ho, hn⟩
theorem NS.must {w W : World} {B t : Nat} {ts : List Tok} {x : Nd} {b : Option Addr} {cap j : Nat} {bad : Bool} {Fin : Nat → Prop} {r : PRes} (h : NS w B t ts W x b cap j bad) {s : List UInt8} (hs : s ≠ []) (hF : FinOK ts Fin r) {G : List PT → PR} (hP : Fl ts Fin r j bad (fun l => need s l G)) : Calls Tryz.prog 28 #[.pointer (some ⟨B, 0, none⟩), sk s] W (fun e W' => e = .returned (.tuple #[]) ∧ ∃ j' bad', NS w B t ts W' x b cap j' bad' ∧ Fl ts Fin r j' bad' G) := by
  refine (must_any hs hF hP W h.R).mono ?_
  rintro e W' ⟨rfl, j', bad', hR, hk, hFl⟩
  exact ⟨rfl, j', bad', h.on hk hR, hFl⟩
theorem NS.name {w W : World} {B t : Nat} {ts : List Tok} {x : Nd} {b : Option Addr} {cap j : Nat} {bad : Bool} {Fin : Nat → Prop} {r : PRes} (h : NS w B t ts W x b cap j bad) (hF : FinOK ts Fin r) {G : List UInt8 → List PT → PR} (hP : Fl ts Fin r j bad (fun l => needName l G)) : Calls Tryz.prog 29 #[.pointer (some ⟨B, 0, none⟩)] W (fun e W' => ∃ s j' bad', e = .returned (sk s) ∧ NS w B t ts W' x b cap j' bad' ∧ Fl ts Fin r j' bad' (G s)) := by
  refine (rnm_any hF hP W h.R).mono ?_
  rintro e W' ⟨s, j', bad', rfl, hR, hk, hFl⟩
  exact ⟨s, j', bad', rfl, h.on hk hR, hFl⟩
theorem NS.eat {w W : World} {B t : Nat} {ts : List Tok} {x : Nd} {b : Option Addr} {cap j : Nat} {bad : Bool} (h : NS w B t ts W x b cap j bad) (s : List UInt8) (hs : s ≠ []) : Calls Tryz.prog 31 #[.pointer (some ⟨B, 0, none⟩), sk s] W (fun e W' => ∃ y j', e = .returned (.bool y) ∧ NS w B t ts W' x b cap j' bad ∧ ((y = true ∧ bad = false ∧ tx (rest ts j) = s ∧ j' = j + 1) ∨ (y = false ∧ ¬ txd ts j bad = s ∧ j' = j))) := by
  refine (eat_any B ts j bad s hs W h.R).mono ?_
  rintro e W' ⟨y, j', rfl, hR, hk, hY⟩
  exact ⟨y, j', rfl, h.on hk hR, hY⟩
theorem NS.exprs {w W : World} {B t : Nat} {ts : List Tok} {k n : Int} {s : List UInt8} {ks : List Nd} {b : Option Addr} {cap j : Nat} {bad : Bool} {Fin : Nat → Prop} {r : PRes} (h : NS w B t ts W ⟨k, s, n, ks⟩ b cap j bad) {f : Nat} (hE : DRow f) (hF : FinOK ts Fin r) (hlen : ks.length ≤ 100000) (G : List Nd → List PT → PR) (hP : Fl ts Fin r j bad (fun l => (P f 0 nil0 0 l).on (fun x l => G (ks ++ [x]) l))) : Calls Tryz.prog 71 #[.pointer (some ⟨B, 0, none⟩), .slice b ks.length cap] W (fun e wa => ∃ ks1 b1 cap1 j1 bad1, e = .returned (.slice b1 ks1.length cap1) ∧ ks1.length ≤ ks.length + 1 ∧ wa.heap[t]? = some (nbx ⟨k, s, n, ks⟩ b cap) ∧ NS w B t ts (wa.setCell ⟨t, 3, none⟩ (.slice b1 ks1.length cap1)) ⟨k, s, n, ks1⟩ b1 cap1 j1 bad1 ∧ Fl ts Fin r j1 bad1 (fun l => G ks1 l)) := by
  have h1 := h.lt
  have h2 := h.hB
  refine (exprs_any f hE ks b cap (fun q => t < q) r Fin _ B ts j bad W hF h.R h.row (fun q hq => by omega) (fun q e => by have := (h.own q e).1; omega) hlen hP).mono ?_
  rintro e wa ⟨⟨ks1, b1, cap1, j1, bad1, rfl, hRow, hR, hl, _, hFx⟩, hk⟩
  exact ⟨ks1, b1, cap1, j1, bad1, rfl, hl, h.mid hk, h.grow hRow hR hk, ex_fl hFx⟩
theorem NS.block {w W : World} {B t : Nat} {ts : List Tok} {x : Nd} {b : Option Addr} {cap j : Nat} {bad : Bool} {Fin : Nat → Prop} {r : PRes} (h : NS w B t ts W x b cap j bad) {f : Nat} (hK : DBlk f) (hF : FinOK ts Fin r) (G : Nd → List PT → PR) (hP : Fl ts Fin r j bad (fun l => (P f 7 (nd 4 []) 0 l).on G)) : Calls Tryz.prog 32 #[.pointer (some ⟨B, 0, none⟩)] W (fun e W' => ∃ y b1 cap1 j1 bad1, e = .returned (ndv y b1 cap1) ∧ NS w B t ts W' x b cap j1 bad1 ∧ NdV (fun q => t < q ∧ some q ≠ Value.ownBlock (.slice b x.kids.length cap)) W' y (ndv y b1 cap1) ∧ Fl ts Fin r j1 bad1 (G y)) := by
  have h3 := block_lt h.g
  refine (hK r Fin G B ts j bad W hF h.R hP).mono ?_
  rintro e W' ⟨y, b1, cap1, j1, bad1, rfl, hN, hR, hk, hFl⟩
  refine ⟨y, b1, cap1, j1, bad1, rfl, h.on hk hR, hN.weak (fun q hq _ => ?_), hFl⟩
  have := hq.resolve_left id
  exact ⟨by omega, fun e => by have := (h.own q e.symm).2; omega⟩
/-- A node in its box t, that is whole. -/
structure NT (w : World) (B t : Nat) (ts : List Tok) (W : World) (x : Nd) (b : Option Addr) (cap j : Nat) (bad : Bool) : Prop where
  g : W.heap[t]? = some (nbx x b cap)
  z : W.heap[w.heap.size]? = some zbx
  nd : NdV (fun q => t < q) W x (ndv x b cap)
  R : Dr W B ts j bad
  K : Keeps (fun q => q = B) w W
  lt : w.heap.size < t
  hB : B < w.heap.size
theorem NT.on {w W W' : World} {B t : Nat} {ts : List Tok} {x : Nd} {b : Option Addr} {cap j j' : Nat} {bad bad' : Bool} (h : NT w B t ts W x b cap j bad) (hk : Keeps (fun q => q = B) W W') (hR : Dr W' B ts j' bad') : NT w B t ts W' x b cap j' bad' := by
  have h1 := h.lt
  have h2 := h.hB
  exact ⟨hk.box h.g (by omega), hk.box h.z (by omega), h.nd.keep hk (fun q hq _ e => by omega), hR, h.K.trans hk, h1, h2⟩
theorem NT.close {w W : World} {B t : Nat} {ts : List Tok} {x : Nd} {b : Option Addr} {cap j : Nat} {bad : Bool} {Fin : Nat → Prop} {r : PRes} {g : Nd → List PT → PR} (h : NT w B t ts W x b cap j bad) (hFl : Fl ts Fin r j bad (g x)) : NA no w B ts Fin r g (.returned (ndv x b cap)) (put4 W w.heap.size (.int .i64 x.k) (sk x.t) (.int .i64 x.n) (.slice b x.kids.length cap)) := by
  have h1 := h.lt
  exact na_close (h.nd.weak (fun q hq _ => ⟨.inr (by omega), by omega⟩)) h.R h.K (Nat.le_refl _) h.hB hFl
theorem NT.must {w W : World} {B t : Nat} {ts : List Tok} {x : Nd} {b : Option Addr} {cap j : Nat} {bad : Bool} {Fin : Nat → Prop} {r : PRes} (h : NT w B t ts W x b cap j bad) {s : List UInt8} (hs : s ≠ []) (hF : FinOK ts Fin r) {G : List PT → PR} (hP : Fl ts Fin r j bad (fun l => need s l G)) : Calls Tryz.prog 28 #[.pointer (some ⟨B, 0, none⟩), sk s] W (fun e W' => e = .returned (.tuple #[]) ∧ ∃ j' bad', NT w B t ts W' x b cap j' bad' ∧ Fl ts Fin r j' bad' G) := by
  refine (must_any hs hF hP W h.R).mono ?_
  rintro e W' ⟨rfl, j', bad', hR, hk, hFl⟩
  exact ⟨rfl, j', bad', h.on hk hR, hFl⟩
theorem NT.put {w W : World} {B t : Nat} {ts : List Tok} {x : Nd} {b : Option Addr} {cap j : Nat} {bad : Bool} {A0 A1 A2 A3 : Value} (hg : W.heap[t]? = some (.cells #[A0, A1, A2, A3] 24)) (hz : W.heap[w.heap.size]? = some zbx) (hN : NdV (fun q => t < q) W x (ndv x b cap)) (hR : Dr W B ts j bad) (hK : Keeps (fun q => q = B) w W) (h1 : w.heap.size < t) (h2 : B < w.heap.size) : NT w B t ts (put4 W t (.int .i64 x.k) (sk x.t) (.int .i64 x.n) (.slice b x.kids.length cap)) x b cap j bad := by
  have hk := put4_self W t (.int .i64 x.k) (sk x.t) (.int .i64 x.n) (.slice b x.kids.length cap)
  exact ⟨put4_same _ _ _ _ hg, hk.box hz (by omega), hN.keep hk (fun q hq _ e => by omega), hR.keep hk (fun q hq e => by omega), hK.then hk (fun q hq e => by omega), h1, h2⟩
theorem NS.loop {w V : World} {B t : Nat} {ts : List Tok} {k : Int} {s : List UInt8} {ks : List Nd} {b : Option Addr} {cap j : Nat} {bad : Bool} {Fin : Nat → Prop} {r : PRes} (h : NS w B t ts V ⟨k, s, 0, ks⟩ b cap j bad) {f : Nat} (hK : DBlk f) (hF : FinOK ts Fin r) (hlen : ks.length ≤ 100000) (G : List Nd → List PT → PR) (hP : Fl ts Fin r j bad (fun l => need W.do_ l fun l => (P f 7 (nd 4 []) 0 l).on fun bk l => need W.end_ l fun l => G (ks ++ [bk]) l)) : Calls Tryz.prog 72 #[.pointer (some ⟨B, 0, none⟩), ndv ⟨k, s, 0, ks⟩ b cap] V (fun e wa => ∃ ks1 b1 cap1 j1 bad1, e = .returned (ndv ⟨k, s, 0, ks1⟩ b1 cap1) ∧ wa.heap[t]? = some (nbx ⟨k, s, 0, ks⟩ b cap) ∧ NT w B t ts (put4 wa t (.int .i64 k) (sk s) (.int .i64 0) (.slice b1 ks1.length cap1)) ⟨k, s, 0, ks1⟩ b1 cap1 j1 bad1 ∧ Fl ts Fin r j1 bad1 (G ks1)) := by
  have h1 := h.lt
  have h2 := h.hB
  have h3 := block_lt h.g
  refine (dloop_of f hK k s ks b cap (fun q => t < q) r Fin G B ts j bad V hF h.R h.row (fun q hq => by omega) (fun q e => by have := (h.own q e).1; omega) hlen hP).mono ?_
  rintro e wa ⟨ks1, b1, cap1, j1, bad1, rfl, hN, hR, hk, hFl⟩
  have hz := hk.box h.z (by rintro (e | e); omega; have := (h.own _ e.symm).1; omega)
  have hkw := h.K.then hk (fun q hq e => by rcases e with e | e; exact e; have := (h.own q e.symm).1; omega)
  have hg := h.mid hk
  have hN2 : NdV (fun q => t < q) wa ⟨k, s, 0, ks1⟩ (ndv ⟨k, s, 0, ks1⟩ b1 cap1) := hN.weak (fun q hq _ => by rcases hq with hq | hq; exact hq; omega)
  have hT := NT.put hg hz hN2 hR hkw h1 h2
  exact ⟨ks1, b1, cap1, j1, bad1, rfl, hg, hT, hFl⟩
def DSim (f : Nat) : Prop := ∀ (r : PRes) (Fin : Nat → Prop) (g : Nd → List PT → PR) (B : Nat) (ts : List Tok) (i : Nat) (w : World), FinOK ts Fin r → Dr w B ts i false → needName (rest ts i) (fun s l => (P f 9 ⟨18, s, 0, []⟩ 0 l).on g) = some r → Calls Tryz.prog 73 #[.pointer (some ⟨B, 0, none⟩)] w (NA no w B ts Fin r g)
end Go.Proofs.YtnnppenlfocgiaaGreatDoor
namespace Go.Proofs.YtnnppenlfocgiaaGreatDoor
open Go.RowKit
open Go

theorem res100 {tm : Array Value} {W : World} {B : Nat} {a b c d : Value} (h : tm[2]?.getD undef = .pointer (some ⟨B, 0, none⟩)) (hx : W.heap[B]? = some (.cells #[a, b, c, d] 24)) : (results Tryz.f73 tm).run Tryz.prog W = .ok (.agg #[a, b, c, d]) W := by
  obtain ⟨c0, c1, c2, c3, _, _, _, _⟩ := in4 hx
  simp [results, Tryz.results73, go_sem, h, c0, c1, c2, c3]
/-- The node alone in a row of its own, within another. -/
theorem nt_one {w W : World} {B t : Nat} {ts : List Tok} {x : Nd} {b : Option Addr} {cap j : Nat} {bad : Bool} {Fin : Nat → Prop} {r : PRes} {g : Nd → List PT → PR} (h : NT w B t ts W x b cap j bad) (k : Int) (hFl : Fl ts Fin r j bad (g (nd k [x]))) : NA no w B ts Fin r g (.returned (ndv (nd k [x]) (some ⟨W.heap.size, 0, none⟩) 1)) (put4 (W.alloc (nbx x b cap)) w.heap.size (.int .i64 k) (sk []) (.int .i64 0) (.slice (some ⟨W.heap.size, 0, none⟩) 1 1)) := by
  have h1 := h.lt
  have h3 := block_lt h.g
  have hb := ext_alloc (Below.refl W.heap.size W) (nbx x b cap)
  have hRow := Row.one (S := fun q => t < q) (W := W.alloc (nbx x b cap)) (g := W.heap.size) h3 ((h.nd.weak (fun q hq hlt => ⟨hq, by omega⟩)).below hb) (alloc_new W _)
  exact na_close (x := nd k [x]) ((hRow.node k [] 0).weak (fun q hq _ => ⟨.inr (by omega), by omega⟩)) (h.R.below hb) (h.K.trans (Keeps.of_below hb)) (Nat.le_refl _) h.hB hFl
/-- Between two of those behind. -/
def SiI (f t : Nat) (w : World) (B : Nat) (ts : List Tok) (Fin : Nat → Prop) (r : PRes) (g : Nd → List PT → PR) (k : Nat) (cv : Value) (wr : World) : Prop :=
  ∃ (x : Nd) (b : Option Addr) (cap j : Nat) (bad : Bool) (a : Nat), cv = .int .i64 (a : Nat) ∧ NT w B t ts wr x b cap j bad ∧ k ≤ f ∧ a + k ≤ f ∧ Fl ts Fin r j bad (fun l => (P k 9 x a l).on g)
set_option maxRecDepth 20000 in
set_option maxHeartbeats 2000000 in
theorem dsim_of (f : Nat) (hf : f ≤ 90000) (hX : ∀ k, k < f → DBeh k) (hE : ∀ k, k < f → DRow k) : DSim f := by
  intro r Fin g B ts i w hF hR hP
  have hBw := hR.lt
  have hb0 : Below w.heap.size w (w.alloc zbx) := ext_alloc (Below.refl _ _) _
  have h2 := alloc_new w zbx
  have hN := rnm_any hF (.inr ⟨rfl, hP⟩) _ (hR.below hb0)
  clear hP
  go_enter Tryz.func73, Tryz.ntmps73
  go_wp2_with (go_at_call 29; refine hN.mono ?_; rintro e w1 ⟨s, j, bad, rfl, hR1, hk1, hFl⟩; refine Hid.out ?_)
  have z1 := hk1.box h2 (by omega)
  have hz1 := block_lt z1
  have hb2 := ext_alloc (Below.refl w1.heap.size w1) (nbx ⟨18, s, 0, []⟩ none 0)
  have hT0 : NT w B w1.heap.size ts (w1.alloc (nbx ⟨18, s, 0, []⟩ none 0)) ⟨18, s, 0, []⟩ none 0 j bad := ⟨alloc_new _ _, block_below hb2 z1, (Row.nil _ _).node 18 s 0, hR1.below hb2, ((Keeps.of_below hb0).trans hk1).trans (Keeps.of_below hb2), hz1, hBw⟩
  have hI : SiI f w1.heap.size w B ts Fin r g f (.int .i64 0) (w1.alloc (nbx ⟨18, s, 0, []⟩ none 0)) := ⟨_, _, _, j, bad, 0, rfl, hT0, Nat.le_refl _, by omega, hFl⟩
  obtain ⟨t, ht⟩ : ∃ t, w1.heap.size = t := ⟨_, rfl⟩
  rw [ht] at hI hz1
  clear hN hT0 hFl hb2 hk1 hR1 z1 hb0 h2 hR
  refine Lib.hid ?_
  go_wp2
  clear ht
  go_loopg [4] f (fun k cv wr => SiI f t w B ts Fin r g k cv wr)
  case atStart => exact hI
  case round =>
    obtain ⟨x, b, cap, j, bad, a, rfl, hT1, hgf, hle, hFl⟩ := hrel
    clear hI
    have p3 := hT1.g
    have p2 := hT1.z
    have hR1 := hT1.R
    have hz3 := block_lt p3
    obtain ⟨c0, c1, c2, c3, f0, f1, f2, f3⟩ := in4 p3
    obtain ⟨d0, d1, d2, d3, e0, e1, e2, e3⟩ := in4 p2
    obtain ⟨b', cap', s0, s1, s2, v1, v2⟩ := hR1.cells
    rcases hFl with ⟨rfl, hFi⟩ | ⟨rfl, hP⟩
    · obtain ⟨x0, x1, x2, x3, y0, y1, y2, y3⟩ := in4a p2
      go_wp2
      refine bodyPost_ret (res100 rfl (put4_same _ _ _ _ (block_alloc _ p2))) rfl ?_
      exact nt_one hT1 7 (.inl ⟨rfl, hFi⟩)
    have hT := fun u (h : Dr u B ts j false) => text_any B ts j false u h
    rw [show txd ts j false = tx (rest ts j) from rfl] at hT
    cases gk with
    | zero => cases hP
    | succ k =>
    dsimp only at hP
    rw [P, ite_on] at hP
    by_cases hlb : tx (rest ts j) = S.lb
    · rw [if_pos hlb, on_on] at hP
      rw [hlb] at hT
      have hcall := fun u (hb : Below wr.heap.size wr u) => hX k (by omega) x b cap (fun q => t < q) r Fin _ B ts j u hF (hR1.below hb) (hT1.nd.below hb) (fun q hq => by omega) hP
      clear hP hlb
      go_wp2_with (first | (go_at_call 30; refine (hT wr hR1).mono ?_; rintro e w2 ⟨rfl, hb2⟩; have q3 := block_below hb2 p3; have q2 := block_below hb2 p2; obtain ⟨c0, c1, c2, c3, f0, f1, f2, f3⟩ := in4 q3) | (go_at_call 89; refine (hcall _ hb2).mono ?_; rintro e w4 ⟨x2, b2, cap2, j2, bad2, rfl, hN2, hR2, hk2, hFl2⟩; have r3 := hk2.box q3 (by omega); have r2 := hk2.box q2 (by omega); obtain ⟨c0, c1, c2, c3, f0, f1, f2, f3⟩ := in4 r3))
      have hz4 := hb2.size
      have hkw := (hT1.K.trans (Keeps.of_below hb2)).trans hk2
      go_roundg k
      case measure => omega
      case rel => exact ⟨x2, b2, cap2, j2, bad2, a, rfl, NT.put r3 r2 (hN2.weak (fun q hq _ => by rcases hq with hq | hq; exact hq; omega)) hR2 hkw hz1 hBw, by omega, by omega, hFl2⟩
    rw [if_neg hlb, ite_on] at hP
    have n1 : (tx (rest ts j) == [91]) = false := by simpa using hlb
    by_cases hlp : tx (rest ts j) = S.lp
    · rw [if_pos hlp, on_on] at hP
      rw [hlp] at hT
      have hcall := fun u (hb : Below wr.heap.size wr u) => hX k (by omega) x b cap (fun q => t < q) r Fin _ B ts j u hF (hR1.below hb) (hT1.nd.below hb) (fun q hq => by omega) hP
      clear hP hlp hlb n1
      go_wp2_with (first | (go_at_call 30; refine (hT wr hR1).mono ?_; rintro e w2 ⟨rfl, hb2⟩; have q3 := block_below hb2 p3; have q2 := block_below hb2 p2) | (go_at_call 30; refine (hT w2 (hR1.below hb2)).mono ?_; rintro e w3 ⟨rfl, hb3⟩; have hb23 := ext_trans hb2 hb3; have q33 := block_below hb3 q3; have q23 := block_below hb3 q2; obtain ⟨c0, c1, c2, c3, f0, f1, f2, f3⟩ := in4 q33) | (go_at_call 89; refine (hcall _ hb23).mono ?_; rintro e w4 ⟨x2, b2, cap2, j2, bad2, rfl, hN2, hR2, hk2, hFl2⟩; have r3 := hk2.box q33 (by omega); have r2 := hk2.box q23 (by omega); obtain ⟨c0, c1, c2, c3, f0, f1, f2, f3⟩ := in4 r3))
      have hz4 := hb23.size
      have hkw := (hT1.K.trans (Keeps.of_below hb23)).trans hk2
      go_roundg k
      case measure => omega
      case rel => exact ⟨x2, b2, cap2, j2, bad2, a + 1, by simp, NT.put r3 r2 (hN2.weak (fun q hq _ => by rcases hq with hq | hq; exact hq; omega)) hR2 hkw hz1 hBw, by omega, by omega, hFl2⟩
    rw [if_neg hlp] at hP
    have n2 : (tx (rest ts j) == [40]) = false := by simpa using hlp
    by_cases ha : a = 0
    · subst ha
      rw [if_pos rfl, need_on] at hP
      have hM := fun u (h : Dr u B ts j false) => must_any (s := S.eq) (by decide) hF (.inr ⟨rfl, hP⟩) u h
      obtain ⟨tt, htt⟩ : ∃ tt, tx (rest ts j) = tt := ⟨_, rfl⟩
      rw [htt] at hT n1 n2
      clear hP htt hlb hlp hX
      go_wp2_with (first | (go_at_call 30; refine (hT wr hR1).mono ?_; rintro e w2 ⟨rfl, hb2⟩; have q3 := block_below hb2 p3; have q2 := block_below hb2 p2) | (go_at_call 30; refine (hT w2 (hR1.below hb2)).mono ?_; rintro e w3 ⟨rfl, hb3⟩; have hb23 := ext_trans hb2 hb3) | (go_at_call 28; refine (hM _ (hR1.below hb23)).mono ?_; rintro e w4 ⟨rfl, j2, bad2, hR4, hk4, hFl4⟩; refine Hid.out ?_))
      have hT4 := (hT1.on (Keeps.of_below hb23) (hR1.below hb23)).on hk4 hR4
      have hz4 := block_lt hT4.g
      have hb5 := ext_alloc (Below.refl w4.heap.size w4) (nbx x b cap)
      have hRow := Row.one (S := fun q => t < q) (W := w4.alloc (nbx x b cap)) (g := w4.heap.size) hz4 ((hT4.nd.weak (fun q hq hlt => ⟨hq, by omega⟩)).below hb5) (alloc_new w4 _)
      have z5 := block_below hb5 hT4.z
      have hk5 := hT4.K.trans (Keeps.of_below (S := fun q => q = B) hb5)
      have hx := exprs_any k (hE k (by omega)) [x] (some ⟨w4.heap.size, 0, none⟩) 1 (fun q => t < q) r Fin (fun y l => (PR.ok (nd 6 [x, y]) l).on g) B ts j2 bad2 (w4.alloc (nbx x b cap)) hF (hR4.below hb5) hRow (fun q hq => by omega) (fun q e => by have := own_is e; omega) (by simp) (by simpa only [on_on] using hFl4)
      obtain ⟨c0, c1, c2, c3, f0, f1, f2, f3⟩ := in4 hT4.g
      clear hM hT hE hR4 hk4 hFl4 d0 d1 d2 d3 e0 e1 e2 e3
      refine Lib.hid ?_
      go_wp2_with (go_at_call 71; refine hx.mono ?_; rintro e wa ⟨⟨ks1, b1, cap1, j3, bad3, rfl, hRow1, hRa, hlen1, hown1, hFx1⟩, hka⟩; refine Hid.out ?_)
      have hzw := hk5.size
      have za := hka.box z5 (by rintro (e | e); omega; have := own_is e.symm; omega)
      have hkw := hk5.then hka (fun q hq e => by rcases e with e | e; exact e; have := own_is e.symm; omega)
      have hFl := ex_fl (G := fun ks l => g (nd 6 ks) l) hFx1
      obtain ⟨d0, d1, d2, d3, e0, e1, e2, e3⟩ := in4 za
      refine Lib.hid ?_
      go_wp2
      refine bodyPost_ret (res100 rfl (put4_same _ _ _ _ za)) rfl ?_
      refine na_close (x := nd 6 ks1) ((hRow1.node 6 [] 0).weak (fun q hq _ => ?_)) hRa hkw (Nat.le_refl _) hBw hFl
      rw [World.size_alloc] at hq
      rcases hq with hq | hq
      · exact ⟨.inr (by omega), by omega⟩
      · exact ⟨.inr (by omega), by omega⟩
    rw [if_neg ha, ite_on] at hP
    obtain ⟨tt, htt⟩ : ∃ tt, tx (rest ts j) = tt := ⟨_, rfl⟩
    rw [htt] at hT n1 n2
    have ha' : (a == 0) = false := by simpa using ha
    have ha2 : ((a : Int) == 0) = false := by simpa using ha
    obtain ⟨kx, tx1, nx, kids⟩ := x
    by_cases hk : kx = 21
    · subst hk
      rw [if_pos rfl] at hP
      clear htt hlb hlp hX hE
      go_wp2_with (first | (go_at_call 30; refine (hT wr hR1).mono ?_; rintro e w2 ⟨rfl, hb2⟩; have q3 := block_below hb2 p3; have q2 := block_below hb2 p2) | (go_at_call 30; refine (hT w2 (hR1.below hb2)).mono ?_; rintro e w3 ⟨rfl, hb3⟩; have hb23 := ext_trans hb2 hb3; refine Hid.out ?_))
      have hT3 := hT1.on (Keeps.of_below hb23) (hR1.below hb23)
      have hR3 := hT3.R
      have hT4 := hT3.on ((Keeps.refl _ _).set B 2 (.bool false) (fun _ => rfl)) (hR3.fail false)
      obtain ⟨c0, c1, c2, c3, f0, f1, f2, f3⟩ := in4 hT3.g
      obtain ⟨b', cap', s0, s1, s2, v1, v2⟩ := hR3.cells
      obtain ⟨V, hV⟩ : ∃ V, w3.setCell ⟨B, 2, none⟩ (.bool false) = V := ⟨_, rfl⟩
      rw [hV] at hT4
      obtain ⟨k0, k1, k2, k3, l0, l1, l2, l3⟩ := in4 hT4.g
      obtain ⟨x0, x1, x2, x3, y0, y1, y2, y3⟩ := in4a hT4.z
      clear d0 d1 d2 d3 e0 e1 e2 e3 hT3 hR3
      refine Lib.hid ?_
      go_wp2
      refine bodyPost_ret (res100 rfl (put4_same _ _ _ _ (block_alloc _ hT4.z))) rfl ?_
      exact nt_one hT4 7 (.inr ⟨rfl, hP⟩)
    · rw [if_neg (show ¬ (⟨kx, tx1, nx, kids⟩ : Nd).k = 21 from hk)] at hP
      have hk' : (kx != 21) = true := by simpa using hk
      have hk2 : (kx == 21) = false := by simpa using hk
      clear htt hlb hlp hX hE
      go_wp2_with (first | (go_at_call 30; refine (hT wr hR1).mono ?_; rintro e w2 ⟨rfl, hb2⟩; have q3 := block_below hb2 p3; have q2 := block_below hb2 p2) | (go_at_call 30; refine (hT w2 (hR1.below hb2)).mono ?_; rintro e w3 ⟨rfl, hb3⟩; have hb23 := ext_trans hb2 hb3; refine Hid.out ?_))
      have hT3 := hT1.on (Keeps.of_below hb23) (hR1.below hb23)
      have hR3 := hT3.R
      have hT4 := hT3.on ((Keeps.refl _ _).set B 2 (.bool true) (fun _ => rfl)) (hR3.fail true)
      obtain ⟨c0, c1, c2, c3, f0, f1, f2, f3⟩ := in4 hT3.g
      obtain ⟨b', cap', s0, s1, s2, v1, v2⟩ := hR3.cells
      obtain ⟨V, hV⟩ : ∃ V, w3.setCell ⟨B, 2, none⟩ (.bool true) = V := ⟨_, rfl⟩
      rw [hV] at hT4
      obtain ⟨k0, k1, k2, k3, l0, l1, l2, l3⟩ := in4 hT4.g
      obtain ⟨x0, x1, x2, x3, y0, y1, y2, y3⟩ := in4a hT4.z
      clear d0 d1 d2 d3 e0 e1 e2 e3 hT3 hR3
      refine Lib.hid ?_
      go_wp2
      refine bodyPost_ret (res100 rfl (put4_same _ _ _ _ (block_alloc _ hT4.z))) rfl ?_
      exact nt_one hT4 7 (.inl ⟨rfl, (hF.2 j hR1.le (Option.some.inj hP).symm)⟩)
end Go.Proofs.YtnnppenlfocgiaaGreatDoor
