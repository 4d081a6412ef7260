/- The document's Look: a statement that makes no local and sets no place. The document's Look: a place is set. The document's Look: what append asks, and what it leaves; a block at a Look that has stopped. The document's Look: a local is made. -/
import Derived.Test.YtnnppenlfocgiaaGreatDoorK20
import Derived.Deep.RegionHeld3
namespace Go.Proofs.YtnnppenlfocgiaaGreatDoor
open Go.RowKit
open Go

theorem flatD_nil (bl : List (List Lc)) : flatD ([] :: bl) = flatD bl := by simp [flatD]
/-- Between two kids of a statement. -/
def YI (w0 : World) (B : Nat) (u : Nd) (ub : Option Addr) (uc : Nat) (bl : List (List Lc)) (c a : Int) (S : Nat → Prop) (n : Nd) (b : Option Addr) (cap : Nat) (W : World) (t M s0 had : Nat) (R : CR) (j : Nat) (wr : World) : Prop :=
  wr.heap[t]? = some (nbx n b cap) ∧ ApL B wr t ∧ LK B W wr ∧ SA S B wr ∧ KA S wr ub uc u.kids ∧ KA S wr b cap n.kids ∧
  ((∃ sl', visC.go (u.kids.map Nd.t) n.k n.t s0 j (n.kids.drop j) ⟨sl', bl⟩ = R ∧ s0 < sl'.length ∧ sl'.length + manyN.go (n.kids.drop j) ≤ M ∧ Lo w0 B u ub uc sl' (flatD bl) c a false wr) ∨ (∃ cd at_ sl' ls', R = .error (cd, at_) ∧ s0 < sl'.length ∧ sl'.length ≤ M ∧ ls'.length = had ∧ Lo w0 B u ub uc sl' ls' cd (at_ : Nat) true wr))

set_option maxRecDepth 20000 in
set_option maxHeartbeats 2000000 in
theorem stat_plain (k0 : Int) (t0 : List UInt8) (n0 : Int) (ks : List Nd) (hk : k0 = 7 ∨ k0 = 8 ∨ k0 = 9 ∨ k0 = 11 ∨ k0 = 12) (ih : ∀ y ∈ ks, (exprK y.k ∧ XC y) ∨ (y.k = 4 ∧ BC y)) : SC ⟨k0, t0, n0, ks⟩ := by
  intro w0 B u ub uc sl h r c a S b cap W hLo hKu hN hSA hM hD hbl hul hNB
  have hKn := KA.of hN
  have hd : visC (u.kids.map Nd.t) false ⟨k0, t0, n0, ks⟩ ⟨sl, h :: r⟩ = visC.go (u.kids.map Nd.t) k0 t0 sl.length 0 ks ⟨sl ++ [-1], h :: r⟩ := by
    rw [visC, if_neg (by omega)]
    show Except.bind (visC.go (u.kids.map Nd.t) k0 t0 sl.length 0 ks ⟨sl ++ [-1], h :: r⟩) _ = _
    cases visC.go (u.kids.map Nd.t) k0 t0 sl.length 0 ks ⟨sl ++ [-1], h :: r⟩ with
    | error e => rfl
    | ok c' =>
      simp only [Except.bind]
      rw [if_neg (by omega), actC, if_neg (by omega), if_neg (by omega), if_neg (by omega), if_neg (by omega)]
  have hms : manyN ⟨k0, t0, n0, ks⟩ = manyN.go ks + 1 := rfl
  rw [hd]
  obtain ⟨R, hR⟩ : ∃ R, visC.go (u.kids.map Nd.t) k0 t0 sl.length 0 ks ⟨sl ++ [-1], h :: r⟩ = R := ⟨_, rfl⟩
  obtain ⟨M, hMd⟩ : ∃ M, manyN ⟨k0, t0, n0, ks⟩ = M := ⟨_, rfl⟩
  rw [hR, hMd]
  rw [hMd] at hM hD hms
  obtain ⟨hm1, hm2⟩ : M ≤ manyN.go ks + 1 ∧ manyN.go ks + 1 ≤ M := by omega
  clear hms
  obtain ⟨s0, hs0⟩ : ∃ s0, sl.length = s0 := ⟨_, rfl⟩
  obtain ⟨had, hhad⟩ : ∃ had, (flatD (h :: r)).length = had := ⟨_, rfl⟩
  rw [hhad]
  have hb0 := ext_alloc (Below.refl W.heap.size W) (nbx ⟨k0, t0, n0, ks⟩ b cap)
  have g0 := alloc_new W (nbx ⟨k0, t0, n0, ks⟩ b cap)
  have ha0 := (hLo.ap (Nat.le_refl _)).below hLo.lt hb0
  have hlk0 := LK.below hLo.lt hb0
  have hLo1 := hLo.on hb0
  have hnum := fun V (h' : Lo w0 B u ub uc sl (flatD (h :: r)) c a false V) => number_any w0 B u ub uc sl (flatD (h :: r)) c a false V h' (by omega)
  have hall := many_len ks
  obtain ⟨t, ht⟩ : ∃ t, W.heap.size = t := ⟨_, rfl⟩
  rw [ht] at g0 ha0
  rw [hs0] at hnum hM hR ⊢
  obtain ⟨D, hDd⟩ : ∃ D, r.length + 1 = D := ⟨_, rfl⟩
  rw [hDd]
  have hDM : D + manyN.go ks ≤ 100000 := by omega
  replace hDd : Hid _ := hDd
  replace hhad : Hid _ := hhad
  replace hR : Hid _ := hR
  replace ih : Hid (∀ y ∈ ks, (exprK y.k ∧ XC y) ∨ (y.k = 4 ∧ BC y)) := ih
  go_enter Tryz.func35, Tryz.ntmps35
  go_wp2_with (go_at_call 10; refine (hnum _ hLo1).mono ?_; rintro e w1 ⟨rfl, hL1, hk1⟩)
  clear hnum hLo1 hLo hN
  have hSA1 := (hSA.on (hlk0.trans hk1))
  have hI : YI w0 B u ub uc (h :: r) c a S ⟨k0, t0, n0, ks⟩ b cap W t (s0 + M) s0 had R 0 w1 := by
    obtain ⟨q1, q2⟩ := hk1 t _ ha0 g0
    exact ⟨q1, q2, hlk0.trans hk1, hSA1.1, hKu.lk hSA (hlk0.trans hk1), hKn.lk hSA (hlk0.trans hk1), .inl ⟨sl ++ [-1], hR.out, by simp; omega, by simp; omega, hL1⟩⟩
  clear hSA1 hL1 hk1 ha0 g0 hb0 hlk0 hKu hKn hSA
  have e5 : (k0 == 5) = false := by simp; omega
  have e6 : (k0 == 6) = false := by simp; omega
  have e10 : (k0 == 10) = false := by simp; omega
  replace hk : Hid _ := hk
  go_loopw [7] (fun ix wr => ∃ j : Nat, j ≤ ks.length ∧ ix = .int .i64 (j : Nat) ∧ YI w0 B u ub uc (h :: r) c a S ⟨k0, t0, n0, ks⟩ b cap W t (s0 + M) s0 had R j wr) (fun ix _ => ks.length - (intOf ix).toNat)
  case atStart => exact ⟨0, Nat.zero_le _, rfl, hI⟩
  case round =>
    obtain ⟨j, hj, rfl, g, ha, hlk, hS1, hKu, hKn, hst⟩ := hrel
    clear hI
    simp only at hKn hst
    obtain ⟨q0, q1, q2, q3, _, _, _, _⟩ := in4 g
    simp only at q0 q1 q2 q3
    rcases hst with ⟨sl', hgo, hs1, hs2, hLo⟩ | ⟨cd, at_, sl', ls', hRe, hs1, hs2, hle, hLo⟩
    · obtain ⟨c8, _, _, _, _, _⟩ := hLo.cells
      by_cases hlt : j < ks.length
      · have hlt' : (j : Int) < (ks.length : Int) := by omega
        obtain ⟨y, hy⟩ : ∃ y, ks[j]? = some y := ⟨_, List.getElem?_eq_getElem hlt⟩
        obtain ⟨g', off, b', cap', rfl, v0, v1, v2, v3, hyV⟩ := KA.at hKn hy
        have hdr : ks.drop j = y :: ks.drop (j + 1) := by rw [List.drop_eq_getElem_cons hlt]; congr 1; exact (List.getElem?_eq_some_iff.1 hy).2
        have hmk : manyN y ≤ manyN.go ks := by
          have := congrArg manyN.go (List.take_append_drop j ks)
          rw [many_app, hdr] at this
          simp only [manyN.go] at this
          omega
        have hsy : sl'.length + manyN y ≤ 100000 := by rw [hdr] at hs2; simp only [manyN.go] at hs2; omega
        have hgo' := hgo
        have hs2' := hs2
        rw [hdr] at hgo' hs2'
        simp only [manyN.go] at hs2'
        rw [visC.go, if_neg (by have := hk.out; omega)] at hgo'
        clear hgo hs2 hdr
        replace hgo' : Hid _ := hgo'
        replace hs2' : Hid _ := hs2'
        rcases ih.out y (List.mem_of_getElem? hy) with ⟨hx, hX⟩ | ⟨hx, hX⟩
        · have hcall := hX w0 B u ub uc sl' (h :: r) c a S b' cap' wr hLo hKu hyV hS1 hsy (by omega) hul hNB
          have ey : (y.k == 4) = false := by unfold exprK at hx; simp; omega
          clear hy hx hX
          go_wp2_with (go_at_call 54; refine hcall.mono ?_; rintro e w2 ⟨rfl, hk2, hr2⟩)
          go_roundw
          case rel =>
            obtain ⟨g2, ha2⟩ := hk2 t _ ha g
            refine ⟨j + 1, by omega, by go_num, g2, ha2, hlk.trans hk2, (hS1.on hk2).1, hKu.lk hS1 hk2, hKn.lk hS1 hk2, ?_⟩
            have hg2 := hgo'.out
            have hs3 := hs2'.out
            rcases hr2 with ⟨sl2, e2, p1, p2, p3⟩ | ⟨cd, at_, sl2, e2, p1, p2, p3⟩
            · rw [e2] at hg2
              exact .inl ⟨sl2, hg2, by omega, by simp only; omega, p3⟩
            · rw [e2] at hg2
              exact .inr ⟨cd, at_, sl2, _, hg2.symm, by omega, by omega, hhad.out, p3⟩
          case measure => simp [intOf]; omega
        · have hLo2 : Lo w0 B u ub uc sl' (flatD ([] :: h :: r)) c a false wr := by rw [flatD_nil]; exact hLo
          have hcall := hX w0 B u ub uc sl' [] (h :: r) c a S b' cap' wr hLo2 hKu hyV hS1 hsy (by have := hDd.out; simp; omega) (by rw [sumL_cons]; simpa using hbl) hul (NB.begin (c := ⟨sl', h :: r⟩) hNB)
          rw [show (((h :: r).length + 1 : Nat) : Int) = (D : Int) + 1 by have := hDd.out; simp; omega] at hcall
          obtain ⟨yk, yt, yo, yks⟩ := y
          simp only at hx
          subst hx
          rw [vis_block] at hgo'
          clear hy hX hLo2
          go_wp2_with (go_at_call 20; refine hcall.mono ?_; rintro e w2 ⟨rfl, hk2, hr2⟩)
          go_roundw
          case rel =>
            obtain ⟨g2, ha2⟩ := hk2 t _ ha g
            refine ⟨j + 1, by omega, by go_num, g2, ha2, hlk.trans hk2, (hS1.on hk2).1, hKu.lk hS1 hk2, hKn.lk hS1 hk2, ?_⟩
            have hg2 := hgo'.out
            have hs3 := hs2'.out
            rcases hr2 with ⟨sl2, bl2, e2, p1, p2, p3⟩ | ⟨cd, at_, sl2, ls2, e2, p1, p2, p4, p3⟩
            · have ht2 := (vis_keep _ _ _ _ _ e2).tail
              simp only [List.tail_cons] at ht2
              rw [show (⟨sl', h :: r⟩ : Cs).begin = ⟨sl', [] :: h :: r⟩ from rfl, e2] at hg2
              simp only [Except.map, Except.bind, Cs.close] at hg2
              rw [ht2] at hg2
              rw [flatD_nil] at p3
              exact .inl ⟨sl2, hg2, by omega, by simp only; omega, p3⟩
            · rw [show (⟨sl', h :: r⟩ : Cs).begin = ⟨sl', [] :: h :: r⟩ from rfl, e2] at hg2
              rw [flatD_nil] at p4
              exact .inr ⟨cd, at_, sl2, ls2, hg2.symm, by omega, by omega, p4.trans hhad.out, p3⟩
          case measure => simp [intOf]; omega
      · have hlt' : ¬ (j : Int) < (ks.length : Int) := by omega
        have hRo : R = .ok ⟨sl', h :: r⟩ := by
          rw [← hgo, List.drop_eq_nil_of_le (by omega), visC.go]
        subst hRo
        clear hgo
        go_wp2
        go_end0
        exact ⟨rfl, hlk, .inl ⟨sl', _, rfl, by omega, by omega, hLo⟩⟩
    · obtain ⟨c8, _, _, _, _, _⟩ := hLo.cells
      subst hRe
      have fin : Hid (SQ w0 B u ub uc had c a s0 M (.error (cd, at_)) W (.returned (.tuple #[])) wr) := ⟨rfl, hlk, .inr ⟨cd, at_, sl', ls', rfl, by omega, by omega, by omega, hLo⟩⟩
      by_cases hlt : j < ks.length
      · have hlt' : (j : Int) < (ks.length : Int) := by omega
        go_wp2
        go_end0
        exact fin.out
      · have hlt' : ¬ (j : Int) < (ks.length : Int) := by omega
        go_wp2
        go_end0
        exact fin.out
end Go.Proofs.YtnnppenlfocgiaaGreatDoor
namespace Go.Proofs.YtnnppenlfocgiaaGreatDoor
open Go.RowKit
open Go

theorem Lo.local_at {w0 : World} {B : Nat} {u : Nd} {ub : Option Addr} {uc : Nat} {sl : List Int} {ls : List Ld} {c a : Int} {st : Bool} {W : World} (h : Lo w0 B u ub uc sl ls c a st W) {i : Nat} {x : Ld} (hx : ls[i]? = some x) : ∃ g lc, W.cell? ⟨B, 5, none⟩ = some (.slice (some ⟨g, 0, none⟩) ls.length lc) ∧ W.cell? ⟨g, i * 3, none⟩ = some (sk x.nm) ∧ W.cell? ⟨g, i * 3 + 1, none⟩ = some (.int .i64 (x.dp : Nat)) ∧ W.cell? ⟨g, i * 3 + 2, none⟩ = some (.bool x.lp) := by
  obtain ⟨⟨sb, sc, lb, lc, h1, h2, h3, h4, h5⟩, h6, h7⟩ := h
  obtain ⟨g, rfl, v0, v1, v2⟩ := own_local h3 hx
  exact ⟨g, lc, cell_block h1 rfl, v0, v1, v2⟩
set_option maxRecDepth 20000 in
set_option maxHeartbeats 2000000 in
theorem stat_set (t0 : List UInt8) (n0 : Int) (ks : List Nd) (p : Nd) (hp : ks[0]? = some p) (ih : ∀ y ∈ ks, exprK y.k ∧ XC y) : SC ⟨6, t0, n0, ks⟩ := by
  intro w0 B u ub uc sl h r c a S b cap W hLo hKu hN hSA hM hD hbl hul hNB
  have hKn := KA.of hN
  have hd : visC (u.kids.map Nd.t) false ⟨6, t0, n0, ks⟩ ⟨sl, h :: r⟩ = (visC.go (u.kids.map Nd.t) 6 t0 sl.length 0 ks ⟨sl ++ [-1], h :: r⟩).bind (fun c' => if setB (some p) c' then .ok c' else .error (3, sl.length)) := by
    rw [visC, if_neg (by omega)]
    show Except.bind (visC.go (u.kids.map Nd.t) 6 t0 sl.length 0 ks ⟨sl ++ [-1], h :: r⟩) _ = _
    congr 1
    funext c'
    rw [if_neg (by omega), actC, if_neg (by omega), if_neg (by omega), if_pos rfl, ← hp, List.head?_eq_getElem?]
  have hms : manyN ⟨6, t0, n0, ks⟩ = manyN.go ks + 1 := rfl
  rw [hd]
  obtain ⟨R, hR⟩ : ∃ R, visC.go (u.kids.map Nd.t) 6 t0 sl.length 0 ks ⟨sl ++ [-1], h :: r⟩ = R := ⟨_, rfl⟩
  obtain ⟨M, hMd⟩ : ∃ M, manyN ⟨6, t0, n0, ks⟩ = M := ⟨_, rfl⟩
  rw [hR, hMd]
  rw [hMd] at hM hD hms
  obtain ⟨hm1, hm2⟩ : M ≤ manyN.go ks + 1 ∧ manyN.go ks + 1 ≤ M := by omega
  clear hms
  obtain ⟨s0, hs0⟩ : ∃ s0, sl.length = s0 := ⟨_, rfl⟩
  obtain ⟨had, hhad⟩ : ∃ had, (flatD (h :: r)).length = had := ⟨_, rfl⟩
  rw [hhad]
  have hb0 := ext_alloc (Below.refl W.heap.size W) (nbx ⟨6, t0, n0, ks⟩ b cap)
  have g0 := alloc_new W (nbx ⟨6, t0, n0, ks⟩ b cap)
  have ha0 := (hLo.ap (Nat.le_refl _)).below hLo.lt hb0
  have hl6 := LK.below hLo.lt hb0
  have hLo1 := hLo.on hb0
  have hnum := fun V (h' : Lo w0 B u ub uc sl (flatD (h :: r)) c a false V) => number_any w0 B u ub uc sl (flatD (h :: r)) c a false V h' (by omega)
  have hall := many_len ks
  obtain ⟨t, ht⟩ : ∃ t, W.heap.size = t := ⟨_, rfl⟩
  rw [ht] at g0 ha0
  rw [hs0] at hnum hM hR ⊢
  obtain ⟨F, hF⟩ : ∃ F : Cs → CR, (fun c' => if setB (some p) c' then .ok c' else .error (3, s0)) = F := ⟨_, rfl⟩
  rw [hF]
  replace hF : Hid _ := hF
  have hlb : had ≤ 100000 := by rw [← hhad, flatD_len]; omega
  obtain ⟨D, hDd⟩ : ∃ D, r.length + 1 = D := ⟨_, rfl⟩
  rw [hDd]
  have hDM : D + manyN.go ks ≤ 100000 := by omega
  replace hDd : Hid _ := hDd
  replace hhad : Hid _ := hhad
  replace hR : Hid _ := hR
  replace ih : Hid (∀ y ∈ ks, exprK y.k ∧ XC y) := ih
  go_enter Tryz.func35, Tryz.ntmps35
  go_wp2_with (go_at_call 10; refine (hnum _ hLo1).mono ?_; rintro e w1 ⟨rfl, hL1, hk1⟩)
  clear hnum hLo1 hLo hN
  have hSA1 := (hSA.on (hl6.trans hk1))
  have hI : YI w0 B u ub uc (h :: r) c a S ⟨6, t0, n0, ks⟩ b cap W t (s0 + M) s0 had R 0 w1 := by
    obtain ⟨q1, q2⟩ := hk1 t _ ha0 g0
    exact ⟨q1, q2, hl6.trans hk1, hSA1.1, hKu.lk hSA (hl6.trans hk1), hKn.lk hSA (hl6.trans hk1), .inl ⟨sl ++ [-1], hR.out, by simp; omega, by simp; omega, hL1⟩⟩
  clear hSA1 hL1 hk1 ha0 g0 hb0 hl6 hKu hKn hSA
  replace hp : Hid _ := hp
  go_loopw [7] (fun ix wr => ∃ j : Nat, j ≤ ks.length ∧ ix = .int .i64 (j : Nat) ∧ YI w0 B u ub uc (h :: r) c a S ⟨6, t0, n0, ks⟩ b cap W t (s0 + M) s0 had R j wr) (fun ix _ => ks.length - (intOf ix).toNat)
  case atStart => exact ⟨0, Nat.zero_le _, rfl, hI⟩
  case round =>
    obtain ⟨j, hj, rfl, g, ha, hlk, hS1, hKu, hKn, hst⟩ := hrel
    clear hI
    simp only at hKn hst
    obtain ⟨q0, q1, q2, q3, _, _, _, _⟩ := in4 g
    simp only at q0 q1 q2 q3
    rcases hst with ⟨sl', hgo, hs1, hs2, hLo⟩ | ⟨cd, at_, sl', ls', hRe, hs1, hs2, hle, hLo⟩
    · obtain ⟨c8, _, _, _, _, _⟩ := hLo.cells
      by_cases hlt : j < ks.length
      · have hlt' : (j : Int) < (ks.length : Int) := by omega
        obtain ⟨y, hy⟩ : ∃ y, ks[j]? = some y := ⟨_, List.getElem?_eq_getElem hlt⟩
        obtain ⟨g', off, b', cap', rfl, v0, v1, v2, v3, hyV⟩ := KA.at hKn hy
        have hdr : ks.drop j = y :: ks.drop (j + 1) := by rw [List.drop_eq_getElem_cons hlt]; congr 1; exact (List.getElem?_eq_some_iff.1 hy).2
        have hmk : manyN y ≤ manyN.go ks := by
          have := congrArg manyN.go (List.take_append_drop j ks)
          rw [many_app, hdr] at this
          simp only [manyN.go] at this
          omega
        have hsy : sl'.length + manyN y ≤ 100000 := by rw [hdr] at hs2; simp only [manyN.go] at hs2; omega
        have hgo' := hgo
        have hs2' := hs2
        rw [hdr] at hgo' hs2'
        simp only [manyN.go] at hs2'
        rw [visC.go, if_neg (by omega)] at hgo'
        clear hgo hs2 hdr
        replace hgo' : Hid _ := hgo'
        replace hs2' : Hid _ := hs2'
        obtain ⟨hx, hX⟩ := ih.out y (List.mem_of_getElem? hy)
        · have hcall := hX w0 B u ub uc sl' (h :: r) c a S b' cap' wr hLo hKu hyV hS1 hsy (by omega) hul hNB
          have ey : (y.k == 4) = false := by unfold exprK at hx; simp; omega
          clear hy hx hX
          go_wp2_with (go_at_call 54; refine hcall.mono ?_; rintro e w2 ⟨rfl, hk2, hr2⟩)
          go_roundw
          case rel =>
            obtain ⟨g2, ha2⟩ := hk2 t _ ha g
            refine ⟨j + 1, by omega, by go_num, g2, ha2, hlk.trans hk2, (hS1.on hk2).1, hKu.lk hS1 hk2, hKn.lk hS1 hk2, ?_⟩
            have hg2 := hgo'.out
            have hs3 := hs2'.out
            rcases hr2 with ⟨sl2, e2, p1, p2, p3⟩ | ⟨cd, at_, sl2, e2, p1, p2, p3⟩
            · rw [e2] at hg2
              exact .inl ⟨sl2, hg2, by omega, by simp only; omega, p3⟩
            · rw [e2] at hg2
              exact .inr ⟨cd, at_, sl2, _, hg2.symm, by omega, by omega, hhad.out, p3⟩
          case measure => simp [intOf]; omega
      · have hlt' : ¬ (j : Int) < (ks.length : Int) := by omega
        have hRo : R = .ok ⟨sl', h :: r⟩ := by
          rw [← hgo, List.drop_eq_nil_of_le (by omega), visC.go]
        subst hRo
        clear hgo
        obtain ⟨g', off, b', cap', rfl, v0, v1, v2, v3, _⟩ := KA.at hKn hp.out
        have hk0 : (0 : Int) < (ks.length : Int) := by have := (List.getElem?_eq_some_iff.1 hp.out).1; omega
        simp only [Nat.zero_mul, Nat.add_zero] at v0 v1 v2 v3
        have hFo : ∀ d, F d = if setB (some p) d then .ok d else .error (3, s0) := fun d => by rw [← hF.out]
        by_cases h18 : p.k = 18
        · have hset : setB (some p) ⟨sl', h :: r⟩ = (match findL p.t (h :: r) with | some q => !q.2 | none => false) := by simp only [setB, h18, if_true]; cases findL p.t (h :: r) <;> rfl
          have hloc := local_any w0 B u ub uc sl' (flatD (h :: r)) c a false p.t wr hLo (by have := hhad.out; omega)
          rw [lastV_of hNB] at hloc
          have hun := fun q => unless_any w0 B u ub uc sl' (flatD (h :: r)) c a false q 3 (s0 : Nat) wr hLo
          rw [h18] at v0
          obtain ⟨pt, hpt⟩ : ∃ pt, p.t = pt := ⟨_, rfl⟩
          rw [hpt] at hloc v1 hset
          cases hf : findL pt (h :: r) with
          | none =>
            rw [hf] at hset hloc
            simp only at hset hloc
            have fin : Hid (F ⟨sl', h :: r⟩ = .error (3, s0)) := by show _ = _; rw [hFo, hset]; rfl
            clear hset hf hFo h18 hpt
            go_wp2_with (first | (go_at_call 19; refine hloc.mono ?_; rintro e w2 ⟨rfl, rfl⟩) | (go_at_call 13; refine (hun _).mono ?_; rintro e w2 ⟨rfl, hL2, hk2⟩))
            go_end0
            exact ⟨rfl, hlk.trans hk2, .inr ⟨3, s0, sl', _, fin.out, by omega, by omega, Nat.le_of_eq hhad.out.symm, hL2⟩⟩
          | some q =>
            obtain ⟨i, fx⟩ := q
            rw [hf] at hset hloc
            simp only at hset hloc
            obtain ⟨⟨d, hfi⟩, _⟩ := findL_some hNB hf
            obtain ⟨gl, lc, c5, z0, z1, z2⟩ := hLo.local_at hfi
            have hil : i < had := by have := (List.getElem?_eq_some_iff.1 hfi).1; have := hhad.out; omega
            rw [hhad.out] at c5
            have hi0 : (0 : Int) ≤ (i : Int) := by omega
            have hi1 : (i : Int) < (had : Int) := by omega
            simp only at z2
            clear z0 z1 hf hfi h18 hpt
            cases fx with
            | false =>
              have fin : Hid (F ⟨sl', h :: r⟩ = .ok ⟨sl', h :: r⟩) := by show _ = _; rw [hFo, hset]; rfl
              clear hset hFo
              go_wp2_with (first | (go_at_call 19; refine hloc.mono ?_; rintro e w2 ⟨rfl, rfl⟩) | (go_at_call 13; refine (hun _).mono ?_; rintro e w2 ⟨rfl, hL2, hk2⟩))
              go_end0
              exact ⟨rfl, hlk.trans hk2, .inl ⟨sl', _, fin.out, by omega, by omega, hL2⟩⟩
            | true =>
              have fin : Hid (F ⟨sl', h :: r⟩ = .error (3, s0)) := by show _ = _; rw [hFo, hset]; rfl
              clear hset hFo
              go_wp2_with (first | (go_at_call 19; refine hloc.mono ?_; rintro e w2 ⟨rfl, rfl⟩) | (go_at_call 13; refine (hun _).mono ?_; rintro e w2 ⟨rfl, hL2, hk2⟩))
              go_end0
              exact ⟨rfl, hlk.trans hk2, .inr ⟨3, s0, sl', _, fin.out, by omega, by omega, Nat.le_of_eq hhad.out.symm, hL2⟩⟩
        · have fin : Hid (F ⟨sl', h :: r⟩ = .ok ⟨sl', h :: r⟩) := by show _ = _; rw [hFo]; simp [setB, h18]
          have e18 : (p.k == 18) = false := by simpa using h18
          clear hFo h18
          go_wp2
          go_end0
          exact ⟨rfl, hlk, .inl ⟨sl', _, fin.out, by omega, by omega, hLo⟩⟩
    · obtain ⟨c8, _, _, _, _, _⟩ := hLo.cells
      subst hRe
      have fin : Hid (SQ w0 B u ub uc had c a s0 M (Except.bind (.error (cd, at_)) F) W (.returned (.tuple #[])) wr) := ⟨rfl, hlk, .inr ⟨cd, at_, sl', ls', rfl, by omega, by omega, by omega, hLo⟩⟩
      obtain ⟨g', off, b', cap', rfl, v0, v1, v2, v3, _⟩ := KA.at hKn hp.out
      have hk0 : (0 : Int) < (ks.length : Int) := by have := (List.getElem?_eq_some_iff.1 hp.out).1; omega
      simp only [Nat.zero_mul, Nat.add_zero] at v0 v1 v2 v3
      by_cases h18 : p.k = 18
      · have hloc := local_any w0 B u ub uc sl' ls' cd (at_ : Nat) true p.t wr hLo (by omega)
        have hun := unless_any w0 B u ub uc sl' ls' cd (at_ : Nat) true true 3 (s0 : Nat) wr hLo
        rw [h18] at v0
        obtain ⟨pt, hpt⟩ : ∃ pt, p.t = pt := ⟨_, rfl⟩
        rw [hpt] at hloc v1
        obtain ⟨lv, hlv⟩ : ∃ lv, lastV pt ls' = lv := ⟨_, rfl⟩
        rw [hlv] at hloc
        clear h18 hpt hlv
        by_cases hlt : j < ks.length
        · have hlt' : (j : Int) < (ks.length : Int) := by omega
          go_wp2_with (first | (go_at_call 19; refine hloc.mono ?_; rintro e w2 ⟨rfl, rfl⟩) | (go_at_call 13; refine hun.mono ?_; rintro e w2 ⟨rfl, hL2, hk2⟩))
          go_end0
          exact ⟨rfl, hlk.trans hk2, .inr ⟨cd, at_, sl', ls', rfl, by omega, by omega, by omega, hL2⟩⟩
        · have hlt' : ¬ (j : Int) < (ks.length : Int) := by omega
          go_wp2_with (first | (go_at_call 19; refine hloc.mono ?_; rintro e w2 ⟨rfl, rfl⟩) | (go_at_call 13; refine hun.mono ?_; rintro e w2 ⟨rfl, hL2, hk2⟩))
          go_end0
          exact ⟨rfl, hlk.trans hk2, .inr ⟨cd, at_, sl', ls', rfl, by omega, by omega, by omega, hL2⟩⟩
      · have e18 : (p.k == 18) = false := by simpa using h18
        clear h18
        by_cases hlt : j < ks.length
        · have hlt' : (j : Int) < (ks.length : Int) := by omega
          go_wp2
          go_end0
          exact fin.out
        · have hlt' : ¬ (j : Int) < (ks.length : Int) := by omega
          go_wp2
          go_end0
          exact fin.out
end Go.Proofs.YtnnppenlfocgiaaGreatDoor
namespace Go.Proofs.YtnnppenlfocgiaaGreatDoor
open Go.RowKit
open Go

/-- A local more. -/
theorem Lo.app {w0 : World} {B : Nat} {u : Nd} {ub : Option Addr} {uc : Nat} {sl : List Int} {ls : List Ld} {c a : Int} {st : Bool} {V : World} (h : Lo w0 B u ub uc sl ls c a st V) : ∃ lb lc, V.cell? ⟨B, 5, none⟩ = some (.slice lb ls.length lc) ∧ V.frozen? ⟨B, 5, none⟩ = false ∧ V.ownsRow w0.heap.size 58 3 (.slice lb ls.length lc) ls.length (flatL ls) ∧ w0.heap.size ≤ V.heap.size ∧
    ∀ x g3 cap3 w3, w3.ownsRow w0.heap.size 58 3 (.slice (some ⟨g3, 0, none⟩) (ls.length + 1) cap3) (ls.length + 1) (flatL ls ++ trioL x) → V.grownBy w3 (Value.ownBlock (.slice lb ls.length lc)) → (Value.ownBlock (.slice lb ls.length lc) = some g3 ∨ g3 = V.heap.size) →
      w3.cell? ⟨B, 5, none⟩ = some (.slice lb ls.length lc) ∧ w3.frozen? ⟨B, 5, none⟩ = false ∧ Lo w0 B u ub uc sl (ls ++ [x]) c a st (w3.setCell ⟨B, 5, none⟩ (.slice (some ⟨g3, 0, none⟩) (ls.length + 1) cap3)) ∧ LK B V (w3.setCell ⟨B, 5, none⟩ (.slice (some ⟨g3, 0, none⟩) (ls.length + 1) cap3)) := by
  obtain ⟨⟨sb, sc, lb, lc, h1, h2, h3, h4, h5⟩, h6, h7⟩ := h
  refine ⟨lb, lc, cell_block h1 rfl, frozen_block h1, h3, h6.size, fun x g3 cap3 w3 hown hgrow hat => ?_⟩
  have hneB : some B ≠ Value.ownBlock (.slice lb ls.length lc) := fun e => (h5 B e.symm).2.1 rfl
  have p1 := (hgrow.block _ (block_lt h1) hneB).trans h1
  have hl : (ls ++ [x]).length = ls.length + 1 := by simp
  have key := Lo.locals (ls' := ls ++ [x]) (lb' := some ⟨g3, 0, none⟩) (lc' := cap3) h1 h2 h4 h5 h6 h7 (by rw [hl, flatL_snoc]; exact hown) hgrow (fun q e => by
    simp [Value.ownBlock] at e
    subst e
    exact hat)
  rw [hl] at key
  exact ⟨cell_block p1 rfl, frozen_block p1, key⟩
set_option maxRecDepth 20000 in
set_option maxHeartbeats 2000000 in
/-- A block at a Look that has stopped: it has a number, all else is as it was. -/
theorem block_stopped (n : Nd) (w0 : World) (B : Nat) (u : Nd) (ub : Option Addr) (uc : Nat) (sl : List Int) (ls : List Ld) (c a : Int) (b : Option Addr) (cap : Nat) (D : Int) (W : World) (hLo : Lo w0 B u ub uc sl ls c a true W) (hlen : sl.length ≤ 100000) :
    Calls Tryz.prog 20 #[.pointer (some ⟨B, 0, none⟩), ndv n b cap, .int .i64 D] W fun e W' => e = .returned (.tuple #[]) ∧ Lo w0 B u ub uc (sl ++ [-1]) ls c a true W' ∧ LK B W W' := by
  have hb0 := ext_alloc (Below.refl W.heap.size W) (nbx n b cap)
  have g0 := alloc_new W (nbx n b cap)
  have ha0 := (hLo.ap (Nat.le_refl _)).below hLo.lt hb0
  have hlk0 := LK.below hLo.lt hb0
  have hLo1 := hLo.on hb0
  have hnum := number_any w0 B u ub uc sl ls c a true _ hLo1 hlen
  obtain ⟨lb0, lc0, c50, _, _, _, _⟩ := hLo1.cut (m := 0) (Nat.zero_le _)
  obtain ⟨t, ht⟩ : ∃ t, W.heap.size = t := ⟨_, rfl⟩
  rw [ht] at g0 ha0
  obtain ⟨had, hhad⟩ : ∃ had, ls.length = had := ⟨_, rfl⟩
  rw [hhad] at c50
  obtain ⟨k0, t0, n0, ks⟩ := n
  go_enter Tryz.func20, Tryz.ntmps20
  go_wp2_with (go_at_call 10; refine hnum.mono ?_; rintro e w1 ⟨rfl, hL1, hk1⟩)
  obtain ⟨g1, _⟩ := hk1 t _ ha0 g0
  obtain ⟨q0, q1, q2, q3, _, _, _, _⟩ := in4 g1
  simp only at q0 q1 q2 q3
  obtain ⟨c8, _, _, _, _, _⟩ := hL1.cells
  obtain ⟨lb, lc, c5, f5, hlc, hsh, hcut, hkc⟩ := hL1.cut (m := had) (Nat.le_of_eq hhad.symm)
  have hc1 : (had : Int) ≤ (lc : Int) := by omega
  have hc0 : (0 : Int) ≤ (had : Int) := by omega
  rw [hhad] at c5
  rw [List.take_of_length_le (Nat.le_of_eq hhad)] at hcut
  have fin : Hid (Lo w0 B u ub uc (sl ++ [-1]) ls c a true (w1.setCell ⟨B, 5, none⟩ (.slice lb had lc)) ∧ LK B W (w1.setCell ⟨B, 5, none⟩ (.slice lb had lc))) := ⟨hcut, hlk0.trans (hk1.trans hkc)⟩
  clear hcut hkc hL1 hk1 hnum hLo1 hLo hlk0 ha0 hb0
  go_loopw [7] (fun ix wr => ix = .int .i64 0 ∧ wr = w1) (fun _ _ => 0)
  case atStart => exact ⟨rfl, rfl⟩
  case round =>
  obtain ⟨rfl, rfl⟩ := hrel
  rcases hsh with ⟨rfl, rfl⟩ | ⟨gl, rfl⟩
  · have e0 : had = 0 := by omega
    subst e0
    by_cases hlt : (0 : Int) < (ks.length : Int)
    · go_wp2
      go_end0
      exact ⟨rfl, fin.out⟩
    · go_wp2
      go_end0
      exact ⟨rfl, fin.out⟩
  · by_cases hlt : (0 : Int) < (ks.length : Int)
    · go_wp2
      go_end0
      exact ⟨rfl, fin.out⟩
    · go_wp2
      go_end0
      exact ⟨rfl, fin.out⟩
end Go.Proofs.YtnnppenlfocgiaaGreatDoor
namespace Go.Proofs.YtnnppenlfocgiaaGreatDoor
open Go.RowKit
open Go

/-- What is told of locals that are there. -/
def scanQ (D : Nat) (s : List UInt8) (s0 : Nat) (q : Int × Int × Bool) (ls : List Ld) : Int × Int × Bool := if q.2.2 then q else if ls.any (fun x => x.dp == D && x.nm == s) then (5, (s0 : Nat), true) else q
theorem scanQ_nil (D : Nat) (s : List UInt8) (s0 : Nat) (q : Int × Int × Bool) : scanQ D s s0 q [] = q := by simp [scanQ]
theorem scanQ_next (D : Nat) (s : List UInt8) (s0 : Nat) (q : Int × Int × Bool) (ls : List Ld) (i : Nat) (x : Ld) (hx : ls[i]? = some x) : scanQ D s s0 q (ls.take (i + 1)) = unl (!(x.dp == D && x.nm == s)) 5 (s0 : Nat) (scanQ D s s0 q (ls.take i)) := by
  have e : ls.take (i + 1) = ls.take i ++ [x] := by rw [List.take_add_one, hx]; rfl
  rw [e]
  unfold scanQ unl
  obtain ⟨qa, qb, qc⟩ := q
  cases qc with
  | true => simp
  | false =>
    simp only [List.any_append, List.any_cons, List.any_nil, Bool.or_false]
    cases h1 : (ls.take i).any (fun x => x.dp == D && x.nm == s) <;> cases h2 : (x.dp == D && x.nm == s) <;> simp_all
theorem flatD_snoc (h : List Lc) (r : List (List Lc)) (s : List UInt8) (fx : Bool) : flatD ((h ++ [⟨s, fx⟩]) :: r) = flatD (h :: r) ++ [⟨s, r.length + 1, fx⟩] := by simp [flatD]
theorem any_of (h : List Lc) (r : List (List Lc)) (s : List UInt8) : (flatD (h :: r)).any (fun x => x.dp == r.length + 1 && x.nm == s) = h.any (fun x => x.nm == s) := by
  have := flatD_twice h r s
  rw [Bool.eq_iff_iff, ← this, List.any_eq_true]
  simp
/-- What is told keeps all cells but the fault's. -/
theorem unless_cells (w0 : World) (B : Nat) (u : Nd) (ub : Option Addr) (uc : Nat) (sl : List Int) (ls : List Ld) (c a : Int) (st : Bool) (is : Bool) (code at_ : Int) (W : World) (h : Lo w0 B u ub uc sl ls c a st W) : Calls Tryz.prog 13 #[.pointer (some ⟨B, 0, none⟩), .bool is, .int .i64 code, .int .i64 at_] W fun e W' => e = .returned (.tuple #[]) ∧ Lo w0 B u ub uc sl ls (unl is code at_ (c, a, st)).1 (unl is code at_ (c, a, st)).2.1 (unl is code at_ (c, a, st)).2.2 W' ∧ LK B W W' ∧ (∀ q k, q ≠ B → W'.cell? ⟨q, k, none⟩ = W.cell? ⟨q, k, none⟩) ∧ W'.cell? ⟨B, 5, none⟩ = W.cell? ⟨B, 5, none⟩ := by
  obtain ⟨c8, f8, c6, f6, c7, f7⟩ := h.cells
  have hid : LK B W W := fun t o ha ho => ⟨ho, ha⟩
  cases is with
  | true => exact (unless_yes B code at_ W).mono fun e W' ⟨he, hw⟩ => ⟨he, by rw [hw]; exact ⟨h, hid, fun _ _ _ => rfl, rfl⟩⟩
  | false =>
    cases st with
    | true => exact (unless_st B code at_ W c8).mono fun e W' ⟨he, hw⟩ => ⟨he, by rw [hw]; exact ⟨h, hid, fun _ _ _ => rfl, rfl⟩⟩
    | false =>
      refine (unless_no B code at_ c a W c8 f8 c6 f6 c7 f7).mono fun e W' ⟨he, hw⟩ => ⟨he, ?_⟩
      subst hw
      obtain ⟨⟨sb, sc, lb, lc, h1, h2, h3, h4, h5⟩, h6, h7⟩ := h
      have g := set_block (i := 7) (.int .i64 at_) (set_block (i := 6) (.int .i64 code) (set_block (i := 8) (.bool true) h1))
      have ho : ∀ q, q ≠ B → (((W.setCell ⟨B, 8, none⟩ (.bool true)).setCell ⟨B, 6, none⟩ (.int .i64 code)).setCell ⟨B, 7, none⟩ (.int .i64 at_)).heap[q]? = W.heap[q]? := fun q hq => (set1_other _ _ hq).trans ((set1_other _ _ hq).trans (set1_other _ _ hq))
      refine ⟨⟨⟨sb, sc, lb, lc, g, own_keepT h2 (fun q e _ => ho q (h4 q e).2), own_keepT h3 (fun q e _ => ho q (h5 q e).2.1), h4, h5⟩, ?_, h7⟩, fun t o ha hto => ⟨(ho t ha.1).trans hto, ha.1, fun v0 v1 v2 v3 v4 v5 v6 v7 v8 hv => ?_⟩, fun q k hq => World.cell?_of_block (ho q hq), ?_⟩
      · exact ((h6.setCell (p := ⟨B, 8, none⟩) h7 _).setCell (p := ⟨B, 6, none⟩) h7 _).setCell (p := ⟨B, 7, none⟩) h7 _
      · have hv' := g.symm.trans hv
        have ev : Value.slice sb sl.length sc = v4 ∧ Value.slice lb ls.length lc = v5 := by
          simp at hv'
          exact ⟨hv'.2.2.2.2.1, hv'.2.2.2.2.2.1⟩
        obtain ⟨rfl, rfl⟩ := ev
        exact ha.2 _ _ _ _ _ _ _ _ _ h1
      · exact (cell_block (i := 5) (v := .slice lb ls.length lc) g rfl).trans (cell_block (i := 5) h1 rfl).symm
theorem cells3 (W : World) (a b c : Value) : ∀ j x, [a, b, c][j]? = some x → (W.alloc (.cells #[a, b, c] 58)).cell? ((⟨W.heap.size, 0, none⟩ : Addr).add j) = some x := fun j x hx => by
  match j, hx with
  | 0, hx => cases hx; simp [Addr.add]
  | 1, hx => cases hx; simp [Addr.add]
  | 2, hx => cases hx; simp [Addr.add]
  | j + 3, hx => simp at hx
theorem Lo.slot_ne {w0 : World} {B : Nat} {u : Nd} {ub : Option Addr} {uc : Nat} {sl : List Int} {ls : List Ld} {c a : Int} {st : Bool} {W : World} (h : Lo w0 B u ub uc sl ls c a st W) {g : Nat} {n lc : Nat} (hc : W.cell? ⟨B, 4, none⟩ = some (.slice (some ⟨g, 0, none⟩) n lc)) : g ≠ B := by
  obtain ⟨⟨sb, sc, lb, lc2, h1, h2, h3, h4, h5⟩, h6, h7⟩ := h
  have := (cell_block (i := 4) h1 rfl).symm.trans hc
  cases this
  exact (h4 g rfl).2
theorem Lo.loc_ne {w0 : World} {B : Nat} {u : Nd} {ub : Option Addr} {uc : Nat} {sl : List Int} {ls : List Ld} {c a : Int} {st : Bool} {W : World} (h : Lo w0 B u ub uc sl ls c a st W) {g : Nat} {n lc : Nat} (hc : W.cell? ⟨B, 5, none⟩ = some (.slice (some ⟨g, 0, none⟩) n lc)) : g ≠ B := by
  obtain ⟨⟨sb, sc, lb, lc2, h1, h2, h3, h4, h5⟩, h6, h7⟩ := h
  have := (cell_block (i := 5) h1 rfl).symm.trans hc
  cases this
  exact (h5 g rfl).2.1
end Go.Proofs.YtnnppenlfocgiaaGreatDoor
