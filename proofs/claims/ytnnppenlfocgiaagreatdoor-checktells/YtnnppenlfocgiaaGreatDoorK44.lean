/- The document's Look: all of a program. -/
import Derived.Test.YtnnppenlfocgiaaGreatDoorK40
import Derived.Test.YtnnppenlfocgiaaGreatDoorK09
import Derived.Test.YtnnppenlfocgiaaGreatDoorK43
import Derived.Test.YtnnppenlfocgiaaGreatDoorK41
namespace Go.Proofs.YtnnppenlfocgiaaGreatDoor
open Go.RowKit
open Go

theorem function_any2 (n : Nd) (hn : isN n) (hk : n.k = 2) (i : Nat) (w0 : World) (B : Nat) (u : Nd) (ub : Option Addr) (uc : Nat) (sl : List Int) (ls : List Ld) (c a : Int) (S : Nat → Prop) (W : World) (hLo : Lo w0 B u ub uc sl ls c a false W) (hKu : KA S W ub uc u.kids) (hui : u.kids[i]? = some n) (hSA : SA S B W) (hM : sl.length + manyN n ≤ 100000) (hul : u.kids.length ≤ 100000) :
    Calls Tryz.prog 11 #[.pointer (some ⟨B, 0, none⟩), .int .i64 (i : Nat)] W (FQ w0 B u ub uc c a sl.length (manyN n) (funC (u.kids.map Nd.t) i n ⟨sl, []⟩) W) := by
  obtain ⟨k, t, o, ks⟩ := n
  simp only at hk
  subst hk
  rw [isN] at hn
  obtain ⟨h1, _, _, _, _, _, _, _, h9⟩ := hn
  rw [isN_go] at h9
  have hl : 1 ≤ ks.length := by unfold kidsOK at h1; omega
  obtain ⟨P, hP⟩ : ∃ P, P + 1 = ks.length := ⟨ks.length - 1, by omega⟩
  obtain ⟨z, hz⟩ : ∃ z, ks[P]? = some z := ⟨_, List.getElem?_eq_getElem (by omega)⟩
  have hz9 := h9 P z hz
  have hzk : z.k = 4 := by
    have := hz9.1
    unfold fitsK at this
    rw [if_neg (by omega), if_pos rfl, if_pos (by omega)] at this
    exact this
  refine function_any t o ks P z hP hz ((stat_any z hz9.2).2 hzk) (fun j x hj hx => ?_) i w0 B u ub uc sl ls c a S W hLo hKu hui hSA hM hul
  have hx9 := h9 j x hx
  have hx3 : x.k = 3 := by
    have := hx9.1
    unfold fitsK at this
    rw [if_neg (by omega), if_pos rfl, if_neg (by omega)] at this
    exact this
  refine ⟨hx3, ?_⟩
  have h2 := hx9.2
  obtain ⟨xk, xt, xo, xs⟩ := x
  simp only at hx3
  subst hx3
  rw [isN] at h2
  have h3 := h2.1
  unfold kidsOK at h3
  show xs = []
  simp only at h3
  exact List.length_eq_zero_iff.1 (by omega)
/-- What All answers: a Look. -/
def LQ (w : World) (n : Nd) (R : Except (Int × Nat) (List Int)) (e : Ending) (w' : World) : Prop :=
  ∃ B b cap sl ls c a st, e = .returned (.pointer (some ⟨B, 0, none⟩)) ∧ Lo w B n b cap sl ls c a st w' ∧ NdV (fun g => w.heap.size ≤ g) w' n (ndv n b cap) ∧ match R with
  | .error (cd, at_) => c = cd ∧ a = ((at_ : Nat) : Int) ∧ st = true
  | .ok s => sl = s ∧ c = 0 ∧ a = 0 ∧ st = false
/-- Between two functions. -/
def LUI (w : World) (B : Nat) (u : Nd) (ub : Option Addr) (uc : Nat) (S : Nat → Prop) (t : Nat) (M : Nat) (R : CR) (j : Nat) (wr : World) : Prop :=
  wr.heap[t]? = some (nbx u ub uc) ∧ ApL B wr t ∧ SA S B wr ∧ NdV S wr u (ndv u ub uc) ∧
  ((∃ sl' ls', funsC (u.kids.map Nd.t) j (u.kids.drop j) ⟨sl', []⟩ = R ∧ sl'.length + manyN.go (u.kids.drop j) ≤ M ∧ ls'.length ≤ 100000 ∧ Lo w B u ub uc sl' ls' 0 0 false wr) ∨ (∃ cd at_ sl' ls', R = .error (cd, at_) ∧ Lo w B u ub uc sl' ls' cd (at_ : Nat) true wr))
theorem NdV.lk {S : Nat → Prop} {B : Nat} {w w' : World} {n : Nd} {b : Option Addr} {cap : Nat} (h : NdV S w n (ndv n b cap)) (hs : SA S B w) (k : LK B w w') : NdV S w' n (ndv n b cap) := h.on fun g hg _ => ⟨hg, (hs.on k).2 g hg⟩
/-- A new Look. -/
theorem lo_new (w w1 : World) (n : Nd) (b : Option Addr) (cap : Nat) (c a : Int) (st : Bool) (hb : Below w.heap.size w w1) :
    Lo w (w1.heap.size + 1 + 1) n b cap [] [] c a st (((w1.alloc (nbx n b cap)).alloc (.cells #[.int .i64 c, .int .i64 a] 27)).alloc (lkb n b cap none 0 0 none 0 0 c a st)) ∧ Below w1.heap.size w1 (((w1.alloc (nbx n b cap)).alloc (.cells #[.int .i64 c, .int .i64 a] 27)).alloc (lkb n b cap none 0 0 none 0 0 c a st)) ∧
    (((w1.alloc (nbx n b cap)).alloc (.cells #[.int .i64 c, .int .i64 a] 27)).alloc (lkb n b cap none 0 0 none 0 0 c a st)).heap[w1.heap.size]? = some (nbx n b cap) ∧ ∀ g, g ≠ w1.heap.size + 1 + 1 → ApL (w1.heap.size + 1 + 1) (((w1.alloc (nbx n b cap)).alloc (.cells #[.int .i64 c, .int .i64 a] 27)).alloc (lkb n b cap none 0 0 none 0 0 c a st)) g := by
  have h1 : Below w1.heap.size w1 (((w1.alloc (nbx n b cap)).alloc (.cells #[.int .i64 c, .int .i64 a] 27)).alloc (lkb n b cap none 0 0 none 0 0 c a st)) := ext_alloc (ext_alloc (ext_alloc (Below.refl _ _) _) _) _
  have g2 := alloc_new ((w1.alloc (nbx n b cap)).alloc (.cells #[.int .i64 c, .int .i64 a] 27)) (lkb n b cap none 0 0 none 0 0 c a st)
  simp only [World.size_alloc] at g2
  refine ⟨⟨⟨none, 0, none, 0, g2, ⟨rfl, .inl ⟨rfl, rfl⟩⟩, ⟨rfl, .inl ⟨rfl, rfl⟩⟩, fun q e => by simp [Value.ownBlock] at e, fun q e => by simp [Value.ownBlock] at e⟩, ext_trans hb h1, ?_⟩, h1, block_alloc _ (block_alloc _ (alloc_new _ _)), fun g hg => ⟨hg, fun v0 v1 v2 v3 v4 v5 v6 v7 v8 hv => ?_⟩⟩
  · have := hb.size
    omega
  · have hv' := g2.symm.trans hv
    have ev : Value.slice none 0 0 = v4 ∧ Value.slice none 0 0 = v5 := by
      simp at hv'
      exact ⟨hv'.2.2.2.2.1, hv'.2.2.2.2.2.1⟩
    obtain ⟨rfl, rfl⟩ := ev
    exact ⟨by simp [Value.ownBlock], by simp [Value.ownBlock]⟩
set_option maxRecDepth 20000 in
set_option maxHeartbeats 4000000 in
theorem all_fault (s : ByteArray) (w : World) (c : Int) (a : Nat) (hR : parseR s.data.toList = .inl (c, a)) :
    Calls Tryz.prog 6 #[.string s] w (LQ w nil0 (.error (c, a))) := by
  have hc := parse_code hR
  have hp := rparse_any s w
  rw [hR] at hp
  have hcb : (c != 0) = true := by simpa using hc
  have hcb2 : (c == 0) = false := by simpa using hc
  clear hR hc
  go_enter Tryz.func6, Tryz.ntmps6
  go_wp2_with (go_at_call 9; refine hp.mono ?_; rintro e w1 ⟨rfl, hb1⟩; refine Hid.out ?_)
  refine Lib.hid ?_
  have hL := lo_new w w1 nil0 none 0 c (a : Nat) true hb1
  go_wp2
  go_ret
  exact ⟨w1.heap.size + 1 + 1, none, 0, [], [], c, (a : Nat), true, rfl, hL.1, ndV_leaf _ _ 0 [] 0, rfl, rfl, rfl⟩
set_option maxRecDepth 20000 in
set_option maxHeartbeats 4000000 in
theorem all_node (s : ByteArray) (w : World) (n : Nd) (hR : parseR s.data.toList = .inr n) :
    Calls Tryz.prog 6 #[.string s] w (LQ w n (unitC n)) := by
  obtain ⟨hnN, hn1, hnM⟩ := parse_sound hR
  have hp := rparse_any s w
  rw [hR] at hp
  have hms := manyN_eq n
  have hkl := many_len n.kids
  have hkids : ∀ (j : Nat) (y : Nd), n.kids[j]? = some y → isN y ∧ y.k = 2 := fun j y hy => by
    obtain ⟨k, t, o, ks⟩ := n
    simp only at hn1 hy
    subst hn1
    rw [isN] at hnN
    obtain ⟨_, _, _, _, _, _, _, _, h9⟩ := hnN
    rw [isN_go] at h9
    have h := h9 j y hy
    have h1 := h.1
    unfold fitsK at h1
    rw [if_pos rfl] at h1
    exact ⟨h.2, h1⟩
  obtain ⟨R, hRd⟩ : ∃ R, funsC (n.kids.map Nd.t) 0 n.kids ⟨[-1], []⟩ = R := ⟨_, rfl⟩
  obtain ⟨RU, hRU⟩ : ∃ RU, unitC n = RU := ⟨_, rfl⟩
  rw [hRU]
  have hRU2 : endC n R = RU := by rw [← hRU, ← hRd, unitC_eq]
  clear hRU hR hnN
  obtain ⟨L, hL⟩ : ∃ L, n.kids.length = L := ⟨_, rfl⟩
  replace hL : Hid _ := hL
  replace hRd : Hid _ := hRd
  replace hRU2 : Hid _ := hRU2
  replace hkids : Hid _ := hkids
  go_enter Tryz.func6, Tryz.ntmps6
  go_wp2_with (go_at_call 9; refine hp.mono ?_; rintro e w1 ⟨⟨hfit, b, cap, rfl, hN⟩, hb1⟩; refine Hid.out ?_)
  obtain ⟨hLo, hbV, gt, hApt⟩ := lo_new w w1 n b cap 0 0 false hb1
  have hNV := hN.below hbV
  obtain ⟨k0, t0, n0, ks⟩ := n
  simp only at hn1 hL hkl hms
  subst hn1
  obtain ⟨V, hV⟩ : ∃ V, ((w1.alloc (nbx ⟨1, t0, n0, ks⟩ b cap)).alloc (.cells #[.int .i64 0, .int .i64 0] 27)).alloc (lkb ⟨1, t0, n0, ks⟩ b cap none 0 0 none 0 0 0 0 false) = V := ⟨_, rfl⟩
  rw [hV] at hLo hbV gt hNV hApt
  replace hV : ((w1.alloc (.cells #[.int .i64 1, sk t0, .int .i64 n0, .slice b ks.length cap] 24)).alloc (.cells #[.int .i64 0, .int .i64 0] 27)).alloc (.cells #[.int .i64 1, sk t0, .int .i64 n0, .slice b ks.length cap, .slice none 0 0, .slice none 0 0, .int .i64 0, .int .i64 0, .bool false] 37) = V := hV
  have hNS : NdV (fun g => w.heap.size ≤ g ∧ g < w1.heap.size) V ⟨1, t0, n0, ks⟩ (ndv ⟨1, t0, n0, ks⟩ b cap) := by
    have h1 : NdV (fun g => w.heap.size ≤ g ∧ g < w1.heap.size) w1 ⟨1, t0, n0, ks⟩ (ndv ⟨1, t0, n0, ks⟩ b cap) := hN.weak (fun g hg hlt => ⟨hg, hlt⟩)
    exact h1.below hbV
  have hnum := number_any w (w1.heap.size + 1 + 1) ⟨1, t0, n0, ks⟩ b cap [] [] 0 0 false V hLo (by simp)
  have hBV := hLo.lt
  have hSV : SA (fun g => w.heap.size ≤ g ∧ g < w1.heap.size) (w1.heap.size + 1 + 1) V := fun g hg => ⟨by have := hbV.size; omega, hApt g (by omega)⟩
  obtain ⟨B, hB⟩ : ∃ B, w1.heap.size + 1 + 1 = B := ⟨_, rfl⟩
  obtain ⟨t, ht⟩ : ∃ t, w1.heap.size = t := ⟨_, rfl⟩
  obtain ⟨S, hS⟩ : ∃ S : Nat → Prop, (fun g => w.heap.size ≤ g ∧ g < w1.heap.size) = S := ⟨_, rfl⟩
  have hat := hApt w1.heap.size (by omega)
  rw [hS] at hSV hNS
  rw [hB] at hLo hnum hSV hat hBV
  rw [ht] at gt hat
  have hSle : ∀ g, S g → w.heap.size ≤ g := fun g hg => by rw [← hS] at hg; exact hg.1
  replace hSle : Hid _ := hSle
  clear hApt hS hN hNV hp
  replace hV : Hid _ := hV
  replace hB : Hid _ := hB
  replace ht : Hid _ := ht
  refine Lib.hid ?_
  go_wp2_with (go_at_call 10; refine Hid.out ?_)
  try rw [hV.out]
  try rw [hB.out]
  try rw [ht.out]
  clear hV hB ht
  refine Lib.hid ?_
  go_wp2_with (go_at_call 10; refine hnum.mono ?_; rintro e w2 ⟨rfl, hL2, hk2⟩)
  have hI : LUI w B ⟨1, t0, n0, ks⟩ b cap S t 700 R 0 w2 := by
    obtain ⟨g2, ha2⟩ := hk2 t _ hat gt
    exact ⟨g2, ha2, (hSV.on hk2).1, hNS.lk hSV hk2, .inl ⟨[-1], [], by rw [List.drop_zero]; exact hRd.out, by rw [List.drop_zero]; simp; omega, by simp, hL2⟩⟩
  clear hnum hLo hL2 hk2 hSV hNS gt hat hbV
  go_loopw [6] (fun ix wr => ∃ j : Nat, j ≤ L ∧ ix = .int .i64 (j : Nat) ∧ LUI w B ⟨1, t0, n0, ks⟩ b cap S t 700 R j wr) (fun ix _ => L - (intOf ix).toNat)
  case atStart => exact ⟨0, Nat.zero_le _, rfl, hI⟩
  case round =>
    obtain ⟨j, hj, rfl, g, ha, hS1, hN1, hst⟩ := hrel
    clear hI
    simp only at hst
    have hK1 := KA.of hN1
    obtain ⟨z0, z1, z2, z3, _, _, _, _⟩ := in4 g
    simp only at z0 z1 z2 z3
    rw [hL.out] at z3
    rcases hst with ⟨sl', ls', hgo, hs2, hls, hLo⟩ | ⟨cd, at_, sl', ls', hRe, hLo⟩
    · obtain ⟨c8, _, _, _, _, _⟩ := hLo.cells
      by_cases hlt : j < L
      · have hlt' : (j : Int) < (L : Int) := by omega
        have hjk : j < ks.length := by have := hL.out; omega
        obtain ⟨y, hy⟩ : ∃ y, ks[j]? = some y := ⟨_, List.getElem?_eq_getElem hjk⟩
        obtain ⟨hyN, hy2⟩ := hkids.out j y hy
        have hdr : ks.drop j = y :: ks.drop (j + 1) := by rw [List.drop_eq_getElem_cons hjk]; congr 1; exact (List.getElem?_eq_some_iff.1 hy).2
        rw [hdr] at hgo hs2
        simp only [manyN.go] at hs2
        rw [funsC] at hgo
        have hcall := function_any2 y hyN hy2 j w B ⟨1, t0, n0, ks⟩ b cap sl' ls' 0 0 S wr hLo hK1 hy hS1 (by omega) (by simp only; omega)
        replace hgo : Hid _ := hgo
        clear hdr hyN hy2
        go_wp2_with (go_at_call 11; refine hcall.mono ?_; rintro e w3 ⟨rfl, hk3, hr3⟩)
        go_roundw
        case rel =>
          obtain ⟨g3, ha3⟩ := hk3 t _ ha g
          refine ⟨j + 1, by omega, by go_num, g3, ha3, (hS1.on hk3).1, hN1.lk hS1 hk3, ?_⟩
          have hg3 := hgo.out
          rcases hr3 with ⟨sl3, ls3, e3, p1, p2, p3, p4⟩ | ⟨cd, at_, sl3, ls3, e3, p1, p2, p4⟩
          · rw [e3] at hg3
            exact .inl ⟨sl3, ls3, hg3, by simp only; omega, p3, p4⟩
          · rw [e3] at hg3
            exact .inr ⟨cd, at_, sl3, ls3, hg3.symm, p4⟩
        case measure => simp [intOf]; omega
      · have hlt' : ¬ (j : Int) < (L : Int) := by omega
        have hRo : R = .ok ⟨sl', []⟩ := by rw [← hgo, List.drop_eq_nil_of_le (by have := hL.out; omega), funsC]
        have hRU3 := hRU2.out
        rw [hRo] at hRU3
        have hfn := fun_any w B ⟨1, t0, n0, ks⟩ b cap sl' ls' 0 0 false Go.Proofs.YtnnppenlfocgiaaGreatDoor.W.main_ S wr hLo hK1 (by simp only; omega)
        replace hfn : Calls Tryz.prog 12 #[.pointer (some ⟨B, 0, none⟩), .string ⟨#[109, 97, 105, 110]⟩] wr fun e W' => e = .returned (.int .i64 (funV ks Go.Proofs.YtnnppenlfocgiaaGreatDoor.W.main_)) ∧ W' = wr := hfn
        clear hRo hgo
        cases hf : funI (ks.map Nd.t) Go.Proofs.YtnnppenlfocgiaaGreatDoor.W.main_ with
        | none =>
          rw [endC_none _ _ hf] at hRU3
          have hv : funV ks Go.Proofs.YtnnppenlfocgiaaGreatDoor.W.main_ = -1 := by rw [funV, hf]
          rw [hv] at hfn
          subst hRU3
          have hu1 := unless_any w B ⟨1, t0, n0, ks⟩ b cap sl' ls' 0 0 false false 4 0 wr hLo
          go_wp2_with (first
            | (go_at_call 12; refine hfn.mono ?_; rintro e w3 ⟨rfl, rfl⟩)
            | (go_at_call_of 13 (Value.int IntKind.i64 4); refine hu1.mono ?_; rintro e w4 ⟨rfl, hL4, hk4⟩; refine Hid.out ?_))
          have hL4' : Lo w B ⟨1, t0, n0, ks⟩ b cap sl' ls' 4 0 true w4 := hL4
          obtain ⟨d8, _, _, _, _, _⟩ := hL4'.cells
          obtain ⟨g4, ha4⟩ := hk4 t _ ha g
          have hN4 := hN1.lk hS1 hk4
          have hu2 := unless_any w B ⟨1, t0, n0, ks⟩ b cap sl' ls' 4 0 true true 6 0 w4 hL4'
          have hS4 := hS1.on hk4
          obtain ⟨y0, y1, y2, y3, _, _, _, _⟩ := in4 g4
          simp only at y0 y1 y2 y3
          clear hu1 hfn hL4
          refine Lib.hid ?_
          go_wp2_with (go_at_call 13; refine hu2.mono ?_; rintro e w5 ⟨rfl, hL5, hk5⟩)
          go_ret
          exact ⟨B, b, cap, sl', ls', 4, 0, true, rfl, hL5, (hN4.lk hS4.1 hk5).weak (fun q hq _ => hSle.out q hq), rfl, rfl, rfl⟩
        | some q =>
          rw [endC_some _ _ _ hf] at hRU3
          have hv : funV ks Go.Proofs.YtnnppenlfocgiaaGreatDoor.W.main_ = (q : Nat) := by rw [funV, hf]
          rw [hv] at hfn
          have hqk : q < ks.length := by
            unfold funI at hf
            rw [List.findIdx?_eq_some_iff_getElem] at hf
            obtain ⟨hq, _⟩ := hf
            simpa using hq
          obtain ⟨y, hy⟩ : ∃ y, ks[q]? = some y := ⟨_, List.getElem?_eq_getElem hqk⟩
          obtain ⟨hyN, hy2⟩ := hkids.out q y hy
          simp only [hy] at hRU3
          have hu1 := unless_any w B ⟨1, t0, n0, ks⟩ b cap sl' ls' 0 0 false true 4 0 wr hLo
          have hq0 : (0 : Int) ≤ (q : Int) := by omega
          have hq1 : (q : Int) < (L : Int) := by have := hL.out; omega
          go_wp2_with (first
            | (go_at_call 12; refine hfn.mono ?_; rintro e w3 ⟨rfl, rfl⟩)
            | (go_at_call_of 13 (Value.int IntKind.i64 4); refine hu1.mono ?_; rintro e w4 ⟨rfl, hL4, hk4⟩; refine Hid.out ?_))
          have hL4' : Lo w B ⟨1, t0, n0, ks⟩ b cap sl' ls' 0 0 false w4 := hL4
          obtain ⟨d8, _, _, _, _, _⟩ := hL4'.cells
          obtain ⟨g4, ha4⟩ := hk4 t _ ha g
          have hN4 := hN1.lk hS1 hk4
          have hS4 := hS1.on hk4
          obtain ⟨y0, y1, y2, y3, _, _, _, _⟩ := in4 g4
          simp only at y0 y1 y2 y3
          rw [hL.out] at y3
          obtain ⟨gy, offy, by', cy, eb, v0, v1, v2, v3, _⟩ := KA.at (KA.of hN4) hy
          subst eb
          have hyk : y.kids ≠ [] := fun e => by
            obtain ⟨yk, yt, yo, ys⟩ := y
            rw [isN] at hyN
            have h3 := hyN.1
            simp only at hy2 e
            subst hy2 e
            unfold kidsOK at h3
            simp at h3
          obtain ⟨Ly, hLy⟩ : ∃ Ly, y.kids.length = Ly := ⟨_, rfl⟩
          rw [hLy] at v3
          have hpb : paramB (some y) = decide (¬ Ly = 1) := by
            unfold paramB
            simp only
            rw [decide_eq_decide]
            have := List.length_pos_iff.2 hyk
            omega
          rw [hpb] at hRU3
          have hu2 := fun qq => unless_any w B ⟨1, t0, n0, ks⟩ (some ⟨gy, offy, none⟩) cap sl' ls' 0 0 false qq 6 0 w4 hL4'
          have hmx : max (q : Int) 0 = (q : Int) := by omega
          clear hu1 hfn hL4
          by_cases h1 : Ly = 1
          · subst h1
            rw [if_neg (by simp)] at hRU3
            subst hRU3
            refine Lib.hid ?_
            go_wp2_with (go_at_call 13; refine (hu2 true).mono ?_; rintro e w5 ⟨rfl, hL5, hk5⟩)
            go_ret
            exact ⟨B, _, cap, sl', ls', 0, 0, false, rfl, hL5, (hN4.lk hS4.1 hk5).weak (fun q hq _ => hSle.out q hq), rfl, rfl, rfl, rfl⟩
          · rw [if_pos (by simp [h1])] at hRU3
            subst hRU3
            have h1' : ((Ly : Int) == 1) = false := by simp; omega
            refine Lib.hid ?_
            go_wp2_with (go_at_call 13; refine (hu2 false).mono ?_; rintro e w5 ⟨rfl, hL5, hk5⟩)
            go_ret
            exact ⟨B, _, cap, sl', ls', 6, 0, true, rfl, hL5, (hN4.lk hS4.1 hk5).weak (fun q hq _ => hSle.out q hq), rfl, rfl, rfl⟩
    · obtain ⟨c8, _, _, _, _, _⟩ := hLo.cells
      have hRU3 := hRU2.out
      rw [hRe, endC_error] at hRU3
      subst hRU3
      have hfn := fun_any w B ⟨1, t0, n0, ks⟩ b cap sl' ls' cd (at_ : Nat) true Go.Proofs.YtnnppenlfocgiaaGreatDoor.W.main_ S wr hLo hK1 (by simp only; omega)
      obtain ⟨FV, hFV⟩ : ∃ FV, funV ks Go.Proofs.YtnnppenlfocgiaaGreatDoor.W.main_ = FV := ⟨_, rfl⟩
      replace hfn : Calls Tryz.prog 12 #[.pointer (some ⟨B, 0, none⟩), .string ⟨#[109, 97, 105, 110]⟩] wr fun e W' => e = .returned (.int .i64 FV) ∧ W' = wr := by rw [← hFV]; exact hfn
      have hu1 := fun qq => unless_any w B ⟨1, t0, n0, ks⟩ b cap sl' ls' cd (at_ : Nat) true qq 4 0 wr hLo
      clear hFV
      by_cases hlt : j < L
      · have hlt' : (j : Int) < (L : Int) := by omega
        go_wp2_with (first
          | (go_at_call 12; refine hfn.mono ?_; rintro e w3 ⟨rfl, rfl⟩)
          | (go_at_call_of 13 (Value.int IntKind.i64 4); refine (hu1 _).mono ?_; rintro e w4 ⟨rfl, hL4, hk4⟩; refine Hid.out ?_))
        have hL4' : Lo w B ⟨1, t0, n0, ks⟩ b cap sl' ls' cd (at_ : Nat) true w4 := by simpa [unl] using hL4
        obtain ⟨d8, _, _, _, _, _⟩ := hL4'.cells
        obtain ⟨g4, ha4⟩ := hk4 t _ ha g
        have hN4 := hN1.lk hS1 hk4
        have hS4 := hS1.on hk4
        obtain ⟨y0, y1, y2, y3, _, _, _, _⟩ := in4 g4
        simp only at y0 y1 y2 y3
        have hu2 := unless_any w B ⟨1, t0, n0, ks⟩ b cap sl' ls' cd (at_ : Nat) true true 6 0 w4 hL4'
        clear hu1 hfn hL4
        refine Lib.hid ?_
        go_wp2_with (go_at_call 13; refine hu2.mono ?_; rintro e w5 ⟨rfl, hL5, hk5⟩)
        go_ret
        exact ⟨B, b, cap, sl', ls', cd, (at_ : Nat), true, rfl, hL5, (hN4.lk hS4.1 hk5).weak (fun q hq _ => hSle.out q hq), rfl, rfl, rfl⟩
      · have hlt' : ¬ (j : Int) < (L : Int) := by omega
        go_wp2_with (first
          | (go_at_call 12; refine hfn.mono ?_; rintro e w3 ⟨rfl, rfl⟩)
          | (go_at_call_of 13 (Value.int IntKind.i64 4); refine (hu1 _).mono ?_; rintro e w4 ⟨rfl, hL4, hk4⟩; refine Hid.out ?_))
        have hL4' : Lo w B ⟨1, t0, n0, ks⟩ b cap sl' ls' cd (at_ : Nat) true w4 := by simpa [unl] using hL4
        obtain ⟨d8, _, _, _, _, _⟩ := hL4'.cells
        obtain ⟨g4, ha4⟩ := hk4 t _ ha g
        have hN4 := hN1.lk hS1 hk4
        have hS4 := hS1.on hk4
        obtain ⟨y0, y1, y2, y3, _, _, _, _⟩ := in4 g4
        simp only at y0 y1 y2 y3
        have hu2 := unless_any w B ⟨1, t0, n0, ks⟩ b cap sl' ls' cd (at_ : Nat) true true 6 0 w4 hL4'
        clear hu1 hfn hL4
        refine Lib.hid ?_
        go_wp2_with (go_at_call 13; refine hu2.mono ?_; rintro e w5 ⟨rfl, hL5, hk5⟩)
        go_ret
        exact ⟨B, b, cap, sl', ls', cd, (at_ : Nat), true, rfl, hL5, (hN4.lk hS4.1 hk5).weak (fun q hq _ => hSle.out q hq), rfl, rfl, rfl⟩
end Go.Proofs.YtnnppenlfocgiaaGreatDoor
