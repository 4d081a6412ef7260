/- How deep a node is, of how many: as the program reckons it. How deep a node is, of how many: as the document reckons it. How deep a node is, as the document reckons it; whether it fits. Two nodes that are one. Tokens that were scanned, in memory. The program's printer: what is one token; a name. The program's printer: a name, a node that has neither text nor number. What is one token, in plain words; how long and how great what a node has may be. The program's printer: the boxes of what asks of a node. The program's writer: its tokens in memory; some more of them. -/
import Derived.Test.YtbdkiimggggndaaGreatDoorJ10
import Derived.Test.YtbdkiimggggndaaGreatDoorJ12
import Derived.Test.YtbdkiimggggndaaGreatDoorJ11
import Derived.Test.YtbdkiimggggndaaGreatDoorJ13
import Derived.Deep.RegionHeld2
import Derived.Deep.DeepCutAuto
import Derived.Defers
import Derived.Recover
import Derived.Deep.QuietTactic
import Derived.BigQuiet
import Derived.OwnWalk
import Derived.Deep.LoopGhost
import Derived.Test.YtbdkiimggggndaaGreatDoorJ09
namespace Go.Proofs.YtbdkiimggggndaaGreatDoor
open Go.RowKit
open Go

theorem deep_app (a b : List Nd) : deepN.go (a ++ b) = max (deepN.go a) (deepN.go b) := by
  induction a with
  | nil => simp [deepN.go]
  | cons x l ih => simp only [List.cons_append, deepN.go, ih]; omega
theorem many_app (a b : List Nd) : manyN.go (a ++ b) = manyN.go a + manyN.go b := by
  induction a with
  | nil => simp [manyN.go]
  | cons x l ih => simp only [List.cons_append, manyN.go, ih]; omega
theorem kids_split {ks : List Nd} {j : Nat} {y : Nd} (h : ks[j]? = some y) : ks = ks.take j ++ y :: ks.drop (j + 1) := by
  obtain ⟨hj, rfl⟩ := List.getElem?_eq_some_iff.1 h
  rw [← List.drop_eq_getElem_cons hj, List.take_append_drop]
theorem take_next {ks : List Nd} {j : Nat} {y : Nd} (h : ks[j]? = some y) : ks.take (j + 1) = ks.take j ++ [y] := by
  rw [List.take_add_one, h]; rfl
theorem deepN_eq (n : Nd) : deepN n = deepN.go n.kids + 1 := by cases n; rfl
theorem manyN_eq (n : Nd) : manyN n = manyN.go n.kids + 1 := by cases n; rfl
theorem many_len (l : List Nd) : l.length ≤ manyN.go l := by
  induction l with
  | nil => simp
  | cons x l ih =>
    have : 1 ≤ manyN x := by rw [manyN_eq]; omega
    simp only [manyN.go, List.length_cons]
    omega
/-- What is left over. -/
def spZ (d m : Nat) (n : Nd) : Int := if deepN n ≤ d ∧ manyN n ≤ m then (m : Int) - (manyN n : Nat) else -1
theorem spZ_no {d m : Nat} {n : Nd} (h : ¬ (deepN n ≤ d ∧ manyN n ≤ m)) : spZ d m n = -1 := if_neg h
/-- A kid, as it is read. -/
theorem ndAt_val {S : Nat → Prop} {W : World} {y : Nd} {c : Nat → Option Value} (h : NdAt S W y c) : ∃ b cap, c 0 = some (.int .i64 y.k) ∧ c 1 = some (sk y.t) ∧ c 2 = some (.int .i64 y.n) ∧ c 3 = some (.slice b y.kids.length cap) ∧ NdV S W y (ndv y b cap) := by
  obtain ⟨k, t, n, kids⟩ := y
  rw [NdAt] at h
  obtain ⟨h0, h1, h2, b, cap, h3, h4, h5⟩ := h
  refine ⟨b, cap, h0, h1, h2, h3, _, _, _, _, rfl, ?_⟩
  rw [NdAt]
  exact ⟨rfl, rfl, rfl, b, cap, rfl, h4, h5⟩
theorem res28 {tm : Array Value} {W : World} {v : Value} (h : tm[6]?.getD undef = v) : (results Tryz.f28 tm).run Tryz.prog W = .ok v W := by
  simp [results, Tryz.results28, go_sem, h]
set_option maxRecDepth 20000 in
set_option maxHeartbeats 1000000 in
theorem spare_any (d : Nat) : d ≤ 14 → ∀ (m : Nat) (S : Nat → Prop) (n : Nd) (b : Option Addr) (cap : Nat) (w : World), m ≤ 600 → NdV S w n (ndv n b cap) → Calls Tryz.prog 28 #[ndv n b cap, .int .i64 (d : Nat), .int .i64 (m : Nat)] w fun e w' => e = .returned (.int .i64 (spZ d m n)) ∧ Below w.heap.size w w' := by
  induction d with
  | zero =>
    intro _ m S n b cap w hm hn
    rw [spZ_no (by rw [deepN_eq]; omega)]
    go_enter Tryz.func28, Tryz.ntmps28
    go_wp2
    exact bodyPost_ret (res28 rfl) rfl ⟨rfl, ext_alloc (Below.refl _ _) _⟩
  | succ d ih =>
    intro hd m S n b cap w hm hn
    have hq1 : ((d : Int) + 1 == 0) = false := by simp; omega
    by_cases h0 : m = 0
    · subst h0
      rw [spZ_no (by rw [manyN_eq]; omega)]
      go_enter Tryz.func28, Tryz.ntmps28
      go_wp2
      exact bodyPost_ret (res28 rfl) rfl ⟨rfl, ext_alloc (Below.refl _ _) _⟩
    obtain ⟨k, rfl⟩ : ∃ k, m = k + 1 := ⟨m - 1, by omega⟩
    have hq2 : ((k : Int) + 1 == 0) = false := by simp; omega
    rw [show ((d + 1 : Nat) : Int) = (d : Int) + 1 by omega, show ((k + 1 : Nat) : Int) = (k : Int) + 1 by omega]
    obtain ⟨b2, cap2, e2, hcap, hkids⟩ := hn.form
    have e3 : b2 = b ∧ cap2 = cap := by
      simp only [Value.agg.injEq, Array.mk.injEq, List.cons.injEq, Value.slice.injEq, and_true, true_and] at e2
      exact ⟨e2.1.symm, e2.2.symm⟩
    obtain ⟨rfl, rfl⟩ := e3
    have hds : deepN n = deepN.go n.kids + 1 := deepN_eq n
    have hms : manyN n = manyN.go n.kids + 1 := manyN_eq n
    obtain ⟨ks, hks⟩ : ∃ ks, n.kids = ks := ⟨_, rfl⟩
    rw [hks] at hds hms hcap hkids
    have hlen : n.kids.length = ks.length := by rw [hks]
    obtain ⟨L, hL⟩ : ∃ L, ks.length = L := ⟨_, rfl⟩
    rw [hL] at hlen hcap
    obtain ⟨V, hV⟩ : ∃ V, spZ (d + 1) (k + 1) n = V := ⟨_, rfl⟩
    rw [hV]
    have hb0 := ext_alloc (Below.refl w.heap.size w) (.cells #[.int .i64 n.k, sk n.t, .int .i64 n.n, .slice b2 L cap2] 24)
    clear e2 hn
    replace hds : Hid _ := hds
    replace hms : Hid _ := hms
    replace hV : Hid _ := hV
    replace hL : Hid _ := hL
    replace hks : Hid _ := hks
    replace hkids : Hid _ := hkids
    go_enter Tryz.func28, Tryz.ntmps28
    go_wp2
    go_loopw [2, 20] (fun nn ix wr => ∃ j k' : Nat, j ≤ L ∧ ix = .int .i64 (j : Nat) ∧ nn = .int .i64 (k' : Nat) ∧ k' + manyN.go (ks.take j) = k ∧ deepN.go (ks.take j) ≤ d ∧ Below w.heap.size w wr) (fun _ ix _ => L - (intOf ix).toNat)
    case atStart => exact ⟨0, k, by omega, rfl, by go_num, by simp [manyN.go], by simp [deepN.go], hb0⟩
    case round =>
      obtain ⟨j, k', hj, rfl, rfl, hs, hdp, hbw⟩ := hrel
      replace hs : Hid _ := hs
      replace hdp : Hid _ := hdp
      by_cases hlt : j < L
      · have hlt' : (j : Int) < (L : Int) := by omega
        obtain ⟨y, hy⟩ : ∃ y, ks[j]? = some y := ⟨_, List.getElem?_eq_getElem (show j < ks.length by have := hL.out; omega)⟩
        rcases hkids.out with h | ⟨g, off, rfl, hSg, hkd⟩
        · rw [h] at hy
          simp at hy
        obtain ⟨b', cap', v0, v1, v2, v3, hyV⟩ := ndAt_val (hkd j y hy)
        have c0 : wr.cell? ⟨g, off + j * 4, none⟩ = some (.int .i64 y.k) := cellB hbw v0
        have c1 := cellB hbw v1
        have c2 := cellB hbw v2
        have c3 := cellB hbw v3
        have hjk : j ≤ k := by
          have := many_len (ks.take j)
          have := hs.out
          have := hL.out
          simp at *
          omega
        have hk' : k' ≤ 600 := by have := hs.out; omega
        have hcall := ih (by omega) k' S y b' cap' (wr.alloc (nbx y b' cap')) hk' ((hyV.below hbw).below (ext_alloc (Below.refl _ _) _))
        have hbw1 := ext_alloc hbw (nbx y b' cap')
        by_cases hok : deepN y ≤ d ∧ manyN y ≤ k'
        · have e : spZ d k' y = ((k' - manyN y : Nat) : Int) := by unfold spZ; rw [if_pos hok]; omega
          rw [e] at hcall
          have hn1 : k' - manyN y + manyN.go (ks.take (j + 1)) = k := by
            have := hs.out
            rw [take_next hy, many_app]
            simp [manyN.go]
            omega
          have hn2 : deepN.go (ks.take (j + 1)) ≤ d := by
            have := hdp.out
            rw [take_next hy, deep_app]
            simp [deepN.go]
            omega
          obtain ⟨k2, hk2⟩ : ∃ k2, k' - manyN y = k2 := ⟨_, rfl⟩
          rw [hk2] at hcall hn1
          replace hn1 : Hid _ := hn1
          replace hn2 : Hid _ := hn2
          have hnn : ¬ (k2 : Int) < 0 := by omega
          clear v0 v1 v2 v3 hyV hy hkd hk2 e hok ih
          go_wp2_with (go_at_call 28; refine hcall.mono ?_; rintro e w1 ⟨rfl, hb1⟩)
          go_roundw
          case rel => exact ⟨j + 1, k2, by omega, by go_num, rfl, hn1.out, hn2.out, ext_trans hbw1 hb1⟩
          case measure => simp [intOf]; omega
        · have e : spZ d k' y = -1 := spZ_no hok
          rw [e] at hcall
          have hVm : V = -1 := by
            rw [← hV.out]
            refine spZ_no fun h => hok ?_
            have h1 := hs.out
            have h3 := hds.out
            have h4 := hms.out
            rw [kids_split hy, deep_app] at h3
            rw [kids_split hy, many_app] at h4
            simp only [deepN.go, manyN.go] at h3 h4
            omega
          subst hVm
          clear v0 v1 v2 v3 hyV hy hkd e hok ih
          go_wp2_with (go_at_call 28; refine hcall.mono ?_; rintro e w1 ⟨rfl, hb1⟩)
          exact bodyPost_ret (res28 rfl) rfl ⟨rfl, ext_trans hbw1 hb1⟩
      · have hge : ¬ (j : Int) < (L : Int) := by omega
        have : V = (k' : Int) := by
          have := hV.out
          have e : j = ks.length := by have := hL.out; omega
          have h1 := hs.out
          have h2 := hdp.out
          rw [e, List.take_length] at h1 h2
          have h3 := hds.out
          have h4 := hms.out
          unfold spZ at this
          rw [if_pos ⟨by omega, by omega⟩] at this
          omega
        subst this
        go_wp2
        exact bodyPost_ret (res28 rfl) rfl ⟨rfl, hbw⟩
end Go.Proofs.YtbdkiimggggndaaGreatDoor
namespace Go.Proofs.YtbdkiimggggndaaGreatDoor
open Go.RowKit
open Go

def fitB (n : Nd) : Bool := decide (deepN n ≤ 14 ∧ manyN n ≤ 600)
set_option maxRecDepth 20000 in
set_option maxHeartbeats 1000000 in
theorem fits_any (S : Nat → Prop) (n : Nd) (b : Option Addr) (cap : Nat) (w : World) (hn : NdV S w n (ndv n b cap)) : Calls Tryz.prog 14 #[ndv n b cap] w fun e w' => e = .returned (.bool (fitB n)) ∧ Below w.heap.size w w' := by
  have hb0 := ext_alloc (Below.refl w.heap.size w) (nbx n b cap)
  have hc := spare_any 14 (by omega) 600 S n b cap (w.alloc (nbx n b cap)) (by omega) (hn.below hb0)
  obtain ⟨c0, c1, c2, c3, _, _, _, _⟩ := in4 (alloc_new w (nbx n b cap))
  unfold fitB
  by_cases h : deepN n ≤ 14 ∧ manyN n ≤ 600
  · rw [decide_eq_true h]
    have e : spZ 14 600 n = ((600 - manyN n : Nat) : Int) := by unfold spZ; rw [if_pos h]; omega
    rw [e] at hc
    obtain ⟨v, hv⟩ : ∃ v, 600 - manyN n = v := ⟨_, rfl⟩
    rw [hv] at hc
    clear hv e
    have hv0 : (0 : Int) ≤ (v : Int) := by omega
    go_enter Tryz.func14, Tryz.ntmps14
    go_wp2_with (go_at_call 28; refine hc.mono ?_; rintro e w1 ⟨rfl, hb1⟩)
    go_ret
    exact ⟨rfl, ext_trans hb0 hb1⟩
  · rw [decide_eq_false h]
    rw [spZ_no h] at hc
    go_enter Tryz.func14, Tryz.ntmps14
    go_wp2_with (go_at_call 28; refine hc.mono ?_; rintro e w1 ⟨rfl, hb1⟩)
    go_ret
    exact ⟨rfl, ext_trans hb0 hb1⟩

def ManyC (n : Nd) : Prop := ∀ (m : Nat) (S : Nat → Prop) (b : Option Addr) (cap : Nat) (w : World), m ≤ 600 → NdV S w n (ndv n b cap) → Calls Tryz.prog 35 #[ndv n b cap, .int .i64 (m : Nat)] w fun e w' => e = .returned (.int .i64 ((min (manyN n) (m + 1) : Nat) : Int)) ∧ Below w.heap.size w w'
set_option maxRecDepth 20000 in
set_option maxHeartbeats 1000000 in
theorem many_step (k0 : Int) (t0 : List UInt8) (n0 : Int) (ks : List Nd) (ih : ∀ y ∈ ks, ManyC y) : ManyC ⟨k0, t0, n0, ks⟩ := by
  intro m S b cap w hm hn
  obtain ⟨b2, cap2, e2, hcap, hkids⟩ := hn.form
  simp only at e2 hcap hkids
  have e3 : b2 = b ∧ cap2 = cap := by
    simp only [Value.agg.injEq, Array.mk.injEq, List.cons.injEq, Value.slice.injEq, and_true, true_and] at e2
    exact ⟨e2.1.symm, e2.2.symm⟩
  obtain ⟨rfl, rfl⟩ := e3
  have hms : manyN ⟨k0, t0, n0, ks⟩ = manyN.go ks + 1 := rfl
  obtain ⟨V, hV⟩ : ∃ V, min (manyN ⟨k0, t0, n0, ks⟩) (m + 1) = V := ⟨_, rfl⟩
  rw [hV]
  rw [hms] at hV
  dsimp only [ndv]
  obtain ⟨L, hL⟩ : ∃ L, ks.length = L := ⟨_, rfl⟩
  rw [hL] at hcap ⊢
  have hb0 := ext_alloc (Below.refl w.heap.size w) (.cells #[.int .i64 k0, sk t0, .int .i64 n0, .slice b2 L cap2] 24)
  have g0 := alloc_new w (.cells #[.int .i64 k0, sk t0, .int .i64 n0, .slice b2 L cap2] 24)
  clear e2 hn hms
  replace hV : Hid _ := hV
  replace hL : Hid _ := hL
  replace hkids : Hid _ := hkids
  go_enter Tryz.func35, Tryz.ntmps35
  go_wp2
  go_loopw [5, 6] (fun kk ix wr => ∃ j k' : Nat, j ≤ L ∧ ix = .int .i64 (j : Nat) ∧ kk = .int .i64 (k' : Nat) ∧ k' = min (1 + manyN.go (ks.take j)) (m + 1) ∧ Below w.heap.size w wr ∧ wr.heap[w.heap.size]? = some (.cells #[.int .i64 k0, sk t0, .int .i64 n0, .slice b2 L cap2] 24)) (fun _ ix _ => L - (intOf ix).toNat)
  case atStart => exact ⟨0, 1, by omega, rfl, rfl, by simp [manyN.go], hb0, g0⟩
  case round =>
    obtain ⟨j, k', hj, rfl, rfl, hs, hbw, gw⟩ := hrel
    have hk' : k' ≤ m + 1 := by omega
    replace hs : Hid _ := hs
    obtain ⟨q0, q1, q2, q3, _, _, _, _⟩ := in4 gw
    by_cases hlt : j < L
    · have hlt' : (j : Int) < (L : Int) := by omega
      by_cases hle : k' ≤ m
      · have hle' : (k' : Int) ≤ (m : Int) := by omega
        obtain ⟨y, hy⟩ : ∃ y, ks[j]? = some y := ⟨_, List.getElem?_eq_getElem (show j < ks.length by have := hL.out; omega)⟩
        rcases hkids.out with h | ⟨g, off, rfl, hSg, hkd⟩
        · rw [h] at hy
          simp at hy
        obtain ⟨b', cap', v0, v1, v2, v3, hyV⟩ := ndAt_val (hkd j y hy)
        have c0 : wr.cell? ⟨g, off + j * 4, none⟩ = some (.int .i64 y.k) := cellB hbw v0
        have c1 := cellB hbw v1
        have c2 := cellB hbw v2
        have c3 := cellB hbw v3
        have hkj : k' = 1 + manyN.go (ks.take j) := by have := hs.out; omega
        have hjk : j ≤ 600 := by
          have := many_len (ks.take j)
          have := hL.out
          simp at *
          omega
        have hcall := ih y (List.mem_of_getElem? hy) (m - k') S b' cap' wr (by omega) (hyV.below hbw)
        rw [show ((m - k' : Nat) : Int) = (m : Int) - (k' : Int) by omega] at hcall
        have hnew : k' + min (manyN y) (m - k' + 1) = min (1 + manyN.go (ks.take (j + 1))) (m + 1) := by
          rw [take_next hy, many_app]
          simp only [manyN.go]
          omega
        obtain ⟨mo, hmo⟩ : ∃ mo, min (manyN y) (m - k' + 1) = mo := ⟨_, rfl⟩
        have hmo2 : mo ≤ 601 := by omega
        rw [hmo] at hcall hnew
        replace hnew : Hid _ := hnew
        clear v0 v1 v2 v3 hyV hy hkd ih hmo hkj
        go_wp2_with (go_at_call 35; refine hcall.mono ?_; rintro e w1 ⟨rfl, hb1⟩)
        go_roundw
        case rel => exact ⟨j + 1, k' + mo, by omega, by go_num, by go_num, hnew.out, ext_trans hbw hb1, block_below hb1 gw⟩
        case measure => simp [intOf]; omega
      · have hle' : ¬ (k' : Int) ≤ (m : Int) := by omega
        have hVk : V = k' := by
          rw [← hV.out]
          have h1 := hs.out
          obtain ⟨y, hy⟩ : ∃ y, ks[j]? = some y := ⟨_, List.getElem?_eq_getElem (show j < ks.length by have := hL.out; omega)⟩
          have := congrArg manyN.go (kids_split hy)
          rw [many_app] at this
          omega
        subst hVk
        go_wp2
        go_ret
        exact ⟨rfl, hbw⟩
    · have hge : ¬ (j : Int) < (L : Int) := by omega
      have hVk : V = k' := by
        rw [← hV.out]
        have h1 := hs.out
        have e : j = ks.length := by have := hL.out; omega
        rw [e, List.take_length] at h1
        omega
      subst hVk
      go_wp2
      go_ret
      exact ⟨rfl, hbw⟩
theorem many_any (n : Nd) : ManyC n := nd_ind many_step n
end Go.Proofs.YtbdkiimggggndaaGreatDoor
namespace Go.Proofs.YtbdkiimggggndaaGreatDoor
open Go.RowKit
open Go

def DeepC (n : Nd) : Prop := ∀ (m : Nat) (S : Nat → Prop) (b : Option Addr) (cap : Nat) (w : World), m ≤ 14 → manyN n ≤ 600 → NdV S w n (ndv n b cap) → Calls Tryz.prog 36 #[ndv n b cap, .int .i64 (m : Nat)] w fun e w' => e = .returned (.int .i64 ((min (deepN n) (m + 1) : Nat) : Int)) ∧ Below w.heap.size w w'
set_option maxRecDepth 20000 in
set_option maxHeartbeats 1000000 in
theorem deep_step (k0 : Int) (t0 : List UInt8) (n0 : Int) (ks : List Nd) (ih : ∀ y ∈ ks, DeepC y) : DeepC ⟨k0, t0, n0, ks⟩ := by
  intro m S b cap w hm hmx hn
  obtain ⟨b2, cap2, e2, hcap, hkids⟩ := hn.form
  simp only at e2 hcap hkids
  have e3 : b2 = b ∧ cap2 = cap := by
    simp only [Value.agg.injEq, Array.mk.injEq, List.cons.injEq, Value.slice.injEq, and_true, true_and] at e2
    exact ⟨e2.1.symm, e2.2.symm⟩
  obtain ⟨rfl, rfl⟩ := e3
  have hms : deepN ⟨k0, t0, n0, ks⟩ = deepN.go ks + 1 := rfl
  have hmx : manyN.go ks + 1 ≤ 600 := hmx
  obtain ⟨V, hV⟩ : ∃ V, min (deepN ⟨k0, t0, n0, ks⟩) (m + 1) = V := ⟨_, rfl⟩
  rw [hV]
  rw [hms] at hV
  dsimp only [ndv]
  obtain ⟨L, hL⟩ : ∃ L, ks.length = L := ⟨_, rfl⟩
  rw [hL] at hcap ⊢
  have hb0 := ext_alloc (Below.refl w.heap.size w) (.cells #[.int .i64 k0, sk t0, .int .i64 n0, .slice b2 L cap2] 24)
  have g0 := alloc_new w (.cells #[.int .i64 k0, sk t0, .int .i64 n0, .slice b2 L cap2] 24)
  have hLx : L ≤ 600 := by have := many_len ks; omega
  clear e2 hn hms
  replace hmx : Hid _ := hmx
  replace hV : Hid _ := hV
  replace hL : Hid _ := hL
  replace hkids : Hid _ := hkids
  go_enter Tryz.func36, Tryz.ntmps36
  go_wp2
  go_loopw [5, 6] (fun kk ix wr => ∃ j k' : Nat, j ≤ L ∧ ix = .int .i64 (j : Nat) ∧ kk = .int .i64 (k' : Nat) ∧ k' = min (deepN.go (ks.take j)) m ∧ Below w.heap.size w wr ∧ wr.heap[w.heap.size]? = some (.cells #[.int .i64 k0, sk t0, .int .i64 n0, .slice b2 L cap2] 24)) (fun _ ix _ => L - (intOf ix).toNat)
  case atStart => exact ⟨0, 0, by omega, rfl, rfl, by simp [deepN.go], hb0, g0⟩
  case round =>
    obtain ⟨j, k', hj, rfl, rfl, hs, hbw, gw⟩ := hrel
    have hk' : k' ≤ m := by omega
    replace hs : Hid _ := hs
    obtain ⟨q0, q1, q2, q3, _, _, _, _⟩ := in4 gw
    by_cases hlt : j < L
    · have hlt' : (j : Int) < (L : Int) := by omega
      by_cases hm0 : 0 < m
      · have hm0' : (0 : Int) < (m : Int) := by omega
        have hle' : (k' : Int) ≤ (m : Int) := by omega
        obtain ⟨y, hy⟩ : ∃ y, ks[j]? = some y := ⟨_, List.getElem?_eq_getElem (show j < ks.length by have := hL.out; omega)⟩
        rcases hkids.out with h | ⟨g, off, rfl, hSg, hkd⟩
        · rw [h] at hy
          simp at hy
        obtain ⟨b', cap', v0, v1, v2, v3, hyV⟩ := ndAt_val (hkd j y hy)
        have c0 : wr.cell? ⟨g, off + j * 4, none⟩ = some (.int .i64 y.k) := cellB hbw v0
        have c1 := cellB hbw v1
        have c2 := cellB hbw v2
        have c3 := cellB hbw v3
        have hym : manyN y ≤ 600 := by
          have h1 := hmx.out
          have h2 := congrArg manyN.go (kids_split hy)
          rw [many_app] at h2
          simp only [manyN.go] at h2
          omega
        have hcall := ih y (List.mem_of_getElem? hy) (m - 1) S b' cap' wr (by omega) hym (hyV.below hbw)
        rw [show ((m - 1 : Nat) : Int) = (m : Int) - 1 by omega, show m - 1 + 1 = m by omega] at hcall
        have hnew : max k' (min (deepN y) m) = min (deepN.go (ks.take (j + 1))) m := by
          have := hs.out
          rw [take_next hy, deep_app]
          simp only [deepN.go]
          omega
        obtain ⟨mo, hmo⟩ : ∃ mo, min (deepN y) m = mo := ⟨_, rfl⟩
        have hmo2 : mo ≤ 15 := by omega
        rw [hmo] at hcall hnew
        obtain ⟨k2, hk2⟩ : ∃ k2, max k' mo = k2 := ⟨_, rfl⟩
        rw [hk2] at hnew
        have hmax : max (k' : Int) (mo : Int) = (k2 : Int) := by omega
        replace hnew : Hid _ := hnew
        clear v0 v1 v2 v3 hyV hy hkd ih hmo hk2
        go_wp2_with (go_at_call 36; refine hcall.mono ?_; rintro e w1 ⟨rfl, hb1⟩)
        go_roundw
        case rel => exact ⟨j + 1, k2, by omega, by go_num, by go_num, hnew.out, ext_trans hbw hb1, block_below hb1 gw⟩
        case measure => simp [intOf]; omega
      · have hm0' : ¬ (0 : Int) < (m : Int) := by omega
        have hVk : V = k' + 1 := by
          rw [← hV.out]
          have h1 := hs.out
          omega
        subst hVk
        go_wp2
        go_ret
        exact ⟨rfl, hbw⟩
    · have hge : ¬ (j : Int) < (L : Int) := by omega
      have hVk : V = k' + 1 := by
        rw [← hV.out]
        have h1 := hs.out
        have e : j = ks.length := by have := hL.out; omega
        rw [e, List.take_length] at h1
        omega
      subst hVk
      go_wp2
      go_ret
      exact ⟨rfl, hbw⟩
theorem deep_any (n : Nd) : DeepC n := nd_ind deep_step n
set_option maxRecDepth 20000 in
set_option maxHeartbeats 1000000 in
theorem rfits_any (S : Nat → Prop) (n : Nd) (b : Option Addr) (cap : Nat) (w : World) (hn : NdV S w n (ndv n b cap)) : Calls Tryz.prog 17 #[ndv n b cap] w fun e w' => e = .returned (.bool (fitB n)) ∧ Below w.heap.size w w' := by
  have hb0 := ext_alloc (Below.refl w.heap.size w) (nbx n b cap)
  have hc := many_any n 600 S b cap (w.alloc (nbx n b cap)) (by omega) (hn.below hb0)
  obtain ⟨c0, c1, c2, c3, _, _, _, _⟩ := in4 (alloc_new w (nbx n b cap))
  have g0 := alloc_new w (nbx n b cap)
  unfold fitB
  by_cases hm : manyN n ≤ 600
  · rw [show min (manyN n) (600 + 1) = manyN n by omega] at hc
    have hd := fun u (hb : Below (w.alloc (nbx n b cap)).heap.size (w.alloc (nbx n b cap)) u) => deep_any n 14 S b cap u (by omega) hm ((hn.below hb0).below hb)
    have hV : decide (deepN n ≤ 14 ∧ manyN n ≤ 600) = decide (min (deepN n) (14 + 1) ≤ 14) := decide_eq_decide.2 (by omega)
    rw [hV]
    obtain ⟨v, hv⟩ : ∃ v, min (deepN n) (14 + 1) = v := ⟨_, rfl⟩
    rw [hv] at hd ⊢
    obtain ⟨x, hx⟩ : ∃ x, manyN n = x := ⟨_, rfl⟩
    rw [hx] at hc hm
    have hm' : ¬ (600 : Int) < (x : Int) := by omega
    clear hV hv hx
    go_enter Tryz.func17, Tryz.ntmps17
    go_wp2_with (first | (go_at_call 35; refine hc.mono ?_; rintro e w1 ⟨rfl, hb1⟩; have g1 := block_below hb1 g0; obtain ⟨x0, x1, x2, x3, _, _, _, _⟩ := in4 g1) | (go_at_call 36; refine (hd _ hb1).mono ?_; rintro e w2 ⟨rfl, hb2⟩))
    go_ret
    exact ⟨show Ending.returned (Value.bool (decide ((v : Int) ≤ 14))) = Ending.returned (Value.bool (decide (v ≤ 14))) from congrArg (fun x => Ending.returned (Value.bool x)) (decide_eq_decide.2 (by omega)), ext_trans (ext_trans hb0 hb1) hb2⟩
  · rw [show min (manyN n) (600 + 1) = 601 by omega] at hc
    rw [decide_eq_false (fun h => hm h.2)]
    go_enter Tryz.func17, Tryz.ntmps17
    go_wp2_with (go_at_call 35; refine hc.mono ?_; rintro e w1 ⟨rfl, hb1⟩)
    go_ret
    exact ⟨rfl, ext_trans hb0 hb1⟩
end Go.Proofs.YtbdkiimggggndaaGreatDoor
namespace Go.Proofs.YtbdkiimggggndaaGreatDoor
open Go.RowKit
open Go

def SameC (n : Nd) : Prop := ∀ (S S' : Nat → Prop) (b b' : Option Addr) (cap cap' : Nat) (w : World), manyN n ≤ 600 → NdV S w n (ndv n b cap) → NdV S' w n (ndv n b' cap') → Calls Tryz.prog 9 #[ndv n b cap, ndv n b' cap'] w fun e w' => e = .returned (.bool true) ∧ Below w.heap.size w w'
theorem ndv_parts {S : Nat → Prop} {W : World} {k0 : Int} {t0 : List UInt8} {n0 : Int} {ks : List Nd} {b : Option Addr} {cap : Nat} (hn : NdV S W ⟨k0, t0, n0, ks⟩ (ndv ⟨k0, t0, n0, ks⟩ b cap)) : ks.length ≤ cap ∧ (ks = [] ∨ ∃ g off, b = some ⟨g, off, none⟩ ∧ S g ∧ ∀ j y, ks[j]? = some y → NdAt S W y (fun i => W.cell? ⟨g, off + j * 4 + i, none⟩)) := by
  obtain ⟨b2, cap2, e2, hcap, hkids⟩ := hn.form
  simp only at e2 hcap hkids
  have e3 : b2 = b ∧ cap2 = cap := by
    simp only [Value.agg.injEq, Array.mk.injEq, List.cons.injEq, Value.slice.injEq, and_true, true_and] at e2
    exact ⟨e2.1.symm, e2.2.symm⟩
  obtain ⟨rfl, rfl⟩ := e3
  exact ⟨hcap, hkids⟩
set_option maxRecDepth 20000 in
set_option maxHeartbeats 1000000 in
theorem same_step (k0 : Int) (t0 : List UInt8) (n0 : Int) (ks : List Nd) (ih : ∀ y ∈ ks, SameC y) : SameC ⟨k0, t0, n0, ks⟩ := by
  intro S S' b b' cap cap' w hmx hn hn'
  have hmx : manyN.go ks + 1 ≤ 600 := hmx
  obtain ⟨hcap, hkids⟩ := ndv_parts hn
  obtain ⟨hcap', hkids'⟩ := ndv_parts hn'
  dsimp only [ndv]
  obtain ⟨L, hL⟩ : ∃ L, ks.length = L := ⟨_, rfl⟩
  rw [hL] at hcap hcap' ⊢
  obtain ⟨g0, g1⟩ := new2 w (.cells #[.int .i64 k0, sk t0, .int .i64 n0, .slice b L cap] 24) (.cells #[.int .i64 k0, sk t0, .int .i64 n0, .slice b' L cap'] 24)
  have hb0 := below2 w (.cells #[.int .i64 k0, sk t0, .int .i64 n0, .slice b L cap] 24) (.cells #[.int .i64 k0, sk t0, .int .i64 n0, .slice b' L cap'] 24)
  have hLx : L ≤ 600 := by have := many_len ks; omega
  clear hn hn'
  replace hmx : Hid _ := hmx
  replace hL : Hid _ := hL
  replace hkids : Hid _ := hkids
  replace hkids' : Hid _ := hkids'
  go_enter Tryz.func9, Tryz.ntmps9
  go_wp2
  go_loopw [5] (fun ix wr => ∃ j : Nat, j ≤ L ∧ ix = .int .i64 (j : Nat) ∧ Below w.heap.size w wr ∧ wr.heap[w.heap.size]? = some (.cells #[.int .i64 k0, sk t0, .int .i64 n0, .slice b L cap] 24) ∧ wr.heap[w.heap.size + 1]? = some (.cells #[.int .i64 k0, sk t0, .int .i64 n0, .slice b' L cap'] 24)) (fun ix _ => L - (intOf ix).toNat)
  case atStart => exact ⟨0, by omega, rfl, hb0, g0, g1⟩
  case round =>
    obtain ⟨j, hj, rfl, hbw, gw, gw'⟩ := hrel
    obtain ⟨q0, q1, q2, q3, _, _, _, _⟩ := in4 gw
    obtain ⟨r0, r1, r2, r3, _, _, _, _⟩ := in4 gw'
    by_cases hlt : j < L
    · have hlt' : (j : Int) < (L : Int) := by omega
      obtain ⟨y, hy⟩ : ∃ y, ks[j]? = some y := ⟨_, List.getElem?_eq_getElem (show j < ks.length by have := hL.out; omega)⟩
      rcases hkids.out with h | ⟨g, off, rfl, hSg, hkd⟩
      · rw [h] at hy
        simp at hy
      rcases hkids'.out with h | ⟨g', off', rfl, hSg', hkd'⟩
      · rw [h] at hy
        simp at hy
      obtain ⟨yb, ycap, v0, v1, v2, v3, hyV⟩ := ndAt_val (hkd j y hy)
      obtain ⟨yb', ycap', v0', v1', v2', v3', hyV'⟩ := ndAt_val (hkd' j y hy)
      have c0 : wr.cell? ⟨g, off + j * 4, none⟩ = some (.int .i64 y.k) := cellB hbw v0
      have c1 := cellB hbw v1
      have c2 := cellB hbw v2
      have c3 := cellB hbw v3
      have d0 : wr.cell? ⟨g', off' + j * 4, none⟩ = some (.int .i64 y.k) := cellB hbw v0'
      have d1 := cellB hbw v1'
      have d2 := cellB hbw v2'
      have d3 := cellB hbw v3'
      have hym : manyN y ≤ 600 := by
        have h1 := hmx.out
        have h2 := congrArg manyN.go (kids_split hy)
        rw [many_app] at h2
        simp only [manyN.go] at h2
        omega
      have hcall := fun u (hb : Below wr.heap.size wr u) => ih y (List.mem_of_getElem? hy) S S' yb yb' ycap ycap' u hym ((hyV.below hbw).below hb) ((hyV'.below hbw).below hb)
      clear v0 v1 v2 v3 hyV hy hkd ih v0' v1' v2' v3' hyV' hkd'
      go_wp2
      go_region_with (go_at_call 9; refine (hcall _ ((Below.refl _ _).drew)).mono ?_; rintro e w1 ⟨rfl, hb1⟩)
      all_goals
        go_wp2
        go_roundw
        case rel => exact ⟨j + 1, by omega, by go_num, ext_trans (hbw.drew) hb1, block_below (W := wr.drew) hb1 gw, block_below (W := wr.drew) hb1 gw'⟩
        case measure => simp [intOf]; omega
    · have hge : ¬ (j : Int) < (L : Int) := by omega
      go_wp2
      go_ret
      exact ⟨rfl, hbw⟩
theorem same_any (n : Nd) : SameC n := nd_ind same_step n
end Go.Proofs.YtbdkiimggggndaaGreatDoor
namespace Go.Proofs.YtbdkiimggggndaaGreatDoor
open Go.RowKit
open Go

theorem scan_any (s : ByteArray) (w : World) (hE : ErrV w) : Calls Tryz.prog 12 #[.string s] w (Out w (scanAll s.data.toList)) := by
  have hl : s.data.toList.length = s.size := by simp
  unfold scanAll
  rw [hl]
  by_cases h : 4000 < s.size
  · rw [if_pos h]; exact scan_big s h w
  · rw [if_neg h]; exact scan_ok s (by omega) w hE
theorem tokAt_of {base : Nat} {W : World} {b : Option Addr} {n d : Nat} {ts : List Tok} (h : W.ownsRow base 44 3 (.slice b n d) ts.length (flatT ts)) : n = ts.length ∧ ts.length ≤ d ∧ TokAt W b ts W.heap.size := by
  rcases h.2 with ⟨e, h0⟩ | ⟨g, cap, cur, e, _, hg, hcap, _, _, ht⟩
  · cases e
    have : ts = [] := List.length_eq_zero_iff.1 h0
    subst this
    exact ⟨rfl, Nat.le_refl _, .inl rfl⟩
  · cases e
    have hlt := (Array.getElem?_eq_some_iff.1 hg).1
    refine ⟨rfl, hcap, .inr ⟨g, rfl, hlt, hlt, fun j x hj i u hu => ?_⟩⟩
    have hi : i < 3 := by
      have := (List.getElem?_eq_some_iff.1 hu).1
      simpa using this
    have hjl : j < ts.length := (List.getElem?_eq_some_iff.1 hj).1
    have hf := flatT_get hj i hi
    rw [← ht, List.getElem?_take_of_lt (by omega)] at hf
    have hf2 : cur[j * 3 + i]? = (trioT x)[i]? := by simpa using hf
    have : (trioT x)[i]? = some u := hu
    rw [this] at hf2
    simp [World.cell?, hg, hf2]
end Go.Proofs.YtbdkiimggggndaaGreatDoor
namespace Go.Proofs.YtbdkiimggggndaaGreatDoor
open Go.RowKit
open Go

/-- Is it read as just one token, of that kind and text? -/
def oneB (k : Int) (t : List UInt8) : List Tok → Bool
  | [x] => x.k == k && x.t == t && x.a == 0
  | _ => false
set_option maxRecDepth 20000 in
set_option maxHeartbeats 1000000 in
theorem isToken_no (k : Int) (t : List UInt8) (s : ByteArray) (w : World) (hE : ErrV w) (h : (toksOf (scanAll s.data.toList)).length ≠ 1) : Calls Tryz.prog 102 #[.int .i64 k, sk t, .string s] w fun e w' => e = .returned (.bool false) ∧ Below w.heap.size w w' := by
  have hS := scan_any s w hE
  obtain ⟨R, hR⟩ : ∃ R, scanAll s.data.toList = R := ⟨_, rfl⟩
  rw [hR] at hS h
  obtain ⟨L, hL⟩ : ∃ L, (toksOf R).length = L := ⟨_, rfl⟩
  rw [hL] at h
  have hq : (L == 1) = false := by simpa using h
  have hS2 : Calls Tryz.prog 12 #[.string s] w fun e w' => (∃ b d c a, e = .returned (.tuple #[.slice b L d, .agg #[.int .i64 c, .int .i64 a]])) ∧ Below w.heap.size w w' := hS.mono fun e w' h => by
    obtain ⟨⟨b, n, d, h1, h3⟩, h2⟩ := h
    obtain ⟨rfl, h4, h5⟩ := tokAt_of h3
    rw [hL] at h1
    exact ⟨⟨b, d, _, _, h1⟩, h2⟩
  clear hS hR hL
  go_enter Tryz.func102, Tryz.ntmps102
  go_wp2_with (go_at_call 12; refine hS2.mono ?_; rintro e w1 ⟨⟨b1, d1, c1, a1, rfl⟩, hb1⟩)
  go_ret
  exact ⟨rfl, ext_alloc hb1 _⟩
set_option maxRecDepth 20000 in
set_option maxHeartbeats 2000000 in
theorem isToken_one (k : Int) (t : List UInt8) (s : ByteArray) (x : Tok) (w : World) (hE : ErrV w) (h : toksOf (scanAll s.data.toList) = [x]) : Calls Tryz.prog 102 #[.int .i64 k, sk t, .string s] w fun e w' => e = .returned (.bool (oneB k t [x])) ∧ Below w.heap.size w w' := by
  have hS := scan_any s w hE
  obtain ⟨R, hR⟩ : ∃ R, scanAll s.data.toList = R := ⟨_, rfl⟩
  rw [hR] at hS h
  obtain ⟨xk, xt, xa⟩ := x
  have hS2 : Calls Tryz.prog 12 #[.string s] w fun e w' => (∃ q d c a, e = .returned (.tuple #[.slice (some ⟨q, 0, none⟩) 1 d, .agg #[.int .i64 c, .int .i64 a]]) ∧ 1 ≤ d ∧ w'.cell? ⟨q, 0, none⟩ = some (.int .i64 xk) ∧ w'.cell? ⟨q, 1, none⟩ = some (sk xt) ∧ w'.cell? ⟨q, 2, none⟩ = some (.int .i64 (xa : Nat))) ∧ Below w.heap.size w w' := hS.mono fun e w' h' => by
    obtain ⟨⟨b, n, d, h1, h3⟩, h2⟩ := h'
    rw [h] at h3
    obtain ⟨rfl, h4, h5⟩ := tokAt_of h3
    rcases h5 with h5 | ⟨q, rfl, _, _, hc⟩
    · cases h5
    exact ⟨⟨q, d, _, _, h1, h4, hc 0 _ rfl 0 _ rfl, hc 0 _ rfl 1 _ rfl, hc 0 _ rfl 2 _ rfl⟩, h2⟩
  clear hS hR h
  by_cases e1 : xk = k
  · subst e1
    by_cases e2 : xt = t
    · subst e2
      by_cases e3 : xa = 0
      · subst e3
        rw [show oneB xk xt [⟨xk, xt, 0⟩] = true by simp [oneB]]
        go_enter Tryz.func102, Tryz.ntmps102
        go_wp2_with (go_at_call 12; refine hS2.mono ?_; rintro e w1 ⟨⟨q, d1, c1, a1, rfl, hd, t0, t1, t2⟩, hb1⟩; have hbA := ext_alloc (Below.refl w1.heap.size w1) (.cells #[.int .i64 c1, .int .i64 a1] 27); have u0 := cellB hbA t0; have u1 := cellB hbA t1; have u2 := cellB hbA t2)
        go_ret
        exact ⟨rfl, ext_alloc hb1 _⟩
      · rw [show oneB xk xt [⟨xk, xt, xa⟩] = false by simp [oneB, e3]]
        have e3' : ((xa : Int) == 0) = false := by simpa using e3
        have e4' : (xa == 0) = false := by simpa using e3
        go_enter Tryz.func102, Tryz.ntmps102
        go_wp2_with (go_at_call 12; refine hS2.mono ?_; rintro e w1 ⟨⟨q, d1, c1, a1, rfl, hd, t0, t1, t2⟩, hb1⟩; have hbA := ext_alloc (Below.refl w1.heap.size w1) (.cells #[.int .i64 c1, .int .i64 a1] 27); have u0 := cellB hbA t0; have u1 := cellB hbA t1; have u2 := cellB hbA t2)
        go_ret
        exact ⟨rfl, ext_alloc hb1 _⟩
    · rw [show oneB xk t [⟨xk, xt, xa⟩] = false by simp [oneB, e2]]
      have e2' : (xt == t) = false := by simpa using e2
      go_enter Tryz.func102, Tryz.ntmps102
      go_wp2_with (go_at_call 12; refine hS2.mono ?_; rintro e w1 ⟨⟨q, d1, c1, a1, rfl, hd, t0, t1, t2⟩, hb1⟩; have hbA := ext_alloc (Below.refl w1.heap.size w1) (.cells #[.int .i64 c1, .int .i64 a1] 27); have u0 := cellB hbA t0; have u1 := cellB hbA t1; have u2 := cellB hbA t2)
      go_ret
      exact ⟨rfl, ext_alloc hb1 _⟩
  · rw [show oneB k t [⟨xk, xt, xa⟩] = false by simp [oneB, e1]]
    have e1' : (xk == k) = false := by simpa using e1
    go_enter Tryz.func102, Tryz.ntmps102
    go_wp2_with (go_at_call 12; refine hS2.mono ?_; rintro e w1 ⟨⟨q, d1, c1, a1, rfl, hd, t0, t1, t2⟩, hb1⟩; have hbA := ext_alloc (Below.refl w1.heap.size w1) (.cells #[.int .i64 c1, .int .i64 a1] 27); have u0 := cellB hbA t0; have u1 := cellB hbA t1; have u2 := cellB hbA t2)
    go_ret
    exact ⟨rfl, ext_alloc hb1 _⟩
theorem isToken_any (k : Int) (t : List UInt8) (s : ByteArray) (w : World) (hE : ErrV w) : Calls Tryz.prog 102 #[.int .i64 k, sk t, .string s] w fun e w' => e = .returned (.bool (oneB k t (toksOf (scanAll s.data.toList)))) ∧ Below w.heap.size w w' := by
  cases h : toksOf (scanAll s.data.toList) with
  | nil => exact isToken_no k t s w hE (by rw [h]; simp)
  | cons x l =>
    cases l with
    | nil => exact isToken_one k t s x w hE h
    | cons y l => exact isToken_no k t s w hE (by rw [h]; simp)
end Go.Proofs.YtbdkiimggggndaaGreatDoor
namespace Go.Proofs.YtbdkiimggggndaaGreatDoor
open Go.RowKit
open Go

abbrev wva (m1 m2 m3 m4 m5 : Nat) : Value := .agg #[.map (some m1), .map (some m2), .map (some m3), .map (some m4), .map (some m5)]
abbrev wbx (m1 m2 m3 m4 m5 : Nat) : Obj := .cells #[.map (some m1), .map (some m2), .map (some m3), .map (some m4), .map (some m5)] 50
set_option maxRecDepth 20000 in
set_option maxHeartbeats 1000000 in
theorem bare_any (n : Nd) (b : Option Addr) (cap : Nat) (w : World) : Calls Tryz.prog 39 #[ndv n b cap] w fun e w' => e = .returned (.bool (n.t == [] && n.n == 0)) ∧ Below w.heap.size w w' := by
  obtain ⟨k, t, m, ks⟩ := n
  have hb0 := ext_alloc (Below.refl w.heap.size w) (nbx ⟨k, t, m, ks⟩ b cap)
  obtain ⟨c0, c1, c2, c3, f0, f1, f2, f3⟩ := in4 (alloc_new w (nbx ⟨k, t, m, ks⟩ b cap))
  by_cases h1 : t = []
  · subst h1
    by_cases h2 : m = 0
    · subst h2
      go_enter Tryz.func39, Tryz.ntmps39
      go_wp2
      go_ret
      exact ⟨rfl, hb0⟩
    · have h2' : (m == 0) = false := by simpa using h2
      rw [show ((([] : List UInt8) == []) && m == 0) = false by simp [h2]]
      go_enter Tryz.func39, Tryz.ntmps39
      go_wp2
      go_ret
      exact ⟨rfl, hb0⟩
  · have h1' : (t == []) = false := by simpa using h1
    rw [show ((t == []) && m == 0) = false by simp [h1]]
    go_enter Tryz.func39, Tryz.ntmps39
    go_wp2
    go_ret
    exact ⟨rfl, hb0⟩
set_option maxRecDepth 20000 in
set_option maxHeartbeats 1000000 in
theorem named_a (n : Nd) (b : Option Addr) (cap : Nat) (m1 m2 m3 m4 m5 lim : Nat) (w : World) (hE : ErrV w) (hW : Wd w lim m1 m2 m3 m4 m5) : Calls Tryz.prog 74 #[wva m1 m2 m3 m4 m5, ndv n b cap] w fun e w' => e = .returned (.bool (n.n == 0 && !reserved.contains n.t && oneB 1 n.t (toksOf (scanAll n.t)))) ∧ Below w.heap.size w w' := by
  obtain ⟨k, t, m, ks⟩ := n
  have hb0 := below2 w (wbx m1 m2 m3 m4 m5) (nbx ⟨k, t, m, ks⟩ b cap)
  obtain ⟨g1, g2⟩ := new2 w (wbx m1 m2 m3 m4 m5) (nbx ⟨k, t, m, ks⟩ b cap)
  obtain ⟨c0, c1, c2, c3, f0, f1, f2, f3⟩ := in4 g2
  have w0 : ((w.alloc (wbx m1 m2 m3 m4 m5)).alloc (nbx ⟨k, t, m, ks⟩ b cap)).cell? ⟨w.heap.size, 0, none⟩ = some (.map (some m1)) := cell_block g1 rfl
  have hWU := hW.keep (Keeps.of_below (S := fun _ => False) hb0) (fun _ _ => id)
  have hL := look_lk (m := m1) (s := t) (show LkR m1 _ from hWU.h1)
  obtain ⟨U, hU⟩ : ∃ U, (w.alloc (wbx m1 m2 m3 m4 m5)).alloc (nbx ⟨k, t, m, ks⟩ b cap) = U := ⟨_, rfl⟩
  rw [hU] at hL c0 c1 c2 c3 f0 f1 f2 f3 w0 hb0
  replace hU : (w.alloc (.cells #[.map (some m1), .map (some m2), .map (some m3), .map (some m4), .map (some m5)] 50)).alloc (.cells #[.int .i64 k, sk t, .int .i64 m, .slice b ks.length cap] 24) = U := hU
  have hT := fun u (hb : Below w.heap.size w u) => isToken_any 1 t ⟨t.toArray⟩ u (hE.on hb)
  rw [show (⟨t.toArray⟩ : ByteArray).data.toList = t by simp] at hT
  obtain ⟨o, ho⟩ : ∃ o, oneB 1 t (toksOf (scanAll t)) = o := ⟨_, rfl⟩
  rw [ho] at hT
  dsimp only
  rw [ho]
  have hb1 := ext_alloc hb0 (.cells #[] 63)
  have hb2 := ext_alloc (Below.refl U.heap.size U) (.cells #[] 63)
  have v0 := cellB hb2 c0
  have v1 := cellB hb2 c1
  have v2 := cellB hb2 c2
  clear hWU g1 g2 ho hW hE
  by_cases h1 : m = 0
  · subst h1
    cases hr : reserved.contains t with
    | true =>
      rw [hr] at hL
      go_enter Tryz.func74, Tryz.ntmps74
      go_wp2
      go_ret
      exact ⟨rfl, hb1⟩
    | false =>
      rw [hr] at hL
      go_enter Tryz.func74, Tryz.ntmps74
      go_wp2_with (go_at_call 102; refine (hT _ hb1).mono ?_; rintro e w5 ⟨rfl, hb5⟩)
      go_ret
      exact ⟨by simp, ext_trans hb1 hb5⟩
  · have h1' : (m == 0) = false := by simpa using h1
    rw [show (m == 0 && !reserved.contains t && o) = false by simp [h1]]
    cases hr : reserved.contains t with
    | true =>
      rw [hr] at hL
      go_enter Tryz.func74, Tryz.ntmps74
      go_wp2
      go_ret
      exact ⟨rfl, hb1⟩
    | false =>
      rw [hr] at hL
      go_enter Tryz.func74, Tryz.ntmps74
      go_wp2
      go_ret
      exact ⟨rfl, hb1⟩
end Go.Proofs.YtbdkiimggggndaaGreatDoor
namespace Go.Proofs.YtbdkiimggggndaaGreatDoor
open Go.RowKit
open Go

theorem one_valid {k : Int} {t s : List UInt8} (hb : bytesOf (k, t) = s) (hs : s.length ≤ 4000) : oneB k t (toksOf (scanAll s)) = true ↔ valid (k, t) := by
  have hsc : scanAll s = scanR 0 s := by unfold scanAll; rw [if_neg (by omega)]
  rw [hsc]
  constructor
  · intro h
    cases hR : scanR 0 s using ScanR.byCases with
    | bad e a => rw [hR] at h; simp [toksOf, oneB] at h
    | toks us =>
      rw [hR] at h
      have hv := (scan_valid s.length s 0 us (Nat.le_refl _) hR).1
      change oneB k t us = true at h
      match us, h, hv with
      | [x], h, hv =>
        simp [oneB] at h
        obtain ⟨⟨h1, h2⟩, _⟩ := h
        have := hv (x.k, x.t) (by simp)
        rw [h1, h2] at this
        exact this
      | [], h, _ => simp [oneB] at h
      | x :: y :: l, h, _ => simp [oneB] at h
  · intro h
    have h0 := valid_ne h
    obtain ⟨h1, h2⟩ := h
    rw [hb] at h0 h1 h2
    rw [scanR_tok h0 h2 h1]
    simp only [List.drop_length, scanR_nil]
    simp [ScanR.pre, toksOf, oneB]
theorem one_long {k : Int} {t s : List UInt8} (hs : 4000 < s.length) : oneB k t (toksOf (scanAll s)) = false := by
  unfold scanAll
  rw [if_pos hs]
  rfl
theorem name_one (t : List UInt8) : (!reserved.contains t && oneB 1 t (toksOf (scanAll t))) = nameB t := by
  by_cases hl : t.length ≤ 4000
  · have h1 := one_valid (k := 1) (t := t) (s := t) (by unfold bytesOf; rw [if_neg (by show ¬ (1 : Int) = 3; decide)]) hl
    rw [Bool.eq_iff_iff, Bool.and_eq_true, h1]
    constructor
    · rintro ⟨h2, h3⟩
      have := (name_is (l := []) h3).2 ⟨rfl, by simpa using h2⟩
      exact this
    · intro h
      have hv : valid (1, t) := valid_name h
      have := (name_is (l := []) hv).1 h
      exact ⟨by simpa using this.2, hv⟩
  · rw [one_long (by omega), Bool.and_false]
    symm
    rw [← Bool.not_eq_true]
    intro h
    simp only [nameB, Bool.and_eq_true, decide_eq_true_eq] at h
    omega
theorem quot_one (t : List UInt8) : oneB 3 t (toksOf (scanAll (34 :: (t ++ [34])))) = quotB t := by
  by_cases hl : t.length + 2 ≤ 4000
  · have h1 := one_valid (k := 3) (t := t) (s := 34 :: (t ++ [34])) (by unfold bytesOf; rw [if_pos rfl]) (by simp; omega)
    rw [Bool.eq_iff_iff, h1]
    exact ⟨text_of_valid, valid_text⟩
  · rw [one_long (by simp; omega)]
    symm
    rw [← Bool.not_eq_true]
    intro h
    simp only [quotB, Bool.and_eq_true, decide_eq_true_eq] at h
    omega
theorem named_any (n : Nd) (b : Option Addr) (cap : Nat) (m1 m2 m3 m4 m5 lim : Nat) (w : World) (hE : ErrV w) (hW : Wd w lim m1 m2 m3 m4 m5) : Calls Tryz.prog 74 #[wva m1 m2 m3 m4 m5, ndv n b cap] w fun e w' => e = .returned (.bool (n.n == 0 && nameB n.t)) ∧ Below w.heap.size w w' := by
  have := named_a n b cap m1 m2 m3 m4 m5 lim w hE hW
  rw [Bool.and_assoc, name_one] at this
  exact this
/-- Its texts are not too long, its numbers not too great. -/
def okN : Nd → Prop
  | ⟨_, t, n, kids⟩ => t.length ≤ 1000000000000000000 ∧ -9223372036854775808 ≤ n ∧ n ≤ 9223372036854775807 ∧ kids.length ≤ 100000 ∧ go kids
where go : List Nd → Prop
  | [] => True
  | x :: l => okN x ∧ go l
theorem okN_go : ∀ (l : List Nd), okN.go l ↔ ∀ x ∈ l, okN x
  | [] => by simp [okN.go]
  | x :: l => by rw [okN.go, okN_go l]; simp
end Go.Proofs.YtbdkiimggggndaaGreatDoor
namespace Go.Proofs.YtbdkiimggggndaaGreatDoor
open Go.RowKit
open Go

/-- The words. -/
structure Wm where
  a : Nat
  b : Nat
  c : Nat
  d : Nat
  e : Nat
abbrev Wm.v (m : Wm) : Value := wva m.a m.b m.c m.d m.e
abbrev Wm.x (m : Wm) : Obj := wbx m.a m.b m.c m.d m.e
/-- The words are in memory; so is what a Scan reads. -/
structure WE (m : Wm) (w : World) : Prop where
  W : ∃ lim, Wd w lim m.a m.b m.c m.d m.e
  E : ErrV w
theorem WE.on {m : Wm} {w u : World} (h : WE m w) (hb : Below w.heap.size w u) : WE m u := by
  obtain ⟨⟨lim, hW⟩, hE⟩ := h
  exact ⟨⟨lim, hW.keep (Keeps.of_below (S := fun _ => False) hb) (fun _ _ => id)⟩, hE.on hb⟩
/-- The two boxes of a method of the words that asks of a node. -/
structure FN (w : World) (m : Wm) (n : Nd) (b : Option Addr) (cap : Nat) (U : World) : Prop where
  g1 : U.heap[w.heap.size]? = some m.x
  g2 : U.heap[w.heap.size + 1]? = some (nbx n b cap)
  bl : Below w.heap.size w U
theorem FN.on {w : World} {m : Wm} {n : Nd} {b : Option Addr} {cap : Nat} {U V : World} (h : FN w m n b cap U) (hb : Below U.heap.size U V) : FN w m n b cap V := ⟨block_below hb h.g1, block_below hb h.g2, ext_trans h.bl hb⟩
theorem fn_new (w : World) (m : Wm) (n : Nd) (b : Option Addr) (cap : Nat) : FN w m n b cap ((w.alloc m.x).alloc (nbx n b cap)) := ⟨(new2 w _ _).1, (new2 w _ _).2, below2 w _ _⟩
structure In5 (W : World) (B : Nat) (m : Wm) : Prop where
  c0 : W.cell? ⟨B, 0, none⟩ = some (.map (some m.a))
  c1 : W.cell? ⟨B, 1, none⟩ = some (.map (some m.b))
  c2 : W.cell? ⟨B, 2, none⟩ = some (.map (some m.c))
  c3 : W.cell? ⟨B, 3, none⟩ = some (.map (some m.d))
  c4 : W.cell? ⟨B, 4, none⟩ = some (.map (some m.e))
theorem in5 {W : World} {B : Nat} {m : Wm} (h : W.heap[B]? = some m.x) : In5 W B m := ⟨cell_block h rfl, cell_block h rfl, cell_block h rfl, cell_block h rfl, cell_block h rfl⟩
/-- An answer. -/
structure Ans (q : Prop) (w : World) (e : Ending) (w' : World) : Prop where
  out : ∃ y : Bool, e = .returned (.bool y) ∧ (y = true ↔ q)
  bl : Below w.heap.size w w'
/-- What is asked of a node by the function f. -/
def Ask (f : Nat) (q : Nd → Prop) (n : Nd) : Prop := ∀ (m : Wm) (S : Nat → Prop) (b : Option Addr) (cap : Nat) (w : World), WE m w → okN n → NdV S w n (ndv n b cap) → Calls Tryz.prog f #[m.v, ndv n b cap] w (Ans (q n) w)
/-- Kids in memory. -/
def KA (S : Nat → Prop) (w : World) (b : Option Addr) (cap : Nat) (ks : List Nd) : Prop := ks.length ≤ cap ∧ (ks = [] ∨ ∃ g off, b = some ⟨g, off, none⟩ ∧ S g ∧ ∀ j y, ks[j]? = some y → NdAt S w y (fun i => w.cell? ⟨g, off + j * 4 + i, none⟩))
theorem KA.of {S : Nat → Prop} {w : World} {k : Int} {t : List UInt8} {n : Int} {ks : List Nd} {b : Option Addr} {cap : Nat} (h : NdV S w ⟨k, t, n, ks⟩ (ndv ⟨k, t, n, ks⟩ b cap)) : KA S w b cap ks := ndv_parts h
/-- A kid, as it is read. -/
theorem KA.at {S : Nat → Prop} {w : World} {b : Option Addr} {cap : Nat} {ks : List Nd} (h : KA S w b cap ks) {j : Nat} {y : Nd} (hy : ks[j]? = some y) : ∃ g off b' cap', b = some ⟨g, off, none⟩ ∧ w.cell? ⟨g, off + j * 4, none⟩ = some (.int .i64 y.k) ∧ w.cell? ⟨g, off + j * 4 + 1, none⟩ = some (sk y.t) ∧ w.cell? ⟨g, off + j * 4 + 2, none⟩ = some (.int .i64 y.n) ∧ w.cell? ⟨g, off + j * 4 + 3, none⟩ = some (.slice b' y.kids.length cap') ∧ NdV S w y (ndv y b' cap') := by
  rcases h.2 with h0 | ⟨g, off, rfl, _, hkd⟩
  · rw [h0] at hy; simp at hy
  · obtain ⟨b', cap', v0, v1, v2, v3, hyV⟩ := ndAt_val (hkd j y hy)
    exact ⟨g, off, b', cap', rfl, v0, v1, v2, v3, hyV⟩
theorem KA.take {S : Nat → Prop} {w : World} {b : Option Addr} {cap : Nat} {ks : List Nd} (h : KA S w b cap ks) (m : Nat) : KA S w b cap (ks.take m) := by
  refine ⟨by have := h.1; simp; omega, ?_⟩
  rcases h.2 with h0 | ⟨g, off, rfl, hS, hkd⟩
  · exact .inl (by rw [h0]; simp)
  · refine .inr ⟨g, off, rfl, hS, fun j y hy => hkd j y ?_⟩
    rw [List.getElem?_take] at hy
    split at hy
    · exact hy
    · cases hy
theorem KA.drop {S : Nat → Prop} {w : World} {g off : Nat} {cap : Nat} {ks : List Nd} (h : KA S w (some ⟨g, off, none⟩) cap ks) (m : Nat) (hm : m < ks.length) : KA S w (some ⟨g, off + m * 4, none⟩) (cap - m) (ks.drop m) := by
  refine ⟨by have := h.1; simp; omega, ?_⟩
  rcases h.2 with h0 | ⟨g', off', e, hS, hkd⟩
  · rw [h0] at hm; simp at hm
  · cases e
    refine .inr ⟨g, off + m * 4, rfl, hS, fun j y hy => ?_⟩
    rw [List.getElem?_drop] at hy
    have := hkd (m + j) y hy
    rw [show off + (m + j) * 4 = off + m * 4 + j * 4 by omega] at this
    exact this
end Go.Proofs.YtbdkiimggggndaaGreatDoor
namespace Go.Proofs.YtbdkiimggggndaaGreatDoor
open Go.RowKit
open Go

abbrev wrb (m : Wm) (b : Option Addr) (n cap : Nat) : Obj := .cells #[.map (some m.a), .map (some m.b), .map (some m.c), .map (some m.d), .map (some m.e), .slice b n cap] 54
/-- The writer in block B has put down ts; below w0's end all is as it was. -/
structure Wt (w0 : World) (B : Nat) (m : Wm) (ts : List (List UInt8)) (W : World) : Prop where
  box : ∃ b cap, W.heap[B]? = some (wrb m b ts.length cap) ∧ W.ownsRow w0.heap.size 9 1 (.slice b ts.length cap) ts.length (ts.map sk) ∧ (∀ q, Value.ownBlock (.slice b ts.length cap) = some q → w0.heap.size ≤ q ∧ q ≠ B)
  bl : Below w0.heap.size w0 W
  hB : w0.heap.size ≤ B
theorem info9 : (Tryz.prog.info? 9).map (fun i => (i.zero, i.size, i.bytes)) = some (some (.string ⟨#[]⟩), 1, 16) := by kernel_rfl
theorem own9_below {W W' : World} {b : Option Addr} {n cap : Nat} {xs : List Value} {base : Nat} (h : W.ownsRow base 9 1 (.slice b n cap) n xs) (hb : Below W.heap.size W W') : W'.ownsRow base 9 1 (.slice b n cap) n xs := by
  obtain ⟨h1, h2⟩ := h
  refine ⟨h1, ?_⟩
  rcases h2 with h2 | ⟨g, cap', cur, e, hbase, hg, h3⟩
  · exact .inl h2
  · exact .inr ⟨g, cap', cur, e, hbase, block_below hb hg, h3⟩
theorem own9_set {W : World} {n cap B g i : Nat} {v : Value} {xs : List Value} {base : Nat} (h : W.ownsRow base 9 1 (.slice (some ⟨g, 0, none⟩) n cap) n xs) (hg : g ≠ B) : (W.setCell ⟨B, i, none⟩ v).ownsRow base 9 1 (.slice (some ⟨g, 0, none⟩) n cap) n xs := by
  obtain ⟨h1, h2⟩ := h
  refine ⟨h1, ?_⟩
  rcases h2 with h2 | ⟨g', cap', cur, e, hbase, hg', h3⟩
  · exact .inl h2
  · cases e
    exact .inr ⟨g, cap, cur, rfl, hbase, (set1_other _ _ hg).trans hg', h3⟩
theorem Wt.on {w0 : World} {B : Nat} {m : Wm} {ts : List (List UInt8)} {W W' : World} (h : Wt w0 B m ts W) (hb : Below W.heap.size W W') : Wt w0 B m ts W' := by
  obtain ⟨⟨b, cap, h1, h2, h3⟩, h4, h5⟩ := h
  refine ⟨⟨b, cap, block_below hb h1, own9_below h2 hb, h3⟩, ext_trans h4 hb, h5⟩
/-- A block that is neither the writer's nor that of its tokens. -/
def Apart (B : Nat) (W : World) (t : Nat) : Prop := t ≠ B ∧ ∀ c0 c1 c2 c3 c4 v, W.heap[B]? = some (.cells #[c0, c1, c2, c3, c4, v] 54) → Value.ownBlock v ≠ some t
/-- What a method of the writer leaves. -/
structure WQ (w0 : World) (B : Nat) (m : Wm) (ts : List (List UInt8)) (W : World) (e : Ending) (W' : World) : Prop where
  e : e = .returned (.tuple #[])
  t : Wt w0 B m ts W'
  k : ∀ t o, Apart B W t → W.heap[t]? = some o → W'.heap[t]? = some o ∧ Apart B W' t
/-- A node's box that is apart. -/
structure BX (B : Nat) (W : World) (t : Nat) (n : Nd) (b : Option Addr) (cap : Nat) : Prop where
  g : W.heap[t]? = some (nbx n b cap)
  a : Apart B W t
theorem BX.on {w0 : World} {B : Nat} {m : Wm} {ts : List (List UInt8)} {W W' : World} {e : Ending} {t : Nat} {n : Nd} {b : Option Addr} {cap : Nat} (h : BX B W t n b cap) (q : WQ w0 B m ts W e W') : BX B W' t n b cap := ⟨(q.k t _ h.a h.g).1, (q.k t _ h.a h.g).2⟩
theorem Wt.lt {w0 : World} {B : Nat} {m : Wm} {ts : List (List UInt8)} {W : World} (h : Wt w0 B m ts W) : B < W.heap.size := by
  obtain ⟨⟨b, cap, h1, _⟩, _⟩ := h
  exact block_lt h1
theorem Wt.own_lt {w0 : World} {B : Nat} {m : Wm} {ts : List (List UInt8)} {W : World} (h : Wt w0 B m ts W) {c0 c1 c2 c3 c4 v : Value} (hB : W.heap[B]? = some (.cells #[c0, c1, c2, c3, c4, v] 54)) {q : Nat} (hq : Value.ownBlock v = some q) : q < W.heap.size ∧ w0.heap.size ≤ q := by
  obtain ⟨⟨b, cap, h1, h2, h3⟩, _⟩ := h
  rw [h1] at hB
  have e : Value.slice b ts.length cap = v := by
    simp only [Option.some.injEq, Obj.cells.injEq, Array.mk.injEq, List.cons.injEq, and_true] at hB
    exact hB.2.2.2.2.2
  subst e
  refine ⟨?_, (h3 q hq).1⟩
  rcases h2.2 with ⟨e, _⟩ | ⟨g, cap', cur, e, _, hg, _⟩
  · rw [e] at hq; simp [Value.ownBlock] at hq
  · rw [e] at hq
    simp [Value.ownBlock] at hq
    subst hq
    exact block_lt hg
theorem Apart.below {B : Nat} {W W' : World} {t : Nat} (h : Apart B W t) (hB : B < W.heap.size) (hb : Below W.heap.size W W') : Apart B W' t := ⟨h.1, fun c0 c1 c2 c3 c4 v hv => h.2 c0 c1 c2 c3 c4 v ((hb.block B hB).symm.trans hv)⟩
theorem BX.below {B : Nat} {W W' : World} {t : Nat} {n : Nd} {b : Option Addr} {cap : Nat} (h : BX B W t n b cap) (hB : B < W.heap.size) (hb : Below W.heap.size W W') : BX B W' t n b cap := ⟨block_below hb h.g, h.a.below hB hb⟩
theorem bx_new {w0 : World} {B : Nat} {m : Wm} {ts : List (List UInt8)} {W : World} (h : Wt w0 B m ts W) (n : Nd) (b : Option Addr) (cap : Nat) : BX B (W.alloc (nbx n b cap)) W.heap.size n b cap := by
  have hb := ext_alloc (Below.refl W.heap.size W) (nbx n b cap)
  refine ⟨alloc_new _ _, by have := h.lt; omega, fun c0 c1 c2 c3 c4 v hv e => ?_⟩
  have := (h.own_lt ((hb.block B h.lt).symm.trans hv) e).1
  omega
/-- A call whose boxes are made first: what was apart before is so behind it. -/
theorem WQ.of {w0 : World} {B : Nat} {m : Wm} {ts0 ts : List (List UInt8)} {W V : World} {e : Ending} {W' : World} (h : Wt w0 B m ts0 W) (hb : Below W.heap.size W V) (q : WQ w0 B m ts V e W') : WQ w0 B m ts W e W' := ⟨q.e, q.t, fun t o ha ho => q.k t o (ha.below h.lt hb) (block_below hb ho)⟩
theorem WQ.then {w0 : World} {B : Nat} {m : Wm} {ts ts' : List (List UInt8)} {W V : World} {e e' : Ending} {W' : World} (p : WQ w0 B m ts W e V) (q : WQ w0 B m ts' V e' W') : WQ w0 B m ts' W e' W' := ⟨q.e, q.t, fun t o ha ho => by
  obtain ⟨h1, h2⟩ := p.k t o ha ho
  exact q.k t o h2 h1⟩
set_option maxRecDepth 20000 in
set_option maxHeartbeats 1000000 in
theorem put_any (w0 : World) (B : Nat) (m : Wm) (ts vs : List (List UInt8)) (Q c : Nat) (W : World) (h : Wt w0 B m ts W) (hv : ∀ j u, (vs.map sk)[j]? = some u → W.cell? ⟨Q, j, none⟩ = some u) (hne : 0 < vs.length) (hlen : ts.length + vs.length ≤ 1000000) : Calls Tryz.prog 77 #[.pointer (some ⟨B, 0, none⟩), .slice (some ⟨Q, 0, none⟩) vs.length c] W (WQ w0 B m (ts ++ vs) W) := by
  obtain ⟨i0, hi0, hz0, hz1, hz2⟩ := info_parts info9
  obtain ⟨⟨b, cap, h1, h2, h3⟩, h4, h5⟩ := h
  have c5 : W.cell? ⟨B, 5, none⟩ = some (.slice b ts.length cap) := cell_block h1 rfl
  have f5 : W.frozen? ⟨B, 5, none⟩ = false := frozen_block h1
  have hneB : some B ≠ Value.ownBlock (.slice b ts.length cap) := fun e => (h3 B e.symm).2 rfl
  have hnews : ∀ j u, (vs.map sk)[j]? = some u → W.cell? ((⟨Q, 0, none⟩ : Addr).add j) = some u := fun j u hu => by
    have := hv j u hu
    by_cases hj : j = 0
    · subst hj; simpa [Addr.add] using this
    · simpa [Addr.add, hj] using this
  have hone : ∀ u ∈ vs.map sk, u.oneCell' = true := fun u hu => by
    obtain ⟨x, _, rfl⟩ := List.mem_map.1 hu
    rfl
  have h63 : ts.length + vs.length ≤ maxLen := by unfold maxLen; omega
  have hby : (ts.length + vs.length) * 16 ≤ 140737488355328 := by omega
  have hll : (vs.map sk).length = vs.length * 1 := by simp
  have hsz := h4.size
  replace hv : Hid _ := hv
  go_enter Tryz.func77, Tryz.ntmps77
  go_wp2_with (at_builtin; refine wpList_append_lies _ (by rfl) _ _ _ (by rfl) w0.heap.size 9 i0 _ 1 16 Tryz.underlying52 hi0 hz0 hz1 hz2 rfl (by omega) (.slice b ts.length cap) ts.length _ (by rfl) h2 ⟨Q, 0, none⟩ vs.length c (vs.map sk) (by rfl) hll hnews hone hne h63 hby hsz _ rfl ?_; intro g3 cap3 w3 hown3 hgrow hat hlt3; have p1 := (hgrow.block _ (block_lt h1) hneB).trans h1; have c5 : w3.cell? ⟨B, 5, none⟩ = some (.slice b ts.length cap) := cell_block p1 rfl; have f5 : w3.frozen? ⟨B, 5, none⟩ = false := frozen_block p1)
  have hg3 : g3 ≠ B := by
    rcases hat with e | e
    · exact (h3 g3 e).2
    · have := block_lt h1
      omega
  have hg4 : w0.heap.size ≤ g3 := by
    rcases hat with e | e
    · exact (h3 g3 e).1
    · omega
  have hk4 : Below w0.heap.size w0 (w3.setCell ⟨B, 5, none⟩ (.slice (some ⟨g3, 0, none⟩) (ts.length + vs.length) cap3)) := (((Keeps.of_below (S := no) h4).then (Keeps.grown hgrow) (fun q hq e => by have := (h3 q e.symm).1; omega)).set B 5 _ (fun h => by omega)).below (Nat.le_refl _) (fun _ _ => id)
  go_end0
  refine ⟨rfl, ⟨⟨some ⟨g3, 0, none⟩, cap3, ?_, ?_, ?_⟩, ?_, h5⟩, ?_⟩
  · rw [List.length_append]
    exact set_block _ p1
  · rw [List.length_append, List.map_append]
    exact own9_set hown3 hg3
  · rw [List.length_append]
    intro q e
    simp [Value.ownBlock] at e
    subst e
    exact ⟨hg4, hg3⟩
  · exact hk4
  · intro t o ha ho
    have hto : some t ≠ Value.ownBlock (.slice b ts.length cap) := fun e => ha.2 _ _ _ _ _ _ h1 e.symm
    refine ⟨(set1_other _ _ ha.1).trans ((hgrow.block t (block_lt ho) hto).trans ho), ha.1, fun c0 c1 c2 c3 c4 v hv e => ?_⟩
    have hv' := (set_block (i := 5) (.slice (some ⟨g3, 0, none⟩) (ts.length + vs.length) cap3) p1).symm.trans hv
    have ev : Value.slice (some ⟨g3, 0, none⟩) (ts.length + vs.length) cap3 = v := by
      simp at hv'
      exact hv'.2.2.2.2.2
    subst ev
    simp [Value.ownBlock] at e
    subst e
    rcases hat with e | e
    · exact hto e.symm
    · have := block_lt ho
      omega
theorem Wt.put1 {w0 : World} {B : Nat} {m : Wm} {ts : List (List UInt8)} {W : World} (h : Wt w0 B m ts W) (s : List UInt8) (hlen : ts.length + 1 ≤ 1000000) : Calls Tryz.prog 77 #[.pointer (some ⟨B, 0, none⟩), .slice (some ⟨W.heap.size, 0, none⟩) 1 1] (W.alloc (.cells #[sk s] 9)) (WQ w0 B m (ts ++ [s]) W) := by
  have hb := ext_alloc (Below.refl W.heap.size W) (.cells #[sk s] 9)
  refine (put_any w0 B m ts [s] W.heap.size 1 _ (h.on hb) ?_ (by simp) (by simpa using hlen)).mono fun e W' q => q.of h hb
  intro j u hu
  have g := alloc_new W (.cells #[sk s] 9)
  match j, hu with
  | 0, hu => cases hu; exact cell_block g rfl
  | j + 1, hu => simp at hu
theorem Wt.put2 {w0 : World} {B : Nat} {m : Wm} {ts : List (List UInt8)} {W : World} (h : Wt w0 B m ts W) (s r : List UInt8) (hlen : ts.length + 2 ≤ 1000000) : Calls Tryz.prog 77 #[.pointer (some ⟨B, 0, none⟩), .slice (some ⟨W.heap.size, 0, none⟩) 2 2] (W.alloc (.cells #[sk s, sk r] 9)) (WQ w0 B m (ts ++ [s, r]) W) := by
  have hb := ext_alloc (Below.refl W.heap.size W) (.cells #[sk s, sk r] 9)
  refine (put_any w0 B m ts [s, r] W.heap.size 2 _ (h.on hb) ?_ (by simp) (by simpa using hlen)).mono fun e W' q => q.of h hb
  intro j u hu
  have g := alloc_new W (.cells #[sk s, sk r] 9)
  match j, hu with
  | 0, hu => cases hu; exact cell_block g rfl
  | 1, hu => cases hu; exact cell_block g rfl
  | j + 2, hu => simp at hu
theorem Wt.put3 {w0 : World} {B : Nat} {m : Wm} {ts : List (List UInt8)} {W : World} (h : Wt w0 B m ts W) (s r x : List UInt8) (hlen : ts.length + 3 ≤ 1000000) : Calls Tryz.prog 77 #[.pointer (some ⟨B, 0, none⟩), .slice (some ⟨W.heap.size, 0, none⟩) 3 3] (W.alloc (.cells #[sk s, sk r, sk x] 9)) (WQ w0 B m (ts ++ [s, r, x]) W) := by
  have hb := ext_alloc (Below.refl W.heap.size W) (.cells #[sk s, sk r, sk x] 9)
  refine (put_any w0 B m ts [s, r, x] W.heap.size 3 _ (h.on hb) ?_ (by simp) (by simpa using hlen)).mono fun e W' q => q.of h hb
  intro j u hu
  have g := alloc_new W (.cells #[sk s, sk r, sk x] 9)
  match j, hu with
  | 0, hu => cases hu; exact cell_block g rfl
  | 1, hu => cases hu; exact cell_block g rfl
  | 2, hu => cases hu; exact cell_block g rfl
  | j + 3, hu => simp at hu
/-- Contracts: a method of the writer puts down vs of a node. -/
structure WF (m : Wm) (w : World) : Prop where
  e : WE m w
  p : Lib.TabIs Tryz.prog w "internal/strconv.uint64pow10" .u64 Lib.pow10Tab
def Puts (f : Nat) (n : Nd) (vs : List (List UInt8)) : Prop := ∀ (m : Wm) (S : Nat → Prop) (b : Option Addr) (cap : Nat) (w0 : World) (B : Nat) (ts : List (List UInt8)) (W : World), WF m w0 → NdV S w0 n (ndv n b cap) → Wt w0 B m ts W → ts.length + vs.length ≤ 1000000 → Calls Tryz.prog f #[.pointer (some ⟨B, 0, none⟩), ndv n b cap] W (WQ w0 B m (ts ++ vs) W)
/-- A node's tokens as they are written. -/
def bsN (x : Nd) : List (List UInt8) := (showT x).map bytesOf
end Go.Proofs.YtbdkiimggggndaaGreatDoor
