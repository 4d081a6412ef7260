/- How deep a node is, of how many: as the program reckons it. How deep a node is, of how many: as the document reckons it. How deep a node is, as the document reckons it; whether it fits. Two nodes that are one. The document's Look: the first function of a name. The document's Look: a slot is set; what lies apart stays. The document's Look: an expression. The document's Look: a name; every expression. -/
import Derived.Test.YtnnppenlfocgiaaGreatDoorK12
import Derived.Test.YtnnppenlfocgiaaGreatDoorK13
namespace Go.Proofs.YtnnppenlfocgiaaGreatDoor
open Go.RowKit
open Go

theorem deep_app (a b : List Nd) : deepN.go (a ++ b) = max (deepN.go a) (deepN.go b) := by
  induction a with
  | nil => simp [deepN.go]
  | cons x l ih => simp only [List.cons_append, deepN.go, ih]; omega
theorem many_app (a b : List Nd) : manyN.go (a ++ b) = manyN.go a + manyN.go b := by
  induction a with
  | nil => simp [manyN.go]
  | cons x l ih => simp only [List.cons_append, manyN.go, ih]; omega
theorem kids_split {ks : List Nd} {j : Nat} {y : Nd} (h : ks[j]? = some y) : ks = ks.take j ++ y :: ks.drop (j + 1) := by
  obtain ⟨hj, rfl⟩ := List.getElem?_eq_some_iff.1 h
  rw [← List.drop_eq_getElem_cons hj, List.take_append_drop]
theorem take_next {ks : List Nd} {j : Nat} {y : Nd} (h : ks[j]? = some y) : ks.take (j + 1) = ks.take j ++ [y] := by
  rw [List.take_add_one, h]; rfl
theorem deepN_eq (n : Nd) : deepN n = deepN.go n.kids + 1 := by cases n; rfl
theorem manyN_eq (n : Nd) : manyN n = manyN.go n.kids + 1 := by cases n; rfl
theorem many_len (l : List Nd) : l.length ≤ manyN.go l := by
  induction l with
  | nil => simp
  | cons x l ih =>
    have : 1 ≤ manyN x := by rw [manyN_eq]; omega
    simp only [manyN.go, List.length_cons]
    omega
/-- What is left over. -/
def spZ (d m : Nat) (n : Nd) : Int := if deepN n ≤ d ∧ manyN n ≤ m then (m : Int) - (manyN n : Nat) else -1
theorem spZ_no {d m : Nat} {n : Nd} (h : ¬ (deepN n ≤ d ∧ manyN n ≤ m)) : spZ d m n = -1 := if_neg h
/-- A kid, as it is read. -/
theorem ndAt_val {S : Nat → Prop} {W : World} {y : Nd} {c : Nat → Option Value} (h : NdAt S W y c) : ∃ b cap, c 0 = some (.int .i64 y.k) ∧ c 1 = some (sk y.t) ∧ c 2 = some (.int .i64 y.n) ∧ c 3 = some (.slice b y.kids.length cap) ∧ NdV S W y (ndv y b cap) := by
  obtain ⟨k, t, n, kids⟩ := y
  rw [NdAt] at h
  obtain ⟨h0, h1, h2, b, cap, h3, h4, h5⟩ := h
  refine ⟨b, cap, h0, h1, h2, h3, _, _, _, _, rfl, ?_⟩
  rw [NdAt]
  exact ⟨rfl, rfl, rfl, b, cap, rfl, h4, h5⟩
theorem res28 {tm : Array Value} {W : World} {v : Value} (h : tm[6]?.getD undef = v) : (results Tryz.f41 tm).run Tryz.prog W = .ok v W := by
  simp [results, Tryz.results41, go_sem, h]
set_option maxRecDepth 20000 in
set_option maxHeartbeats 1000000 in
theorem spare_any (d : Nat) : d ≤ 14 → ∀ (m : Nat) (S : Nat → Prop) (n : Nd) (b : Option Addr) (cap : Nat) (w : World), m ≤ 600 → NdV S w n (ndv n b cap) → Calls Tryz.prog 41 #[ndv n b cap, .int .i64 (d : Nat), .int .i64 (m : Nat)] w fun e w' => e = .returned (.int .i64 (spZ d m n)) ∧ Below w.heap.size w w' := by
  induction d with
  | zero =>
    intro _ m S n b cap w hm hn
    rw [spZ_no (by rw [deepN_eq]; omega)]
    go_enter Tryz.func41, Tryz.ntmps41
    go_wp2
    exact bodyPost_ret (res28 rfl) rfl ⟨rfl, ext_alloc (Below.refl _ _) _⟩
  | succ d ih =>
    intro hd m S n b cap w hm hn
    have hq1 : ((d : Int) + 1 == 0) = false := by simp; omega
    by_cases h0 : m = 0
    · subst h0
      rw [spZ_no (by rw [manyN_eq]; omega)]
      go_enter Tryz.func41, Tryz.ntmps41
      go_wp2
      exact bodyPost_ret (res28 rfl) rfl ⟨rfl, ext_alloc (Below.refl _ _) _⟩
    obtain ⟨k, rfl⟩ : ∃ k, m = k + 1 := ⟨m - 1, by omega⟩
    have hq2 : ((k : Int) + 1 == 0) = false := by simp; omega
    rw [show ((d + 1 : Nat) : Int) = (d : Int) + 1 by omega, show ((k + 1 : Nat) : Int) = (k : Int) + 1 by omega]
    obtain ⟨b2, cap2, e2, hcap, hkids⟩ := hn.form
    have e3 : b2 = b ∧ cap2 = cap := by
      simp only [Value.agg.injEq, Array.mk.injEq, List.cons.injEq, Value.slice.injEq, and_true, true_and] at e2
      exact ⟨e2.1.symm, e2.2.symm⟩
    obtain ⟨rfl, rfl⟩ := e3
    have hds : deepN n = deepN.go n.kids + 1 := deepN_eq n
    have hms : manyN n = manyN.go n.kids + 1 := manyN_eq n
    obtain ⟨ks, hks⟩ : ∃ ks, n.kids = ks := ⟨_, rfl⟩
    rw [hks] at hds hms hcap hkids
    have hlen : n.kids.length = ks.length := by rw [hks]
    obtain ⟨L, hL⟩ : ∃ L, ks.length = L := ⟨_, rfl⟩
    rw [hL] at hlen hcap
    obtain ⟨V, hV⟩ : ∃ V, spZ (d + 1) (k + 1) n = V := ⟨_, rfl⟩
    rw [hV]
    have hb0 := ext_alloc (Below.refl w.heap.size w) (.cells #[.int .i64 n.k, sk n.t, .int .i64 n.n, .slice b2 L cap2] 24)
    clear e2 hn
    replace hds : Hid _ := hds
    replace hms : Hid _ := hms
    replace hV : Hid _ := hV
    replace hL : Hid _ := hL
    replace hks : Hid _ := hks
    replace hkids : Hid _ := hkids
    go_enter Tryz.func41, Tryz.ntmps41
    go_wp2
    go_loopw [2, 20] (fun nn ix wr => ∃ j k' : Nat, j ≤ L ∧ ix = .int .i64 (j : Nat) ∧ nn = .int .i64 (k' : Nat) ∧ k' + manyN.go (ks.take j) = k ∧ deepN.go (ks.take j) ≤ d ∧ Below w.heap.size w wr) (fun _ ix _ => L - (intOf ix).toNat)
    case atStart => exact ⟨0, k, by omega, rfl, by go_num, by simp [manyN.go], by simp [deepN.go], hb0⟩
    case round =>
      obtain ⟨j, k', hj, rfl, rfl, hs, hdp, hbw⟩ := hrel
      replace hs : Hid _ := hs
      replace hdp : Hid _ := hdp
      by_cases hlt : j < L
      · have hlt' : (j : Int) < (L : Int) := by omega
        obtain ⟨y, hy⟩ : ∃ y, ks[j]? = some y := ⟨_, List.getElem?_eq_getElem (show j < ks.length by have := hL.out; omega)⟩
        rcases hkids.out with h | ⟨g, off, rfl, hSg, hkd⟩
        · rw [h] at hy
          simp at hy
        obtain ⟨b', cap', v0, v1, v2, v3, hyV⟩ := ndAt_val (hkd j y hy)
        have c0 : wr.cell? ⟨g, off + j * 4, none⟩ = some (.int .i64 y.k) := cellB hbw v0
        have c1 := cellB hbw v1
        have c2 := cellB hbw v2
        have c3 := cellB hbw v3
        have hjk : j ≤ k := by
          have := many_len (ks.take j)
          have := hs.out
          have := hL.out
          simp at *
          omega
        have hk' : k' ≤ 600 := by have := hs.out; omega
        have hcall := ih (by omega) k' S y b' cap' (wr.alloc (nbx y b' cap')) hk' ((hyV.below hbw).below (ext_alloc (Below.refl _ _) _))
        have hbw1 := ext_alloc hbw (nbx y b' cap')
        by_cases hok : deepN y ≤ d ∧ manyN y ≤ k'
        · have e : spZ d k' y = ((k' - manyN y : Nat) : Int) := by unfold spZ; rw [if_pos hok]; omega
          rw [e] at hcall
          have hn1 : k' - manyN y + manyN.go (ks.take (j + 1)) = k := by
            have := hs.out
            rw [take_next hy, many_app]
            simp [manyN.go]
            omega
          have hn2 : deepN.go (ks.take (j + 1)) ≤ d := by
            have := hdp.out
            rw [take_next hy, deep_app]
            simp [deepN.go]
            omega
          obtain ⟨k2, hk2⟩ : ∃ k2, k' - manyN y = k2 := ⟨_, rfl⟩
          rw [hk2] at hcall hn1
          replace hn1 : Hid _ := hn1
          replace hn2 : Hid _ := hn2
          have hnn : ¬ (k2 : Int) < 0 := by omega
          clear v0 v1 v2 v3 hyV hy hkd hk2 e hok ih
          go_wp2_with (go_at_call 41; refine hcall.mono ?_; rintro e w1 ⟨rfl, hb1⟩)
          go_roundw
          case rel => exact ⟨j + 1, k2, by omega, by go_num, rfl, hn1.out, hn2.out, ext_trans hbw1 hb1⟩
          case measure => simp [intOf]; omega
        · have e : spZ d k' y = -1 := spZ_no hok
          rw [e] at hcall
          have hVm : V = -1 := by
            rw [← hV.out]
            refine spZ_no fun h => hok ?_
            have h1 := hs.out
            have h3 := hds.out
            have h4 := hms.out
            rw [kids_split hy, deep_app] at h3
            rw [kids_split hy, many_app] at h4
            simp only [deepN.go, manyN.go] at h3 h4
            omega
          subst hVm
          clear v0 v1 v2 v3 hyV hy hkd e hok ih
          go_wp2_with (go_at_call 41; refine hcall.mono ?_; rintro e w1 ⟨rfl, hb1⟩)
          exact bodyPost_ret (res28 rfl) rfl ⟨rfl, ext_trans hbw1 hb1⟩
      · have hge : ¬ (j : Int) < (L : Int) := by omega
        have : V = (k' : Int) := by
          have := hV.out
          have e : j = ks.length := by have := hL.out; omega
          have h1 := hs.out
          have h2 := hdp.out
          rw [e, List.take_length] at h1 h2
          have h3 := hds.out
          have h4 := hms.out
          unfold spZ at this
          rw [if_pos ⟨by omega, by omega⟩] at this
          omega
        subst this
        go_wp2
        exact bodyPost_ret (res28 rfl) rfl ⟨rfl, hbw⟩
end Go.Proofs.YtnnppenlfocgiaaGreatDoor
namespace Go.Proofs.YtnnppenlfocgiaaGreatDoor
open Go.RowKit
open Go

def fitB (n : Nd) : Bool := decide (deepN n ≤ 14 ∧ manyN n ≤ 600)
set_option maxRecDepth 20000 in
set_option maxHeartbeats 1000000 in
theorem fits_any (S : Nat → Prop) (n : Nd) (b : Option Addr) (cap : Nat) (w : World) (hn : NdV S w n (ndv n b cap)) : Calls Tryz.prog 23 #[ndv n b cap] w fun e w' => e = .returned (.bool (fitB n)) ∧ Below w.heap.size w w' := by
  have hb0 := ext_alloc (Below.refl w.heap.size w) (nbx n b cap)
  have hc := spare_any 14 (by omega) 600 S n b cap (w.alloc (nbx n b cap)) (by omega) (hn.below hb0)
  obtain ⟨c0, c1, c2, c3, _, _, _, _⟩ := in4 (alloc_new w (nbx n b cap))
  unfold fitB
  by_cases h : deepN n ≤ 14 ∧ manyN n ≤ 600
  · rw [decide_eq_true h]
    have e : spZ 14 600 n = ((600 - manyN n : Nat) : Int) := by unfold spZ; rw [if_pos h]; omega
    rw [e] at hc
    obtain ⟨v, hv⟩ : ∃ v, 600 - manyN n = v := ⟨_, rfl⟩
    rw [hv] at hc
    clear hv e
    have hv0 : (0 : Int) ≤ (v : Int) := by omega
    go_enter Tryz.func23, Tryz.ntmps23
    go_wp2_with (go_at_call 41; refine hc.mono ?_; rintro e w1 ⟨rfl, hb1⟩)
    go_ret
    exact ⟨rfl, ext_trans hb0 hb1⟩
  · rw [decide_eq_false h]
    rw [spZ_no h] at hc
    go_enter Tryz.func23, Tryz.ntmps23
    go_wp2_with (go_at_call 41; refine hc.mono ?_; rintro e w1 ⟨rfl, hb1⟩)
    go_ret
    exact ⟨rfl, ext_trans hb0 hb1⟩

def ManyC (n : Nd) : Prop := ∀ (m : Nat) (S : Nat → Prop) (b : Option Addr) (cap : Nat) (w : World), m ≤ 600 → NdV S w n (ndv n b cap) → Calls Tryz.prog 33 #[ndv n b cap, .int .i64 (m : Nat)] w fun e w' => e = .returned (.int .i64 ((min (manyN n) (m + 1) : Nat) : Int)) ∧ Below w.heap.size w w'
set_option maxRecDepth 20000 in
set_option maxHeartbeats 1000000 in
theorem many_step (k0 : Int) (t0 : List UInt8) (n0 : Int) (ks : List Nd) (ih : ∀ y ∈ ks, ManyC y) : ManyC ⟨k0, t0, n0, ks⟩ := by
  intro m S b cap w hm hn
  obtain ⟨b2, cap2, e2, hcap, hkids⟩ := hn.form
  simp only at e2 hcap hkids
  have e3 : b2 = b ∧ cap2 = cap := by
    simp only [Value.agg.injEq, Array.mk.injEq, List.cons.injEq, Value.slice.injEq, and_true, true_and] at e2
    exact ⟨e2.1.symm, e2.2.symm⟩
  obtain ⟨rfl, rfl⟩ := e3
  have hms : manyN ⟨k0, t0, n0, ks⟩ = manyN.go ks + 1 := rfl
  obtain ⟨V, hV⟩ : ∃ V, min (manyN ⟨k0, t0, n0, ks⟩) (m + 1) = V := ⟨_, rfl⟩
  rw [hV]
  rw [hms] at hV
  dsimp only [ndv]
  obtain ⟨L, hL⟩ : ∃ L, ks.length = L := ⟨_, rfl⟩
  rw [hL] at hcap ⊢
  have hb0 := ext_alloc (Below.refl w.heap.size w) (.cells #[.int .i64 k0, sk t0, .int .i64 n0, .slice b2 L cap2] 24)
  have g0 := alloc_new w (.cells #[.int .i64 k0, sk t0, .int .i64 n0, .slice b2 L cap2] 24)
  clear e2 hn hms
  replace hV : Hid _ := hV
  replace hL : Hid _ := hL
  replace hkids : Hid _ := hkids
  go_enter Tryz.func33, Tryz.ntmps33
  go_wp2
  go_loopw [5, 6] (fun kk ix wr => ∃ j k' : Nat, j ≤ L ∧ ix = .int .i64 (j : Nat) ∧ kk = .int .i64 (k' : Nat) ∧ k' = min (1 + manyN.go (ks.take j)) (m + 1) ∧ Below w.heap.size w wr ∧ wr.heap[w.heap.size]? = some (.cells #[.int .i64 k0, sk t0, .int .i64 n0, .slice b2 L cap2] 24)) (fun _ ix _ => L - (intOf ix).toNat)
  case atStart => exact ⟨0, 1, by omega, rfl, rfl, by simp [manyN.go], hb0, g0⟩
  case round =>
    obtain ⟨j, k', hj, rfl, rfl, hs, hbw, gw⟩ := hrel
    have hk' : k' ≤ m + 1 := by omega
    replace hs : Hid _ := hs
    obtain ⟨q0, q1, q2, q3, _, _, _, _⟩ := in4 gw
    by_cases hlt : j < L
    · have hlt' : (j : Int) < (L : Int) := by omega
      by_cases hle : k' ≤ m
      · have hle' : (k' : Int) ≤ (m : Int) := by omega
        obtain ⟨y, hy⟩ : ∃ y, ks[j]? = some y := ⟨_, List.getElem?_eq_getElem (show j < ks.length by have := hL.out; omega)⟩
        rcases hkids.out with h | ⟨g, off, rfl, hSg, hkd⟩
        · rw [h] at hy
          simp at hy
        obtain ⟨b', cap', v0, v1, v2, v3, hyV⟩ := ndAt_val (hkd j y hy)
        have c0 : wr.cell? ⟨g, off + j * 4, none⟩ = some (.int .i64 y.k) := cellB hbw v0
        have c1 := cellB hbw v1
        have c2 := cellB hbw v2
        have c3 := cellB hbw v3
        have hkj : k' = 1 + manyN.go (ks.take j) := by have := hs.out; omega
        have hjk : j ≤ 600 := by
          have := many_len (ks.take j)
          have := hL.out
          simp at *
          omega
        have hcall := ih y (List.mem_of_getElem? hy) (m - k') S b' cap' wr (by omega) (hyV.below hbw)
        rw [show ((m - k' : Nat) : Int) = (m : Int) - (k' : Int) by omega] at hcall
        have hnew : k' + min (manyN y) (m - k' + 1) = min (1 + manyN.go (ks.take (j + 1))) (m + 1) := by
          rw [take_next hy, many_app]
          simp only [manyN.go]
          omega
        obtain ⟨mo, hmo⟩ : ∃ mo, min (manyN y) (m - k' + 1) = mo := ⟨_, rfl⟩
        have hmo2 : mo ≤ 601 := by omega
        rw [hmo] at hcall hnew
        replace hnew : Hid _ := hnew
        clear v0 v1 v2 v3 hyV hy hkd ih hmo hkj
        go_wp2_with (go_at_call 33; refine hcall.mono ?_; rintro e w1 ⟨rfl, hb1⟩)
        go_roundw
        case rel => exact ⟨j + 1, k' + mo, by omega, by go_num, by go_num, hnew.out, ext_trans hbw hb1, block_below hb1 gw⟩
        case measure => simp [intOf]; omega
      · have hle' : ¬ (k' : Int) ≤ (m : Int) := by omega
        have hVk : V = k' := by
          rw [← hV.out]
          have h1 := hs.out
          obtain ⟨y, hy⟩ : ∃ y, ks[j]? = some y := ⟨_, List.getElem?_eq_getElem (show j < ks.length by have := hL.out; omega)⟩
          have := congrArg manyN.go (kids_split hy)
          rw [many_app] at this
          omega
        subst hVk
        go_wp2
        go_ret
        exact ⟨rfl, hbw⟩
    · have hge : ¬ (j : Int) < (L : Int) := by omega
      have hVk : V = k' := by
        rw [← hV.out]
        have h1 := hs.out
        have e : j = ks.length := by have := hL.out; omega
        rw [e, List.take_length] at h1
        omega
      subst hVk
      go_wp2
      go_ret
      exact ⟨rfl, hbw⟩
theorem many_any (n : Nd) : ManyC n := nd_ind many_step n
end Go.Proofs.YtnnppenlfocgiaaGreatDoor
namespace Go.Proofs.YtnnppenlfocgiaaGreatDoor
open Go.RowKit
open Go

def DeepC (n : Nd) : Prop := ∀ (m : Nat) (S : Nat → Prop) (b : Option Addr) (cap : Nat) (w : World), m ≤ 14 → manyN n ≤ 600 → NdV S w n (ndv n b cap) → Calls Tryz.prog 34 #[ndv n b cap, .int .i64 (m : Nat)] w fun e w' => e = .returned (.int .i64 ((min (deepN n) (m + 1) : Nat) : Int)) ∧ Below w.heap.size w w'
set_option maxRecDepth 20000 in
set_option maxHeartbeats 1000000 in
theorem deep_step (k0 : Int) (t0 : List UInt8) (n0 : Int) (ks : List Nd) (ih : ∀ y ∈ ks, DeepC y) : DeepC ⟨k0, t0, n0, ks⟩ := by
  intro m S b cap w hm hmx hn
  obtain ⟨b2, cap2, e2, hcap, hkids⟩ := hn.form
  simp only at e2 hcap hkids
  have e3 : b2 = b ∧ cap2 = cap := by
    simp only [Value.agg.injEq, Array.mk.injEq, List.cons.injEq, Value.slice.injEq, and_true, true_and] at e2
    exact ⟨e2.1.symm, e2.2.symm⟩
  obtain ⟨rfl, rfl⟩ := e3
  have hms : deepN ⟨k0, t0, n0, ks⟩ = deepN.go ks + 1 := rfl
  have hmx : manyN.go ks + 1 ≤ 600 := hmx
  obtain ⟨V, hV⟩ : ∃ V, min (deepN ⟨k0, t0, n0, ks⟩) (m + 1) = V := ⟨_, rfl⟩
  rw [hV]
  rw [hms] at hV
  dsimp only [ndv]
  obtain ⟨L, hL⟩ : ∃ L, ks.length = L := ⟨_, rfl⟩
  rw [hL] at hcap ⊢
  have hb0 := ext_alloc (Below.refl w.heap.size w) (.cells #[.int .i64 k0, sk t0, .int .i64 n0, .slice b2 L cap2] 24)
  have g0 := alloc_new w (.cells #[.int .i64 k0, sk t0, .int .i64 n0, .slice b2 L cap2] 24)
  have hLx : L ≤ 600 := by have := many_len ks; omega
  clear e2 hn hms
  replace hmx : Hid _ := hmx
  replace hV : Hid _ := hV
  replace hL : Hid _ := hL
  replace hkids : Hid _ := hkids
  go_enter Tryz.func34, Tryz.ntmps34
  go_wp2
  go_loopw [5, 6] (fun kk ix wr => ∃ j k' : Nat, j ≤ L ∧ ix = .int .i64 (j : Nat) ∧ kk = .int .i64 (k' : Nat) ∧ k' = min (deepN.go (ks.take j)) m ∧ Below w.heap.size w wr ∧ wr.heap[w.heap.size]? = some (.cells #[.int .i64 k0, sk t0, .int .i64 n0, .slice b2 L cap2] 24)) (fun _ ix _ => L - (intOf ix).toNat)
  case atStart => exact ⟨0, 0, by omega, rfl, rfl, by simp [deepN.go], hb0, g0⟩
  case round =>
    obtain ⟨j, k', hj, rfl, rfl, hs, hbw, gw⟩ := hrel
    have hk' : k' ≤ m := by omega
    replace hs : Hid _ := hs
    obtain ⟨q0, q1, q2, q3, _, _, _, _⟩ := in4 gw
    by_cases hlt : j < L
    · have hlt' : (j : Int) < (L : Int) := by omega
      by_cases hm0 : 0 < m
      · have hm0' : (0 : Int) < (m : Int) := by omega
        have hle' : (k' : Int) ≤ (m : Int) := by omega
        obtain ⟨y, hy⟩ : ∃ y, ks[j]? = some y := ⟨_, List.getElem?_eq_getElem (show j < ks.length by have := hL.out; omega)⟩
        rcases hkids.out with h | ⟨g, off, rfl, hSg, hkd⟩
        · rw [h] at hy
          simp at hy
        obtain ⟨b', cap', v0, v1, v2, v3, hyV⟩ := ndAt_val (hkd j y hy)
        have c0 : wr.cell? ⟨g, off + j * 4, none⟩ = some (.int .i64 y.k) := cellB hbw v0
        have c1 := cellB hbw v1
        have c2 := cellB hbw v2
        have c3 := cellB hbw v3
        have hym : manyN y ≤ 600 := by
          have h1 := hmx.out
          have h2 := congrArg manyN.go (kids_split hy)
          rw [many_app] at h2
          simp only [manyN.go] at h2
          omega
        have hcall := ih y (List.mem_of_getElem? hy) (m - 1) S b' cap' wr (by omega) hym (hyV.below hbw)
        rw [show ((m - 1 : Nat) : Int) = (m : Int) - 1 by omega, show m - 1 + 1 = m by omega] at hcall
        have hnew : max k' (min (deepN y) m) = min (deepN.go (ks.take (j + 1))) m := by
          have := hs.out
          rw [take_next hy, deep_app]
          simp only [deepN.go]
          omega
        obtain ⟨mo, hmo⟩ : ∃ mo, min (deepN y) m = mo := ⟨_, rfl⟩
        have hmo2 : mo ≤ 15 := by omega
        rw [hmo] at hcall hnew
        obtain ⟨k2, hk2⟩ : ∃ k2, max k' mo = k2 := ⟨_, rfl⟩
        rw [hk2] at hnew
        have hmax : max (k' : Int) (mo : Int) = (k2 : Int) := by omega
        replace hnew : Hid _ := hnew
        clear v0 v1 v2 v3 hyV hy hkd ih hmo hk2
        go_wp2_with (go_at_call 34; refine hcall.mono ?_; rintro e w1 ⟨rfl, hb1⟩)
        go_roundw
        case rel => exact ⟨j + 1, k2, by omega, by go_num, by go_num, hnew.out, ext_trans hbw hb1, block_below hb1 gw⟩
        case measure => simp [intOf]; omega
      · have hm0' : ¬ (0 : Int) < (m : Int) := by omega
        have hVk : V = k' + 1 := by
          rw [← hV.out]
          have h1 := hs.out
          omega
        subst hVk
        go_wp2
        go_ret
        exact ⟨rfl, hbw⟩
    · have hge : ¬ (j : Int) < (L : Int) := by omega
      have hVk : V = k' + 1 := by
        rw [← hV.out]
        have h1 := hs.out
        have e : j = ks.length := by have := hL.out; omega
        rw [e, List.take_length] at h1
        omega
      subst hVk
      go_wp2
      go_ret
      exact ⟨rfl, hbw⟩
theorem deep_any (n : Nd) : DeepC n := nd_ind deep_step n
set_option maxRecDepth 20000 in
set_option maxHeartbeats 1000000 in
theorem rfits_any (S : Nat → Prop) (n : Nd) (b : Option Addr) (cap : Nat) (w : World) (hn : NdV S w n (ndv n b cap)) : Calls Tryz.prog 18 #[ndv n b cap] w fun e w' => e = .returned (.bool (fitB n)) ∧ Below w.heap.size w w' := by
  have hb0 := ext_alloc (Below.refl w.heap.size w) (nbx n b cap)
  have hc := many_any n 600 S b cap (w.alloc (nbx n b cap)) (by omega) (hn.below hb0)
  obtain ⟨c0, c1, c2, c3, _, _, _, _⟩ := in4 (alloc_new w (nbx n b cap))
  have g0 := alloc_new w (nbx n b cap)
  unfold fitB
  by_cases hm : manyN n ≤ 600
  · rw [show min (manyN n) (600 + 1) = manyN n by omega] at hc
    have hd := fun u (hb : Below (w.alloc (nbx n b cap)).heap.size (w.alloc (nbx n b cap)) u) => deep_any n 14 S b cap u (by omega) hm ((hn.below hb0).below hb)
    have hV : decide (deepN n ≤ 14 ∧ manyN n ≤ 600) = decide (min (deepN n) (14 + 1) ≤ 14) := decide_eq_decide.2 (by omega)
    rw [hV]
    obtain ⟨v, hv⟩ : ∃ v, min (deepN n) (14 + 1) = v := ⟨_, rfl⟩
    rw [hv] at hd ⊢
    obtain ⟨x, hx⟩ : ∃ x, manyN n = x := ⟨_, rfl⟩
    rw [hx] at hc hm
    have hm' : ¬ (600 : Int) < (x : Int) := by omega
    clear hV hv hx
    go_enter Tryz.func18, Tryz.ntmps18
    go_wp2_with (first | (go_at_call 33; refine hc.mono ?_; rintro e w1 ⟨rfl, hb1⟩; have g1 := block_below hb1 g0; obtain ⟨x0, x1, x2, x3, _, _, _, _⟩ := in4 g1) | (go_at_call 34; refine (hd _ hb1).mono ?_; rintro e w2 ⟨rfl, hb2⟩))
    go_ret
    exact ⟨show Ending.returned (Value.bool (decide ((v : Int) ≤ 14))) = Ending.returned (Value.bool (decide (v ≤ 14))) from congrArg (fun x => Ending.returned (Value.bool x)) (decide_eq_decide.2 (by omega)), ext_trans (ext_trans hb0 hb1) hb2⟩
  · rw [show min (manyN n) (600 + 1) = 601 by omega] at hc
    rw [decide_eq_false (fun h => hm h.2)]
    go_enter Tryz.func18, Tryz.ntmps18
    go_wp2_with (go_at_call 33; refine hc.mono ?_; rintro e w1 ⟨rfl, hb1⟩)
    go_ret
    exact ⟨rfl, ext_trans hb0 hb1⟩
end Go.Proofs.YtnnppenlfocgiaaGreatDoor
namespace Go.Proofs.YtnnppenlfocgiaaGreatDoor
open Go.RowKit
open Go

def SameC (n : Nd) : Prop := ∀ (S S' : Nat → Prop) (b b' : Option Addr) (cap cap' : Nat) (w : World), manyN n ≤ 600 → NdV S w n (ndv n b cap) → NdV S' w n (ndv n b' cap') → Calls Tryz.prog 7 #[ndv n b cap, ndv n b' cap'] w fun e w' => e = .returned (.bool true) ∧ Below w.heap.size w w'
theorem ndv_parts {S : Nat → Prop} {W : World} {k0 : Int} {t0 : List UInt8} {n0 : Int} {ks : List Nd} {b : Option Addr} {cap : Nat} (hn : NdV S W ⟨k0, t0, n0, ks⟩ (ndv ⟨k0, t0, n0, ks⟩ b cap)) : ks.length ≤ cap ∧ (ks = [] ∨ ∃ g off, b = some ⟨g, off, none⟩ ∧ S g ∧ ∀ j y, ks[j]? = some y → NdAt S W y (fun i => W.cell? ⟨g, off + j * 4 + i, none⟩)) := by
  obtain ⟨b2, cap2, e2, hcap, hkids⟩ := hn.form
  simp only at e2 hcap hkids
  have e3 : b2 = b ∧ cap2 = cap := by
    simp only [Value.agg.injEq, Array.mk.injEq, List.cons.injEq, Value.slice.injEq, and_true, true_and] at e2
    exact ⟨e2.1.symm, e2.2.symm⟩
  obtain ⟨rfl, rfl⟩ := e3
  exact ⟨hcap, hkids⟩
set_option maxRecDepth 20000 in
set_option maxHeartbeats 1000000 in
theorem same_step (k0 : Int) (t0 : List UInt8) (n0 : Int) (ks : List Nd) (ih : ∀ y ∈ ks, SameC y) : SameC ⟨k0, t0, n0, ks⟩ := by
  intro S S' b b' cap cap' w hmx hn hn'
  have hmx : manyN.go ks + 1 ≤ 600 := hmx
  obtain ⟨hcap, hkids⟩ := ndv_parts hn
  obtain ⟨hcap', hkids'⟩ := ndv_parts hn'
  dsimp only [ndv]
  obtain ⟨L, hL⟩ : ∃ L, ks.length = L := ⟨_, rfl⟩
  rw [hL] at hcap hcap' ⊢
  obtain ⟨g0, g1⟩ := new2 w (.cells #[.int .i64 k0, sk t0, .int .i64 n0, .slice b L cap] 24) (.cells #[.int .i64 k0, sk t0, .int .i64 n0, .slice b' L cap'] 24)
  have hb0 := below2 w (.cells #[.int .i64 k0, sk t0, .int .i64 n0, .slice b L cap] 24) (.cells #[.int .i64 k0, sk t0, .int .i64 n0, .slice b' L cap'] 24)
  have hLx : L ≤ 600 := by have := many_len ks; omega
  clear hn hn'
  replace hmx : Hid _ := hmx
  replace hL : Hid _ := hL
  replace hkids : Hid _ := hkids
  replace hkids' : Hid _ := hkids'
  go_enter Tryz.func7, Tryz.ntmps7
  go_wp2
  go_loopw [5] (fun ix wr => ∃ j : Nat, j ≤ L ∧ ix = .int .i64 (j : Nat) ∧ Below w.heap.size w wr ∧ wr.heap[w.heap.size]? = some (.cells #[.int .i64 k0, sk t0, .int .i64 n0, .slice b L cap] 24) ∧ wr.heap[w.heap.size + 1]? = some (.cells #[.int .i64 k0, sk t0, .int .i64 n0, .slice b' L cap'] 24)) (fun ix _ => L - (intOf ix).toNat)
  case atStart => exact ⟨0, by omega, rfl, hb0, g0, g1⟩
  case round =>
    obtain ⟨j, hj, rfl, hbw, gw, gw'⟩ := hrel
    obtain ⟨q0, q1, q2, q3, _, _, _, _⟩ := in4 gw
    obtain ⟨r0, r1, r2, r3, _, _, _, _⟩ := in4 gw'
    by_cases hlt : j < L
    · have hlt' : (j : Int) < (L : Int) := by omega
      obtain ⟨y, hy⟩ : ∃ y, ks[j]? = some y := ⟨_, List.getElem?_eq_getElem (show j < ks.length by have := hL.out; omega)⟩
      rcases hkids.out with h | ⟨g, off, rfl, hSg, hkd⟩
      · rw [h] at hy
        simp at hy
      rcases hkids'.out with h | ⟨g', off', rfl, hSg', hkd'⟩
      · rw [h] at hy
        simp at hy
      obtain ⟨yb, ycap, v0, v1, v2, v3, hyV⟩ := ndAt_val (hkd j y hy)
      obtain ⟨yb', ycap', v0', v1', v2', v3', hyV'⟩ := ndAt_val (hkd' j y hy)
      have c0 : wr.cell? ⟨g, off + j * 4, none⟩ = some (.int .i64 y.k) := cellB hbw v0
      have c1 := cellB hbw v1
      have c2 := cellB hbw v2
      have c3 := cellB hbw v3
      have d0 : wr.cell? ⟨g', off' + j * 4, none⟩ = some (.int .i64 y.k) := cellB hbw v0'
      have d1 := cellB hbw v1'
      have d2 := cellB hbw v2'
      have d3 := cellB hbw v3'
      have hym : manyN y ≤ 600 := by
        have h1 := hmx.out
        have h2 := congrArg manyN.go (kids_split hy)
        rw [many_app] at h2
        simp only [manyN.go] at h2
        omega
      have hcall := fun u (hb : Below wr.heap.size wr u) => ih y (List.mem_of_getElem? hy) S S' yb yb' ycap ycap' u hym ((hyV.below hbw).below hb) ((hyV'.below hbw).below hb)
      clear v0 v1 v2 v3 hyV hy hkd ih v0' v1' v2' v3' hyV' hkd'
      go_wp2
      go_region_with (go_at_call 7; refine (hcall _ ((Below.refl _ _).drew)).mono ?_; rintro e w1 ⟨rfl, hb1⟩)
      all_goals
        go_wp2
        go_roundw
        case rel => exact ⟨j + 1, by omega, by go_num, ext_trans (hbw.drew) hb1, block_below (W := wr.drew) hb1 gw, block_below (W := wr.drew) hb1 gw'⟩
        case measure => simp [intOf]; omega
    · have hge : ¬ (j : Int) < (L : Int) := by omega
      go_wp2
      go_ret
      exact ⟨rfl, hbw⟩
theorem same_any (n : Nd) : SameC n := nd_ind same_step n
end Go.Proofs.YtnnppenlfocgiaaGreatDoor
namespace Go.Proofs.YtnnppenlfocgiaaGreatDoor
open Go.RowKit
open Go

/-- Kids in memory. -/
def KA (S : Nat → Prop) (w : World) (b : Option Addr) (cap : Nat) (ks : List Nd) : Prop := ks.length ≤ cap ∧ (ks = [] ∨ ∃ g off, b = some ⟨g, off, none⟩ ∧ S g ∧ ∀ j y, ks[j]? = some y → NdAt S w y (fun i => w.cell? ⟨g, off + j * 4 + i, none⟩))
theorem KA.of {S : Nat → Prop} {w : World} {k : Int} {t : List UInt8} {n : Int} {ks : List Nd} {b : Option Addr} {cap : Nat} (h : NdV S w ⟨k, t, n, ks⟩ (ndv ⟨k, t, n, ks⟩ b cap)) : KA S w b cap ks := ndv_parts h
/-- A kid, as it is read. -/
theorem KA.at {S : Nat → Prop} {w : World} {b : Option Addr} {cap : Nat} {ks : List Nd} (h : KA S w b cap ks) {j : Nat} {y : Nd} (hy : ks[j]? = some y) : ∃ g off b' cap', b = some ⟨g, off, none⟩ ∧ w.cell? ⟨g, off + j * 4, none⟩ = some (.int .i64 y.k) ∧ w.cell? ⟨g, off + j * 4 + 1, none⟩ = some (sk y.t) ∧ w.cell? ⟨g, off + j * 4 + 2, none⟩ = some (.int .i64 y.n) ∧ w.cell? ⟨g, off + j * 4 + 3, none⟩ = some (.slice b' y.kids.length cap') ∧ NdV S w y (ndv y b' cap') := by
  rcases h.2 with h0 | ⟨g, off, rfl, _, hkd⟩
  · rw [h0] at hy; simp at hy
  · obtain ⟨b', cap', v0, v1, v2, v3, hyV⟩ := ndAt_val (hkd j y hy)
    exact ⟨g, off, b', cap', rfl, v0, v1, v2, v3, hyV⟩
theorem KA.on {S : Nat → Prop} {w w' : World} {b : Option Addr} {cap : Nat} {ks : List Nd} (h : KA S w b cap ks) (hW : ∀ g, S g → g < w.heap.size → w'.heap[g]? = w.heap[g]?) : KA S w' b cap ks := by
  refine ⟨h.1, ?_⟩
  rcases h.2 with h0 | ⟨g, off, rfl, hs, hkd⟩
  · exact .inl h0
  · refine .inr ⟨g, off, rfl, hs, fun j y hy => ?_⟩
    have hlt : g < w.heap.size := World.block_lt_of_cell? _ _ (hkd j y hy).first
    exact NdAt.on (fun q hq hl => ⟨hq, hW q hq hl⟩) y _ _ (fun i v hv => (World.cell?_of_block (a := ⟨g, _, none⟩) (hW g hs hlt)).trans hv) (hkd j y hy)
def funV (ks : List Nd) (s : List UInt8) : Int := match funI (ks.map Nd.t) s with | some i => (i : Nat) | none => -1
theorem funI_none {ks : List Nd} {s : List UInt8} (h : ∀ k x, k < ks.length → ks[k]? = some x → x.t ≠ s) : funI (ks.map Nd.t) s = none := by
  unfold funI
  rw [List.findIdx?_eq_none_iff]
  intro x hx
  obtain ⟨y, hy, rfl⟩ := List.mem_map.1 hx
  obtain ⟨k, hk⟩ := List.getElem?_of_mem hy
  simpa using h k y (List.getElem?_eq_some_iff.1 hk).1 hk
theorem funI_some {ks : List Nd} {s : List UInt8} {i : Nat} {x : Nd} (hx : ks[i]? = some x) (hn : x.t = s) (h : ∀ k x, k < i → ks[k]? = some x → x.t ≠ s) : funI (ks.map Nd.t) s = some i := by
  unfold funI
  rw [List.findIdx?_eq_some_iff_getElem]
  obtain ⟨hi, e⟩ := List.getElem?_eq_some_iff.1 hx
  refine ⟨by simpa using hi, by simp [e, hn], fun j hj => ?_⟩
  have hj' : j < ks.length := by omega
  simpa using h j ks[j] hj (List.getElem?_eq_getElem hj')

set_option maxRecDepth 20000 in
set_option maxHeartbeats 1000000 in
theorem fun_any (w0 : World) (B : Nat) (u : Nd) (ub : Option Addr) (uc : Nat) (sl : List Int) (ls : List Ld) (c a : Int) (st : Bool) (s : List UInt8) (S : Nat → Prop) (W : World) (h : Lo w0 B u ub uc sl ls c a st W) (hk : KA S W ub uc u.kids) (hl : u.kids.length ≤ 100000) : Calls Tryz.prog 12 #[.pointer (some ⟨B, 0, none⟩), sk s] W fun e W' => e = .returned (.int .i64 (funV u.kids s)) ∧ W' = W := by
  obtain ⟨⟨sb, sc, lb, lc, h1, h2, h3, h4, h5⟩, h6, h7⟩ := h
  obtain ⟨k0, t0, n0, ks⟩ := u
  simp only at hk hl
  obtain ⟨R, hR⟩ : ∃ R, funV ks s = R := ⟨_, rfl⟩
  show Calls Tryz.prog 12 _ W fun e W' => e = .returned (.int .i64 (funV ks s)) ∧ W' = W
  rw [hR]
  obtain ⟨L, hL⟩ : ∃ L, ks.length = L := ⟨_, rfl⟩
  have c3 : W.cell? ⟨B, 3, none⟩ = some (.slice ub L uc) := by rw [← hL]; exact cell_block h1 rfl
  rw [hL] at hl
  replace hR : Hid _ := hR
  replace hL : Hid _ := hL
  replace hk : Hid (KA S W ub uc ks) := hk
  clear h1 h2 h3 h4 h5 h6
  go_enter Tryz.func12, Tryz.ntmps12
  go_wp2
  go_loop [5] (fun i => ∃ j : Nat, j ≤ L ∧ i = .int .i64 (j : Nat) ∧ ∀ k x, k < j → ks[k]? = some x → x.t ≠ s) (fun i => L - (intOf i).toNat)
  case atStart => exact ⟨0, Nat.zero_le _, rfl, fun k x hk => by omega⟩
  case round =>
    obtain ⟨j, hj, rfl, hno⟩ := hrel
    replace hno : Hid _ := hno
    by_cases hj0 : j = L
    · subst hj0
      have e : R = -1 := by
        rw [← hR.out, funV, funI_none (fun k x hk hx => hno.out k x (by have := hL.out; omega) hx)]
      subst e
      go_wp2
      go_ret
      exact ⟨rfl, rfl⟩
    · obtain ⟨x, hx⟩ : ∃ x, ks[j]? = some x := ⟨_, List.getElem?_eq_getElem (show j < ks.length by have := hL.out; omega)⟩
      obtain ⟨g, off, b', cap', rfl, v0, v1, v2, v3, _⟩ := KA.at hk.out hx
      have hlt : (j : Int) < (L : Int) := by omega
      have hge : (0 : Int) ≤ (j : Int) := by omega
      clear v0 v2 v3
      by_cases hn : x.t = s
      · have e : R = (j : Nat) := by
          rw [← hR.out, funV, funI_some hx hn (fun k y hk hy => hno.out k y hk hy)]
        subst e
        rw [hn] at v1
        clear hx hn
        go_wp2
        go_ret
        exact ⟨rfl, rfl⟩
      · have hnext : Hid (∀ k y, k < j + 1 → ks[k]? = some y → y.t ≠ s) := fun k y hk hy => by
          by_cases e : k = j
          · subst e; rw [hx] at hy; cases hy; exact hn
          · exact hno.out k y (by omega) hy
        have hneb : (x.t == s) = false := by simpa using hn
        obtain ⟨xk, xt, xn, xs⟩ := x
        simp only at v1 hneb
        clear hx hn
        go_wp2
        go_round
        case rel => exact ⟨j + 1, by omega, by go_num, hnext.out⟩
        case measure => simp [intOf]; omega
end Go.Proofs.YtnnppenlfocgiaaGreatDoor
namespace Go.Proofs.YtnnppenlfocgiaaGreatDoor
open Go.RowKit
open Go

/-- Blocks that lie apart from the Look's own. -/
def SA (S : Nat → Prop) (B : Nat) (W : World) : Prop := ∀ g, S g → g < W.heap.size ∧ ApL B W g
theorem SA.on {S : Nat → Prop} {B : Nat} {W W' : World} (h : SA S B W) (k : LK B W W') : SA S B W' ∧ ∀ g, S g → W'.heap[g]? = W.heap[g]? := by
  refine ⟨fun g hg => ?_, fun g hg => ?_⟩
  · obtain ⟨h1, h2⟩ := h g hg
    obtain ⟨h3, h4⟩ := k g _ h2 (Array.getElem?_eq_getElem h1)
    exact ⟨block_lt h3, h4⟩
  · obtain ⟨h1, h2⟩ := h g hg
    obtain ⟨h3, h4⟩ := k g _ h2 (Array.getElem?_eq_getElem h1)
    rw [h3, Array.getElem?_eq_getElem h1]
theorem KA.lk {S : Nat → Prop} {B : Nat} {w w' : World} {b : Option Addr} {cap : Nat} {ks : List Nd} (h : KA S w b cap ks) (hs : SA S B w) (k : LK B w w') : KA S w' b cap ks := h.on fun g hg _ => (hs.on k).2 g hg
theorem ApL.below {B : Nat} {W W' : World} {t : Nat} (ha : ApL B W t) (hB : B < W.heap.size) (hb : Below W.heap.size W W') : ApL B W' t := ⟨ha.1, fun v0 v1 v2 v3 v4 v5 v6 v7 v8 hv => ha.2 v0 v1 v2 v3 v4 v5 v6 v7 v8 ((hb.block B hB).symm.trans hv)⟩
theorem Lo.ap {w0 : World} {B : Nat} {u : Nd} {ub : Option Addr} {uc : Nat} {sl : List Int} {ls : List Ld} {c a : Int} {st : Bool} {W : World} (h : Lo w0 B u ub uc sl ls c a st W) {t : Nat} (ht : W.heap.size ≤ t) : ApL B W t := by
  have hlt := h.lt
  obtain ⟨⟨sb, sc, lb, lc, h1, h2, h3, h4, h5⟩, h6, h7⟩ := h
  refine ⟨by omega, fun v0 v1 v2 v3 v4 v5 v6 v7 v8 hv => ?_⟩
  have hv' := h1.symm.trans hv
  have ev : Value.slice sb sl.length sc = v4 ∧ Value.slice lb ls.length lc = v5 := by
    simp at hv'
    exact ⟨hv'.2.2.2.2.1, hv'.2.2.2.2.2.1⟩
  obtain ⟨rfl, rfl⟩ := ev
  exact ⟨fun e => by have := own_block_lt h2 e; omega, fun e => by have := own_block_lt h3 e; omega⟩
/-- A slot is set. -/
theorem Lo.slot {w0 : World} {B : Nat} {u : Nd} {ub : Option Addr} {uc : Nat} {sl : List Int} {ls : List Ld} {c a : Int} {st : Bool} {W : World} (h : Lo w0 B u ub uc sl ls c a st W) {j : Nat} (hj : j < sl.length) : ∃ g sc, W.cell? ⟨B, 4, none⟩ = some (.slice (some ⟨g, 0, none⟩) sl.length sc) ∧ (∃ x, W.cell? ⟨g, j, none⟩ = some (.int .i64 x)) ∧ W.frozen? ⟨g, j, none⟩ = false ∧
    ∀ v, Lo w0 B u ub uc (sl.set j v) ls c a st (W.setCell ⟨g, j, none⟩ (iv v)) ∧ LK B W (W.setCell ⟨g, j, none⟩ (iv v)) := by
  obtain ⟨⟨sb, sc, lb, lc, h1, h2, h3, h4, h5⟩, h6, h7⟩ := h
  obtain ⟨hl0, h2'⟩ := h2
  rcases h2' with ⟨e, h0⟩ | ⟨g, cap, cur, e, hbase, hg, hcap, hmax, hsz, ht⟩
  · omega
  cases e
  have hgB : g ≠ B := (h4 g rfl).2
  have hc : cur[j]? = some (iv sl[j]) := by
    have e1 : (cur.toList.take (sl.length * 1))[j]? = (sl.map iv)[j]? := by rw [ht]
    rw [List.getElem?_take_of_lt (by omega)] at e1
    simpa [hj] using e1
  refine ⟨g, sc, cell_block h1 rfl, ⟨sl[j], cell_block hg hc⟩, frozen_block hg, fun v => ?_⟩
  have hg2 := set_block (i := j) (iv v) hg
  have hB2 : (W.setCell ⟨g, j, none⟩ (iv v)).heap[B]? = W.heap[B]? := set1_other _ _ (Ne.symm hgB)
  refine ⟨⟨⟨some ⟨g, 0, none⟩, sc, lb, lc, ?_, ?_, ?_, ?_, ?_⟩, ?_, h7⟩, ?_⟩
  · rw [List.length_set]
    exact hB2.trans h1
  · rw [List.length_set]
    refine ⟨by simp, .inr ⟨g, sc, _, rfl, hbase, hg2, hcap, hmax, by simpa using hsz, ?_⟩⟩
    rw [Array.toList_setIfInBounds, List.take_set, ht, List.map_set]
  · exact own_keepT h3 (fun q e _ => set1_other _ _ (fun e2 => (h5 q e).2.2 (by rw [e2]; rfl)))
  · rw [List.length_set]
    exact h4
  · rw [List.length_set]
    exact h5
  · exact h6.setCell (p := ⟨g, j, none⟩) (h4 g rfl).1 _
  · intro t o ha ho
    have htg : t ≠ g := fun e => (ha.2 _ _ _ _ _ _ _ _ _ h1).1 (by rw [e]; rfl)
    refine ⟨(set1_other _ _ htg).trans ho, ha.1, fun v0 v1 v2 v3 v4 v5 v6 v7 v8 hv => ha.2 v0 v1 v2 v3 v4 v5 v6 v7 v8 (hB2.symm.trans hv)⟩
end Go.Proofs.YtnnppenlfocgiaaGreatDoor
namespace Go.Proofs.YtnnppenlfocgiaaGreatDoor
open Go.RowKit
open Go

/-- What going over an expression leaves. -/
structure XQ (w0 : World) (B : Nat) (u : Nd) (ub : Option Addr) (uc : Nat) (bl : List (List Lc)) (c a : Int) (s0 m : Nat) (R : CR) (W : World) (e : Ending) (W' : World) : Prop where
  e : e = .returned (.tuple #[])
  k : LK B W W'
  r : (∃ sl', R = .ok ⟨sl', bl⟩ ∧ s0 < sl'.length ∧ sl'.length ≤ s0 + m ∧ Lo w0 B u ub uc sl' (flatD bl) c a false W') ∨ (∃ cd at_ sl', R = .error (cd, at_) ∧ s0 < sl'.length ∧ sl'.length ≤ s0 + m ∧ Lo w0 B u ub uc sl' (flatD bl) cd (at_ : Nat) true W')
def XC (n : Nd) : Prop := ∀ (w0 : World) (B : Nat) (u : Nd) (ub : Option Addr) (uc : Nat) (sl : List Int) (bl : List (List Lc)) (c a : Int) (S : Nat → Prop) (b : Option Addr) (cap : Nat) (W : World), Lo w0 B u ub uc sl (flatD bl) c a false W → KA S W ub uc u.kids → NdV S W n (ndv n b cap) → SA S B W → sl.length + manyN n ≤ 100000 → sumL bl ≤ 100000 → u.kids.length ≤ 100000 → NB bl → Calls Tryz.prog 54 #[.pointer (some ⟨B, 0, none⟩), ndv n b cap] W (XQ w0 B u ub uc bl c a sl.length (manyN n) (visC (u.kids.map Nd.t) false n ⟨sl, bl⟩) W)
/-- Between two kids. -/
def XI (w0 : World) (B : Nat) (u : Nd) (ub : Option Addr) (uc : Nat) (bl : List (List Lc)) (c a : Int) (S : Nat → Prop) (n : Nd) (b : Option Addr) (cap : Nat) (W : World) (t M s0 : Nat) (R : CR) (j : Nat) (wr : World) : Prop :=
  wr.heap[t]? = some (nbx n b cap) ∧ ApL B wr t ∧ LK B W wr ∧ SA S B wr ∧ KA S wr ub uc u.kids ∧ KA S wr b cap n.kids ∧
  ((∃ sl', visC.go (u.kids.map Nd.t) n.k n.t s0 j (n.kids.drop j) ⟨sl', bl⟩ = R ∧ s0 < sl'.length ∧ sl'.length + manyN.go (n.kids.drop j) ≤ M ∧ Lo w0 B u ub uc sl' (flatD bl) c a false wr) ∨ (∃ cd at_ sl', R = .error (cd, at_) ∧ s0 < sl'.length ∧ sl'.length ≤ M ∧ Lo w0 B u ub uc sl' (flatD bl) cd (at_ : Nat) true wr))

set_option maxRecDepth 20000 in
set_option maxHeartbeats 2000000 in
theorem expr_kids (k0 : Int) (t0 : List UInt8) (n0 : Int) (ks : List Nd) (hk : exprK k0) (h18 : k0 ≠ 18) (ih : ∀ y ∈ ks, XC y) : XC ⟨k0, t0, n0, ks⟩ := by
  intro w0 B u ub uc sl bl c a S b cap W hLo hKu hN hSA hM hbl hul hNB
  have hKn := KA.of hN
  have hd : visC (u.kids.map Nd.t) false ⟨k0, t0, n0, ks⟩ ⟨sl, bl⟩ = (visC.go (u.kids.map Nd.t) k0 t0 sl.length 0 ks ⟨sl ++ [-1], bl⟩).bind (fun c' => if k0 = 21 ∧ 6 < ks.length then .error (1, sl.length) else .ok c') := by
    rw [visC]
    unfold exprK at hk
    rw [if_neg (by omega)]
    show Except.bind _ _ = _
    congr 1
    funext c'
    rw [if_neg (by omega), actC, if_neg (by omega), if_neg h18, if_neg (by omega)]
    by_cases h21 : k0 = 21
    · simp [h21]
    · simp [h21]
  have hms : manyN ⟨k0, t0, n0, ks⟩ = manyN.go ks + 1 := rfl
  rw [hd]
  obtain ⟨R, hR⟩ : ∃ R, visC.go (u.kids.map Nd.t) k0 t0 sl.length 0 ks ⟨sl ++ [-1], bl⟩ = R := ⟨_, rfl⟩
  obtain ⟨M, hMd⟩ : ∃ M, manyN ⟨k0, t0, n0, ks⟩ = M := ⟨_, rfl⟩
  rw [hR, hMd]
  rw [hMd] at hM hms
  obtain ⟨s0, hs0⟩ : ∃ s0, sl.length = s0 := ⟨_, rfl⟩
  have hb0 := ext_alloc (Below.refl W.heap.size W) (nbx ⟨k0, t0, n0, ks⟩ b cap)
  have g0 := alloc_new W (nbx ⟨k0, t0, n0, ks⟩ b cap)
  have ha0 := (hLo.ap (Nat.le_refl _)).below hLo.lt hb0
  have hlk0 := LK.below hLo.lt hb0
  have hLo1 := hLo.on hb0
  have hnum := fun V (h : Lo w0 B u ub uc sl (flatD bl) c a false V) => number_any w0 B u ub uc sl (flatD bl) c a false V h (by omega)
  have hall := many_len ks
  obtain ⟨t, ht⟩ : ∃ t, W.heap.size = t := ⟨_, rfl⟩
  rw [ht] at g0 ha0
  rw [hs0] at hnum hR hM ⊢
  replace hR : Hid _ := hR
  replace ih : Hid (∀ y ∈ ks, XC y) := ih
  have hkk : Hid (exprK k0) := hk
  go_enter Tryz.func54, Tryz.ntmps54
  go_wp2_with (go_at_call 10; refine (hnum _ hLo1).mono ?_; rintro e w1 ⟨rfl, hL1, hk1⟩)
  clear hnum hLo1 hLo hN
  have hSA1 := (hSA.on (hlk0.trans hk1))
  have hI : XI w0 B u ub uc bl c a S ⟨k0, t0, n0, ks⟩ b cap W t (s0 + M) s0 R 0 w1 := by
    obtain ⟨q1, q2⟩ := hk1 t _ ha0 g0
    exact ⟨q1, q2, hlk0.trans hk1, hSA1.1, hKu.lk hSA (hlk0.trans hk1), hKn.lk hSA (hlk0.trans hk1), .inl ⟨sl ++ [-1], hR.out, by simp; omega, by simp; omega, hL1⟩⟩
  clear hSA1 hL1 hk1 ha0 g0 hb0 hlk0 hKu hKn hSA
  go_loopw [5] (fun ix wr => ∃ j : Nat, j ≤ ks.length ∧ ix = .int .i64 (j : Nat) ∧ XI w0 B u ub uc bl c a S ⟨k0, t0, n0, ks⟩ b cap W t (s0 + M) s0 R j wr) (fun ix _ => ks.length - (intOf ix).toNat)
  case atStart => exact ⟨0, Nat.zero_le _, rfl, hI⟩
  case round =>
    obtain ⟨j, hj, rfl, g, ha, hlk, hS1, hKu, hKn, hst⟩ := hrel
    clear hI
    simp only at hKn hst
    obtain ⟨q0, q1, q2, q3, _, _, _, _⟩ := in4 g
    simp only at q0 q1 q2 q3
    have e18 : (k0 == 18) = false := by simpa using h18
    rcases hst with ⟨sl', hgo, hs1, hs2, hLo⟩ | ⟨cd, at_, sl', hRe, hs1, hs2, hLo⟩
    · obtain ⟨c8, _, _, _, _, _⟩ := hLo.cells
      by_cases hlt : j < ks.length
      · have hlt' : (j : Int) < (ks.length : Int) := by omega
        obtain ⟨y, hy⟩ : ∃ y, ks[j]? = some y := ⟨_, List.getElem?_eq_getElem hlt⟩
        obtain ⟨g', off, b', cap', rfl, v0, v1, v2, v3, hyV⟩ := KA.at hKn hy
        have hdr : ks.drop j = y :: ks.drop (j + 1) := by rw [List.drop_eq_getElem_cons hlt]; congr 1; exact (List.getElem?_eq_some_iff.1 hy).2
        have hcall := ih.out y (List.mem_of_getElem? hy) w0 B u ub uc sl' bl c a S b' cap' wr hLo hKu hyV hS1 (by rw [hdr] at hs2; simp only [manyN.go] at hs2; omega) hbl hul hNB
        replace hgo : Hid _ := hgo
        replace hs2 : Hid _ := hs2
        replace hdr : Hid (ks.drop j = y :: ks.drop (j + 1)) := hdr
        clear hy
        go_wp2_with (go_at_call 54; refine hcall.mono ?_; rintro e w2 ⟨rfl, hk2, hr2⟩)
        go_roundw
        case rel =>
          obtain ⟨g2, ha2⟩ := hk2 t _ ha g
          refine ⟨j + 1, by omega, by go_num, g2, ha2, hlk.trans hk2, (hS1.on hk2).1, hKu.lk hS1 hk2, hKn.lk hS1 hk2, ?_⟩
          have hgo' := hgo.out
          have hs2' := hs2.out
          rw [hdr.out] at hgo' hs2'
          simp only [manyN.go] at hs2'
          rw [visC.go, if_neg (by have := hkk.out; unfold exprK at this; omega)] at hgo'
          rcases hr2 with ⟨sl2, e2, p1, p2, p3⟩ | ⟨cd, at_, sl2, e2, p1, p2, p3⟩
          · rw [e2] at hgo'
            exact .inl ⟨sl2, hgo', by omega, by simp only; omega, p3⟩
          · rw [e2] at hgo'
            exact .inr ⟨cd, at_, sl2, hgo'.symm, by omega, by omega, p3⟩
        case measure => simp [intOf]; omega
      · have hlt' : ¬ (j : Int) < (ks.length : Int) := by omega
        have hRo : R = .ok ⟨sl', bl⟩ := by
          rw [← hgo, List.drop_eq_nil_of_le (by omega), visC.go]
        subst hRo
        by_cases h21 : k0 = 21
        · subst h21
          by_cases h6 : ks.length ≤ 6
          · have h6' : (ks.length : Int) ≤ 6 := by omega
            have hun := unless_any w0 B u ub uc sl' (flatD bl) c a false true 1 (s0 : Nat) wr hLo
            clear hgo
            go_wp2_with (go_at_call 13; refine hun.mono ?_; rintro e w2 ⟨rfl, hL2, hk2⟩)
            go_end0
            exact ⟨rfl, hlk.trans hk2, .inl ⟨sl', by simp [Except.bind], by omega, by omega, hL2⟩⟩
          · have h6' : ¬ (ks.length : Int) ≤ 6 := by omega
            have hun := unless_any w0 B u ub uc sl' (flatD bl) c a false false 1 (s0 : Nat) wr hLo
            clear hgo
            go_wp2_with (go_at_call 13; refine hun.mono ?_; rintro e w2 ⟨rfl, hL2, hk2⟩)
            go_end0
            exact ⟨rfl, hlk.trans hk2, .inr ⟨1, s0, sl', by simp [Except.bind], by omega, by omega, hL2⟩⟩
        · have e21 : (k0 == 21) = false := by simpa using h21
          clear hgo
          go_wp2
          go_end0
          exact ⟨rfl, hlk, .inl ⟨sl', by simp [Except.bind], by omega, by omega, hLo⟩⟩
    · obtain ⟨c8, _, _, _, _, _⟩ := hLo.cells
      subst hRe
      by_cases h21 : k0 = 21
      · subst h21
        have hun := fun q => unless_any w0 B u ub uc sl' (flatD bl) cd (at_ : Nat) true q 1 (s0 : Nat) wr hLo
        have hul2 : ∀ q, unl q 1 (s0 : Nat) (cd, ((at_ : Nat) : Int), true) = (cd, ((at_ : Nat) : Int), true) := fun q => by simp [unl]
        simp only [hul2] at hun
        clear hul2
        by_cases h6 : ks.length ≤ 6
        · have h6' : (ks.length : Int) ≤ 6 := by omega
          by_cases hlt : j < ks.length
          · have hlt' : (j : Int) < (ks.length : Int) := by omega
            go_wp2_with (go_at_call 13; refine (hun _).mono ?_; rintro e w2 ⟨rfl, hL2, hk2⟩)
            go_end0
            exact ⟨rfl, hlk.trans hk2, .inr ⟨cd, at_, sl', rfl, by omega, by omega, hL2⟩⟩
          · have hlt' : ¬ (j : Int) < (ks.length : Int) := by omega
            go_wp2_with (go_at_call 13; refine (hun _).mono ?_; rintro e w2 ⟨rfl, hL2, hk2⟩)
            go_end0
            exact ⟨rfl, hlk.trans hk2, .inr ⟨cd, at_, sl', rfl, by omega, by omega, hL2⟩⟩
        · have h6' : ¬ (ks.length : Int) ≤ 6 := by omega
          by_cases hlt : j < ks.length
          · have hlt' : (j : Int) < (ks.length : Int) := by omega
            go_wp2_with (go_at_call 13; refine (hun _).mono ?_; rintro e w2 ⟨rfl, hL2, hk2⟩)
            go_end0
            exact ⟨rfl, hlk.trans hk2, .inr ⟨cd, at_, sl', rfl, by omega, by omega, hL2⟩⟩
          · have hlt' : ¬ (j : Int) < (ks.length : Int) := by omega
            go_wp2_with (go_at_call 13; refine (hun _).mono ?_; rintro e w2 ⟨rfl, hL2, hk2⟩)
            go_end0
            exact ⟨rfl, hlk.trans hk2, .inr ⟨cd, at_, sl', rfl, by omega, by omega, hL2⟩⟩
      · have e21 : (k0 == 21) = false := by simpa using h21
        by_cases hlt : j < ks.length
        · have hlt' : (j : Int) < (ks.length : Int) := by omega
          go_wp2
          go_end0
          exact ⟨rfl, hlk, .inr ⟨cd, at_, sl', rfl, by omega, by omega, hLo⟩⟩
        · have hlt' : ¬ (j : Int) < (ks.length : Int) := by omega
          go_wp2
          go_end0
          exact ⟨rfl, hlk, .inr ⟨cd, at_, sl', rfl, by omega, by omega, hLo⟩⟩
end Go.Proofs.YtnnppenlfocgiaaGreatDoor
namespace Go.Proofs.YtnnppenlfocgiaaGreatDoor
open Go.RowKit
open Go

theorem lastV_of {bl : List (List Lc)} (hN : NB bl) (s : List UInt8) : lastV s (flatD bl) = match findL s bl with | some p => ((p.1 : Nat) : Int) | none => -1 := by
  cases h : findL s bl with
  | none => rw [lastV, lastI_none (findL_none h)]
  | some p =>
    obtain ⟨i, fx⟩ := p
    obtain ⟨⟨d, h1⟩, h2⟩ := findL_some hN h
    rw [lastV, lastI_some h1 rfl h2]
theorem funV_of (ks : List Nd) (s : List UInt8) : funV ks s = match funI (ks.map Nd.t) s with | some j => ((j : Nat) : Int) | none => -1 := by
  unfold funV
  cases funI (ks.map Nd.t) s <;> rfl
set_option maxRecDepth 20000 in
set_option maxHeartbeats 2000000 in
theorem expr_name (t0 : List UInt8) (n0 : Int) : XC ⟨18, t0, n0, []⟩ := by
  intro w0 B u ub uc sl bl c a S b cap W hLo hKu hN hSA hM hbl hul hNB
  have hd : visC (u.kids.map Nd.t) false ⟨18, t0, n0, []⟩ ⟨sl, bl⟩ = nameC (u.kids.map Nd.t) t0 sl.length ⟨sl ++ [-1], bl⟩ := by
    rw [visC, if_neg (by omega)]
    rw [visC.go]
    simp only [Except.bind]
    rw [if_neg (by omega), actC, if_neg (by omega), if_pos rfl]
    rfl
  have hms : manyN ⟨18, t0, n0, []⟩ = 1 := rfl
  rw [hd, hms]
  rw [hms] at hM
  have hlv := lastV_of hNB t0
  have hfv := funV_of u.kids t0
  have hlb : (flatD bl).length ≤ 100000 := by rw [flatD_len]; exact hbl
  obtain ⟨s0, hs0⟩ : ∃ s0, sl.length = s0 := ⟨_, rfl⟩
  have hb0 := ext_alloc (Below.refl W.heap.size W) (nbx ⟨18, t0, n0, []⟩ b cap)
  have g0 := alloc_new W (nbx ⟨18, t0, n0, []⟩ b cap)
  have ha0 := (hLo.ap (Nat.le_refl _)).below hLo.lt hb0
  have hlk0 := LK.below hLo.lt hb0
  have hLo1 := hLo.on hb0
  have hnum := fun V (h : Lo w0 B u ub uc sl (flatD bl) c a false V) => number_any w0 B u ub uc sl (flatD bl) c a false V h (by omega)
  have hloc := fun V (h : Lo w0 B u ub uc (sl ++ [-1]) (flatD bl) c a false V) => local_any w0 B u ub uc (sl ++ [-1]) (flatD bl) c a false t0 V h hlb
  have hfun := fun V (h : Lo w0 B u ub uc (sl ++ [-1]) (flatD bl) c a false V) (hk : KA S V ub uc u.kids) => fun_any w0 B u ub uc (sl ++ [-1]) (flatD bl) c a false t0 S V h hk hul
  have hun := fun q V (h : Lo w0 B u ub uc (sl ++ [-1]) (flatD bl) c a false V) => unless_any w0 B u ub uc (sl ++ [-1]) (flatD bl) c a false q 4 (s0 : Nat) V h
  obtain ⟨t, ht⟩ : ∃ t, W.heap.size = t := ⟨_, rfl⟩
  rw [ht] at g0 ha0
  rw [hs0] at hnum hM ⊢
  have hlen : s0 < (sl ++ [-1]).length := by simp; omega
  have hlen2 : (sl ++ [-1]).length = s0 + 1 := by simp; omega
  rw [hlv] at hloc
  rw [hfv] at hfun
  clear hlv hfv hd
  replace hs0 : Hid _ := hs0
  cases hf : findL t0 bl with
  | some p =>
    obtain ⟨i, fx⟩ := p
    rw [hf] at hloc
    simp only at hloc
    obtain ⟨fv, hfv⟩ : ∃ fv : Int, (match funI (u.kids.map Nd.t) t0 with | some j => ((j : Nat) : Int) | none => -1) = fv := ⟨_, rfl⟩
    rw [hfv] at hfun
    replace hfv : Hid _ := hfv
    have hi0 : (0 : Int) ≤ ((i : Nat) : Int) := by omega
    have hi1 : ¬ ((i : Nat) : Int) < 0 := by omega
    have hres : Hid (nameC (u.kids.map Nd.t) t0 s0 ⟨sl ++ [-1], bl⟩ = .ok ⟨(sl ++ [-1]).set s0 (i : Nat), bl⟩) := by
      show nameC _ _ _ _ = _
      rw [nameC]
      simp only [hf]
      rfl
    clear hf
    go_enter Tryz.func54, Tryz.ntmps54
    go_wp2_with (go_at_call 10; refine (hnum _ hLo1).mono ?_; rintro e w1 ⟨rfl, hL1, hk1⟩)
    have hlk := hlk0.trans hk1
    have hKu1 := hKu.lk hSA hlk
    obtain ⟨gt, at1⟩ := hk1 t _ ha0 g0
    obtain ⟨q0, q1, q2, q3, _, _, _, _⟩ := in4 gt
    obtain ⟨c8, _, _, _, _, _⟩ := hL1.cells
    simp only [List.length_nil] at q0 q1 q2 q3
    clear hnum hLo1 hlk0 hKu hSA g0 ha0 hb0 hLo hN
    go_loopw [5] (fun ix wr => ix = .int .i64 0 ∧ wr = w1) (fun _ _ => 0)
    case atStart => exact ⟨rfl, rfl⟩
    case round =>
    obtain ⟨rfl, rfl⟩ := hrel
    go_wp2_with (first | (go_at_call 19; refine (hloc _ hL1).mono ?_; rintro e w2 ⟨rfl, rfl⟩) | (go_at_call 12; refine (hfun _ hL1 hKu1).mono ?_; rintro e w2 ⟨rfl, rfl⟩) | (go_at_call 13; refine (hun _ _ hL1).mono ?_; rintro e w2 ⟨rfl, hL2, hk2⟩; obtain ⟨g, sc, c4, ⟨x, cx⟩, fx2, hset⟩ := hL2.slot hlen; rw [hlen2] at c4; have hset1 := hset (i : Nat); obtain ⟨gt2, at2⟩ := hk2 t _ at1 gt; obtain ⟨gt3, at3⟩ := hset1.2 t _ at2 gt2; have z0 := (in4 gt3).c0))
    go_end0
    exact ⟨rfl, hlk.trans (hk2.trans hset1.2), .inl ⟨_, hres.out, by simp only [List.length_set]; omega, by simp only [List.length_set]; omega, hset1.1⟩⟩
  | none =>
    rw [hf] at hloc
    simp only at hloc
    cases hg : funI (u.kids.map Nd.t) t0 with
    | some j =>
    rw [hg] at hfun
    simp only at hfun
    have hi0 : (0 : Int) ≤ ((j : Nat) : Int) := by omega
    have hjl : j ≤ 100000 := by
      unfold funI at hg
      rw [List.findIdx?_eq_some_iff_getElem] at hg
      obtain ⟨hi, _⟩ := hg
      simp at hi
      omega
    have hres : Hid (nameC (u.kids.map Nd.t) t0 s0 ⟨sl ++ [-1], bl⟩ = .ok ⟨(sl ++ [-1]).set s0 (30 + (j : Nat)), bl⟩) := by
      show nameC _ _ _ _ = _
      rw [nameC]
      simp only [hf, hg]
      rfl
    clear hf hg
    go_enter Tryz.func54, Tryz.ntmps54
    go_wp2_with (go_at_call 10; refine (hnum _ hLo1).mono ?_; rintro e w1 ⟨rfl, hL1, hk1⟩)
    have hlk := hlk0.trans hk1
    have hKu1 := hKu.lk hSA hlk
    obtain ⟨gt, at1⟩ := hk1 t _ ha0 g0
    obtain ⟨q0, q1, q2, q3, _, _, _, _⟩ := in4 gt
    obtain ⟨c8, _, _, _, _, _⟩ := hL1.cells
    simp only [List.length_nil] at q0 q1 q2 q3
    clear hnum hLo1 hlk0 hKu hSA g0 ha0 hb0 hLo hN
    go_loopw [5] (fun ix wr => ix = .int .i64 0 ∧ wr = w1) (fun _ _ => 0)
    case atStart => exact ⟨rfl, rfl⟩
    case round =>
    obtain ⟨rfl, rfl⟩ := hrel
    go_wp2_with (first | (go_at_call 19; refine (hloc _ hL1).mono ?_; rintro e w2 ⟨rfl, rfl⟩) | (go_at_call 12; refine (hfun _ hL1 hKu1).mono ?_; rintro e w2 ⟨rfl, rfl⟩) | (go_at_call 13; refine (hun _ _ hL1).mono ?_; rintro e w2 ⟨rfl, hL2, hk2⟩; obtain ⟨g, sc, c4, ⟨x, cx⟩, fx2, hset⟩ := hL2.slot hlen; rw [hlen2] at c4; have hset1 := hset (-1); obtain ⟨hL3, hk3⟩ := hset1; obtain ⟨g5, sc5, c45, ⟨x5, cx5⟩, fx5, hset5⟩ := hL3.slot (j := s0) (by rw [List.length_set]; exact hlen); rw [List.length_set, hlen2] at c45; have hset6 := hset5 (30 + (j : Nat)); obtain ⟨gt2, at2⟩ := hk2 t _ at1 gt; obtain ⟨gt3, at3⟩ := hk3 t _ at2 gt2; obtain ⟨gt4, at4⟩ := hset6.2 t _ at3 gt3; have z0 := (in4 gt4).c0))
    go_end0
    refine ⟨rfl, hlk.trans (hk2.trans (hk3.trans hset6.2)), .inl ⟨_, hres.out, by simp only [List.length_set]; omega, by simp only [List.length_set]; omega, ?_⟩⟩
    have := hset6.1
    rw [List.set_set] at this
    exact this
    | none =>
    rw [hg] at hfun
    simp only at hfun
    have hres : Hid (nameC (u.kids.map Nd.t) t0 s0 ⟨sl ++ [-1], bl⟩ = .error (4, s0)) := by
      show nameC _ _ _ _ = _
      rw [nameC]
      simp only [hf, hg]
    clear hf hg
    go_enter Tryz.func54, Tryz.ntmps54
    go_wp2_with (go_at_call 10; refine (hnum _ hLo1).mono ?_; rintro e w1 ⟨rfl, hL1, hk1⟩)
    have hlk := hlk0.trans hk1
    have hKu1 := hKu.lk hSA hlk
    obtain ⟨gt, at1⟩ := hk1 t _ ha0 g0
    obtain ⟨q0, q1, q2, q3, _, _, _, _⟩ := in4 gt
    obtain ⟨c8, _, _, _, _, _⟩ := hL1.cells
    simp only [List.length_nil] at q0 q1 q2 q3
    clear hnum hLo1 hlk0 hKu hSA g0 ha0 hb0 hLo hN
    go_loopw [5] (fun ix wr => ix = .int .i64 0 ∧ wr = w1) (fun _ _ => 0)
    case atStart => exact ⟨rfl, rfl⟩
    case round =>
    obtain ⟨rfl, rfl⟩ := hrel
    go_wp2_with (first | (go_at_call 19; refine (hloc _ hL1).mono ?_; rintro e w2 ⟨rfl, rfl⟩) | (go_at_call 12; refine (hfun _ hL1 hKu1).mono ?_; rintro e w2 ⟨rfl, rfl⟩) | (go_at_call 13; refine (hun _ _ hL1).mono ?_; rintro e w2 ⟨rfl, hL2, hk2⟩; obtain ⟨g, sc, c4, ⟨x, cx⟩, fx2, hset⟩ := hL2.slot hlen; rw [hlen2] at c4; have hset1 := hset (-1); obtain ⟨hL3, hk3⟩ := hset1; obtain ⟨g5, sc5, c45, ⟨x5, cx5⟩, fx5, hset5⟩ := hL3.slot (j := s0) (by rw [List.length_set]; exact hlen); rw [List.length_set, hlen2] at c45; have hset6 := hset5 29; obtain ⟨gt2, at2⟩ := hk2 t _ at1 gt; obtain ⟨gt3, at3⟩ := hk3 t _ at2 gt2; obtain ⟨gt4, at4⟩ := hset6.2 t _ at3 gt3; have z0 := (in4 gt4).c0))
    go_end0
    exact ⟨rfl, hlk.trans (hk2.trans (hk3.trans hset6.2)), .inr ⟨4, s0, _, hres.out, by simp only [List.length_set]; omega, by simp only [List.length_set]; omega, hset6.1⟩⟩
/-- Every expression. -/
theorem expr_any (n : Nd) : isN n → exprK n.k → XC n := by
  refine nd_ind (m := fun n => isN n → exprK n.k → XC n) (fun k t o ks ih h hk => ?_) n
  rw [isN] at h
  obtain ⟨h1, _, _, _, _, _, _, _, h9⟩ := h
  rw [isN_go] at h9
  simp only at hk
  by_cases h18 : k = 18
  · subst h18
    have : ks = [] := by
      unfold kidsOK at h1
      exact List.length_eq_zero_iff.1 (by omega)
    subst this
    exact expr_name t o
  · refine expr_kids k t o ks hk h18 (fun y hy => ?_)
    obtain ⟨j, hj⟩ := List.getElem?_of_mem hy
    obtain ⟨p1, p2⟩ := h9 j y hj
    refine ih y hy p2 ?_
    unfold exprK at hk
    unfold fitsK at p1
    rw [if_neg (by omega), if_neg (by omega), if_neg (by omega), if_neg (by omega), if_neg (by omega)] at p1
    exact p1
end Go.Proofs.YtnnppenlfocgiaaGreatDoor
