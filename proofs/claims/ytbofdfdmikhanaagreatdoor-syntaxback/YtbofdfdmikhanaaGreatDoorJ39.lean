/- How deep a node is, as the document reckons it; whether it fits. Two nodes that are one. Walks of the document's own reading of tokens: a text between quotes, a sign. -/
import Derived.Test.YtbofdfdmikhanaaGreatDoorJ38
import Derived.Test.YtbofdfdmikhanaaGreatDoorJ18
import Derived.Test.YtbofdfdmikhanaaGreatDoorJ16
import Derived.Deep.QuietTactic
import Derived.BigQuiet
namespace Go.Proofs.YtbofdfdmikhanaaGreatDoor
open Go.RowKit
open Go

def DeepC (n : Nd) : Prop := ∀ (m : Nat) (S : Nat → Prop) (b : Option Addr) (cap : Nat) (w : World), m ≤ 14 → manyN n ≤ 600 → NdV S w n (ndv n b cap) → Calls Tryz.prog 36 #[ndv n b cap, .int .i64 (m : Nat)] w fun e w' => e = .returned (.int .i64 ((min (deepN n) (m + 1) : Nat) : Int)) ∧ Below w.heap.size w w'
set_option maxRecDepth 20000 in
set_option maxHeartbeats 1000000 in
theorem deep_step (k0 : Int) (t0 : List UInt8) (n0 : Int) (ks : List Nd) (ih : ∀ y ∈ ks, DeepC y) : DeepC ⟨k0, t0, n0, ks⟩ := by
  intro m S b cap w hm hmx hn
  obtain ⟨b2, cap2, e2, hcap, hkids⟩ := hn.form
  simp only at e2 hcap hkids
  have e3 : b2 = b ∧ cap2 = cap := by
    simp only [Value.agg.injEq, Array.mk.injEq, List.cons.injEq, Value.slice.injEq, and_true, true_and] at e2
    exact ⟨e2.1.symm, e2.2.symm⟩
  obtain ⟨rfl, rfl⟩ := e3
  have hms : deepN ⟨k0, t0, n0, ks⟩ = deepN.go ks + 1 := rfl
  have hmx : manyN.go ks + 1 ≤ 600 := hmx
  obtain ⟨V, hV⟩ : ∃ V, min (deepN ⟨k0, t0, n0, ks⟩) (m + 1) = V := ⟨_, rfl⟩
  rw [hV]
  rw [hms] at hV
  dsimp only [ndv]
  obtain ⟨L, hL⟩ : ∃ L, ks.length = L := ⟨_, rfl⟩
  rw [hL] at hcap ⊢
  have hb0 := ext_alloc (Below.refl w.heap.size w) (.cells #[.int .i64 k0, sk t0, .int .i64 n0, .slice b2 L cap2] 24)
  have g0 := alloc_new w (.cells #[.int .i64 k0, sk t0, .int .i64 n0, .slice b2 L cap2] 24)
  have hLx : L ≤ 600 := by have := many_len ks; omega
  clear e2 hn hms
  replace hmx : Hid _ := hmx
  replace hV : Hid _ := hV
  replace hL : Hid _ := hL
  replace hkids : Hid _ := hkids
  go_enter Tryz.func36, Tryz.ntmps36
  go_wp2
  go_loopw [5, 6] (fun kk ix wr => ∃ j k' : Nat, j ≤ L ∧ ix = .int .i64 (j : Nat) ∧ kk = .int .i64 (k' : Nat) ∧ k' = min (deepN.go (ks.take j)) m ∧ Below w.heap.size w wr ∧ wr.heap[w.heap.size]? = some (.cells #[.int .i64 k0, sk t0, .int .i64 n0, .slice b2 L cap2] 24)) (fun _ ix _ => L - (intOf ix).toNat)
  case atStart => exact ⟨0, 0, by omega, rfl, rfl, by simp [deepN.go], hb0, g0⟩
  case round =>
    obtain ⟨j, k', hj, rfl, rfl, hs, hbw, gw⟩ := hrel
    have hk' : k' ≤ m := by omega
    replace hs : Hid _ := hs
    obtain ⟨q0, q1, q2, q3, _, _, _, _⟩ := in4 gw
    by_cases hlt : j < L
    · have hlt' : (j : Int) < (L : Int) := by omega
      by_cases hm0 : 0 < m
      · have hm0' : (0 : Int) < (m : Int) := by omega
        have hle' : (k' : Int) ≤ (m : Int) := by omega
        obtain ⟨y, hy⟩ : ∃ y, ks[j]? = some y := ⟨_, List.getElem?_eq_getElem (show j < ks.length by have := hL.out; omega)⟩
        rcases hkids.out with h | ⟨g, off, rfl, hSg, hkd⟩
        · rw [h] at hy
          simp at hy
        obtain ⟨b', cap', v0, v1, v2, v3, hyV⟩ := ndAt_val (hkd j y hy)
        have c0 : wr.cell? ⟨g, off + j * 4, none⟩ = some (.int .i64 y.k) := cellB hbw v0
        have c1 := cellB hbw v1
        have c2 := cellB hbw v2
        have c3 := cellB hbw v3
        have hym : manyN y ≤ 600 := by
          have h1 := hmx.out
          have h2 := congrArg manyN.go (kids_split hy)
          rw [many_app] at h2
          simp only [manyN.go] at h2
          omega
        have hcall := ih y (List.mem_of_getElem? hy) (m - 1) S b' cap' wr (by omega) hym (hyV.below hbw)
        rw [show ((m - 1 : Nat) : Int) = (m : Int) - 1 by omega, show m - 1 + 1 = m by omega] at hcall
        have hnew : max k' (min (deepN y) m) = min (deepN.go (ks.take (j + 1))) m := by
          have := hs.out
          rw [take_next hy, deep_app]
          simp only [deepN.go]
          omega
        obtain ⟨mo, hmo⟩ : ∃ mo, min (deepN y) m = mo := ⟨_, rfl⟩
        have hmo2 : mo ≤ 15 := by omega
        rw [hmo] at hcall hnew
        obtain ⟨k2, hk2⟩ : ∃ k2, max k' mo = k2 := ⟨_, rfl⟩
        rw [hk2] at hnew
        have hmax : max (k' : Int) (mo : Int) = (k2 : Int) := by omega
        replace hnew : Hid _ := hnew
        clear v0 v1 v2 v3 hyV hy hkd ih hmo hk2
        go_wp2_with (go_at_call 36; refine hcall.mono ?_; rintro e w1 ⟨rfl, hb1⟩)
        go_roundw
        case rel => exact ⟨j + 1, k2, by omega, by go_num, by go_num, hnew.out, ext_trans hbw hb1, block_below hb1 gw⟩
        case measure => simp [intOf]; omega
      · have hm0' : ¬ (0 : Int) < (m : Int) := by omega
        have hVk : V = k' + 1 := by
          rw [← hV.out]
          have h1 := hs.out
          omega
        subst hVk
        go_wp2
        go_ret
        exact ⟨rfl, hbw⟩
    · have hge : ¬ (j : Int) < (L : Int) := by omega
      have hVk : V = k' + 1 := by
        rw [← hV.out]
        have h1 := hs.out
        have e : j = ks.length := by have := hL.out; omega
        rw [e, List.take_length] at h1
        omega
      subst hVk
      go_wp2
      go_ret
      exact ⟨rfl, hbw⟩
theorem deep_any (n : Nd) : DeepC n := nd_ind deep_step n
set_option maxRecDepth 20000 in
set_option maxHeartbeats 1000000 in
theorem rfits_any (S : Nat → Prop) (n : Nd) (b : Option Addr) (cap : Nat) (w : World) (hn : NdV S w n (ndv n b cap)) : Calls Tryz.prog 17 #[ndv n b cap] w fun e w' => e = .returned (.bool (fitB n)) ∧ Below w.heap.size w w' := by
  have hb0 := ext_alloc (Below.refl w.heap.size w) (nbx n b cap)
  have hc := many_any n 600 S b cap (w.alloc (nbx n b cap)) (by omega) (hn.below hb0)
  obtain ⟨c0, c1, c2, c3, _, _, _, _⟩ := in4 (alloc_new w (nbx n b cap))
  have g0 := alloc_new w (nbx n b cap)
  unfold fitB
  by_cases hm : manyN n ≤ 600
  · rw [show min (manyN n) (600 + 1) = manyN n by omega] at hc
    have hd := fun u (hb : Below (w.alloc (nbx n b cap)).heap.size (w.alloc (nbx n b cap)) u) => deep_any n 14 S b cap u (by omega) hm ((hn.below hb0).below hb)
    have hV : decide (deepN n ≤ 14 ∧ manyN n ≤ 600) = decide (min (deepN n) (14 + 1) ≤ 14) := decide_eq_decide.2 (by omega)
    rw [hV]
    obtain ⟨v, hv⟩ : ∃ v, min (deepN n) (14 + 1) = v := ⟨_, rfl⟩
    rw [hv] at hd ⊢
    obtain ⟨x, hx⟩ : ∃ x, manyN n = x := ⟨_, rfl⟩
    rw [hx] at hc hm
    have hm' : ¬ (600 : Int) < (x : Int) := by omega
    clear hV hv hx
    go_enter Tryz.func17, Tryz.ntmps17
    go_wp2_with (first | (go_at_call 35; refine hc.mono ?_; rintro e w1 ⟨rfl, hb1⟩; have g1 := block_below hb1 g0; obtain ⟨x0, x1, x2, x3, _, _, _, _⟩ := in4 g1) | (go_at_call 36; refine (hd _ hb1).mono ?_; rintro e w2 ⟨rfl, hb2⟩))
    go_ret
    exact ⟨show Ending.returned (Value.bool (decide ((v : Int) ≤ 14))) = Ending.returned (Value.bool (decide (v ≤ 14))) from congrArg (fun x => Ending.returned (Value.bool x)) (decide_eq_decide.2 (by omega)), ext_trans (ext_trans hb0 hb1) hb2⟩
  · rw [show min (manyN n) (600 + 1) = 601 by omega] at hc
    rw [decide_eq_false (fun h => hm h.2)]
    go_enter Tryz.func17, Tryz.ntmps17
    go_wp2_with (go_at_call 35; refine hc.mono ?_; rintro e w1 ⟨rfl, hb1⟩)
    go_ret
    exact ⟨rfl, ext_trans hb0 hb1⟩
end Go.Proofs.YtbofdfdmikhanaaGreatDoor
namespace Go.Proofs.YtbofdfdmikhanaaGreatDoor
open Go.RowKit
open Go

def SameC (n : Nd) : Prop := ∀ (S S' : Nat → Prop) (b b' : Option Addr) (cap cap' : Nat) (w : World), manyN n ≤ 600 → NdV S w n (ndv n b cap) → NdV S' w n (ndv n b' cap') → Calls Tryz.prog 9 #[ndv n b cap, ndv n b' cap'] w fun e w' => e = .returned (.bool true) ∧ Below w.heap.size w w'
theorem ndv_parts {S : Nat → Prop} {W : World} {k0 : Int} {t0 : List UInt8} {n0 : Int} {ks : List Nd} {b : Option Addr} {cap : Nat} (hn : NdV S W ⟨k0, t0, n0, ks⟩ (ndv ⟨k0, t0, n0, ks⟩ b cap)) : ks.length ≤ cap ∧ (ks = [] ∨ ∃ g off, b = some ⟨g, off, none⟩ ∧ S g ∧ ∀ j y, ks[j]? = some y → NdAt S W y (fun i => W.cell? ⟨g, off + j * 4 + i, none⟩)) := by
  obtain ⟨b2, cap2, e2, hcap, hkids⟩ := hn.form
  simp only at e2 hcap hkids
  have e3 : b2 = b ∧ cap2 = cap := by
    simp only [Value.agg.injEq, Array.mk.injEq, List.cons.injEq, Value.slice.injEq, and_true, true_and] at e2
    exact ⟨e2.1.symm, e2.2.symm⟩
  obtain ⟨rfl, rfl⟩ := e3
  exact ⟨hcap, hkids⟩
set_option maxRecDepth 20000 in
set_option maxHeartbeats 1000000 in
theorem same_step (k0 : Int) (t0 : List UInt8) (n0 : Int) (ks : List Nd) (ih : ∀ y ∈ ks, SameC y) : SameC ⟨k0, t0, n0, ks⟩ := by
  intro S S' b b' cap cap' w hmx hn hn'
  have hmx : manyN.go ks + 1 ≤ 600 := hmx
  obtain ⟨hcap, hkids⟩ := ndv_parts hn
  obtain ⟨hcap', hkids'⟩ := ndv_parts hn'
  dsimp only [ndv]
  obtain ⟨L, hL⟩ : ∃ L, ks.length = L := ⟨_, rfl⟩
  rw [hL] at hcap hcap' ⊢
  obtain ⟨g0, g1⟩ := new2 w (.cells #[.int .i64 k0, sk t0, .int .i64 n0, .slice b L cap] 24) (.cells #[.int .i64 k0, sk t0, .int .i64 n0, .slice b' L cap'] 24)
  have hb0 := below2 w (.cells #[.int .i64 k0, sk t0, .int .i64 n0, .slice b L cap] 24) (.cells #[.int .i64 k0, sk t0, .int .i64 n0, .slice b' L cap'] 24)
  have hLx : L ≤ 600 := by have := many_len ks; omega
  clear hn hn'
  replace hmx : Hid _ := hmx
  replace hL : Hid _ := hL
  replace hkids : Hid _ := hkids
  replace hkids' : Hid _ := hkids'
  go_enter Tryz.func9, Tryz.ntmps9
  go_wp2
  go_loopw [5] (fun ix wr => ∃ j : Nat, j ≤ L ∧ ix = .int .i64 (j : Nat) ∧ Below w.heap.size w wr ∧ wr.heap[w.heap.size]? = some (.cells #[.int .i64 k0, sk t0, .int .i64 n0, .slice b L cap] 24) ∧ wr.heap[w.heap.size + 1]? = some (.cells #[.int .i64 k0, sk t0, .int .i64 n0, .slice b' L cap'] 24)) (fun ix _ => L - (intOf ix).toNat)
  case atStart => exact ⟨0, by omega, rfl, hb0, g0, g1⟩
  case round =>
    obtain ⟨j, hj, rfl, hbw, gw, gw'⟩ := hrel
    obtain ⟨q0, q1, q2, q3, _, _, _, _⟩ := in4 gw
    obtain ⟨r0, r1, r2, r3, _, _, _, _⟩ := in4 gw'
    by_cases hlt : j < L
    · have hlt' : (j : Int) < (L : Int) := by omega
      obtain ⟨y, hy⟩ : ∃ y, ks[j]? = some y := ⟨_, List.getElem?_eq_getElem (show j < ks.length by have := hL.out; omega)⟩
      rcases hkids.out with h | ⟨g, off, rfl, hSg, hkd⟩
      · rw [h] at hy
        simp at hy
      rcases hkids'.out with h | ⟨g', off', rfl, hSg', hkd'⟩
      · rw [h] at hy
        simp at hy
      obtain ⟨yb, ycap, v0, v1, v2, v3, hyV⟩ := ndAt_val (hkd j y hy)
      obtain ⟨yb', ycap', v0', v1', v2', v3', hyV'⟩ := ndAt_val (hkd' j y hy)
      have c0 : wr.cell? ⟨g, off + j * 4, none⟩ = some (.int .i64 y.k) := cellB hbw v0
      have c1 := cellB hbw v1
      have c2 := cellB hbw v2
      have c3 := cellB hbw v3
      have d0 : wr.cell? ⟨g', off' + j * 4, none⟩ = some (.int .i64 y.k) := cellB hbw v0'
      have d1 := cellB hbw v1'
      have d2 := cellB hbw v2'
      have d3 := cellB hbw v3'
      have hym : manyN y ≤ 600 := by
        have h1 := hmx.out
        have h2 := congrArg manyN.go (kids_split hy)
        rw [many_app] at h2
        simp only [manyN.go] at h2
        omega
      have hcall := fun u (hb : Below wr.heap.size wr u) => ih y (List.mem_of_getElem? hy) S S' yb yb' ycap ycap' u hym ((hyV.below hbw).below hb) ((hyV'.below hbw).below hb)
      clear v0 v1 v2 v3 hyV hy hkd ih v0' v1' v2' v3' hyV' hkd'
      go_wp2
      go_region_with (go_at_call 9; refine (hcall _ ((Below.refl _ _).drew)).mono ?_; rintro e w1 ⟨rfl, hb1⟩)
      all_goals
        go_wp2
        go_roundw
        case rel => exact ⟨j + 1, by omega, by go_num, ext_trans (hbw.drew) hb1, block_below (W := wr.drew) hb1 gw, block_below (W := wr.drew) hb1 gw'⟩
        case measure => simp [intOf]; omega
    · have hge : ¬ (j : Int) < (L : Int) := by omega
      go_wp2
      go_ret
      exact ⟨rfl, hbw⟩
theorem same_any (n : Nd) : SameC n := nd_ind same_step n
end Go.Proofs.YtbofdfdmikhanaaGreatDoor
namespace Go.Proofs.YtbofdfdmikhanaaGreatDoor
open Go.RowKit
open Go

def rqV (r : List UInt8) : Value := if r[runN txtB r]? = some 34 then .tuple #[.int .i64 (runN txtB r : Nat), .bool true] else .tuple #[.int .i64 0, .bool false]

set_option maxRecDepth 20000 in
set_option maxHeartbeats 2000000 in
theorem rquoted_any (s : ByteArray) (hs : s.size ≤ 4000) (a : Nat) (ha : a ≤ s.size) (w : World) :
    Calls Tryz.prog 69 #[.string s, .int .i64 a] w fun e w' => e = .returned (rqV (s.data.toList.drop a)) ∧ w' = w := by
  obtain ⟨V, hV⟩ : ∃ V, rqV (s.data.toList.drop a) = V := ⟨_, rfl⟩
  rw [hV]
  replace hV : Hid _ := hV
  go_enter Tryz.func69, Tryz.ntmps69
  go_wp2
  go_loop [6] (fun i => ∃ k : Nat, a + k ≤ s.size ∧ i = .int .i64 k ∧ ∀ i d, i < k → (s.data.toList.drop a)[i]? = some d → txtB d = true) (fun i => s.size - (intOf i).toNat)
  case atStart => exact ⟨0, by omega, rfl, fun i d h => by omega⟩
  case round =>
    obtain ⟨k, hk, rfl, hno⟩ := hrel
    by_cases hlt : a + k < s.size
    · have hc : (s.data.toList.drop a)[k]? = some s[a + k] := by
        rw [drop_get]; exact byte_at hlt
      have hT := take_run txtB (s.data.toList.drop a) k s[a + k] hc hno
      have hlt' : (a : Int) + (k : Int) < (s.size : Int) := by omega
      replace hT : Hid _ := hT
      replace hno : Hid _ := hno
      replace hc : Hid _ := hc
      by_cases h1 : s[a + k].toNat = 34
      · have h1' : ((s[a + k].toNat : Int) == 34) = true := by simp [h1]
        have hp : Hid (V = .tuple #[.int .i64 (k : Nat), .bool true]) := by
          show V = _
          have e34 : s[a + k] = 34 := UInt8.toNat_inj.1 h1
          have := hT.out.2 (by rw [e34]; decide)
          rw [← hV.out, rqV, this, hc.out, e34, if_pos rfl]
        clear hT h1 hc hno
        go_wp2
        go_ret2
        exact ⟨congrArg _ hp.out.symm, rfl⟩
      · have h1' : ((s[a + k].toNat : Int) == 34) = false := by simp; omega
        by_cases h2 : (s[a + k].toNat : Int) < 32 ∨ 126 < (s[a + k].toNat : Int)
        · have hp : Hid (V = .tuple #[.int .i64 0, .bool false]) := by
            show V = _
            have := hT.out.2 (by simp [txtB]; omega)
            rw [← hV.out, rqV, this, hc.out, if_neg (fun e => h1 (by injection e with e; rw [e]; rfl))]
          clear hT h1 hc hno
          rcases h2 with h2 | h2
          · go_wp2
            go_ret2
            exact ⟨congrArg _ hp.out.symm, rfl⟩
          · have h3 : ¬ (s[a + k].toNat : Int) < 32 := by omega
            go_wp2
            go_ret2
            exact ⟨congrArg _ hp.out.symm, rfl⟩
        · have h3 : ¬ (s[a + k].toNat : Int) < 32 := by omega
          have h4 : ¬ 126 < (s[a + k].toNat : Int) := by omega
          have hp : Hid (∀ i d, i < k + 1 → (s.data.toList.drop a)[i]? = some d → txtB d = true) := hT.out.1 (by simp [txtB]; omega)
          clear hT h1 hc hno h2
          go_wp2
          go_round
          case rel => exact ⟨k + 1, by omega, by go_num, hp.out⟩
          case measure => simp [intOf]; omega
    · have hlt' : ¬ (a : Int) + (k : Int) < (s.size : Int) := by omega
      have hp : Hid (V = .tuple #[.int .i64 0, .bool false]) := by
        show V = _
        have hn : (s.data.toList.drop a)[k]? = none := by rw [drop_get, List.getElem?_eq_none (by simp; omega)]
        have := runN_eq txtB (s.data.toList.drop a) k (by simp; omega) hno (fun c hc => by rw [hn] at hc; cases hc)
        rw [← hV.out, rqV, this, hn, if_neg (by simp)]
      clear hno
      go_wp2
      go_ret2
      exact ⟨congrArg _ hp.out.symm, rfl⟩

/-- The signs, the longer ones first. -/
def signsL : List (List UInt8) := [[61, 61], [60, 61], [46, 46]] ++ signs1.map (fun c => [c])
def firstS (r : List UInt8) : List UInt8 := (signsL.find? (fun p => Lib.hasPrefix r p)).getD []

theorem find_one (c : UInt8) (q : List UInt8) : ∀ L : List UInt8, (L.map (fun x => [x])).find? (fun p => Lib.hasPrefix (c :: q) p) = if L.contains c then some [c] else none
  | [] => rfl
  | x :: L => by
    rw [List.map_cons, List.find?_cons, find_one c q L, pre1, List.contains_cons]
    by_cases h : c = x
    · subst h; simp
    · have h' : ¬ x = c := fun e => h e.symm
      have e1 : (c == x) = false := by simpa using h
      simp [h, e1]
theorem firstS_eq (c : UInt8) (q : List UInt8) : firstS (c :: q) = (c :: q).take (signN (c :: q)) := by
  have hC := sign_cases c q
  unfold firstS signsL
  rw [List.find?_append, find_one]
  simp only [List.find?_cons, List.find?_nil]
  rcases hC with ⟨e1, e2, e3⟩ | ⟨e1, e2, e3, e4⟩ | ⟨e1, e2, e3, e4, e5⟩ | ⟨e1, e2, e3, e4⟩
  · rw [e1, e2, e3]; rfl
  · rw [e1, e2, e3, e4]; rfl
  · rw [e1, e2, e3, e4, e5]; rfl
  · rw [e1, e2, e3]
    have hn := index_neg signs1 c
    rcases e4 with ⟨k1, k2⟩ | ⟨k1, k2⟩
    · rw [k2, hn.1 k1]; rfl
    · rw [k2]
      have : signs1.contains c = true := by
        cases h : signs1.contains c
        · have := hn.2 h; omega
        · rfl
      rw [this]; rfl

def signCells : Array Value := #[.string ⟨#[61, 61]⟩, .string ⟨#[60, 61]⟩, .string ⟨#[46, 46]⟩, .string ⟨#[40]⟩, .string ⟨#[41]⟩, .string ⟨#[123]⟩, .string ⟨#[125]⟩, .string ⟨#[91]⟩, .string ⟨#[93]⟩, .string ⟨#[44]⟩, .string ⟨#[59]⟩, .string ⟨#[61]⟩, .string ⟨#[60]⟩, .string ⟨#[43]⟩, .string ⟨#[45]⟩, .string ⟨#[42]⟩, .string ⟨#[47]⟩, .string ⟨#[37]⟩, .string ⟨#[35]⟩]

theorem signCells_get (k : Nat) (p : List UInt8) (h : signsL[k]? = some p) : signCells[k]? = some (.string ⟨p.toArray⟩) := by
  have e : signCells = (signsL.map (fun p => Value.string ⟨p.toArray⟩)).toArray := rfl
  rw [e]
  simp [h]
theorem heap_drewN (w : World) (n : Nat) : (w.drewN n).heap = w.heap := rfl
theorem below_drewN {m : Nat} {w W : World} (h : Below m w W) (n : Nat) : Below m w (W.drewN n) := ⟨h.os, h.tape, h.output, h.size, h.block⟩
theorem signsL_len : signsL.length = 19 := rfl
theorem signsL_short (k : Nat) (p : List UInt8) (h : signsL[k]? = some p) : 0 < p.length ∧ p.length ≤ 2 := by
  have : ∀ p ∈ signsL, 0 < p.length ∧ p.length ≤ 2 := by decide
  exact this p (List.mem_of_getElem? h)
theorem pre_piece (s P : ByteArray) (a : Nat) (hP : 0 < P.size) :
    Lib.hasPrefix (s.data.toList.drop a) P.data.toList = (decide ((a : Int) + (P.size : Int) ≤ (s.size : Int)) && ((s.extract a (a + P.size)).toList == P.toList)) := by
  have hz : P.data.toList.length = P.size := by simp
  rw [ByteArray.toList_eq, ByteArray.toList_eq, piece_list, Nat.add_sub_cancel_left]
  unfold Lib.hasPrefix
  rw [Bool.eq_iff_iff, List.isPrefixOf_iff_prefix]
  simp only [Bool.and_eq_true, decide_eq_true_eq, beq_iff_eq]
  constructor
  · intro h
    have hl := h.length_le
    rw [hz] at hl
    simp at hl
    refine ⟨by omega, ?_⟩
    rw [List.prefix_iff_eq_take] at h
    rw [hz] at h
    exact h.symm
  · rintro ⟨_, h⟩
    rw [← h]
    exact List.take_prefix _ _
theorem find_not {r : List UInt8} {k : Nat} {p : List UInt8} (hno : ∀ j q, j < k → signsL[j]? = some q → Lib.hasPrefix r q = false) (hp : signsL[k]? = some p) (h : Lib.hasPrefix r p = true) : firstS r = p := by
  unfold firstS
  have : signsL.find? (fun p => Lib.hasPrefix r p) = some p := by
    rw [List.find?_eq_some_iff_getElem]
    obtain ⟨hk, hk'⟩ := List.getElem?_eq_some_iff.1 hp
    exact ⟨h, k, hk, hk', fun j hj => by rw [hno j _ hj (List.getElem?_eq_getElem (by omega))]; rfl⟩
  rw [this]; rfl
theorem find_none {r : List UInt8} (hno : ∀ j q, j < 19 → signsL[j]? = some q → Lib.hasPrefix r q = false) : firstS r = [] := by
  unfold firstS
  have : signsL.find? (fun p => Lib.hasPrefix r p) = none := by
    rw [List.find?_eq_none]
    intro q hq
    obtain ⟨j, hj, hj'⟩ := List.getElem_of_mem hq
    rw [hno j q (by rw [signsL_len] at hj; exact hj) (by rw [List.getElem?_eq_getElem hj, hj'])]
    simp
  rw [this]; rfl

set_option maxRecDepth 20000 in
set_option maxHeartbeats 2000000 in
theorem rsign_any (s : ByteArray) (hs : s.size ≤ 4000) (a : Nat) (ha : a < s.size) (w : World) :
    Calls Tryz.prog 70 #[.string s, .int .i64 a] w fun e w' => e = .returned (.string ⟨(firstS (s.data.toList.drop a)).toArray⟩) ∧ Below w.heap.size w w' := by
  obtain ⟨V, hV⟩ : ∃ V, firstS (s.data.toList.drop a) = V := ⟨_, rfl⟩
  rw [hV]
  replace hV : Hid _ := hV
  go_enter Tryz.func70, Tryz.ntmps70
  go_wp2
  go_loopw [6] (fun i wr => ∃ k : Nat, k ≤ 19 ∧ i = .int .i64 k ∧ Below w.heap.size w wr ∧ wr.heap[w.heap.size]? = some (.cells signCells 9) ∧ ∀ j q, j < k → signsL[j]? = some q → Lib.hasPrefix (s.data.toList.drop a) q = false) (fun i _ => 19 - (intOf i).toNat)
  case atStart => exact ⟨0, by omega, rfl, ext_alloc (Below.refl _ _) _, alloc_new _ _, fun j q h => by omega⟩
  case round =>
    obtain ⟨k, hk, rfl, hb, hr, hno⟩ := hrel
    by_cases hlt : k < 19
    · obtain ⟨p, hp⟩ : ∃ p, signsL[k]? = some p := ⟨signsL[k]'(by rw [signsL_len]; exact hlt), List.getElem?_eq_getElem _⟩
      have hcell := cell_block hr (signCells_get k p hp)
      obtain ⟨hp1, hp2⟩ := signsL_short k p hp
      have hfn := find_not hno hp
      rw [hV.out] at hfn
      have hno2 : Lib.hasPrefix (s.data.toList.drop a) p = false → ∀ j q, j < k + 1 → signsL[j]? = some q → Lib.hasPrefix (s.data.toList.drop a) q = false := fun h j q hj hq => by
        by_cases e : j = k
        · subst e; rw [hp] at hq; cases hq; exact h
        · exact hno j q (by omega) hq
      obtain ⟨P, hP⟩ : ∃ P : ByteArray, ⟨p.toArray⟩ = P := ⟨_, rfl⟩
      have hPl : P.data.toList = p := by rw [← hP]
      have hPz : P.size = p.length := by rw [← hP]; simp [ByteArray.size]
      rw [hP] at hcell
      rw [← hPl] at hfn hno2
      have hpp := pre_piece s P a (by omega)
      rw [hpp] at hfn hno2
      have hP1 : 0 < P.size := by omega
      have hP2 : P.size ≤ 2 := by omega
      clear hp hp1 hp2 hP hPl hPz hpp hno
      have hlt' : (k : Int) < 19 := by omega
      have hk0 : (0 : Int) ≤ (k : Int) := by omega
      by_cases g : (a : Int) + (P.size : Int) ≤ (s.size : Int)
      · have g1 : decide ((a : Int) + (P.size : Int) ≤ (s.size : Int)) = true := decide_eq_true g
        rw [g1, Bool.true_and] at hfn hno2
        cases he : ((s.extract a (a + P.size)).toList == P.toList)
        · have hno3 : Hid _ := hno2 he
          clear hno2 hfn
          go_wp2
          go_quiet (fail)
          go_wp2
          go_roundw
          case rel => exact ⟨k + 1, by omega, by go_num, below_drewN hb nq, by rw [heap_drewN]; exact hr, hno3.out⟩
          case measure => simp [intOf]; omega
        · have hfn' : Hid _ := hfn he
          clear hno2 hfn
          go_wp2
          go_quiet (fail)
          go_wp2
          go_ret
          exact ⟨by rw [hfn'.out, ba_list]; rfl, below_drewN hb nq⟩
      · have g1 : decide ((a : Int) + (P.size : Int) ≤ (s.size : Int)) = false := decide_eq_false g
        rw [g1, Bool.false_and] at hfn hno2
        have hno3 : Hid _ := hno2 rfl
        clear hno2 hfn g
        go_wp2
        go_quiet (fail)
        go_wp2
        go_roundw
        case rel => exact ⟨k + 1, by omega, by go_num, below_drewN hb nq, by rw [heap_drewN]; exact hr, hno3.out⟩
        case measure => simp [intOf]; omega
    · obtain rfl : k = 19 := by omega
      have hn : Hid _ := find_none hno
      rw [hV.out] at hn
      clear hno
      go_wp2
      go_ret
      exact ⟨by rw [hn.out]; rfl, hb⟩
end Go.Proofs.YtbofdfdmikhanaaGreatDoor
