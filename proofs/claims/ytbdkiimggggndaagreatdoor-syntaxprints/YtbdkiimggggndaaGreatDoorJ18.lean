/- The program's printer: what is asked of all kids. The program's printer: what is asked of each kid. The program's printer: what an expression begins with. -/
import Derived.Test.YtbdkiimggggndaaGreatDoorJ14
import Derived.Test.YtbdkiimggggndaaGreatDoorJ12
namespace Go.Proofs.YtbdkiimggggndaaGreatDoor
open Go.RowKit
open Go

set_option maxRecDepth 20000 in
set_option maxHeartbeats 1000000 in
theorem all_41 (q : Nd → Prop) (ks : List Nd) (b : Option Addr) (cap : Nat) (m : Wm) (S : Nat → Prop) (w : World) (hlen : ks.length ≤ 100000) (hW : WE m w) (hk : KA S w b cap ks) (hok : ∀ y ∈ ks, okN y) (ih : ∀ y ∈ ks, Ask 41 q y) : Calls Tryz.prog 40 #[.slice b ks.length cap, .func (.func 41) #[m.v] #[]] w (Ans (∀ x ∈ ks, q x) w) := by
  obtain ⟨L, hL⟩ : ∃ L, ks.length = L := ⟨_, rfl⟩
  rw [hL] at hlen ⊢
  have hcap : L ≤ cap := by rw [← hL]; exact hk.1
  replace hL : Hid _ := hL
  replace hk : Hid _ := hk
  replace hok : Hid _ := hok
  replace ih : Hid _ := ih
  go_enter Tryz.func40, Tryz.ntmps40
  go_wp2
  go_loopw [9] (fun ix wr => ∃ j : Nat, j ≤ L ∧ ix = .int .i64 (j : Nat) ∧ (∀ x ∈ ks.take j, q x) ∧ Below w.heap.size w wr) (fun ix _ => L - (intOf ix).toNat)
  case atStart => exact ⟨0, by omega, rfl, by simp, Below.refl _ _⟩
  case round =>
    obtain ⟨j, hj, rfl, hq, hbw⟩ := hrel
    replace hq : Hid _ := hq
    by_cases hlt : j < L
    · have hlt' : (j : Int) < (L : Int) := by omega
      obtain ⟨y, hy⟩ : ∃ y, ks[j]? = some y := ⟨_, List.getElem?_eq_getElem (show j < ks.length by have := hL.out; omega)⟩
      obtain ⟨g, off, b', cap', rfl, v0, v1, v2, v3, hyV⟩ := KA.at hk.out hy
      have c0 := cellB hbw v0
      have c1 := cellB hbw v1
      have c2 := cellB hbw v2
      have c3 := cellB hbw v3
      have hym : y ∈ ks := List.mem_of_getElem? hy
      have hbw1 := ext_alloc hbw (nbx y b' cap')
      have hcall := ih.out y hym m S b' cap' (wr.alloc (nbx y b' cap')) (hW.on hbw1) (hok.out y hym) ((hyV.below hbw).below (ext_alloc (Below.refl _ _) _))
      have htk := take_next hy
      replace htk : Hid _ := htk
      replace hym : Hid _ := hym
      clear v0 v1 v2 v3 hyV hy ih hk hok
      go_wp2_with (go_at_call 41; refine hcall.mono ?_; rintro e w1 ⟨⟨yb, rfl, hyb⟩, hb1⟩; refine Hid.out ?_)
      cases yb with
      | true =>
        have hyq := hyb.1 rfl
        replace hyq : Hid _ := hyq
        clear hyb hcall
        refine Lib.hid ?_
        go_wp2
        go_roundw
        case rel =>
          refine ⟨j + 1, by omega, by go_num, ?_, ext_trans hbw1 hb1⟩
          rw [htk.out]
          intro x hx
          rcases List.mem_append.1 hx with hx | hx
          · exact hq.out x hx
          · simp at hx; subst hx; exact hyq.out
        case measure => simp [intOf]; omega
      | false =>
        have hyq : ¬ q y := fun h => by have := hyb.2 h; cases this
        replace hyq : Hid _ := hyq
        clear hyb hcall
        refine Lib.hid ?_
        go_wp2
        go_ret
        exact ⟨⟨false, rfl, ⟨fun h => (by cases h), fun h => absurd (h y hym.out) hyq.out⟩⟩, ext_trans hbw1 hb1⟩
    · obtain rfl : j = L := by omega
      go_wp2
      go_ret
      refine ⟨⟨true, rfl, ⟨fun _ => ?_, fun _ => rfl⟩⟩, hbw⟩
      have := hq.out
      rw [List.take_of_length_le (by have := hL.out; omega)] at this
      exact this
set_option maxRecDepth 20000 in
set_option maxHeartbeats 1000000 in
theorem all_75 (q : Nd → Prop) (ks : List Nd) (b : Option Addr) (cap : Nat) (m : Wm) (S : Nat → Prop) (w : World) (hlen : ks.length ≤ 100000) (hW : WE m w) (hk : KA S w b cap ks) (hok : ∀ y ∈ ks, okN y) (ih : ∀ y ∈ ks, Ask 75 q y) : Calls Tryz.prog 40 #[.slice b ks.length cap, .func (.func 75) #[m.v] #[]] w (Ans (∀ x ∈ ks, q x) w) := by
  obtain ⟨L, hL⟩ : ∃ L, ks.length = L := ⟨_, rfl⟩
  rw [hL] at hlen ⊢
  have hcap : L ≤ cap := by rw [← hL]; exact hk.1
  replace hL : Hid _ := hL
  replace hk : Hid _ := hk
  replace hok : Hid _ := hok
  replace ih : Hid _ := ih
  go_enter Tryz.func40, Tryz.ntmps40
  go_wp2
  go_loopw [9] (fun ix wr => ∃ j : Nat, j ≤ L ∧ ix = .int .i64 (j : Nat) ∧ (∀ x ∈ ks.take j, q x) ∧ Below w.heap.size w wr) (fun ix _ => L - (intOf ix).toNat)
  case atStart => exact ⟨0, by omega, rfl, by simp, Below.refl _ _⟩
  case round =>
    obtain ⟨j, hj, rfl, hq, hbw⟩ := hrel
    replace hq : Hid _ := hq
    by_cases hlt : j < L
    · have hlt' : (j : Int) < (L : Int) := by omega
      obtain ⟨y, hy⟩ : ∃ y, ks[j]? = some y := ⟨_, List.getElem?_eq_getElem (show j < ks.length by have := hL.out; omega)⟩
      obtain ⟨g, off, b', cap', rfl, v0, v1, v2, v3, hyV⟩ := KA.at hk.out hy
      have c0 := cellB hbw v0
      have c1 := cellB hbw v1
      have c2 := cellB hbw v2
      have c3 := cellB hbw v3
      have hym : y ∈ ks := List.mem_of_getElem? hy
      have hbw1 := ext_alloc hbw (nbx y b' cap')
      have hcall := ih.out y hym m S b' cap' (wr.alloc (nbx y b' cap')) (hW.on hbw1) (hok.out y hym) ((hyV.below hbw).below (ext_alloc (Below.refl _ _) _))
      have htk := take_next hy
      replace htk : Hid _ := htk
      replace hym : Hid _ := hym
      clear v0 v1 v2 v3 hyV hy ih hk hok
      go_wp2_with (go_at_call 75; refine hcall.mono ?_; rintro e w1 ⟨⟨yb, rfl, hyb⟩, hb1⟩; refine Hid.out ?_)
      cases yb with
      | true =>
        have hyq := hyb.1 rfl
        replace hyq : Hid _ := hyq
        clear hyb hcall
        refine Lib.hid ?_
        go_wp2
        go_roundw
        case rel =>
          refine ⟨j + 1, by omega, by go_num, ?_, ext_trans hbw1 hb1⟩
          rw [htk.out]
          intro x hx
          rcases List.mem_append.1 hx with hx | hx
          · exact hq.out x hx
          · simp at hx; subst hx; exact hyq.out
        case measure => simp [intOf]; omega
      | false =>
        have hyq : ¬ q y := fun h => by have := hyb.2 h; cases this
        replace hyq : Hid _ := hyq
        clear hyb hcall
        refine Lib.hid ?_
        go_wp2
        go_ret
        exact ⟨⟨false, rfl, ⟨fun h => (by cases h), fun h => absurd (h y hym.out) hyq.out⟩⟩, ext_trans hbw1 hb1⟩
    · obtain rfl : j = L := by omega
      go_wp2
      go_ret
      refine ⟨⟨true, rfl, ⟨fun _ => ?_, fun _ => rfl⟩⟩, hbw⟩
      have := hq.out
      rw [List.take_of_length_le (by have := hL.out; omega)] at this
      exact this
set_option maxRecDepth 20000 in
set_option maxHeartbeats 1000000 in
theorem all_103 (q : Nd → Prop) (ks : List Nd) (b : Option Addr) (cap : Nat) (m : Wm) (S : Nat → Prop) (w : World) (hlen : ks.length ≤ 100000) (hW : WE m w) (hk : KA S w b cap ks) (hok : ∀ y ∈ ks, okN y) (ih : ∀ y ∈ ks, Ask 103 q y) : Calls Tryz.prog 40 #[.slice b ks.length cap, .func (.func 103) #[m.v] #[]] w (Ans (∀ x ∈ ks, q x) w) := by
  obtain ⟨L, hL⟩ : ∃ L, ks.length = L := ⟨_, rfl⟩
  rw [hL] at hlen ⊢
  have hcap : L ≤ cap := by rw [← hL]; exact hk.1
  replace hL : Hid _ := hL
  replace hk : Hid _ := hk
  replace hok : Hid _ := hok
  replace ih : Hid _ := ih
  go_enter Tryz.func40, Tryz.ntmps40
  go_wp2
  go_loopw [9] (fun ix wr => ∃ j : Nat, j ≤ L ∧ ix = .int .i64 (j : Nat) ∧ (∀ x ∈ ks.take j, q x) ∧ Below w.heap.size w wr) (fun ix _ => L - (intOf ix).toNat)
  case atStart => exact ⟨0, by omega, rfl, by simp, Below.refl _ _⟩
  case round =>
    obtain ⟨j, hj, rfl, hq, hbw⟩ := hrel
    replace hq : Hid _ := hq
    by_cases hlt : j < L
    · have hlt' : (j : Int) < (L : Int) := by omega
      obtain ⟨y, hy⟩ : ∃ y, ks[j]? = some y := ⟨_, List.getElem?_eq_getElem (show j < ks.length by have := hL.out; omega)⟩
      obtain ⟨g, off, b', cap', rfl, v0, v1, v2, v3, hyV⟩ := KA.at hk.out hy
      have c0 := cellB hbw v0
      have c1 := cellB hbw v1
      have c2 := cellB hbw v2
      have c3 := cellB hbw v3
      have hym : y ∈ ks := List.mem_of_getElem? hy
      have hbw1 := ext_alloc hbw (nbx y b' cap')
      have hcall := ih.out y hym m S b' cap' (wr.alloc (nbx y b' cap')) (hW.on hbw1) (hok.out y hym) ((hyV.below hbw).below (ext_alloc (Below.refl _ _) _))
      have htk := take_next hy
      replace htk : Hid _ := htk
      replace hym : Hid _ := hym
      clear v0 v1 v2 v3 hyV hy ih hk hok
      go_wp2_with (go_at_call 103; refine hcall.mono ?_; rintro e w1 ⟨⟨yb, rfl, hyb⟩, hb1⟩; refine Hid.out ?_)
      cases yb with
      | true =>
        have hyq := hyb.1 rfl
        replace hyq : Hid _ := hyq
        clear hyb hcall
        refine Lib.hid ?_
        go_wp2
        go_roundw
        case rel =>
          refine ⟨j + 1, by omega, by go_num, ?_, ext_trans hbw1 hb1⟩
          rw [htk.out]
          intro x hx
          rcases List.mem_append.1 hx with hx | hx
          · exact hq.out x hx
          · simp at hx; subst hx; exact hyq.out
        case measure => simp [intOf]; omega
      | false =>
        have hyq : ¬ q y := fun h => by have := hyb.2 h; cases this
        replace hyq : Hid _ := hyq
        clear hyb hcall
        refine Lib.hid ?_
        go_wp2
        go_ret
        exact ⟨⟨false, rfl, ⟨fun h => (by cases h), fun h => absurd (h y hym.out) hyq.out⟩⟩, ext_trans hbw1 hb1⟩
    · obtain rfl : j = L := by omega
      go_wp2
      go_ret
      refine ⟨⟨true, rfl, ⟨fun _ => ?_, fun _ => rfl⟩⟩, hbw⟩
      have := hq.out
      rw [List.take_of_length_le (by have := hL.out; omega)] at this
      exact this
set_option maxRecDepth 20000 in
set_option maxHeartbeats 1000000 in
theorem all_121 (q : Nd → Prop) (ks : List Nd) (b : Option Addr) (cap : Nat) (m : Wm) (S : Nat → Prop) (w : World) (hlen : ks.length ≤ 100000) (hW : WE m w) (hk : KA S w b cap ks) (hok : ∀ y ∈ ks, okN y) (ih : ∀ y ∈ ks, Ask 121 q y) : Calls Tryz.prog 40 #[.slice b ks.length cap, .func (.func 121) #[m.v] #[]] w (Ans (∀ x ∈ ks, q x) w) := by
  obtain ⟨L, hL⟩ : ∃ L, ks.length = L := ⟨_, rfl⟩
  rw [hL] at hlen ⊢
  have hcap : L ≤ cap := by rw [← hL]; exact hk.1
  replace hL : Hid _ := hL
  replace hk : Hid _ := hk
  replace hok : Hid _ := hok
  replace ih : Hid _ := ih
  go_enter Tryz.func40, Tryz.ntmps40
  go_wp2
  go_loopw [9] (fun ix wr => ∃ j : Nat, j ≤ L ∧ ix = .int .i64 (j : Nat) ∧ (∀ x ∈ ks.take j, q x) ∧ Below w.heap.size w wr) (fun ix _ => L - (intOf ix).toNat)
  case atStart => exact ⟨0, by omega, rfl, by simp, Below.refl _ _⟩
  case round =>
    obtain ⟨j, hj, rfl, hq, hbw⟩ := hrel
    replace hq : Hid _ := hq
    by_cases hlt : j < L
    · have hlt' : (j : Int) < (L : Int) := by omega
      obtain ⟨y, hy⟩ : ∃ y, ks[j]? = some y := ⟨_, List.getElem?_eq_getElem (show j < ks.length by have := hL.out; omega)⟩
      obtain ⟨g, off, b', cap', rfl, v0, v1, v2, v3, hyV⟩ := KA.at hk.out hy
      have c0 := cellB hbw v0
      have c1 := cellB hbw v1
      have c2 := cellB hbw v2
      have c3 := cellB hbw v3
      have hym : y ∈ ks := List.mem_of_getElem? hy
      have hbw1 := ext_alloc hbw (nbx y b' cap')
      have hcall := ih.out y hym m S b' cap' (wr.alloc (nbx y b' cap')) (hW.on hbw1) (hok.out y hym) ((hyV.below hbw).below (ext_alloc (Below.refl _ _) _))
      have htk := take_next hy
      replace htk : Hid _ := htk
      replace hym : Hid _ := hym
      clear v0 v1 v2 v3 hyV hy ih hk hok
      go_wp2_with (go_at_call 121; refine hcall.mono ?_; rintro e w1 ⟨⟨yb, rfl, hyb⟩, hb1⟩; refine Hid.out ?_)
      cases yb with
      | true =>
        have hyq := hyb.1 rfl
        replace hyq : Hid _ := hyq
        clear hyb hcall
        refine Lib.hid ?_
        go_wp2
        go_roundw
        case rel =>
          refine ⟨j + 1, by omega, by go_num, ?_, ext_trans hbw1 hb1⟩
          rw [htk.out]
          intro x hx
          rcases List.mem_append.1 hx with hx | hx
          · exact hq.out x hx
          · simp at hx; subst hx; exact hyq.out
        case measure => simp [intOf]; omega
      | false =>
        have hyq : ¬ q y := fun h => by have := hyb.2 h; cases this
        replace hyq : Hid _ := hyq
        clear hyb hcall
        refine Lib.hid ?_
        go_wp2
        go_ret
        exact ⟨⟨false, rfl, ⟨fun h => (by cases h), fun h => absurd (h y hym.out) hyq.out⟩⟩, ext_trans hbw1 hb1⟩
    · obtain rfl : j = L := by omega
      go_wp2
      go_ret
      refine ⟨⟨true, rfl, ⟨fun _ => ?_, fun _ => rfl⟩⟩, hbw⟩
      have := hq.out
      rw [List.take_of_length_le (by have := hL.out; omega)] at this
      exact this
end Go.Proofs.YtbdkiimggggndaaGreatDoor
namespace Go.Proofs.YtbdkiimggggndaaGreatDoor
open Go.RowKit
open Go

set_option maxRecDepth 20000 in
set_option maxHeartbeats 1000000 in
theorem each_no (L : Nat) (b : Option Addr) (cap c : Nat) (Q : Option Addr) (r : Nat) (w : World) (h : (L == r) = false) : Calls Tryz.prog 120 #[.slice b L cap, .slice Q r c] w fun e w' => e = .returned (.bool false) ∧ Below w.heap.size w w' := by
  go_enter Tryz.func120, Tryz.ntmps120
  go_wp2
  go_ret
  exact ⟨rfl, Below.refl _ _⟩
set_option maxRecDepth 20000 in
set_option maxHeartbeats 1000000 in
theorem each_0 (ks : List Nd) (b : Option Addr) (cap : Nat) (w : World) : Calls Tryz.prog 120 #[.slice b ks.length cap, .slice none 0 0] w (Ans (ks = []) w) := by
  by_cases h : ks.length = 0
  · have hks : ks = [] := List.length_eq_zero_iff.1 h
    subst hks
    dsimp only [List.length_nil]
    go_enter Tryz.func120, Tryz.ntmps120
    go_wp2
    refine wp_loop_rounds 1 ?_
    rw [rounds_succ]
    go_wp2
    go_ret
    exact ⟨⟨true, rfl, by simp⟩, Below.refl _ _⟩
  · refine (each_no ks.length b cap 0 none 0 w (by simpa using h)).mono ?_
    rintro e w' ⟨rfl, hb⟩
    exact ⟨⟨false, rfl, ⟨fun h => (by cases h), fun e => by subst e; simp at h⟩⟩, hb⟩
set_option maxRecDepth 20000 in
set_option maxHeartbeats 2000000 in
theorem each_121 (q0 : Nd → Prop) (ks : List Nd) (b : Option Addr) (cap : Nat) (m : Wm) (S : Nat → Prop) (Q : Nat) (w : World) (hW : WE m w) (hQ : w.heap[Q]? = some (.cells #[.func (.func 121) #[m.v] #[]] 34)) (hk : KA S w b cap ks) (hok : ∀ y ∈ ks, okN y) (h0 : ∀ y, ks[0]? = some y → Ask 121 q0 y) : Calls Tryz.prog 120 #[.slice b ks.length cap, .slice (some ⟨Q, 0, none⟩) 1 1] w (Ans (∃ y0, ks = [y0] ∧ q0 y0) w) := by
  by_cases hl : ¬ ks.length = 1
  · refine (each_no ks.length b cap 1 (some ⟨Q, 0, none⟩) 1 w (by simpa using hl)).mono ?_
    rintro e w' ⟨rfl, hb⟩
    refine ⟨⟨false, rfl, ⟨fun h => (by cases h), fun ⟨y0, e, _⟩ => ?_⟩⟩, hb⟩
    rw [e] at hl
    exact absurd rfl hl
  rw [Decidable.not_not] at hl
  obtain ⟨y0, rfl⟩ : ∃ y0, ks = [y0] := by
    match ks, hl with
    | [y0], _ => exact ⟨y0, rfl⟩
  have hcap : 1 ≤ cap := hk.1
  obtain ⟨g, off, b0, cap0, rfl, v00, v01, v02, v03, hV0⟩ := KA.at hk (j := 0) rfl
  rw [show off + 0 * 4 = off by omega] at v00 v01 v02 v03
  have f0 : w.cell? ⟨Q, 0, none⟩ = some (.func (.func 121) #[m.v] #[]) := cell_block hQ rfl
  have hc0 := fun u (hb : Below w.heap.size w u) => h0 y0 rfl m S b0 cap0 u (hW.on hb) (hok y0 (by simp)) (hV0.below hb)
  clear hk hok hW hQ h0 hV0
  dsimp only [List.length_cons, List.length_nil]
  go_enter Tryz.func120, Tryz.ntmps120
  go_wp2
  refine wp_loop_rounds 2 ?_
  rw [rounds_succ]
  go_wp2_with (go_at_call 121; refine (hc0 _ (Below.refl _ _)).mono ?_; rintro e u0 ⟨⟨z0, rfl, hz0⟩, hb0⟩; refine Hid.out ?_)
  have hbb0 := hb0
  cases z0 with
  | false =>
    have hq0 : ¬ q0 y0 := fun h => (by have := hz0.2 h; cases this)
    replace hq0 : Hid _ := hq0
    clear hz0
    refine Lib.hid ?_
    go_wp2
    go_ret
    refine ⟨⟨false, rfl, ⟨fun h => (by cases h), fun ⟨x0, e, hh⟩ => ?_⟩⟩, hbb0⟩
    simp only [List.cons.injEq] at e
    obtain ⟨rfl, _⟩ := e
    exact absurd (hh) hq0.out
  | true =>
  have hq0 := hz0.1 rfl
  replace hq0 : Hid _ := hq0
  clear hz0
  refine Lib.hid ?_
  go_wp2
  rw [rounds_succ]
  go_wp2
  go_ret
  exact ⟨⟨true, rfl, ⟨fun _ => ⟨_, rfl, hq0.out⟩, fun _ => rfl⟩⟩, hbb0⟩
set_option maxRecDepth 20000 in
set_option maxHeartbeats 2000000 in
theorem each_122_121 (q0 q1 : Nd → Prop) (ks : List Nd) (b : Option Addr) (cap : Nat) (m : Wm) (S : Nat → Prop) (Q : Nat) (w : World) (hW : WE m w) (hQ : w.heap[Q]? = some (.cells #[.func (.func 122) #[m.v] #[], .func (.func 121) #[m.v] #[]] 34)) (hk : KA S w b cap ks) (hok : ∀ y ∈ ks, okN y) (h0 : ∀ y, ks[0]? = some y → Ask 122 q0 y) (h1 : ∀ y, ks[1]? = some y → Ask 121 q1 y) : Calls Tryz.prog 120 #[.slice b ks.length cap, .slice (some ⟨Q, 0, none⟩) 2 2] w (Ans (∃ y0 y1, ks = [y0, y1] ∧ q0 y0 ∧ q1 y1) w) := by
  by_cases hl : ¬ ks.length = 2
  · refine (each_no ks.length b cap 2 (some ⟨Q, 0, none⟩) 2 w (by simpa using hl)).mono ?_
    rintro e w' ⟨rfl, hb⟩
    refine ⟨⟨false, rfl, ⟨fun h => (by cases h), fun ⟨y0, y1, e, _⟩ => ?_⟩⟩, hb⟩
    rw [e] at hl
    exact absurd rfl hl
  rw [Decidable.not_not] at hl
  obtain ⟨y0, y1, rfl⟩ : ∃ y0 y1, ks = [y0, y1] := by
    match ks, hl with
    | [y0, y1], _ => exact ⟨y0, y1, rfl⟩
  have hcap : 2 ≤ cap := hk.1
  obtain ⟨g, off, b0, cap0, rfl, v00, v01, v02, v03, hV0⟩ := KA.at hk (j := 0) rfl
  rw [show off + 0 * 4 = off by omega] at v00 v01 v02 v03
  obtain ⟨g', off', b1, cap1, e', v10, v11, v12, v13, hV1⟩ := KA.at hk (j := 1) rfl
  cases e'
  rw [show off + 1 * 4 = off + 4 by omega] at v10 v11 v12 v13
  have f0 : w.cell? ⟨Q, 0, none⟩ = some (.func (.func 122) #[m.v] #[]) := cell_block hQ rfl
  have hc0 := fun u (hb : Below w.heap.size w u) => h0 y0 rfl m S b0 cap0 u (hW.on hb) (hok y0 (by simp)) (hV0.below hb)
  have f1 : w.cell? ⟨Q, 1, none⟩ = some (.func (.func 121) #[m.v] #[]) := cell_block hQ rfl
  have hc1 := fun u (hb : Below w.heap.size w u) => h1 y1 rfl m S b1 cap1 u (hW.on hb) (hok y1 (by simp)) (hV1.below hb)
  clear hk hok hW hQ h0 h1 hV0 hV1
  dsimp only [List.length_cons, List.length_nil]
  go_enter Tryz.func120, Tryz.ntmps120
  go_wp2
  refine wp_loop_rounds 3 ?_
  rw [rounds_succ]
  go_wp2_with (go_at_call 122; refine (hc0 _ (Below.refl _ _)).mono ?_; rintro e u0 ⟨⟨z0, rfl, hz0⟩, hb0⟩; refine Hid.out ?_)
  have hbb0 := hb0
  have f1 := cellB hb0 f1
  have v10 := cellB hb0 v10
  have v11 := cellB hb0 v11
  have v12 := cellB hb0 v12
  have v13 := cellB hb0 v13
  cases z0 with
  | false =>
    have hq0 : ¬ q0 y0 := fun h => (by have := hz0.2 h; cases this)
    replace hq0 : Hid _ := hq0
    clear hz0
    refine Lib.hid ?_
    go_wp2
    go_ret
    refine ⟨⟨false, rfl, ⟨fun h => (by cases h), fun ⟨x0, x1, e, hh⟩ => ?_⟩⟩, hbb0⟩
    simp only [List.cons.injEq] at e
    obtain ⟨rfl, rfl, _⟩ := e
    exact absurd (hh.1) hq0.out
  | true =>
  have hq0 := hz0.1 rfl
  replace hq0 : Hid _ := hq0
  clear hz0
  refine Lib.hid ?_
  go_wp2
  rw [rounds_succ]
  go_wp2_with (go_at_call 121; refine (hc1 _ hbb0).mono ?_; rintro e u1 ⟨⟨z1, rfl, hz1⟩, hb1⟩; refine Hid.out ?_)
  have hbb1 := ext_trans hbb0 hb1
  cases z1 with
  | false =>
    have hq1 : ¬ q1 y1 := fun h => (by have := hz1.2 h; cases this)
    replace hq1 : Hid _ := hq1
    clear hz1
    refine Lib.hid ?_
    go_wp2
    go_ret
    refine ⟨⟨false, rfl, ⟨fun h => (by cases h), fun ⟨x0, x1, e, hh⟩ => ?_⟩⟩, hbb1⟩
    simp only [List.cons.injEq] at e
    obtain ⟨rfl, rfl, _⟩ := e
    exact absurd (hh.2) hq1.out
  | true =>
  have hq1 := hz1.1 rfl
  replace hq1 : Hid _ := hq1
  clear hz1
  refine Lib.hid ?_
  go_wp2
  rw [rounds_succ]
  go_wp2
  go_ret
  exact ⟨⟨true, rfl, ⟨fun _ => ⟨_, _, rfl, hq0.out, hq1.out⟩, fun _ => rfl⟩⟩, hbb1⟩
set_option maxRecDepth 20000 in
set_option maxHeartbeats 2000000 in
theorem each_123 (q0 : Nd → Prop) (ks : List Nd) (b : Option Addr) (cap : Nat) (m : Wm) (S : Nat → Prop) (Q : Nat) (w : World) (hW : WE m w) (hQ : w.heap[Q]? = some (.cells #[.func (.func 123) #[m.v] #[]] 34)) (hk : KA S w b cap ks) (hok : ∀ y ∈ ks, okN y) (h0 : ∀ y, ks[0]? = some y → Ask 123 q0 y) : Calls Tryz.prog 120 #[.slice b ks.length cap, .slice (some ⟨Q, 0, none⟩) 1 1] w (Ans (∃ y0, ks = [y0] ∧ q0 y0) w) := by
  by_cases hl : ¬ ks.length = 1
  · refine (each_no ks.length b cap 1 (some ⟨Q, 0, none⟩) 1 w (by simpa using hl)).mono ?_
    rintro e w' ⟨rfl, hb⟩
    refine ⟨⟨false, rfl, ⟨fun h => (by cases h), fun ⟨y0, e, _⟩ => ?_⟩⟩, hb⟩
    rw [e] at hl
    exact absurd rfl hl
  rw [Decidable.not_not] at hl
  obtain ⟨y0, rfl⟩ : ∃ y0, ks = [y0] := by
    match ks, hl with
    | [y0], _ => exact ⟨y0, rfl⟩
  have hcap : 1 ≤ cap := hk.1
  obtain ⟨g, off, b0, cap0, rfl, v00, v01, v02, v03, hV0⟩ := KA.at hk (j := 0) rfl
  rw [show off + 0 * 4 = off by omega] at v00 v01 v02 v03
  have f0 : w.cell? ⟨Q, 0, none⟩ = some (.func (.func 123) #[m.v] #[]) := cell_block hQ rfl
  have hc0 := fun u (hb : Below w.heap.size w u) => h0 y0 rfl m S b0 cap0 u (hW.on hb) (hok y0 (by simp)) (hV0.below hb)
  clear hk hok hW hQ h0 hV0
  dsimp only [List.length_cons, List.length_nil]
  go_enter Tryz.func120, Tryz.ntmps120
  go_wp2
  refine wp_loop_rounds 2 ?_
  rw [rounds_succ]
  go_wp2_with (go_at_call 123; refine (hc0 _ (Below.refl _ _)).mono ?_; rintro e u0 ⟨⟨z0, rfl, hz0⟩, hb0⟩; refine Hid.out ?_)
  have hbb0 := hb0
  cases z0 with
  | false =>
    have hq0 : ¬ q0 y0 := fun h => (by have := hz0.2 h; cases this)
    replace hq0 : Hid _ := hq0
    clear hz0
    refine Lib.hid ?_
    go_wp2
    go_ret
    refine ⟨⟨false, rfl, ⟨fun h => (by cases h), fun ⟨x0, e, hh⟩ => ?_⟩⟩, hbb0⟩
    simp only [List.cons.injEq] at e
    obtain ⟨rfl, _⟩ := e
    exact absurd (hh) hq0.out
  | true =>
  have hq0 := hz0.1 rfl
  replace hq0 : Hid _ := hq0
  clear hz0
  refine Lib.hid ?_
  go_wp2
  rw [rounds_succ]
  go_wp2
  go_ret
  exact ⟨⟨true, rfl, ⟨fun _ => ⟨_, rfl, hq0.out⟩, fun _ => rfl⟩⟩, hbb0⟩
set_option maxRecDepth 20000 in
set_option maxHeartbeats 2000000 in
theorem each_121_76 (q0 q1 : Nd → Prop) (ks : List Nd) (b : Option Addr) (cap : Nat) (m : Wm) (S : Nat → Prop) (Q : Nat) (w : World) (hW : WE m w) (hQ : w.heap[Q]? = some (.cells #[.func (.func 121) #[m.v] #[], .func (.func 76) #[m.v] #[]] 34)) (hk : KA S w b cap ks) (hok : ∀ y ∈ ks, okN y) (h0 : ∀ y, ks[0]? = some y → Ask 121 q0 y) (h1 : ∀ y, ks[1]? = some y → Ask 76 q1 y) : Calls Tryz.prog 120 #[.slice b ks.length cap, .slice (some ⟨Q, 0, none⟩) 2 2] w (Ans (∃ y0 y1, ks = [y0, y1] ∧ q0 y0 ∧ q1 y1) w) := by
  by_cases hl : ¬ ks.length = 2
  · refine (each_no ks.length b cap 2 (some ⟨Q, 0, none⟩) 2 w (by simpa using hl)).mono ?_
    rintro e w' ⟨rfl, hb⟩
    refine ⟨⟨false, rfl, ⟨fun h => (by cases h), fun ⟨y0, y1, e, _⟩ => ?_⟩⟩, hb⟩
    rw [e] at hl
    exact absurd rfl hl
  rw [Decidable.not_not] at hl
  obtain ⟨y0, y1, rfl⟩ : ∃ y0 y1, ks = [y0, y1] := by
    match ks, hl with
    | [y0, y1], _ => exact ⟨y0, y1, rfl⟩
  have hcap : 2 ≤ cap := hk.1
  obtain ⟨g, off, b0, cap0, rfl, v00, v01, v02, v03, hV0⟩ := KA.at hk (j := 0) rfl
  rw [show off + 0 * 4 = off by omega] at v00 v01 v02 v03
  obtain ⟨g', off', b1, cap1, e', v10, v11, v12, v13, hV1⟩ := KA.at hk (j := 1) rfl
  cases e'
  rw [show off + 1 * 4 = off + 4 by omega] at v10 v11 v12 v13
  have f0 : w.cell? ⟨Q, 0, none⟩ = some (.func (.func 121) #[m.v] #[]) := cell_block hQ rfl
  have hc0 := fun u (hb : Below w.heap.size w u) => h0 y0 rfl m S b0 cap0 u (hW.on hb) (hok y0 (by simp)) (hV0.below hb)
  have f1 : w.cell? ⟨Q, 1, none⟩ = some (.func (.func 76) #[m.v] #[]) := cell_block hQ rfl
  have hc1 := fun u (hb : Below w.heap.size w u) => h1 y1 rfl m S b1 cap1 u (hW.on hb) (hok y1 (by simp)) (hV1.below hb)
  clear hk hok hW hQ h0 h1 hV0 hV1
  dsimp only [List.length_cons, List.length_nil]
  go_enter Tryz.func120, Tryz.ntmps120
  go_wp2
  refine wp_loop_rounds 3 ?_
  rw [rounds_succ]
  go_wp2_with (go_at_call 121; refine (hc0 _ (Below.refl _ _)).mono ?_; rintro e u0 ⟨⟨z0, rfl, hz0⟩, hb0⟩; refine Hid.out ?_)
  have hbb0 := hb0
  have f1 := cellB hb0 f1
  have v10 := cellB hb0 v10
  have v11 := cellB hb0 v11
  have v12 := cellB hb0 v12
  have v13 := cellB hb0 v13
  cases z0 with
  | false =>
    have hq0 : ¬ q0 y0 := fun h => (by have := hz0.2 h; cases this)
    replace hq0 : Hid _ := hq0
    clear hz0
    refine Lib.hid ?_
    go_wp2
    go_ret
    refine ⟨⟨false, rfl, ⟨fun h => (by cases h), fun ⟨x0, x1, e, hh⟩ => ?_⟩⟩, hbb0⟩
    simp only [List.cons.injEq] at e
    obtain ⟨rfl, rfl, _⟩ := e
    exact absurd (hh.1) hq0.out
  | true =>
  have hq0 := hz0.1 rfl
  replace hq0 : Hid _ := hq0
  clear hz0
  refine Lib.hid ?_
  go_wp2
  rw [rounds_succ]
  go_wp2_with (go_at_call 76; refine (hc1 _ hbb0).mono ?_; rintro e u1 ⟨⟨z1, rfl, hz1⟩, hb1⟩; refine Hid.out ?_)
  have hbb1 := ext_trans hbb0 hb1
  cases z1 with
  | false =>
    have hq1 : ¬ q1 y1 := fun h => (by have := hz1.2 h; cases this)
    replace hq1 : Hid _ := hq1
    clear hz1
    refine Lib.hid ?_
    go_wp2
    go_ret
    refine ⟨⟨false, rfl, ⟨fun h => (by cases h), fun ⟨x0, x1, e, hh⟩ => ?_⟩⟩, hbb1⟩
    simp only [List.cons.injEq] at e
    obtain ⟨rfl, rfl, _⟩ := e
    exact absurd (hh.2) hq1.out
  | true =>
  have hq1 := hz1.1 rfl
  replace hq1 : Hid _ := hq1
  clear hz1
  refine Lib.hid ?_
  go_wp2
  rw [rounds_succ]
  go_wp2
  go_ret
  exact ⟨⟨true, rfl, ⟨fun _ => ⟨_, _, rfl, hq0.out, hq1.out⟩, fun _ => rfl⟩⟩, hbb1⟩
set_option maxRecDepth 20000 in
set_option maxHeartbeats 2000000 in
theorem each_121_76_76 (q0 q1 q2 : Nd → Prop) (ks : List Nd) (b : Option Addr) (cap : Nat) (m : Wm) (S : Nat → Prop) (Q : Nat) (w : World) (hW : WE m w) (hQ : w.heap[Q]? = some (.cells #[.func (.func 121) #[m.v] #[], .func (.func 76) #[m.v] #[], .func (.func 76) #[m.v] #[]] 34)) (hk : KA S w b cap ks) (hok : ∀ y ∈ ks, okN y) (h0 : ∀ y, ks[0]? = some y → Ask 121 q0 y) (h1 : ∀ y, ks[1]? = some y → Ask 76 q1 y) (h2 : ∀ y, ks[2]? = some y → Ask 76 q2 y) : Calls Tryz.prog 120 #[.slice b ks.length cap, .slice (some ⟨Q, 0, none⟩) 3 3] w (Ans (∃ y0 y1 y2, ks = [y0, y1, y2] ∧ q0 y0 ∧ q1 y1 ∧ q2 y2) w) := by
  by_cases hl : ¬ ks.length = 3
  · refine (each_no ks.length b cap 3 (some ⟨Q, 0, none⟩) 3 w (by simpa using hl)).mono ?_
    rintro e w' ⟨rfl, hb⟩
    refine ⟨⟨false, rfl, ⟨fun h => (by cases h), fun ⟨y0, y1, y2, e, _⟩ => ?_⟩⟩, hb⟩
    rw [e] at hl
    exact absurd rfl hl
  rw [Decidable.not_not] at hl
  obtain ⟨y0, y1, y2, rfl⟩ : ∃ y0 y1 y2, ks = [y0, y1, y2] := by
    match ks, hl with
    | [y0, y1, y2], _ => exact ⟨y0, y1, y2, rfl⟩
  have hcap : 3 ≤ cap := hk.1
  obtain ⟨g, off, b0, cap0, rfl, v00, v01, v02, v03, hV0⟩ := KA.at hk (j := 0) rfl
  rw [show off + 0 * 4 = off by omega] at v00 v01 v02 v03
  obtain ⟨g', off', b1, cap1, e', v10, v11, v12, v13, hV1⟩ := KA.at hk (j := 1) rfl
  cases e'
  rw [show off + 1 * 4 = off + 4 by omega] at v10 v11 v12 v13
  obtain ⟨g', off', b2, cap2, e', v20, v21, v22, v23, hV2⟩ := KA.at hk (j := 2) rfl
  cases e'
  rw [show off + 2 * 4 = off + 8 by omega] at v20 v21 v22 v23
  have f0 : w.cell? ⟨Q, 0, none⟩ = some (.func (.func 121) #[m.v] #[]) := cell_block hQ rfl
  have hc0 := fun u (hb : Below w.heap.size w u) => h0 y0 rfl m S b0 cap0 u (hW.on hb) (hok y0 (by simp)) (hV0.below hb)
  have f1 : w.cell? ⟨Q, 1, none⟩ = some (.func (.func 76) #[m.v] #[]) := cell_block hQ rfl
  have hc1 := fun u (hb : Below w.heap.size w u) => h1 y1 rfl m S b1 cap1 u (hW.on hb) (hok y1 (by simp)) (hV1.below hb)
  have f2 : w.cell? ⟨Q, 2, none⟩ = some (.func (.func 76) #[m.v] #[]) := cell_block hQ rfl
  have hc2 := fun u (hb : Below w.heap.size w u) => h2 y2 rfl m S b2 cap2 u (hW.on hb) (hok y2 (by simp)) (hV2.below hb)
  clear hk hok hW hQ h0 h1 h2 hV0 hV1 hV2
  dsimp only [List.length_cons, List.length_nil]
  go_enter Tryz.func120, Tryz.ntmps120
  go_wp2
  refine wp_loop_rounds 4 ?_
  rw [rounds_succ]
  go_wp2_with (go_at_call 121; refine (hc0 _ (Below.refl _ _)).mono ?_; rintro e u0 ⟨⟨z0, rfl, hz0⟩, hb0⟩; refine Hid.out ?_)
  have hbb0 := hb0
  have f1 := cellB hb0 f1
  have v10 := cellB hb0 v10
  have v11 := cellB hb0 v11
  have v12 := cellB hb0 v12
  have v13 := cellB hb0 v13
  have f2 := cellB hb0 f2
  have v20 := cellB hb0 v20
  have v21 := cellB hb0 v21
  have v22 := cellB hb0 v22
  have v23 := cellB hb0 v23
  cases z0 with
  | false =>
    have hq0 : ¬ q0 y0 := fun h => (by have := hz0.2 h; cases this)
    replace hq0 : Hid _ := hq0
    clear hz0
    refine Lib.hid ?_
    go_wp2
    go_ret
    refine ⟨⟨false, rfl, ⟨fun h => (by cases h), fun ⟨x0, x1, x2, e, hh⟩ => ?_⟩⟩, hbb0⟩
    simp only [List.cons.injEq] at e
    obtain ⟨rfl, rfl, rfl, _⟩ := e
    exact absurd (hh.1) hq0.out
  | true =>
  have hq0 := hz0.1 rfl
  replace hq0 : Hid _ := hq0
  clear hz0
  refine Lib.hid ?_
  go_wp2
  rw [rounds_succ]
  go_wp2_with (go_at_call 76; refine (hc1 _ hbb0).mono ?_; rintro e u1 ⟨⟨z1, rfl, hz1⟩, hb1⟩; refine Hid.out ?_)
  have hbb1 := ext_trans hbb0 hb1
  have f2 := cellB hb1 f2
  have v20 := cellB hb1 v20
  have v21 := cellB hb1 v21
  have v22 := cellB hb1 v22
  have v23 := cellB hb1 v23
  cases z1 with
  | false =>
    have hq1 : ¬ q1 y1 := fun h => (by have := hz1.2 h; cases this)
    replace hq1 : Hid _ := hq1
    clear hz1
    refine Lib.hid ?_
    go_wp2
    go_ret
    refine ⟨⟨false, rfl, ⟨fun h => (by cases h), fun ⟨x0, x1, x2, e, hh⟩ => ?_⟩⟩, hbb1⟩
    simp only [List.cons.injEq] at e
    obtain ⟨rfl, rfl, rfl, _⟩ := e
    exact absurd (hh.2.1) hq1.out
  | true =>
  have hq1 := hz1.1 rfl
  replace hq1 : Hid _ := hq1
  clear hz1
  refine Lib.hid ?_
  go_wp2
  rw [rounds_succ]
  go_wp2_with (go_at_call 76; refine (hc2 _ hbb1).mono ?_; rintro e u2 ⟨⟨z2, rfl, hz2⟩, hb2⟩; refine Hid.out ?_)
  have hbb2 := ext_trans hbb1 hb2
  cases z2 with
  | false =>
    have hq2 : ¬ q2 y2 := fun h => (by have := hz2.2 h; cases this)
    replace hq2 : Hid _ := hq2
    clear hz2
    refine Lib.hid ?_
    go_wp2
    go_ret
    refine ⟨⟨false, rfl, ⟨fun h => (by cases h), fun ⟨x0, x1, x2, e, hh⟩ => ?_⟩⟩, hbb2⟩
    simp only [List.cons.injEq] at e
    obtain ⟨rfl, rfl, rfl, _⟩ := e
    exact absurd (hh.2.2) hq2.out
  | true =>
  have hq2 := hz2.1 rfl
  replace hq2 : Hid _ := hq2
  clear hz2
  refine Lib.hid ?_
  go_wp2
  rw [rounds_succ]
  go_wp2
  go_ret
  exact ⟨⟨true, rfl, ⟨fun _ => ⟨_, _, _, rfl, hq0.out, hq1.out, hq2.out⟩, fun _ => rfl⟩⟩, hbb2⟩
set_option maxRecDepth 20000 in
set_option maxHeartbeats 2000000 in
theorem each_121_121_76 (q0 q1 q2 : Nd → Prop) (ks : List Nd) (b : Option Addr) (cap : Nat) (m : Wm) (S : Nat → Prop) (Q : Nat) (w : World) (hW : WE m w) (hQ : w.heap[Q]? = some (.cells #[.func (.func 121) #[m.v] #[], .func (.func 121) #[m.v] #[], .func (.func 76) #[m.v] #[]] 34)) (hk : KA S w b cap ks) (hok : ∀ y ∈ ks, okN y) (h0 : ∀ y, ks[0]? = some y → Ask 121 q0 y) (h1 : ∀ y, ks[1]? = some y → Ask 121 q1 y) (h2 : ∀ y, ks[2]? = some y → Ask 76 q2 y) : Calls Tryz.prog 120 #[.slice b ks.length cap, .slice (some ⟨Q, 0, none⟩) 3 3] w (Ans (∃ y0 y1 y2, ks = [y0, y1, y2] ∧ q0 y0 ∧ q1 y1 ∧ q2 y2) w) := by
  by_cases hl : ¬ ks.length = 3
  · refine (each_no ks.length b cap 3 (some ⟨Q, 0, none⟩) 3 w (by simpa using hl)).mono ?_
    rintro e w' ⟨rfl, hb⟩
    refine ⟨⟨false, rfl, ⟨fun h => (by cases h), fun ⟨y0, y1, y2, e, _⟩ => ?_⟩⟩, hb⟩
    rw [e] at hl
    exact absurd rfl hl
  rw [Decidable.not_not] at hl
  obtain ⟨y0, y1, y2, rfl⟩ : ∃ y0 y1 y2, ks = [y0, y1, y2] := by
    match ks, hl with
    | [y0, y1, y2], _ => exact ⟨y0, y1, y2, rfl⟩
  have hcap : 3 ≤ cap := hk.1
  obtain ⟨g, off, b0, cap0, rfl, v00, v01, v02, v03, hV0⟩ := KA.at hk (j := 0) rfl
  rw [show off + 0 * 4 = off by omega] at v00 v01 v02 v03
  obtain ⟨g', off', b1, cap1, e', v10, v11, v12, v13, hV1⟩ := KA.at hk (j := 1) rfl
  cases e'
  rw [show off + 1 * 4 = off + 4 by omega] at v10 v11 v12 v13
  obtain ⟨g', off', b2, cap2, e', v20, v21, v22, v23, hV2⟩ := KA.at hk (j := 2) rfl
  cases e'
  rw [show off + 2 * 4 = off + 8 by omega] at v20 v21 v22 v23
  have f0 : w.cell? ⟨Q, 0, none⟩ = some (.func (.func 121) #[m.v] #[]) := cell_block hQ rfl
  have hc0 := fun u (hb : Below w.heap.size w u) => h0 y0 rfl m S b0 cap0 u (hW.on hb) (hok y0 (by simp)) (hV0.below hb)
  have f1 : w.cell? ⟨Q, 1, none⟩ = some (.func (.func 121) #[m.v] #[]) := cell_block hQ rfl
  have hc1 := fun u (hb : Below w.heap.size w u) => h1 y1 rfl m S b1 cap1 u (hW.on hb) (hok y1 (by simp)) (hV1.below hb)
  have f2 : w.cell? ⟨Q, 2, none⟩ = some (.func (.func 76) #[m.v] #[]) := cell_block hQ rfl
  have hc2 := fun u (hb : Below w.heap.size w u) => h2 y2 rfl m S b2 cap2 u (hW.on hb) (hok y2 (by simp)) (hV2.below hb)
  clear hk hok hW hQ h0 h1 h2 hV0 hV1 hV2
  dsimp only [List.length_cons, List.length_nil]
  go_enter Tryz.func120, Tryz.ntmps120
  go_wp2
  refine wp_loop_rounds 4 ?_
  rw [rounds_succ]
  go_wp2_with (go_at_call 121; refine (hc0 _ (Below.refl _ _)).mono ?_; rintro e u0 ⟨⟨z0, rfl, hz0⟩, hb0⟩; refine Hid.out ?_)
  have hbb0 := hb0
  have f1 := cellB hb0 f1
  have v10 := cellB hb0 v10
  have v11 := cellB hb0 v11
  have v12 := cellB hb0 v12
  have v13 := cellB hb0 v13
  have f2 := cellB hb0 f2
  have v20 := cellB hb0 v20
  have v21 := cellB hb0 v21
  have v22 := cellB hb0 v22
  have v23 := cellB hb0 v23
  cases z0 with
  | false =>
    have hq0 : ¬ q0 y0 := fun h => (by have := hz0.2 h; cases this)
    replace hq0 : Hid _ := hq0
    clear hz0
    refine Lib.hid ?_
    go_wp2
    go_ret
    refine ⟨⟨false, rfl, ⟨fun h => (by cases h), fun ⟨x0, x1, x2, e, hh⟩ => ?_⟩⟩, hbb0⟩
    simp only [List.cons.injEq] at e
    obtain ⟨rfl, rfl, rfl, _⟩ := e
    exact absurd (hh.1) hq0.out
  | true =>
  have hq0 := hz0.1 rfl
  replace hq0 : Hid _ := hq0
  clear hz0
  refine Lib.hid ?_
  go_wp2
  rw [rounds_succ]
  go_wp2_with (go_at_call 121; refine (hc1 _ hbb0).mono ?_; rintro e u1 ⟨⟨z1, rfl, hz1⟩, hb1⟩; refine Hid.out ?_)
  have hbb1 := ext_trans hbb0 hb1
  have f2 := cellB hb1 f2
  have v20 := cellB hb1 v20
  have v21 := cellB hb1 v21
  have v22 := cellB hb1 v22
  have v23 := cellB hb1 v23
  cases z1 with
  | false =>
    have hq1 : ¬ q1 y1 := fun h => (by have := hz1.2 h; cases this)
    replace hq1 : Hid _ := hq1
    clear hz1
    refine Lib.hid ?_
    go_wp2
    go_ret
    refine ⟨⟨false, rfl, ⟨fun h => (by cases h), fun ⟨x0, x1, x2, e, hh⟩ => ?_⟩⟩, hbb1⟩
    simp only [List.cons.injEq] at e
    obtain ⟨rfl, rfl, rfl, _⟩ := e
    exact absurd (hh.2.1) hq1.out
  | true =>
  have hq1 := hz1.1 rfl
  replace hq1 : Hid _ := hq1
  clear hz1
  refine Lib.hid ?_
  go_wp2
  rw [rounds_succ]
  go_wp2_with (go_at_call 76; refine (hc2 _ hbb1).mono ?_; rintro e u2 ⟨⟨z2, rfl, hz2⟩, hb2⟩; refine Hid.out ?_)
  have hbb2 := ext_trans hbb1 hb2
  cases z2 with
  | false =>
    have hq2 : ¬ q2 y2 := fun h => (by have := hz2.2 h; cases this)
    replace hq2 : Hid _ := hq2
    clear hz2
    refine Lib.hid ?_
    go_wp2
    go_ret
    refine ⟨⟨false, rfl, ⟨fun h => (by cases h), fun ⟨x0, x1, x2, e, hh⟩ => ?_⟩⟩, hbb2⟩
    simp only [List.cons.injEq] at e
    obtain ⟨rfl, rfl, rfl, _⟩ := e
    exact absurd (hh.2.2) hq2.out
  | true =>
  have hq2 := hz2.1 rfl
  replace hq2 : Hid _ := hq2
  clear hz2
  refine Lib.hid ?_
  go_wp2
  rw [rounds_succ]
  go_wp2
  go_ret
  exact ⟨⟨true, rfl, ⟨fun _ => ⟨_, _, _, rfl, hq0.out, hq1.out, hq2.out⟩, fun _ => rfl⟩⟩, hbb2⟩
set_option maxRecDepth 20000 in
set_option maxHeartbeats 2000000 in
theorem each_121_121 (q0 q1 : Nd → Prop) (ks : List Nd) (b : Option Addr) (cap : Nat) (m : Wm) (S : Nat → Prop) (Q : Nat) (w : World) (hW : WE m w) (hQ : w.heap[Q]? = some (.cells #[.func (.func 121) #[m.v] #[], .func (.func 121) #[m.v] #[]] 34)) (hk : KA S w b cap ks) (hok : ∀ y ∈ ks, okN y) (h0 : ∀ y, ks[0]? = some y → Ask 121 q0 y) (h1 : ∀ y, ks[1]? = some y → Ask 121 q1 y) : Calls Tryz.prog 120 #[.slice b ks.length cap, .slice (some ⟨Q, 0, none⟩) 2 2] w (Ans (∃ y0 y1, ks = [y0, y1] ∧ q0 y0 ∧ q1 y1) w) := by
  by_cases hl : ¬ ks.length = 2
  · refine (each_no ks.length b cap 2 (some ⟨Q, 0, none⟩) 2 w (by simpa using hl)).mono ?_
    rintro e w' ⟨rfl, hb⟩
    refine ⟨⟨false, rfl, ⟨fun h => (by cases h), fun ⟨y0, y1, e, _⟩ => ?_⟩⟩, hb⟩
    rw [e] at hl
    exact absurd rfl hl
  rw [Decidable.not_not] at hl
  obtain ⟨y0, y1, rfl⟩ : ∃ y0 y1, ks = [y0, y1] := by
    match ks, hl with
    | [y0, y1], _ => exact ⟨y0, y1, rfl⟩
  have hcap : 2 ≤ cap := hk.1
  obtain ⟨g, off, b0, cap0, rfl, v00, v01, v02, v03, hV0⟩ := KA.at hk (j := 0) rfl
  rw [show off + 0 * 4 = off by omega] at v00 v01 v02 v03
  obtain ⟨g', off', b1, cap1, e', v10, v11, v12, v13, hV1⟩ := KA.at hk (j := 1) rfl
  cases e'
  rw [show off + 1 * 4 = off + 4 by omega] at v10 v11 v12 v13
  have f0 : w.cell? ⟨Q, 0, none⟩ = some (.func (.func 121) #[m.v] #[]) := cell_block hQ rfl
  have hc0 := fun u (hb : Below w.heap.size w u) => h0 y0 rfl m S b0 cap0 u (hW.on hb) (hok y0 (by simp)) (hV0.below hb)
  have f1 : w.cell? ⟨Q, 1, none⟩ = some (.func (.func 121) #[m.v] #[]) := cell_block hQ rfl
  have hc1 := fun u (hb : Below w.heap.size w u) => h1 y1 rfl m S b1 cap1 u (hW.on hb) (hok y1 (by simp)) (hV1.below hb)
  clear hk hok hW hQ h0 h1 hV0 hV1
  dsimp only [List.length_cons, List.length_nil]
  go_enter Tryz.func120, Tryz.ntmps120
  go_wp2
  refine wp_loop_rounds 3 ?_
  rw [rounds_succ]
  go_wp2_with (go_at_call 121; refine (hc0 _ (Below.refl _ _)).mono ?_; rintro e u0 ⟨⟨z0, rfl, hz0⟩, hb0⟩; refine Hid.out ?_)
  have hbb0 := hb0
  have f1 := cellB hb0 f1
  have v10 := cellB hb0 v10
  have v11 := cellB hb0 v11
  have v12 := cellB hb0 v12
  have v13 := cellB hb0 v13
  cases z0 with
  | false =>
    have hq0 : ¬ q0 y0 := fun h => (by have := hz0.2 h; cases this)
    replace hq0 : Hid _ := hq0
    clear hz0
    refine Lib.hid ?_
    go_wp2
    go_ret
    refine ⟨⟨false, rfl, ⟨fun h => (by cases h), fun ⟨x0, x1, e, hh⟩ => ?_⟩⟩, hbb0⟩
    simp only [List.cons.injEq] at e
    obtain ⟨rfl, rfl, _⟩ := e
    exact absurd (hh.1) hq0.out
  | true =>
  have hq0 := hz0.1 rfl
  replace hq0 : Hid _ := hq0
  clear hz0
  refine Lib.hid ?_
  go_wp2
  rw [rounds_succ]
  go_wp2_with (go_at_call 121; refine (hc1 _ hbb0).mono ?_; rintro e u1 ⟨⟨z1, rfl, hz1⟩, hb1⟩; refine Hid.out ?_)
  have hbb1 := ext_trans hbb0 hb1
  cases z1 with
  | false =>
    have hq1 : ¬ q1 y1 := fun h => (by have := hz1.2 h; cases this)
    replace hq1 : Hid _ := hq1
    clear hz1
    refine Lib.hid ?_
    go_wp2
    go_ret
    refine ⟨⟨false, rfl, ⟨fun h => (by cases h), fun ⟨x0, x1, e, hh⟩ => ?_⟩⟩, hbb1⟩
    simp only [List.cons.injEq] at e
    obtain ⟨rfl, rfl, _⟩ := e
    exact absurd (hh.2) hq1.out
  | true =>
  have hq1 := hz1.1 rfl
  replace hq1 : Hid _ := hq1
  clear hz1
  refine Lib.hid ?_
  go_wp2
  rw [rounds_succ]
  go_wp2
  go_ret
  exact ⟨⟨true, rfl, ⟨fun _ => ⟨_, _, rfl, hq0.out, hq1.out⟩, fun _ => rfl⟩⟩, hbb1⟩
end Go.Proofs.YtbdkiimggggndaaGreatDoor
namespace Go.Proofs.YtbdkiimggggndaaGreatDoor
open Go.RowKit
open Go

/-- Does a name stand first, with none but such kinds made of it? -/
def begB (zs : List Int) : Nd → Bool
  | ⟨k, _, _, kids⟩ => if zs.contains k then go kids else k == 18
where go : List Nd → Bool
  | [] => false
  | x :: _ => begB zs x
/-- Those of such a kind have kids. -/
def begOK (zs : List Int) : Nd → Prop
  | ⟨k, _, _, kids⟩ => zs.contains k = true → go kids
where go : List Nd → Prop
  | [] => False
  | x :: _ => begOK zs x
theorem beg_ok (x : Nd) : isN x → exprK x.k → begOK [20] x ∧ begOK [20, 21] x := by
  refine nd_ind (m := fun x => isN x → exprK x.k → begOK [20] x ∧ begOK [20, 21] x) (fun k t n kids ih h hk => ?_) x
  rw [isN] at h
  obtain ⟨h1, _, _, _, _, _, _, _, h9⟩ := h
  rw [isN_go] at h9
  simp only [exprK] at hk
  have hkid : ∀ (hk2 : k = 20 ∨ k = 21), ∃ y l, kids = y :: l ∧ isN y ∧ exprK y.k := by
    intro hk2
    cases kids with
    | nil =>
      simp only [kidsOK, List.length_nil] at h1
      omega
    | cons y l =>
      have := h9 0 y rfl
      refine ⟨y, l, rfl, this.2, ?_⟩
      have hf := this.1
      unfold fitsK at hf
      rw [if_neg (by omega), if_neg (by omega), if_neg (by omega), if_neg (by omega), if_neg (by omega)] at hf
      exact hf
  constructor
  · rw [begOK]
    intro hc
    simp at hc
    obtain ⟨y, l, rfl, hy1, hy2⟩ := hkid (.inl hc)
    exact (ih y (by simp) hy1 hy2).1
  · rw [begOK]
    intro hc
    simp at hc
    obtain ⟨y, l, rfl, hy1, hy2⟩ := hkid hc
    exact (ih y (by simp) hy1 hy2).2
theorem beg_chain (x : Nd) : (begB [20] x = true ↔ chainC x = some 0) ∧ (begB [20, 21] x = true ↔ (chainC x).isSome = true) := by
  refine nd_ind (m := fun x => (begB [20] x = true ↔ chainC x = some 0) ∧ (begB [20, 21] x = true ↔ (chainC x).isSome = true)) (fun k t n kids ih => ?_) x
  rw [begB, begB, chainC]
  by_cases h18 : k = 18
  · subst h18; simp
  by_cases h20 : k = 20
  · subst h20
    cases kids with
    | nil => simp [begB.go, chainC.go]
    | cons y l =>
      have := ih y (by simp)
      simpa [begB.go, chainC.go] using this
  by_cases h21 : k = 21
  · subst h21
    cases kids with
    | nil => simp [begB.go, chainC.go]
    | cons y l =>
      have := ih y (by simp)
      simpa [begB.go, chainC.go] using this.2
  · simp [h18, h20, h21]
theorem begOK_kid {zs : List Int} {k : Int} {t : List UInt8} {n : Int} {kids : List Nd} (h : begOK zs ⟨k, t, n, kids⟩) (hc : zs.contains k = true) : ∃ y l, kids = y :: l ∧ begOK zs y ∧ begB zs ⟨k, t, n, kids⟩ = begB zs y := by
  rw [begOK] at h
  have := h hc
  cases kids with
  | nil => cases this
  | cons y l => exact ⟨y, l, rfl, this, by rw [begB, if_pos hc]; rfl⟩
def BgI (zs : List Int) (Z : Bool) (w : World) (S : Nat → Prop) (k : Nat) (wr : World) : Prop := ∃ (x : Nd) (b' : Option Addr) (cap' : Nat), manyN x ≤ k ∧ wr.heap[w.heap.size]? = some (nbx x b' cap') ∧ NdV S w x (ndv x b' cap') ∧ begOK zs x ∧ Z = begB zs x ∧ Below w.heap.size w wr
set_option maxRecDepth 20000 in
set_option maxHeartbeats 1000000 in
theorem begins_any (zs : List Int) (n : Nd) (b : Option Addr) (cap : Nat) (S : Nat → Prop) (Q c : Nat) (w : World) (hz : zs.length ≤ 5) (hQ : ∀ u, Below w.heap.size w u → ∀ j, j < zs.length → u.cell? ⟨Q, 0 + j, none⟩ = some (.int .i64 (zs.getD j 0))) (hb : begOK zs n) (hN : NdV S w n (ndv n b cap)) : Calls Tryz.prog 145 #[ndv n b cap, .slice (some ⟨Q, 0, none⟩) zs.length c] w fun e w' => e = .returned (.bool (begB zs n)) ∧ Below w.heap.size w w' := by
  have hb0 := ext_alloc (Below.refl w.heap.size w) (nbx n b cap)
  have g0 := alloc_new w (nbx n b cap)
  have hC := fun x u (h : Below w.heap.size w u) => Tryz.slices_Contains_int Q 0 zs.length c zs x u (Nat.le_refl _) (by omega) (hQ u h)
  rw [List.take_length] at hC
  obtain ⟨L, hL⟩ : ∃ L, zs.length = L := ⟨_, rfl⟩
  rw [hL] at hC ⊢
  have hI : BgI zs (begB zs n) w S (manyN n) (w.alloc (nbx n b cap)) := ⟨n, b, cap, Nat.le_refl _, g0, hN, hb, rfl, hb0⟩
  obtain ⟨M, hM⟩ : ∃ M, manyN n = M := ⟨_, rfl⟩
  obtain ⟨Z, hZ⟩ : ∃ Z, begB zs n = Z := ⟨_, rfl⟩
  rw [hM, hZ] at hI
  rw [hZ]
  clear hb hN hQ hL hM hZ g0 hb0
  go_enter Tryz.func145, Tryz.ntmps145
  go_wp2
  go_loopg [9] M (fun k _ wr => BgI zs Z w S k wr)
  case atStart => exact hI
  case round =>
    obtain ⟨x, b', cap', hmx, gx, hN, hok, hZ, hbw⟩ := hrel
    clear hI
    obtain ⟨k0, t0, n0, kids⟩ := x
    obtain ⟨c0, c1, c2, c3, f0, f1, f2, f3⟩ := in4 gx
    have hCx := hC k0 wr hbw
    cases hc : zs.contains k0 with
    | true =>
      rw [hc] at hCx
      obtain ⟨y, l, rfl, hoy, hby⟩ := begOK_kid hok hc
      obtain ⟨g, off, b2, cap2, rfl, v0, v1, v2, v3, hyV⟩ := KA.at (KA.of hN) (j := 0) rfl
      rw [show off + 0 * 4 = off by omega] at v0 v1 v2 v3
      have d0 := cellB hbw v0
      have d1 := cellB hbw v1
      have d2 := cellB hbw v2
      have d3 := cellB hbw v3
      have hmy : manyN y < manyN ⟨k0, t0, n0, y :: l⟩ := by rw [manyN_eq ⟨k0, t0, n0, y :: l⟩]; simp [manyN.go]; omega
      clear v0 v1 v2 v3 hok hN hc hC
      rw [hby] at hZ
      replace hZ : Hid _ := hZ
      go_wp2_with (go_at_call 158; refine hCx.mono ?_; rintro e w1 ⟨rfl, rfl⟩)
      go_roundg (manyN y)
      case measure => omega
      case rel => exact ⟨y, b2, cap2, Nat.le_refl _, put4_same _ _ _ _ gx, hyV, hoy, hZ.out, (put4_keeps (Keeps.of_below (S := no) hbw) _ _ _ _ _ (Nat.le_refl _)).below (Nat.le_refl _) (fun _ _ => id)⟩
    | false =>
      rw [hc] at hCx
      have hbe : begB zs ⟨k0, t0, n0, kids⟩ = (k0 == 18) := by rw [begB, hc]; simp
      rw [hbe] at hZ
      subst hZ
      clear hc hC hok hN hbe
      go_wp2_with (go_at_call 158; refine hCx.mono ?_; rintro e w1 ⟨rfl, rfl⟩)
      go_ret
      exact ⟨rfl, hbw⟩
end Go.Proofs.YtbdkiimggggndaaGreatDoor
