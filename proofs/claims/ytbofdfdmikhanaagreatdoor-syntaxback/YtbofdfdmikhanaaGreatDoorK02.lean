/- The program's printer: what is asked of each kid. The program's printer: what an expression begins with. Which nodes are an expression's, kind by kind. -/
import Derived.Test.YtbofdfdmikhanaaGreatDoorK01
import Derived.Test.YtbofdfdmikhanaaGreatDoorJ24
namespace Go.Proofs.YtbofdfdmikhanaaGreatDoor
open Go.RowKit
open Go

set_option maxRecDepth 20000 in
set_option maxHeartbeats 1000000 in
theorem each_no (L : Nat) (b : Option Addr) (cap c : Nat) (Q : Option Addr) (r : Nat) (w : World) (h : (L == r) = false) : Calls Tryz.prog 120 #[.slice b L cap, .slice Q r c] w fun e w' => e = .returned (.bool false) ∧ Below w.heap.size w w' := by
  go_enter Tryz.func120, Tryz.ntmps120
  go_wp2
  go_ret
  exact ⟨rfl, Below.refl _ _⟩
set_option maxRecDepth 20000 in
set_option maxHeartbeats 1000000 in
theorem each_0 (ks : List Nd) (b : Option Addr) (cap : Nat) (w : World) : Calls Tryz.prog 120 #[.slice b ks.length cap, .slice none 0 0] w (Ans (ks = []) w) := by
  by_cases h : ks.length = 0
  · have hks : ks = [] := List.length_eq_zero_iff.1 h
    subst hks
    dsimp only [List.length_nil]
    go_enter Tryz.func120, Tryz.ntmps120
    go_wp2
    refine wp_loop_rounds 1 ?_
    rw [rounds_succ]
    go_wp2
    go_ret
    exact ⟨⟨true, rfl, by simp⟩, Below.refl _ _⟩
  · refine (each_no ks.length b cap 0 none 0 w (by simpa using h)).mono ?_
    rintro e w' ⟨rfl, hb⟩
    exact ⟨⟨false, rfl, ⟨fun h => (by cases h), fun e => by subst e; simp at h⟩⟩, hb⟩
set_option maxRecDepth 20000 in
set_option maxHeartbeats 2000000 in
theorem each_121 (q0 : Nd → Prop) (ks : List Nd) (b : Option Addr) (cap : Nat) (m : Wm) (S : Nat → Prop) (Q : Nat) (w : World) (hW : WE m w) (hQ : w.heap[Q]? = some (.cells #[.func (.func 121) #[m.v] #[]] 34)) (hk : KA S w b cap ks) (hok : ∀ y ∈ ks, okN y) (h0 : ∀ y, ks[0]? = some y → Ask 121 q0 y) : Calls Tryz.prog 120 #[.slice b ks.length cap, .slice (some ⟨Q, 0, none⟩) 1 1] w (Ans (∃ y0, ks = [y0] ∧ q0 y0) w) := by
  by_cases hl : ¬ ks.length = 1
  · refine (each_no ks.length b cap 1 (some ⟨Q, 0, none⟩) 1 w (by simpa using hl)).mono ?_
    rintro e w' ⟨rfl, hb⟩
    refine ⟨⟨false, rfl, ⟨fun h => (by cases h), fun ⟨y0, e, _⟩ => ?_⟩⟩, hb⟩
    rw [e] at hl
    exact absurd rfl hl
  rw [Decidable.not_not] at hl
  obtain ⟨y0, rfl⟩ : ∃ y0, ks = [y0] := by
    match ks, hl with
    | [y0], _ => exact ⟨y0, rfl⟩
  have hcap : 1 ≤ cap := hk.1
  obtain ⟨g, off, b0, cap0, rfl, v00, v01, v02, v03, hV0⟩ := KA.at hk (j := 0) rfl
  rw [show off + 0 * 4 = off by omega] at v00 v01 v02 v03
  have f0 : w.cell? ⟨Q, 0, none⟩ = some (.func (.func 121) #[m.v] #[]) := cell_block hQ rfl
  have hc0 := fun u (hb : Below w.heap.size w u) => h0 y0 rfl m S b0 cap0 u (hW.on hb) (hok y0 (by simp)) (hV0.below hb)
  clear hk hok hW hQ h0 hV0
  dsimp only [List.length_cons, List.length_nil]
  go_enter Tryz.func120, Tryz.ntmps120
  go_wp2
  refine wp_loop_rounds 2 ?_
  rw [rounds_succ]
  go_wp2_with (go_at_call 121; refine (hc0 _ (Below.refl _ _)).mono ?_; rintro e u0 ⟨⟨z0, rfl, hz0⟩, hb0⟩; refine Hid.out ?_)
  have hbb0 := hb0
  cases z0 with
  | false =>
    have hq0 : ¬ q0 y0 := fun h => (by have := hz0.2 h; cases this)
    replace hq0 : Hid _ := hq0
    clear hz0
    refine Lib.hid ?_
    go_wp2
    go_ret
    refine ⟨⟨false, rfl, ⟨fun h => (by cases h), fun ⟨x0, e, hh⟩ => ?_⟩⟩, hbb0⟩
    simp only [List.cons.injEq] at e
    obtain ⟨rfl, _⟩ := e
    exact absurd (hh) hq0.out
  | true =>
  have hq0 := hz0.1 rfl
  replace hq0 : Hid _ := hq0
  clear hz0
  refine Lib.hid ?_
  go_wp2
  rw [rounds_succ]
  go_wp2
  go_ret
  exact ⟨⟨true, rfl, ⟨fun _ => ⟨_, rfl, hq0.out⟩, fun _ => rfl⟩⟩, hbb0⟩
set_option maxRecDepth 20000 in
set_option maxHeartbeats 2000000 in
theorem each_122_121 (q0 q1 : Nd → Prop) (ks : List Nd) (b : Option Addr) (cap : Nat) (m : Wm) (S : Nat → Prop) (Q : Nat) (w : World) (hW : WE m w) (hQ : w.heap[Q]? = some (.cells #[.func (.func 122) #[m.v] #[], .func (.func 121) #[m.v] #[]] 34)) (hk : KA S w b cap ks) (hok : ∀ y ∈ ks, okN y) (h0 : ∀ y, ks[0]? = some y → Ask 122 q0 y) (h1 : ∀ y, ks[1]? = some y → Ask 121 q1 y) : Calls Tryz.prog 120 #[.slice b ks.length cap, .slice (some ⟨Q, 0, none⟩) 2 2] w (Ans (∃ y0 y1, ks = [y0, y1] ∧ q0 y0 ∧ q1 y1) w) := by
  by_cases hl : ¬ ks.length = 2
  · refine (each_no ks.length b cap 2 (some ⟨Q, 0, none⟩) 2 w (by simpa using hl)).mono ?_
    rintro e w' ⟨rfl, hb⟩
    refine ⟨⟨false, rfl, ⟨fun h => (by cases h), fun ⟨y0, y1, e, _⟩ => ?_⟩⟩, hb⟩
    rw [e] at hl
    exact absurd rfl hl
  rw [Decidable.not_not] at hl
  obtain ⟨y0, y1, rfl⟩ : ∃ y0 y1, ks = [y0, y1] := by
    match ks, hl with
    | [y0, y1], _ => exact ⟨y0, y1, rfl⟩
  have hcap : 2 ≤ cap := hk.1
  obtain ⟨g, off, b0, cap0, rfl, v00, v01, v02, v03, hV0⟩ := KA.at hk (j := 0) rfl
  rw [show off + 0 * 4 = off by omega] at v00 v01 v02 v03
  obtain ⟨g', off', b1, cap1, e', v10, v11, v12, v13, hV1⟩ := KA.at hk (j := 1) rfl
  cases e'
  rw [show off + 1 * 4 = off + 4 by omega] at v10 v11 v12 v13
  have f0 : w.cell? ⟨Q, 0, none⟩ = some (.func (.func 122) #[m.v] #[]) := cell_block hQ rfl
  have hc0 := fun u (hb : Below w.heap.size w u) => h0 y0 rfl m S b0 cap0 u (hW.on hb) (hok y0 (by simp)) (hV0.below hb)
  have f1 : w.cell? ⟨Q, 1, none⟩ = some (.func (.func 121) #[m.v] #[]) := cell_block hQ rfl
  have hc1 := fun u (hb : Below w.heap.size w u) => h1 y1 rfl m S b1 cap1 u (hW.on hb) (hok y1 (by simp)) (hV1.below hb)
  clear hk hok hW hQ h0 h1 hV0 hV1
  dsimp only [List.length_cons, List.length_nil]
  go_enter Tryz.func120, Tryz.ntmps120
  go_wp2
  refine wp_loop_rounds 3 ?_
  rw [rounds_succ]
  go_wp2_with (go_at_call 122; refine (hc0 _ (Below.refl _ _)).mono ?_; rintro e u0 ⟨⟨z0, rfl, hz0⟩, hb0⟩; refine Hid.out ?_)
  have hbb0 := hb0
  have f1 := cellB hb0 f1
  have v10 := cellB hb0 v10
  have v11 := cellB hb0 v11
  have v12 := cellB hb0 v12
  have v13 := cellB hb0 v13
  cases z0 with
  | false =>
    have hq0 : ¬ q0 y0 := fun h => (by have := hz0.2 h; cases this)
    replace hq0 : Hid _ := hq0
    clear hz0
    refine Lib.hid ?_
    go_wp2
    go_ret
    refine ⟨⟨false, rfl, ⟨fun h => (by cases h), fun ⟨x0, x1, e, hh⟩ => ?_⟩⟩, hbb0⟩
    simp only [List.cons.injEq] at e
    obtain ⟨rfl, rfl, _⟩ := e
    exact absurd (hh.1) hq0.out
  | true =>
  have hq0 := hz0.1 rfl
  replace hq0 : Hid _ := hq0
  clear hz0
  refine Lib.hid ?_
  go_wp2
  rw [rounds_succ]
  go_wp2_with (go_at_call 121; refine (hc1 _ hbb0).mono ?_; rintro e u1 ⟨⟨z1, rfl, hz1⟩, hb1⟩; refine Hid.out ?_)
  have hbb1 := ext_trans hbb0 hb1
  cases z1 with
  | false =>
    have hq1 : ¬ q1 y1 := fun h => (by have := hz1.2 h; cases this)
    replace hq1 : Hid _ := hq1
    clear hz1
    refine Lib.hid ?_
    go_wp2
    go_ret
    refine ⟨⟨false, rfl, ⟨fun h => (by cases h), fun ⟨x0, x1, e, hh⟩ => ?_⟩⟩, hbb1⟩
    simp only [List.cons.injEq] at e
    obtain ⟨rfl, rfl, _⟩ := e
    exact absurd (hh.2) hq1.out
  | true =>
  have hq1 := hz1.1 rfl
  replace hq1 : Hid _ := hq1
  clear hz1
  refine Lib.hid ?_
  go_wp2
  rw [rounds_succ]
  go_wp2
  go_ret
  exact ⟨⟨true, rfl, ⟨fun _ => ⟨_, _, rfl, hq0.out, hq1.out⟩, fun _ => rfl⟩⟩, hbb1⟩
set_option maxRecDepth 20000 in
set_option maxHeartbeats 2000000 in
theorem each_123 (q0 : Nd → Prop) (ks : List Nd) (b : Option Addr) (cap : Nat) (m : Wm) (S : Nat → Prop) (Q : Nat) (w : World) (hW : WE m w) (hQ : w.heap[Q]? = some (.cells #[.func (.func 123) #[m.v] #[]] 34)) (hk : KA S w b cap ks) (hok : ∀ y ∈ ks, okN y) (h0 : ∀ y, ks[0]? = some y → Ask 123 q0 y) : Calls Tryz.prog 120 #[.slice b ks.length cap, .slice (some ⟨Q, 0, none⟩) 1 1] w (Ans (∃ y0, ks = [y0] ∧ q0 y0) w) := by
  by_cases hl : ¬ ks.length = 1
  · refine (each_no ks.length b cap 1 (some ⟨Q, 0, none⟩) 1 w (by simpa using hl)).mono ?_
    rintro e w' ⟨rfl, hb⟩
    refine ⟨⟨false, rfl, ⟨fun h => (by cases h), fun ⟨y0, e, _⟩ => ?_⟩⟩, hb⟩
    rw [e] at hl
    exact absurd rfl hl
  rw [Decidable.not_not] at hl
  obtain ⟨y0, rfl⟩ : ∃ y0, ks = [y0] := by
    match ks, hl with
    | [y0], _ => exact ⟨y0, rfl⟩
  have hcap : 1 ≤ cap := hk.1
  obtain ⟨g, off, b0, cap0, rfl, v00, v01, v02, v03, hV0⟩ := KA.at hk (j := 0) rfl
  rw [show off + 0 * 4 = off by omega] at v00 v01 v02 v03
  have f0 : w.cell? ⟨Q, 0, none⟩ = some (.func (.func 123) #[m.v] #[]) := cell_block hQ rfl
  have hc0 := fun u (hb : Below w.heap.size w u) => h0 y0 rfl m S b0 cap0 u (hW.on hb) (hok y0 (by simp)) (hV0.below hb)
  clear hk hok hW hQ h0 hV0
  dsimp only [List.length_cons, List.length_nil]
  go_enter Tryz.func120, Tryz.ntmps120
  go_wp2
  refine wp_loop_rounds 2 ?_
  rw [rounds_succ]
  go_wp2_with (go_at_call 123; refine (hc0 _ (Below.refl _ _)).mono ?_; rintro e u0 ⟨⟨z0, rfl, hz0⟩, hb0⟩; refine Hid.out ?_)
  have hbb0 := hb0
  cases z0 with
  | false =>
    have hq0 : ¬ q0 y0 := fun h => (by have := hz0.2 h; cases this)
    replace hq0 : Hid _ := hq0
    clear hz0
    refine Lib.hid ?_
    go_wp2
    go_ret
    refine ⟨⟨false, rfl, ⟨fun h => (by cases h), fun ⟨x0, e, hh⟩ => ?_⟩⟩, hbb0⟩
    simp only [List.cons.injEq] at e
    obtain ⟨rfl, _⟩ := e
    exact absurd (hh) hq0.out
  | true =>
  have hq0 := hz0.1 rfl
  replace hq0 : Hid _ := hq0
  clear hz0
  refine Lib.hid ?_
  go_wp2
  rw [rounds_succ]
  go_wp2
  go_ret
  exact ⟨⟨true, rfl, ⟨fun _ => ⟨_, rfl, hq0.out⟩, fun _ => rfl⟩⟩, hbb0⟩
set_option maxRecDepth 20000 in
set_option maxHeartbeats 2000000 in
theorem each_121_76 (q0 q1 : Nd → Prop) (ks : List Nd) (b : Option Addr) (cap : Nat) (m : Wm) (S : Nat → Prop) (Q : Nat) (w : World) (hW : WE m w) (hQ : w.heap[Q]? = some (.cells #[.func (.func 121) #[m.v] #[], .func (.func 76) #[m.v] #[]] 34)) (hk : KA S w b cap ks) (hok : ∀ y ∈ ks, okN y) (h0 : ∀ y, ks[0]? = some y → Ask 121 q0 y) (h1 : ∀ y, ks[1]? = some y → Ask 76 q1 y) : Calls Tryz.prog 120 #[.slice b ks.length cap, .slice (some ⟨Q, 0, none⟩) 2 2] w (Ans (∃ y0 y1, ks = [y0, y1] ∧ q0 y0 ∧ q1 y1) w) := by
  by_cases hl : ¬ ks.length = 2
  · refine (each_no ks.length b cap 2 (some ⟨Q, 0, none⟩) 2 w (by simpa using hl)).mono ?_
    rintro e w' ⟨rfl, hb⟩
    refine ⟨⟨false, rfl, ⟨fun h => (by cases h), fun ⟨y0, y1, e, _⟩ => ?_⟩⟩, hb⟩
    rw [e] at hl
    exact absurd rfl hl
  rw [Decidable.not_not] at hl
  obtain ⟨y0, y1, rfl⟩ : ∃ y0 y1, ks = [y0, y1] := by
    match ks, hl with
    | [y0, y1], _ => exact ⟨y0, y1, rfl⟩
  have hcap : 2 ≤ cap := hk.1
  obtain ⟨g, off, b0, cap0, rfl, v00, v01, v02, v03, hV0⟩ := KA.at hk (j := 0) rfl
  rw [show off + 0 * 4 = off by omega] at v00 v01 v02 v03
  obtain ⟨g', off', b1, cap1, e', v10, v11, v12, v13, hV1⟩ := KA.at hk (j := 1) rfl
  cases e'
  rw [show off + 1 * 4 = off + 4 by omega] at v10 v11 v12 v13
  have f0 : w.cell? ⟨Q, 0, none⟩ = some (.func (.func 121) #[m.v] #[]) := cell_block hQ rfl
  have hc0 := fun u (hb : Below w.heap.size w u) => h0 y0 rfl m S b0 cap0 u (hW.on hb) (hok y0 (by simp)) (hV0.below hb)
  have f1 : w.cell? ⟨Q, 1, none⟩ = some (.func (.func 76) #[m.v] #[]) := cell_block hQ rfl
  have hc1 := fun u (hb : Below w.heap.size w u) => h1 y1 rfl m S b1 cap1 u (hW.on hb) (hok y1 (by simp)) (hV1.below hb)
  clear hk hok hW hQ h0 h1 hV0 hV1
  dsimp only [List.length_cons, List.length_nil]
  go_enter Tryz.func120, Tryz.ntmps120
  go_wp2
  refine wp_loop_rounds 3 ?_
  rw [rounds_succ]
  go_wp2_with (go_at_call 121; refine (hc0 _ (Below.refl _ _)).mono ?_; rintro e u0 ⟨⟨z0, rfl, hz0⟩, hb0⟩; refine Hid.out ?_)
  have hbb0 := hb0
  have f1 := cellB hb0 f1
  have v10 := cellB hb0 v10
  have v11 := cellB hb0 v11
  have v12 := cellB hb0 v12
  have v13 := cellB hb0 v13
  cases z0 with
  | false =>
    have hq0 : ¬ q0 y0 := fun h => (by have := hz0.2 h; cases this)
    replace hq0 : Hid _ := hq0
    clear hz0
    refine Lib.hid ?_
    go_wp2
    go_ret
    refine ⟨⟨false, rfl, ⟨fun h => (by cases h), fun ⟨x0, x1, e, hh⟩ => ?_⟩⟩, hbb0⟩
    simp only [List.cons.injEq] at e
    obtain ⟨rfl, rfl, _⟩ := e
    exact absurd (hh.1) hq0.out
  | true =>
  have hq0 := hz0.1 rfl
  replace hq0 : Hid _ := hq0
  clear hz0
  refine Lib.hid ?_
  go_wp2
  rw [rounds_succ]
  go_wp2_with (go_at_call 76; refine (hc1 _ hbb0).mono ?_; rintro e u1 ⟨⟨z1, rfl, hz1⟩, hb1⟩; refine Hid.out ?_)
  have hbb1 := ext_trans hbb0 hb1
  cases z1 with
  | false =>
    have hq1 : ¬ q1 y1 := fun h => (by have := hz1.2 h; cases this)
    replace hq1 : Hid _ := hq1
    clear hz1
    refine Lib.hid ?_
    go_wp2
    go_ret
    refine ⟨⟨false, rfl, ⟨fun h => (by cases h), fun ⟨x0, x1, e, hh⟩ => ?_⟩⟩, hbb1⟩
    simp only [List.cons.injEq] at e
    obtain ⟨rfl, rfl, _⟩ := e
    exact absurd (hh.2) hq1.out
  | true =>
  have hq1 := hz1.1 rfl
  replace hq1 : Hid _ := hq1
  clear hz1
  refine Lib.hid ?_
  go_wp2
  rw [rounds_succ]
  go_wp2
  go_ret
  exact ⟨⟨true, rfl, ⟨fun _ => ⟨_, _, rfl, hq0.out, hq1.out⟩, fun _ => rfl⟩⟩, hbb1⟩
set_option maxRecDepth 20000 in
set_option maxHeartbeats 2000000 in
theorem each_121_76_76 (q0 q1 q2 : Nd → Prop) (ks : List Nd) (b : Option Addr) (cap : Nat) (m : Wm) (S : Nat → Prop) (Q : Nat) (w : World) (hW : WE m w) (hQ : w.heap[Q]? = some (.cells #[.func (.func 121) #[m.v] #[], .func (.func 76) #[m.v] #[], .func (.func 76) #[m.v] #[]] 34)) (hk : KA S w b cap ks) (hok : ∀ y ∈ ks, okN y) (h0 : ∀ y, ks[0]? = some y → Ask 121 q0 y) (h1 : ∀ y, ks[1]? = some y → Ask 76 q1 y) (h2 : ∀ y, ks[2]? = some y → Ask 76 q2 y) : Calls Tryz.prog 120 #[.slice b ks.length cap, .slice (some ⟨Q, 0, none⟩) 3 3] w (Ans (∃ y0 y1 y2, ks = [y0, y1, y2] ∧ q0 y0 ∧ q1 y1 ∧ q2 y2) w) := by
  by_cases hl : ¬ ks.length = 3
  · refine (each_no ks.length b cap 3 (some ⟨Q, 0, none⟩) 3 w (by simpa using hl)).mono ?_
    rintro e w' ⟨rfl, hb⟩
    refine ⟨⟨false, rfl, ⟨fun h => (by cases h), fun ⟨y0, y1, y2, e, _⟩ => ?_⟩⟩, hb⟩
    rw [e] at hl
    exact absurd rfl hl
  rw [Decidable.not_not] at hl
  obtain ⟨y0, y1, y2, rfl⟩ : ∃ y0 y1 y2, ks = [y0, y1, y2] := by
    match ks, hl with
    | [y0, y1, y2], _ => exact ⟨y0, y1, y2, rfl⟩
  have hcap : 3 ≤ cap := hk.1
  obtain ⟨g, off, b0, cap0, rfl, v00, v01, v02, v03, hV0⟩ := KA.at hk (j := 0) rfl
  rw [show off + 0 * 4 = off by omega] at v00 v01 v02 v03
  obtain ⟨g', off', b1, cap1, e', v10, v11, v12, v13, hV1⟩ := KA.at hk (j := 1) rfl
  cases e'
  rw [show off + 1 * 4 = off + 4 by omega] at v10 v11 v12 v13
  obtain ⟨g', off', b2, cap2, e', v20, v21, v22, v23, hV2⟩ := KA.at hk (j := 2) rfl
  cases e'
  rw [show off + 2 * 4 = off + 8 by omega] at v20 v21 v22 v23
  have f0 : w.cell? ⟨Q, 0, none⟩ = some (.func (.func 121) #[m.v] #[]) := cell_block hQ rfl
  have hc0 := fun u (hb : Below w.heap.size w u) => h0 y0 rfl m S b0 cap0 u (hW.on hb) (hok y0 (by simp)) (hV0.below hb)
  have f1 : w.cell? ⟨Q, 1, none⟩ = some (.func (.func 76) #[m.v] #[]) := cell_block hQ rfl
  have hc1 := fun u (hb : Below w.heap.size w u) => h1 y1 rfl m S b1 cap1 u (hW.on hb) (hok y1 (by simp)) (hV1.below hb)
  have f2 : w.cell? ⟨Q, 2, none⟩ = some (.func (.func 76) #[m.v] #[]) := cell_block hQ rfl
  have hc2 := fun u (hb : Below w.heap.size w u) => h2 y2 rfl m S b2 cap2 u (hW.on hb) (hok y2 (by simp)) (hV2.below hb)
  clear hk hok hW hQ h0 h1 h2 hV0 hV1 hV2
  dsimp only [List.length_cons, List.length_nil]
  go_enter Tryz.func120, Tryz.ntmps120
  go_wp2
  refine wp_loop_rounds 4 ?_
  rw [rounds_succ]
  go_wp2_with (go_at_call 121; refine (hc0 _ (Below.refl _ _)).mono ?_; rintro e u0 ⟨⟨z0, rfl, hz0⟩, hb0⟩; refine Hid.out ?_)
  have hbb0 := hb0
  have f1 := cellB hb0 f1
  have v10 := cellB hb0 v10
  have v11 := cellB hb0 v11
  have v12 := cellB hb0 v12
  have v13 := cellB hb0 v13
  have f2 := cellB hb0 f2
  have v20 := cellB hb0 v20
  have v21 := cellB hb0 v21
  have v22 := cellB hb0 v22
  have v23 := cellB hb0 v23
  cases z0 with
  | false =>
    have hq0 : ¬ q0 y0 := fun h => (by have := hz0.2 h; cases this)
    replace hq0 : Hid _ := hq0
    clear hz0
    refine Lib.hid ?_
    go_wp2
    go_ret
    refine ⟨⟨false, rfl, ⟨fun h => (by cases h), fun ⟨x0, x1, x2, e, hh⟩ => ?_⟩⟩, hbb0⟩
    simp only [List.cons.injEq] at e
    obtain ⟨rfl, rfl, rfl, _⟩ := e
    exact absurd (hh.1) hq0.out
  | true =>
  have hq0 := hz0.1 rfl
  replace hq0 : Hid _ := hq0
  clear hz0
  refine Lib.hid ?_
  go_wp2
  rw [rounds_succ]
  go_wp2_with (go_at_call 76; refine (hc1 _ hbb0).mono ?_; rintro e u1 ⟨⟨z1, rfl, hz1⟩, hb1⟩; refine Hid.out ?_)
  have hbb1 := ext_trans hbb0 hb1
  have f2 := cellB hb1 f2
  have v20 := cellB hb1 v20
  have v21 := cellB hb1 v21
  have v22 := cellB hb1 v22
  have v23 := cellB hb1 v23
  cases z1 with
  | false =>
    have hq1 : ¬ q1 y1 := fun h => (by have := hz1.2 h; cases this)
    replace hq1 : Hid _ := hq1
    clear hz1
    refine Lib.hid ?_
    go_wp2
    go_ret
    refine ⟨⟨false, rfl, ⟨fun h => (by cases h), fun ⟨x0, x1, x2, e, hh⟩ => ?_⟩⟩, hbb1⟩
    simp only [List.cons.injEq] at e
    obtain ⟨rfl, rfl, rfl, _⟩ := e
    exact absurd (hh.2.1) hq1.out
  | true =>
  have hq1 := hz1.1 rfl
  replace hq1 : Hid _ := hq1
  clear hz1
  refine Lib.hid ?_
  go_wp2
  rw [rounds_succ]
  go_wp2_with (go_at_call 76; refine (hc2 _ hbb1).mono ?_; rintro e u2 ⟨⟨z2, rfl, hz2⟩, hb2⟩; refine Hid.out ?_)
  have hbb2 := ext_trans hbb1 hb2
  cases z2 with
  | false =>
    have hq2 : ¬ q2 y2 := fun h => (by have := hz2.2 h; cases this)
    replace hq2 : Hid _ := hq2
    clear hz2
    refine Lib.hid ?_
    go_wp2
    go_ret
    refine ⟨⟨false, rfl, ⟨fun h => (by cases h), fun ⟨x0, x1, x2, e, hh⟩ => ?_⟩⟩, hbb2⟩
    simp only [List.cons.injEq] at e
    obtain ⟨rfl, rfl, rfl, _⟩ := e
    exact absurd (hh.2.2) hq2.out
  | true =>
  have hq2 := hz2.1 rfl
  replace hq2 : Hid _ := hq2
  clear hz2
  refine Lib.hid ?_
  go_wp2
  rw [rounds_succ]
  go_wp2
  go_ret
  exact ⟨⟨true, rfl, ⟨fun _ => ⟨_, _, _, rfl, hq0.out, hq1.out, hq2.out⟩, fun _ => rfl⟩⟩, hbb2⟩
set_option maxRecDepth 20000 in
set_option maxHeartbeats 2000000 in
theorem each_121_121_76 (q0 q1 q2 : Nd → Prop) (ks : List Nd) (b : Option Addr) (cap : Nat) (m : Wm) (S : Nat → Prop) (Q : Nat) (w : World) (hW : WE m w) (hQ : w.heap[Q]? = some (.cells #[.func (.func 121) #[m.v] #[], .func (.func 121) #[m.v] #[], .func (.func 76) #[m.v] #[]] 34)) (hk : KA S w b cap ks) (hok : ∀ y ∈ ks, okN y) (h0 : ∀ y, ks[0]? = some y → Ask 121 q0 y) (h1 : ∀ y, ks[1]? = some y → Ask 121 q1 y) (h2 : ∀ y, ks[2]? = some y → Ask 76 q2 y) : Calls Tryz.prog 120 #[.slice b ks.length cap, .slice (some ⟨Q, 0, none⟩) 3 3] w (Ans (∃ y0 y1 y2, ks = [y0, y1, y2] ∧ q0 y0 ∧ q1 y1 ∧ q2 y2) w) := by
  by_cases hl : ¬ ks.length = 3
  · refine (each_no ks.length b cap 3 (some ⟨Q, 0, none⟩) 3 w (by simpa using hl)).mono ?_
    rintro e w' ⟨rfl, hb⟩
    refine ⟨⟨false, rfl, ⟨fun h => (by cases h), fun ⟨y0, y1, y2, e, _⟩ => ?_⟩⟩, hb⟩
    rw [e] at hl
    exact absurd rfl hl
  rw [Decidable.not_not] at hl
  obtain ⟨y0, y1, y2, rfl⟩ : ∃ y0 y1 y2, ks = [y0, y1, y2] := by
    match ks, hl with
    | [y0, y1, y2], _ => exact ⟨y0, y1, y2, rfl⟩
  have hcap : 3 ≤ cap := hk.1
  obtain ⟨g, off, b0, cap0, rfl, v00, v01, v02, v03, hV0⟩ := KA.at hk (j := 0) rfl
  rw [show off + 0 * 4 = off by omega] at v00 v01 v02 v03
  obtain ⟨g', off', b1, cap1, e', v10, v11, v12, v13, hV1⟩ := KA.at hk (j := 1) rfl
  cases e'
  rw [show off + 1 * 4 = off + 4 by omega] at v10 v11 v12 v13
  obtain ⟨g', off', b2, cap2, e', v20, v21, v22, v23, hV2⟩ := KA.at hk (j := 2) rfl
  cases e'
  rw [show off + 2 * 4 = off + 8 by omega] at v20 v21 v22 v23
  have f0 : w.cell? ⟨Q, 0, none⟩ = some (.func (.func 121) #[m.v] #[]) := cell_block hQ rfl
  have hc0 := fun u (hb : Below w.heap.size w u) => h0 y0 rfl m S b0 cap0 u (hW.on hb) (hok y0 (by simp)) (hV0.below hb)
  have f1 : w.cell? ⟨Q, 1, none⟩ = some (.func (.func 121) #[m.v] #[]) := cell_block hQ rfl
  have hc1 := fun u (hb : Below w.heap.size w u) => h1 y1 rfl m S b1 cap1 u (hW.on hb) (hok y1 (by simp)) (hV1.below hb)
  have f2 : w.cell? ⟨Q, 2, none⟩ = some (.func (.func 76) #[m.v] #[]) := cell_block hQ rfl
  have hc2 := fun u (hb : Below w.heap.size w u) => h2 y2 rfl m S b2 cap2 u (hW.on hb) (hok y2 (by simp)) (hV2.below hb)
  clear hk hok hW hQ h0 h1 h2 hV0 hV1 hV2
  dsimp only [List.length_cons, List.length_nil]
  go_enter Tryz.func120, Tryz.ntmps120
  go_wp2
  refine wp_loop_rounds 4 ?_
  rw [rounds_succ]
  go_wp2_with (go_at_call 121; refine (hc0 _ (Below.refl _ _)).mono ?_; rintro e u0 ⟨⟨z0, rfl, hz0⟩, hb0⟩; refine Hid.out ?_)
  have hbb0 := hb0
  have f1 := cellB hb0 f1
  have v10 := cellB hb0 v10
  have v11 := cellB hb0 v11
  have v12 := cellB hb0 v12
  have v13 := cellB hb0 v13
  have f2 := cellB hb0 f2
  have v20 := cellB hb0 v20
  have v21 := cellB hb0 v21
  have v22 := cellB hb0 v22
  have v23 := cellB hb0 v23
  cases z0 with
  | false =>
    have hq0 : ¬ q0 y0 := fun h => (by have := hz0.2 h; cases this)
    replace hq0 : Hid _ := hq0
    clear hz0
    refine Lib.hid ?_
    go_wp2
    go_ret
    refine ⟨⟨false, rfl, ⟨fun h => (by cases h), fun ⟨x0, x1, x2, e, hh⟩ => ?_⟩⟩, hbb0⟩
    simp only [List.cons.injEq] at e
    obtain ⟨rfl, rfl, rfl, _⟩ := e
    exact absurd (hh.1) hq0.out
  | true =>
  have hq0 := hz0.1 rfl
  replace hq0 : Hid _ := hq0
  clear hz0
  refine Lib.hid ?_
  go_wp2
  rw [rounds_succ]
  go_wp2_with (go_at_call 121; refine (hc1 _ hbb0).mono ?_; rintro e u1 ⟨⟨z1, rfl, hz1⟩, hb1⟩; refine Hid.out ?_)
  have hbb1 := ext_trans hbb0 hb1
  have f2 := cellB hb1 f2
  have v20 := cellB hb1 v20
  have v21 := cellB hb1 v21
  have v22 := cellB hb1 v22
  have v23 := cellB hb1 v23
  cases z1 with
  | false =>
    have hq1 : ¬ q1 y1 := fun h => (by have := hz1.2 h; cases this)
    replace hq1 : Hid _ := hq1
    clear hz1
    refine Lib.hid ?_
    go_wp2
    go_ret
    refine ⟨⟨false, rfl, ⟨fun h => (by cases h), fun ⟨x0, x1, x2, e, hh⟩ => ?_⟩⟩, hbb1⟩
    simp only [List.cons.injEq] at e
    obtain ⟨rfl, rfl, rfl, _⟩ := e
    exact absurd (hh.2.1) hq1.out
  | true =>
  have hq1 := hz1.1 rfl
  replace hq1 : Hid _ := hq1
  clear hz1
  refine Lib.hid ?_
  go_wp2
  rw [rounds_succ]
  go_wp2_with (go_at_call 76; refine (hc2 _ hbb1).mono ?_; rintro e u2 ⟨⟨z2, rfl, hz2⟩, hb2⟩; refine Hid.out ?_)
  have hbb2 := ext_trans hbb1 hb2
  cases z2 with
  | false =>
    have hq2 : ¬ q2 y2 := fun h => (by have := hz2.2 h; cases this)
    replace hq2 : Hid _ := hq2
    clear hz2
    refine Lib.hid ?_
    go_wp2
    go_ret
    refine ⟨⟨false, rfl, ⟨fun h => (by cases h), fun ⟨x0, x1, x2, e, hh⟩ => ?_⟩⟩, hbb2⟩
    simp only [List.cons.injEq] at e
    obtain ⟨rfl, rfl, rfl, _⟩ := e
    exact absurd (hh.2.2) hq2.out
  | true =>
  have hq2 := hz2.1 rfl
  replace hq2 : Hid _ := hq2
  clear hz2
  refine Lib.hid ?_
  go_wp2
  rw [rounds_succ]
  go_wp2
  go_ret
  exact ⟨⟨true, rfl, ⟨fun _ => ⟨_, _, _, rfl, hq0.out, hq1.out, hq2.out⟩, fun _ => rfl⟩⟩, hbb2⟩
set_option maxRecDepth 20000 in
set_option maxHeartbeats 2000000 in
theorem each_121_121 (q0 q1 : Nd → Prop) (ks : List Nd) (b : Option Addr) (cap : Nat) (m : Wm) (S : Nat → Prop) (Q : Nat) (w : World) (hW : WE m w) (hQ : w.heap[Q]? = some (.cells #[.func (.func 121) #[m.v] #[], .func (.func 121) #[m.v] #[]] 34)) (hk : KA S w b cap ks) (hok : ∀ y ∈ ks, okN y) (h0 : ∀ y, ks[0]? = some y → Ask 121 q0 y) (h1 : ∀ y, ks[1]? = some y → Ask 121 q1 y) : Calls Tryz.prog 120 #[.slice b ks.length cap, .slice (some ⟨Q, 0, none⟩) 2 2] w (Ans (∃ y0 y1, ks = [y0, y1] ∧ q0 y0 ∧ q1 y1) w) := by
  by_cases hl : ¬ ks.length = 2
  · refine (each_no ks.length b cap 2 (some ⟨Q, 0, none⟩) 2 w (by simpa using hl)).mono ?_
    rintro e w' ⟨rfl, hb⟩
    refine ⟨⟨false, rfl, ⟨fun h => (by cases h), fun ⟨y0, y1, e, _⟩ => ?_⟩⟩, hb⟩
    rw [e] at hl
    exact absurd rfl hl
  rw [Decidable.not_not] at hl
  obtain ⟨y0, y1, rfl⟩ : ∃ y0 y1, ks = [y0, y1] := by
    match ks, hl with
    | [y0, y1], _ => exact ⟨y0, y1, rfl⟩
  have hcap : 2 ≤ cap := hk.1
  obtain ⟨g, off, b0, cap0, rfl, v00, v01, v02, v03, hV0⟩ := KA.at hk (j := 0) rfl
  rw [show off + 0 * 4 = off by omega] at v00 v01 v02 v03
  obtain ⟨g', off', b1, cap1, e', v10, v11, v12, v13, hV1⟩ := KA.at hk (j := 1) rfl
  cases e'
  rw [show off + 1 * 4 = off + 4 by omega] at v10 v11 v12 v13
  have f0 : w.cell? ⟨Q, 0, none⟩ = some (.func (.func 121) #[m.v] #[]) := cell_block hQ rfl
  have hc0 := fun u (hb : Below w.heap.size w u) => h0 y0 rfl m S b0 cap0 u (hW.on hb) (hok y0 (by simp)) (hV0.below hb)
  have f1 : w.cell? ⟨Q, 1, none⟩ = some (.func (.func 121) #[m.v] #[]) := cell_block hQ rfl
  have hc1 := fun u (hb : Below w.heap.size w u) => h1 y1 rfl m S b1 cap1 u (hW.on hb) (hok y1 (by simp)) (hV1.below hb)
  clear hk hok hW hQ h0 h1 hV0 hV1
  dsimp only [List.length_cons, List.length_nil]
  go_enter Tryz.func120, Tryz.ntmps120
  go_wp2
  refine wp_loop_rounds 3 ?_
  rw [rounds_succ]
  go_wp2_with (go_at_call 121; refine (hc0 _ (Below.refl _ _)).mono ?_; rintro e u0 ⟨⟨z0, rfl, hz0⟩, hb0⟩; refine Hid.out ?_)
  have hbb0 := hb0
  have f1 := cellB hb0 f1
  have v10 := cellB hb0 v10
  have v11 := cellB hb0 v11
  have v12 := cellB hb0 v12
  have v13 := cellB hb0 v13
  cases z0 with
  | false =>
    have hq0 : ¬ q0 y0 := fun h => (by have := hz0.2 h; cases this)
    replace hq0 : Hid _ := hq0
    clear hz0
    refine Lib.hid ?_
    go_wp2
    go_ret
    refine ⟨⟨false, rfl, ⟨fun h => (by cases h), fun ⟨x0, x1, e, hh⟩ => ?_⟩⟩, hbb0⟩
    simp only [List.cons.injEq] at e
    obtain ⟨rfl, rfl, _⟩ := e
    exact absurd (hh.1) hq0.out
  | true =>
  have hq0 := hz0.1 rfl
  replace hq0 : Hid _ := hq0
  clear hz0
  refine Lib.hid ?_
  go_wp2
  rw [rounds_succ]
  go_wp2_with (go_at_call 121; refine (hc1 _ hbb0).mono ?_; rintro e u1 ⟨⟨z1, rfl, hz1⟩, hb1⟩; refine Hid.out ?_)
  have hbb1 := ext_trans hbb0 hb1
  cases z1 with
  | false =>
    have hq1 : ¬ q1 y1 := fun h => (by have := hz1.2 h; cases this)
    replace hq1 : Hid _ := hq1
    clear hz1
    refine Lib.hid ?_
    go_wp2
    go_ret
    refine ⟨⟨false, rfl, ⟨fun h => (by cases h), fun ⟨x0, x1, e, hh⟩ => ?_⟩⟩, hbb1⟩
    simp only [List.cons.injEq] at e
    obtain ⟨rfl, rfl, _⟩ := e
    exact absurd (hh.2) hq1.out
  | true =>
  have hq1 := hz1.1 rfl
  replace hq1 : Hid _ := hq1
  clear hz1
  refine Lib.hid ?_
  go_wp2
  rw [rounds_succ]
  go_wp2
  go_ret
  exact ⟨⟨true, rfl, ⟨fun _ => ⟨_, _, rfl, hq0.out, hq1.out⟩, fun _ => rfl⟩⟩, hbb1⟩
end Go.Proofs.YtbofdfdmikhanaaGreatDoor
namespace Go.Proofs.YtbofdfdmikhanaaGreatDoor
open Go.RowKit
open Go

/-- Does a name stand first, with none but such kinds made of it? -/
def begB (zs : List Int) : Nd → Bool
  | ⟨k, _, _, kids⟩ => if zs.contains k then go kids else k == 18
where go : List Nd → Bool
  | [] => false
  | x :: _ => begB zs x
/-- Those of such a kind have kids. -/
def begOK (zs : List Int) : Nd → Prop
  | ⟨k, _, _, kids⟩ => zs.contains k = true → go kids
where go : List Nd → Prop
  | [] => False
  | x :: _ => begOK zs x
theorem beg_ok (x : Nd) : isN x → exprK x.k → begOK [20] x ∧ begOK [20, 21] x := by
  refine nd_ind (m := fun x => isN x → exprK x.k → begOK [20] x ∧ begOK [20, 21] x) (fun k t n kids ih h hk => ?_) x
  rw [isN] at h
  obtain ⟨h1, _, _, _, _, _, _, _, h9⟩ := h
  rw [isN_go] at h9
  simp only [exprK] at hk
  have hkid : ∀ (hk2 : k = 20 ∨ k = 21), ∃ y l, kids = y :: l ∧ isN y ∧ exprK y.k := by
    intro hk2
    cases kids with
    | nil =>
      simp only [kidsOK, List.length_nil] at h1
      omega
    | cons y l =>
      have := h9 0 y rfl
      refine ⟨y, l, rfl, this.2, ?_⟩
      have hf := this.1
      unfold fitsK at hf
      rw [if_neg (by omega), if_neg (by omega), if_neg (by omega), if_neg (by omega), if_neg (by omega)] at hf
      exact hf
  constructor
  · rw [begOK]
    intro hc
    simp at hc
    obtain ⟨y, l, rfl, hy1, hy2⟩ := hkid (.inl hc)
    exact (ih y (by simp) hy1 hy2).1
  · rw [begOK]
    intro hc
    simp at hc
    obtain ⟨y, l, rfl, hy1, hy2⟩ := hkid hc
    exact (ih y (by simp) hy1 hy2).2
theorem beg_chain (x : Nd) : (begB [20] x = true ↔ chainC x = some 0) ∧ (begB [20, 21] x = true ↔ (chainC x).isSome = true) := by
  refine nd_ind (m := fun x => (begB [20] x = true ↔ chainC x = some 0) ∧ (begB [20, 21] x = true ↔ (chainC x).isSome = true)) (fun k t n kids ih => ?_) x
  rw [begB, begB, chainC]
  by_cases h18 : k = 18
  · subst h18; simp
  by_cases h20 : k = 20
  · subst h20
    cases kids with
    | nil => simp [begB.go, chainC.go]
    | cons y l =>
      have := ih y (by simp)
      simpa [begB.go, chainC.go] using this
  by_cases h21 : k = 21
  · subst h21
    cases kids with
    | nil => simp [begB.go, chainC.go]
    | cons y l =>
      have := ih y (by simp)
      simpa [begB.go, chainC.go] using this.2
  · simp [h18, h20, h21]
theorem begOK_kid {zs : List Int} {k : Int} {t : List UInt8} {n : Int} {kids : List Nd} (h : begOK zs ⟨k, t, n, kids⟩) (hc : zs.contains k = true) : ∃ y l, kids = y :: l ∧ begOK zs y ∧ begB zs ⟨k, t, n, kids⟩ = begB zs y := by
  rw [begOK] at h
  have := h hc
  cases kids with
  | nil => cases this
  | cons y l => exact ⟨y, l, rfl, this, by rw [begB, if_pos hc]; rfl⟩
def BgI (zs : List Int) (Z : Bool) (w : World) (S : Nat → Prop) (k : Nat) (wr : World) : Prop := ∃ (x : Nd) (b' : Option Addr) (cap' : Nat), manyN x ≤ k ∧ wr.heap[w.heap.size]? = some (nbx x b' cap') ∧ NdV S w x (ndv x b' cap') ∧ begOK zs x ∧ Z = begB zs x ∧ Below w.heap.size w wr
set_option maxRecDepth 20000 in
set_option maxHeartbeats 1000000 in
theorem begins_any (zs : List Int) (n : Nd) (b : Option Addr) (cap : Nat) (S : Nat → Prop) (Q c : Nat) (w : World) (hz : zs.length ≤ 5) (hQ : ∀ u, Below w.heap.size w u → ∀ j, j < zs.length → u.cell? ⟨Q, 0 + j, none⟩ = some (.int .i64 (zs.getD j 0))) (hb : begOK zs n) (hN : NdV S w n (ndv n b cap)) : Calls Tryz.prog 145 #[ndv n b cap, .slice (some ⟨Q, 0, none⟩) zs.length c] w fun e w' => e = .returned (.bool (begB zs n)) ∧ Below w.heap.size w w' := by
  have hb0 := ext_alloc (Below.refl w.heap.size w) (nbx n b cap)
  have g0 := alloc_new w (nbx n b cap)
  have hC := fun x u (h : Below w.heap.size w u) => Tryz.slices_Contains_int Q 0 zs.length c zs x u (Nat.le_refl _) (by omega) (hQ u h)
  rw [List.take_length] at hC
  obtain ⟨L, hL⟩ : ∃ L, zs.length = L := ⟨_, rfl⟩
  rw [hL] at hC ⊢
  have hI : BgI zs (begB zs n) w S (manyN n) (w.alloc (nbx n b cap)) := ⟨n, b, cap, Nat.le_refl _, g0, hN, hb, rfl, hb0⟩
  obtain ⟨M, hM⟩ : ∃ M, manyN n = M := ⟨_, rfl⟩
  obtain ⟨Z, hZ⟩ : ∃ Z, begB zs n = Z := ⟨_, rfl⟩
  rw [hM, hZ] at hI
  rw [hZ]
  clear hb hN hQ hL hM hZ g0 hb0
  go_enter Tryz.func145, Tryz.ntmps145
  go_wp2
  go_loopg [9] M (fun k _ wr => BgI zs Z w S k wr)
  case atStart => exact hI
  case round =>
    obtain ⟨x, b', cap', hmx, gx, hN, hok, hZ, hbw⟩ := hrel
    clear hI
    obtain ⟨k0, t0, n0, kids⟩ := x
    obtain ⟨c0, c1, c2, c3, f0, f1, f2, f3⟩ := in4 gx
    have hCx := hC k0 wr hbw
    cases hc : zs.contains k0 with
    | true =>
      rw [hc] at hCx
      obtain ⟨y, l, rfl, hoy, hby⟩ := begOK_kid hok hc
      obtain ⟨g, off, b2, cap2, rfl, v0, v1, v2, v3, hyV⟩ := KA.at (KA.of hN) (j := 0) rfl
      rw [show off + 0 * 4 = off by omega] at v0 v1 v2 v3
      have d0 := cellB hbw v0
      have d1 := cellB hbw v1
      have d2 := cellB hbw v2
      have d3 := cellB hbw v3
      have hmy : manyN y < manyN ⟨k0, t0, n0, y :: l⟩ := by rw [manyN_eq ⟨k0, t0, n0, y :: l⟩]; simp [manyN.go]; omega
      clear v0 v1 v2 v3 hok hN hc hC
      rw [hby] at hZ
      replace hZ : Hid _ := hZ
      go_wp2_with (go_at_call 158; refine hCx.mono ?_; rintro e w1 ⟨rfl, rfl⟩)
      go_roundg (manyN y)
      case measure => omega
      case rel => exact ⟨y, b2, cap2, Nat.le_refl _, put4_same _ _ _ _ gx, hyV, hoy, hZ.out, (put4_keeps (Keeps.of_below (S := no) hbw) _ _ _ _ _ (Nat.le_refl _)).below (Nat.le_refl _) (fun _ _ => id)⟩
    | false =>
      rw [hc] at hCx
      have hbe : begB zs ⟨k0, t0, n0, kids⟩ = (k0 == 18) := by rw [begB, hc]; simp
      rw [hbe] at hZ
      subst hZ
      clear hc hC hok hN hbe
      go_wp2_with (go_at_call 158; refine hCx.mono ?_; rintro e w1 ⟨rfl, rfl⟩)
      go_ret
      exact ⟨rfl, hbw⟩
end Go.Proofs.YtbofdfdmikhanaaGreatDoor
namespace Go.Proofs.YtbofdfdmikhanaaGreatDoor
open Go.RowKit
open Go

abbrev isX (y : Nd) : Prop := isN y ∧ exprK y.k
abbrev isK (k : Int) (y : Nd) : Prop := isN y ∧ y.k = k
abbrev isS (y : Nd) : Prop := isN y ∧ statK y.k
theorem isN_iff (k : Int) (t : List UInt8) (n : Int) (ks : List Nd) : isN ⟨k, t, n, ks⟩ ↔ kidsOK k ks.length ∧ (hasName k → nameB t = true) ∧ (¬ hasName k → k ≠ 14 → t = []) ∧ ((k = 22 → (opOf n).isSome = true) ∧ (k = 14 → quotB t = true)) ∧ (k = 13 → 0 ≤ n ∧ n ≤ 9223372036854775807) ∧ (k ≠ 22 → k ≠ 13 → n = 0) ∧
    (k = 6 → (ks.head?.bind chainC) = some 0) ∧ (k = 7 → (ks.head?.bind chainC).isSome = true ∧ ks.head?.map (fun x => x.k) = some 21) ∧ ∀ j x, ks[j]? = some x → fitsK k ks.length j x.k ∧ isN x := by
  rw [isN, isN_go]
  simp only [Nat.zero_add]
theorem all0 (p : Nat → Nd → Prop) : (∀ j x, ([] : List Nd)[j]? = some x → p j x) ↔ True := by simp
theorem all1 (p : Nat → Nd → Prop) (a : Nd) : (∀ j x, [a][j]? = some x → p j x) ↔ p 0 a := by
  refine ⟨fun h => h 0 a rfl, fun h j x hj => ?_⟩
  match j, hj with
  | 0, hj => cases hj; exact h
  | j + 1, hj => simp at hj
theorem all2 (p : Nat → Nd → Prop) (a b : Nd) : (∀ j x, [a, b][j]? = some x → p j x) ↔ p 0 a ∧ p 1 b := by
  refine ⟨fun h => ⟨h 0 a rfl, h 1 b rfl⟩, fun h j x hj => ?_⟩
  match j, hj with
  | 0, hj => cases hj; exact h.1
  | 1, hj => cases hj; exact h.2
  | j + 2, hj => simp at hj
theorem all3 (p : Nat → Nd → Prop) (a b c : Nd) : (∀ j x, [a, b, c][j]? = some x → p j x) ↔ p 0 a ∧ p 1 b ∧ p 2 c := by
  refine ⟨fun h => ⟨h 0 a rfl, h 1 b rfl, h 2 c rfl⟩, fun h j x hj => ?_⟩
  match j, hj with
  | 0, hj => cases hj; exact h.1
  | 1, hj => cases hj; exact h.2.1
  | 2, hj => cases hj; exact h.2.2
  | j + 3, hj => simp at hj
theorem len0 (ks : List Nd) : ks.length = 0 ↔ ks = [] := List.length_eq_zero_iff
theorem len1 (ks : List Nd) : ks.length = 1 ↔ ∃ a, ks = [a] := List.length_eq_one_iff
theorem len2 (ks : List Nd) : ks.length = 2 ↔ ∃ a b, ks = [a, b] := by
  constructor
  · intro h
    match ks, h with
    | [a, b], _ => exact ⟨a, b, rfl⟩
  · rintro ⟨a, b, rfl⟩; rfl
theorem len3 (ks : List Nd) : ks.length = 3 ↔ ∃ a b c, ks = [a, b, c] := by
  constructor
  · intro h
    match ks, h with
    | [a, b, c], _ => exact ⟨a, b, c, rfl⟩
  · rintro ⟨a, b, c, rfl⟩; rfl
theorem isx13 {t : List UInt8} {n : Int} {ks : List Nd} (hn : n ≤ 9223372036854775807) : isX ⟨13, t, n, ks⟩ ↔ 0 ≤ n ∧ t = [] ∧ ks = [] := by
  simp only [isX, isN_iff, kidsOK, hasName, exprK]
  simp
  constructor
  · rintro ⟨h1, h2, ⟨h3, _⟩, _⟩; exact ⟨h3, h2, h1⟩
  · rintro ⟨h1, h2, h3⟩; subst h3; exact ⟨rfl, h2, ⟨h1, hn⟩, by simp⟩
theorem isx14 {t : List UInt8} {n : Int} {ks : List Nd} : isX ⟨14, t, n, ks⟩ ↔ n = 0 ∧ quotB t = true ∧ ks = [] := by
  simp only [isX, isN_iff, kidsOK, hasName, exprK]
  simp
  constructor
  · rintro ⟨h1, h2, h3, _⟩; exact ⟨h3, h2, h1⟩
  · rintro ⟨h1, h2, h3⟩; subst h3; exact ⟨rfl, h2, h1, by simp⟩
theorem isx18 {t : List UInt8} {n : Int} {ks : List Nd} : isX ⟨18, t, n, ks⟩ ↔ (n = 0 ∧ nameB t = true) ∧ ks = [] := by
  simp only [isX, isN_iff, kidsOK, hasName, exprK]
  simp
  constructor
  · rintro ⟨h1, h2, h3, _⟩; exact ⟨⟨h3, h2⟩, h1⟩
  · rintro ⟨⟨h1, h2⟩, h3⟩; subst h3; exact ⟨rfl, h2, h1, by simp⟩
theorem isx15 {k : Int} {t : List UInt8} {n : Int} {ks : List Nd} (hk : k = 15 ∨ k = 16 ∨ k = 17 ∨ k = 19) : isX ⟨k, t, n, ks⟩ ↔ (t = [] ∧ n = 0) ∧ ks = [] := by
  rcases hk with rfl | rfl | rfl | rfl
  all_goals
    simp only [isX, isN_iff, kidsOK, hasName, exprK]
    simp
    constructor
    · rintro ⟨h1, h2, h3, _⟩; exact ⟨⟨h2, h3⟩, h1⟩
    · rintro ⟨⟨h1, h2⟩, h3⟩; subst h3; exact ⟨rfl, h1, h2, by simp⟩
theorem isx23 {k : Int} {t : List UInt8} {n : Int} {ks : List Nd} (hk : k = 23 ∨ k = 24 ∨ k = 25) : isX ⟨k, t, n, ks⟩ ↔ (t = [] ∧ n = 0) ∧ ∃ y, ks = [y] ∧ isX y := by
  rcases hk with rfl | rfl | rfl
  all_goals
    simp only [isX, isN_iff, kidsOK, hasName, exprK]
    simp [len1]
    constructor
    · rintro ⟨⟨a, rfl⟩, h2, h3, h4⟩
      rw [all1] at h4
      simp [fitsK, exprK] at h4
      exact ⟨⟨h2, h3⟩, a, rfl, h4.2, h4.1⟩
    · rintro ⟨⟨h1, h2⟩, a, rfl, h3, h4⟩
      rw [all1]
      exact ⟨⟨a, rfl⟩, h1, h2, by simp [fitsK, exprK]; exact h4, h3⟩
theorem isx20 {k : Int} {t : List UInt8} {n : Int} {ks : List Nd} (hk : k = 20 ∨ k = 26) : isX ⟨k, t, n, ks⟩ ↔ (t = [] ∧ n = 0) ∧ ∃ y z, ks = [y, z] ∧ isX y ∧ isX z := by
  rcases hk with rfl | rfl
  all_goals
    simp only [isX, isN_iff, kidsOK, hasName, exprK]
    simp [len2]
    constructor
    · rintro ⟨⟨a, b, rfl⟩, h2, h3, h4⟩
      rw [all2] at h4
      simp [fitsK, exprK] at h4
      exact ⟨⟨h2, h3⟩, a, b, rfl, ⟨h4.1.2, h4.1.1⟩, h4.2.2, h4.2.1⟩
    · rintro ⟨⟨h1, h2⟩, a, b, rfl, ⟨h3, h4⟩, h5, h6⟩
      rw [all2]
      exact ⟨⟨a, b, rfl⟩, h1, h2, ⟨by simp [fitsK, exprK]; exact h4, h3⟩, by simp [fitsK, exprK]; exact h6, h5⟩
theorem isx22 {t : List UInt8} {n : Int} {ks : List Nd} : isX ⟨22, t, n, ks⟩ ↔ (opOf n).isSome = true ∧ t = [] ∧ ∃ y z, ks = [y, z] ∧ isX y ∧ isX z := by
  simp only [isX, isN_iff, kidsOK, hasName, exprK]
  simp [len2]
  constructor
  · rintro ⟨⟨a, b, rfl⟩, h2, h3, h4⟩
    rw [all2] at h4
    simp [fitsK, exprK] at h4
    exact ⟨h3, h2, a, b, rfl, ⟨h4.1.2, h4.1.1⟩, h4.2.2, h4.2.1⟩
  · rintro ⟨h1, h2, a, b, rfl, ⟨h3, h4⟩, h5, h6⟩
    rw [all2]
    exact ⟨⟨a, b, rfl⟩, h2, h1, ⟨by simp [fitsK, exprK]; exact h4, h3⟩, by simp [fitsK, exprK]; exact h6, h5⟩
theorem isx21 {t : List UInt8} {n : Int} {ks : List Nd} : isX ⟨21, t, n, ks⟩ ↔ (t = [] ∧ n = 0) ∧ 0 < ks.length ∧ ∀ y ∈ ks, isX y := by
  simp only [isX, isN_iff, kidsOK, hasName, exprK]
  simp
  constructor
  · rintro ⟨h1, h2, h3, h4⟩
    refine ⟨⟨h2, h3⟩, by omega, fun y hy => ?_⟩
    obtain ⟨j, hj, e⟩ := List.getElem_of_mem hy
    have := h4 j y (by rw [List.getElem?_eq_getElem hj, e])
    simp [fitsK, exprK] at this
    exact ⟨this.2, this.1⟩
  · rintro ⟨⟨h1, h2⟩, h3, h4⟩
    refine ⟨by omega, h1, h2, fun j x hx => ?_⟩
    have := h4 x (List.mem_of_getElem? hx)
    exact ⟨by simp [fitsK, exprK]; exact this.2, this.1⟩
theorem isx_no {k : Int} {t : List UInt8} {n : Int} {ks : List Nd} (h : ¬ exprK k) : ¬ isX ⟨k, t, n, ks⟩ := fun hh => h hh.2
theorem iss5 {t : List UInt8} {n : Int} {ks : List Nd} : isS ⟨5, t, n, ks⟩ ↔ (n = 0 ∧ nameB t = true) ∧ ∃ y, ks = [y] ∧ isX y := by
  simp only [isS, isX, isN_iff, kidsOK, hasName, statK]
  simp [len1]
  constructor
  · rintro ⟨⟨a, rfl⟩, h2, h3, h4⟩
    rw [all1] at h4
    simp [fitsK] at h4
    exact ⟨⟨h3, h2⟩, a, rfl, h4.2, h4.1⟩
  · rintro ⟨⟨h1, h2⟩, a, rfl, h3, h4⟩
    rw [all1]
    exact ⟨⟨a, rfl⟩, h2, h1, by simp [fitsK]; exact h4, h3⟩
theorem iss11 {k : Int} {t : List UInt8} {n : Int} {ks : List Nd} (hk : k = 11 ∨ k = 12) : isS ⟨k, t, n, ks⟩ ↔ (t = [] ∧ n = 0) ∧ ∃ y, ks = [y] ∧ isX y := by
  rcases hk with rfl | rfl
  all_goals
    simp only [isS, isX, isN_iff, kidsOK, hasName, statK]
    simp [len1]
    constructor
    · rintro ⟨⟨a, rfl⟩, h2, h3, h4⟩
      rw [all1] at h4
      simp [fitsK] at h4
      exact ⟨⟨h2, h3⟩, a, rfl, h4.2, h4.1⟩
    · rintro ⟨⟨h1, h2⟩, a, rfl, h3, h4⟩
      rw [all1]
      exact ⟨⟨a, rfl⟩, h1, h2, by simp [fitsK]; exact h4, h3⟩
abbrev isPl (y : Nd) : Prop := isX y ∧ chainC y = some 0
abbrev isCl (y : Nd) : Prop := isX y ∧ y.k = 21 ∧ (chainC y).isSome = true
theorem iss6 {t : List UInt8} {n : Int} {ks : List Nd} : isS ⟨6, t, n, ks⟩ ↔ (t = [] ∧ n = 0) ∧ ∃ y z, ks = [y, z] ∧ isPl y ∧ isX z := by
  simp only [isS, isX, isN_iff, kidsOK, hasName, statK]
  simp [len2]
  constructor
  · rintro ⟨⟨a, b, rfl⟩, h2, h3, h5, h4⟩
    rw [all2] at h4
    simp [fitsK] at h4 h5
    exact ⟨⟨h2, h3⟩, a, b, rfl, ⟨⟨h4.1.2, h4.1.1⟩, h5⟩, h4.2.2, h4.2.1⟩
  · rintro ⟨⟨h1, h2⟩, a, b, rfl, ⟨⟨h3, h4⟩, h7⟩, h5, h6⟩
    rw [all2]
    exact ⟨⟨a, b, rfl⟩, h1, h2, by simpa using h7, ⟨by simp [fitsK]; exact h4, h3⟩, by simp [fitsK]; exact h6, h5⟩
theorem iss7 {t : List UInt8} {n : Int} {ks : List Nd} : isS ⟨7, t, n, ks⟩ ↔ (t = [] ∧ n = 0) ∧ ∃ y, ks = [y] ∧ isCl y := by
  simp only [isS, isN_iff, kidsOK, hasName, statK]
  simp [len1]
  constructor
  · rintro ⟨⟨a, rfl⟩, h2, h3, h5, h4⟩
    rw [all1] at h4
    simp [fitsK] at h4 h5
    exact ⟨⟨h2, h3⟩, a, rfl, ⟨h4.2, h4.1⟩, h5.2, h5.1⟩
  · rintro ⟨⟨h1, h2⟩, a, rfl, ⟨h3, h4⟩, h5, h6⟩
    rw [all1]
    exact ⟨⟨a, rfl⟩, h1, h2, by simpa using ⟨h6, h5⟩, by simp [fitsK]; exact h4, h3⟩
theorem iss8 {t : List UInt8} {n : Int} {ks : List Nd} : isS ⟨8, t, n, ks⟩ ↔ (t = [] ∧ n = 0) ∧ ((∃ y z, ks = [y, z] ∧ isX y ∧ isK 4 z) ∨ ∃ y z v, ks = [y, z, v] ∧ isX y ∧ isK 4 z ∧ isK 4 v) := by
  simp only [isS, isX, isN_iff, kidsOK, hasName, statK]
  simp [len2, len3]
  constructor
  · rintro ⟨⟨a, b, rfl⟩ | ⟨a, b, c, rfl⟩, h2, h3, h4⟩
    · rw [all2] at h4
      simp [fitsK] at h4
      exact ⟨⟨h2, h3⟩, .inl ⟨a, b, rfl, ⟨h4.1.2, h4.1.1⟩, h4.2.2, h4.2.1⟩⟩
    · rw [all3] at h4
      simp [fitsK] at h4
      exact ⟨⟨h2, h3⟩, .inr ⟨a, b, c, rfl, ⟨h4.1.2, h4.1.1⟩, ⟨h4.2.1.2, h4.2.1.1⟩, h4.2.2.2, h4.2.2.1⟩⟩
  · rintro ⟨⟨h1, h2⟩, ⟨a, b, rfl, ⟨h3, h4⟩, h5, h6⟩ | ⟨a, b, c, rfl, ⟨h3, h4⟩, ⟨h5, h6⟩, h7, h8⟩⟩
    · rw [all2]
      exact ⟨.inl ⟨a, b, rfl⟩, h1, h2, ⟨by simp [fitsK]; exact h4, h3⟩, by simp [fitsK]; exact h6, h5⟩
    · rw [all3]
      exact ⟨.inr ⟨a, b, c, rfl⟩, h1, h2, ⟨by simp [fitsK]; exact h4, h3⟩, ⟨by simp [fitsK]; exact h6, h5⟩, by simp [fitsK]; exact h8, h7⟩
theorem iss9 {t : List UInt8} {n : Int} {ks : List Nd} : isS ⟨9, t, n, ks⟩ ↔ (t = [] ∧ n = 0) ∧ ∃ y z, ks = [y, z] ∧ isX y ∧ isK 4 z := by
  simp only [isS, isX, isN_iff, kidsOK, hasName, statK]
  simp [len2]
  constructor
  · rintro ⟨⟨a, b, rfl⟩, h2, h3, h4⟩
    rw [all2] at h4
    simp [fitsK] at h4
    exact ⟨⟨h2, h3⟩, a, b, rfl, ⟨h4.1.2, h4.1.1⟩, h4.2.2, h4.2.1⟩
  · rintro ⟨⟨h1, h2⟩, a, b, rfl, ⟨h3, h4⟩, h5, h6⟩
    rw [all2]
    exact ⟨⟨a, b, rfl⟩, h1, h2, ⟨by simp [fitsK]; exact h4, h3⟩, by simp [fitsK]; exact h6, h5⟩
theorem iss10 {t : List UInt8} {n : Int} {ks : List Nd} : isS ⟨10, t, n, ks⟩ ↔ (n = 0 ∧ nameB t = true) ∧ ∃ y z v, ks = [y, z, v] ∧ isX y ∧ isX z ∧ isK 4 v := by
  simp only [isS, isX, isN_iff, kidsOK, hasName, statK]
  simp [len3]
  constructor
  · rintro ⟨⟨a, b, c, rfl⟩, h2, h3, h4⟩
    rw [all3] at h4
    simp [fitsK] at h4
    exact ⟨⟨h3, h2⟩, a, b, c, rfl, ⟨h4.1.2, h4.1.1⟩, ⟨h4.2.1.2, h4.2.1.1⟩, h4.2.2.2, h4.2.2.1⟩
  · rintro ⟨⟨h1, h2⟩, a, b, c, rfl, ⟨h3, h4⟩, ⟨h5, h6⟩, h7, h8⟩
    rw [all3]
    exact ⟨⟨a, b, c, rfl⟩, h2, h1, ⟨by simp [fitsK]; exact h4, h3⟩, ⟨by simp [fitsK]; exact h6, h5⟩, by simp [fitsK]; exact h8, h7⟩
theorem kids_all {ks : List Nd} {p : Nd → Prop} : (∀ (j : Nat) x, ks[j]? = some x → p x) ↔ ∀ y ∈ ks, p y := by
  constructor
  · intro h y hy
    obtain ⟨j, hj, e⟩ := List.getElem_of_mem hy
    exact h j y (by rw [List.getElem?_eq_getElem hj, e])
  · intro h j x hx
    exact h x (List.mem_of_getElem? hx)
theorem isk4 {t : List UInt8} {n : Int} {ks : List Nd} : isK 4 ⟨4, t, n, ks⟩ ↔ (t = [] ∧ n = 0) ∧ ∀ y ∈ ks, isS y := by
  simp only [isK, isS, isN_iff, kidsOK, hasName]
  simp [fitsK]
  constructor
  · rintro ⟨h2, h3, h4⟩
    exact ⟨⟨h2, h3⟩, fun y hy => by have := kids_all.1 h4 y hy; exact ⟨this.2, this.1⟩⟩
  · rintro ⟨⟨h2, h3⟩, h4⟩
    exact ⟨h2, h3, fun j x hx => by have := h4 x (List.mem_of_getElem? hx); exact ⟨this.2, this.1⟩⟩
theorem isk1 {t : List UInt8} {n : Int} {ks : List Nd} : isK 1 ⟨1, t, n, ks⟩ ↔ (t = [] ∧ n = 0) ∧ ∀ y ∈ ks, isK 2 y := by
  simp only [isK, isN_iff, kidsOK, hasName]
  simp [fitsK]
  constructor
  · rintro ⟨h2, h3, h4⟩
    exact ⟨⟨h2, h3⟩, fun y hy => by have := kids_all.1 h4 y hy; exact ⟨this.2, this.1⟩⟩
  · rintro ⟨⟨h2, h3⟩, h4⟩
    exact ⟨h2, h3, fun j x hx => by have := h4 x (List.mem_of_getElem? hx); exact ⟨this.2, this.1⟩⟩
theorem isk3 {t : List UInt8} {n : Int} {ks : List Nd} : isK 3 ⟨3, t, n, ks⟩ ↔ (n = 0 ∧ nameB t = true) ∧ ks = [] := by
  simp only [isK, isN_iff, kidsOK, hasName]
  simp
  constructor
  · rintro ⟨h1, h2, h3, _⟩; exact ⟨⟨h3, h2⟩, h1⟩
  · rintro ⟨⟨h1, h2⟩, h3⟩; subst h3; exact ⟨rfl, h2, h1, by simp⟩
theorem isk2 {t : List UInt8} {n : Int} {ks : List Nd} : isK 2 ⟨2, t, n, ks⟩ ↔ (n = 0 ∧ nameB t = true) ∧ 0 < ks.length ∧ (∀ y ∈ ks.take (ks.length - 1), isK 3 y) ∧ ∀ y, ks[ks.length - 1]? = some y → isK 4 y := by
  simp only [isK, isN_iff, kidsOK, hasName]
  simp
  constructor
  · rintro ⟨h1, h2, h3, h4⟩
    refine ⟨⟨h3, h2⟩, by omega, fun y hy => ?_, fun y hy => ?_⟩
    · obtain ⟨j, hj, e⟩ := List.getElem_of_mem hy
      simp at hj e
      have := h4 j y (by rw [List.getElem?_eq_getElem (by omega), e])
      simp [fitsK] at this
      rw [if_neg (by omega)] at this
      exact ⟨this.2, this.1⟩
    · have := h4 _ y hy
      simp [fitsK] at this
      rw [if_pos (by omega)] at this
      exact ⟨this.2, this.1⟩
  · rintro ⟨⟨h1, h2⟩, h3, h4, h5⟩
    refine ⟨by omega, h2, h1, fun j x hx => ?_⟩
    have hj := (List.getElem?_eq_some_iff.1 hx).1
    by_cases e : j + 1 = ks.length
    · obtain rfl : j = ks.length - 1 := by omega
      have := h5 x hx
      refine ⟨?_, this.1⟩
      simp [fitsK]
      rw [if_pos (by omega)]
      exact this.2
    · have := h4 x (by
        refine List.mem_of_getElem? (i := j) ?_
        rw [List.getElem?_take, if_pos (by omega), hx])
      refine ⟨?_, this.1⟩
      simp [fitsK]
      rw [if_neg (by omega)]
      exact this.2
end Go.Proofs.YtbofdfdmikhanaaGreatDoor
