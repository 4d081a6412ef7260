/- The document's fn. -/
import Derived.Test.YtklgjfpgclelbaaCH
import Derived.Deep.RegionHeld3
namespace Go.Proofs.Ytklgjfpgclelbaa
open Go.RowKit
open Go

theorem rmay_tt (x : Vl) (w : World) (h : mayB x.k x.n x.s = true) : Calls Try.prog 14 #[x.v] w fun e w' => e = .returned (.bool true) ∧ Below w.heap.size w w' := by
  have hn : -9223372036854775808 ≤ x.n ∧ x.n ≤ 9223372036854775807 := by have := x.wn; simpa [Lit.wf, IntKind.min, IntKind.max, IntKind.signed, IntKind.bits] using this
  exact (rmay_t x.k x.n x.s w hn.1 hn.2 h).mono fun e w' ⟨he, hw⟩ => ⟨he, by rw [hw]; exact ext_alloc (Below.refl _ _) _⟩
theorem rmay_ff (x : Vl) (w : World) (h : mayB x.k x.n x.s = false) : Calls Try.prog 14 #[x.v] w fun e w' => e = .returned (.bool false) ∧ Below w.heap.size w w' := by
  have hn : -9223372036854775808 ≤ x.n ∧ x.n ≤ 9223372036854775807 := by have := x.wn; simpa [Lit.wf, IntKind.min, IntKind.max, IntKind.signed, IntKind.bits] using this
  exact (rmay_f x.k x.n x.s w hn.1 hn.2 h).mono fun e w' ⟨he, hw⟩ => ⟨he, by rw [hw]; exact ext_alloc (Below.refl _ _) _⟩

set_option maxRecDepth 100000 in
set_option maxHeartbeats 1000000 in
theorem fn_h0 (a : Option Addr) (n c : Nat) (main : Int) (f : Fd) (w : World) (h0 : (f.p < 0)) :
    Calls Try.prog 10 #[PV a n c main, f.v] w fun e w' => e = .returned (.bool false) ∧ Below w.heap.size w w' := by
  go_enter Try.func10, Try.ntmps10
  go_wp2
  go_ret
  refine ⟨rfl, ?_⟩
  repeat (first | exact Below.refl _ _ | refine ext_alloc ?_ _)
set_option maxRecDepth 100000 in
set_option maxHeartbeats 1000000 in
theorem fn_h1 (a : Option Addr) (n c : Nat) (main : Int) (f : Fd) (w : World) (h0 : ¬ (f.p < 0)) (h1 : (5 < f.p)) :
    Calls Try.prog 10 #[PV a n c main, f.v] w fun e w' => e = .returned (.bool false) ∧ Below w.heap.size w w' := by
  go_enter Try.func10, Try.ntmps10
  go_wp2
  go_ret
  refine ⟨rfl, ?_⟩
  repeat (first | exact Below.refl _ _ | refine ext_alloc ?_ _)
set_option maxRecDepth 100000 in
set_option maxHeartbeats 1000000 in
theorem fn_h2 (a : Option Addr) (n c : Nat) (main : Int) (f : Fd) (w : World) (h0 : ¬ (f.p < 0)) (h1 : ¬ (5 < f.p)) (h2 : (f.r < 1)) :
    Calls Try.prog 10 #[PV a n c main, f.v] w fun e w' => e = .returned (.bool false) ∧ Below w.heap.size w w' := by
  go_enter Try.func10, Try.ntmps10
  go_wp2
  go_ret
  refine ⟨rfl, ?_⟩
  repeat (first | exact Below.refl _ _ | refine ext_alloc ?_ _)
set_option maxRecDepth 100000 in
set_option maxHeartbeats 1000000 in
theorem fn_h3 (a : Option Addr) (n c : Nat) (main : Int) (f : Fd) (w : World) (h0 : ¬ (f.p < 0)) (h1 : ¬ (5 < f.p)) (h2 : ¬ (f.r < 1)) (h3 : (250 < f.r)) :
    Calls Try.prog 10 #[PV a n c main, f.v] w fun e w' => e = .returned (.bool false) ∧ Below w.heap.size w w' := by
  go_enter Try.func10, Try.ntmps10
  go_wp2
  go_ret
  refine ⟨rfl, ?_⟩
  repeat (first | exact Below.refl _ _ | refine ext_alloc ?_ _)
set_option maxRecDepth 100000 in
set_option maxHeartbeats 1000000 in
theorem fn_h4 (a : Option Addr) (n c : Nat) (main : Int) (f : Fd) (w : World) (h0 : ¬ (f.p < 0)) (h1 : ¬ (5 < f.p)) (h2 : ¬ (f.r < 1)) (h3 : ¬ (250 < f.r)) (h4 : (f.r < f.p)) :
    Calls Try.prog 10 #[PV a n c main, f.v] w fun e w' => e = .returned (.bool false) ∧ Below w.heap.size w w' := by
  go_enter Try.func10, Try.ntmps10
  go_wp2
  go_ret
  refine ⟨rfl, ?_⟩
  repeat (first | exact Below.refl _ _ | refine ext_alloc ?_ _)
set_option maxRecDepth 100000 in
set_option maxHeartbeats 1000000 in
theorem fn_h5 (a : Option Addr) (n c : Nat) (main : Int) (f : Fd) (w : World) (h0 : ¬ (f.p < 0)) (h1 : ¬ (5 < f.p)) (h2 : ¬ (f.r < 1)) (h3 : ¬ (250 < f.r)) (h4 : ¬ (f.r < f.p)) (h5 : ((700 : Int) < (f.cs.length : Int))) :
    Calls Try.prog 10 #[PV a n c main, f.v] w fun e w' => e = .returned (.bool false) ∧ Below w.heap.size w w' := by
  go_enter Try.func10, Try.ntmps10
  go_wp2
  go_ret
  refine ⟨rfl, ?_⟩
  repeat (first | exact Below.refl _ _ | refine ext_alloc ?_ _)
set_option maxRecDepth 100000 in
set_option maxHeartbeats 1000000 in
theorem fn_h6 (a : Option Addr) (n c : Nat) (main : Int) (f : Fd) (w : World) (h0 : ¬ (f.p < 0)) (h1 : ¬ (5 < f.p)) (h2 : ¬ (f.r < 1)) (h3 : ¬ (250 < f.r)) (h4 : ¬ (f.r < f.p)) (h5 : ¬ ((700 : Int) < (f.cs.length : Int))) (h6 : ((f.is.length : Int) < 1)) :
    Calls Try.prog 10 #[PV a n c main, f.v] w fun e w' => e = .returned (.bool false) ∧ Below w.heap.size w w' := by
  go_enter Try.func10, Try.ntmps10
  go_wp2
  go_ret
  refine ⟨rfl, ?_⟩
  repeat (first | exact Below.refl _ _ | refine ext_alloc ?_ _)
set_option maxRecDepth 100000 in
set_option maxHeartbeats 1000000 in
theorem fn_h7 (a : Option Addr) (n c : Nat) (main : Int) (f : Fd) (w : World) (h0 : ¬ (f.p < 0)) (h1 : ¬ (5 < f.p)) (h2 : ¬ (f.r < 1)) (h3 : ¬ (250 < f.r)) (h4 : ¬ (f.r < f.p)) (h5 : ¬ ((700 : Int) < (f.cs.length : Int))) (h6 : ¬ ((f.is.length : Int) < 1)) (h7 : ((3000 : Int) < (f.is.length : Int))) :
    Calls Try.prog 10 #[PV a n c main, f.v] w fun e w' => e = .returned (.bool false) ∧ Below w.heap.size w w' := by
  go_enter Try.func10, Try.ntmps10
  go_wp2
  go_ret
  refine ⟨rfl, ?_⟩
  repeat (first | exact Below.refl _ _ | refine ext_alloc ?_ _)

set_option maxRecDepth 100000 in
set_option maxHeartbeats 8000000 in
theorem fn_loop (a : Option Addr) (n c : Nat) (main : Int) (f : Fd) (w : World) (hF : FdIn w.heap.size w f) (h0 : ¬ (f.p < 0)) (h1 : ¬ (5 < f.p)) (h2 : ¬ (f.r < 1)) (h3 : ¬ (250 < f.r)) (h4 : ¬ (f.r < f.p)) (h5 : ¬ ((700 : Int) < (f.cs.length : Int))) (h6 : ¬ ((f.is.length : Int) < 1)) (h7 : ¬ ((3000 : Int) < (f.is.length : Int))) :
    Calls Try.prog 10 #[PV a n c main, f.v] w fun e w' => e = .returned (.bool (allB (fun _ => constB n) f.cs && codeB f)) ∧ Below w.heap.size w w' := by
  obtain ⟨⟨_, hrowc⟩, ⟨_, hrowi⟩⟩ := hF
  have hne : f.is ≠ [] := by
    intro e
    rw [e] at h6
    exact h6 (by decide)
  obtain ⟨b, off, ha, hbl, hel⟩ := hrowi hne
  have hpos : 0 < f.is.length := List.length_pos_iff.2 hne
  have hl1 : f.is.length ≤ 3000 := by omega
  have hl2 : f.cs.length ≤ 700 := by omega
  have hv : f.v = .agg #[.int .i64 f.p, .int .i64 f.r, .slice f.ca f.cs.length f.cc, .slice (some ⟨b, off, none⟩) f.is.length f.ic] := by rw [← ha]
  have hf0 : ((w.alloc (.cells #[.slice a n c, .int .i64 main] 24)).alloc (.cells #[.int .i64 f.p, .int .i64 f.r, .slice f.ca f.cs.length f.cc, .slice (some ⟨b, off, none⟩) f.is.length f.ic] 30)).heap[w.heap.size + 1]? = some (.cells #[.int .i64 f.p, .int .i64 f.r, .slice f.ca f.cs.length f.cc, .slice (some ⟨b, off, none⟩) f.is.length f.ic] 30) := by simpa using heap_new (w.alloc _) _
  have hp0 : ((w.alloc (.cells #[.slice a n c, .int .i64 main] 24)).alloc (.cells #[.int .i64 f.p, .int .i64 f.r, .slice f.ca f.cs.length f.cc, .slice (some ⟨b, off, none⟩) f.is.length f.ic] 30)).heap[w.heap.size]? = some (.cells #[.slice a n c, .int .i64 main] 24) := (Below.heap_alloc _ _ _ (by simp)).trans (heap_new _ _)
  have hb0 : Below w.heap.size w ((w.alloc (.cells #[.slice a n c, .int .i64 main] 24)).alloc (.cells #[.int .i64 f.p, .int .i64 f.r, .slice f.ca f.cs.length f.cc, .slice (some ⟨b, off, none⟩) f.is.length f.ic] 30)) := ext_alloc (ext_alloc (Below.refl _ _) _) _
  obtain ⟨ans, hans⟩ : ∃ ans, (allB (fun _ => constB n) f.cs && codeB f) = ans := ⟨_, rfl⟩
  rw [hans]
  replace hans : Hid _ := hans
  have hC : ∀ (x : Od) (m : Nat) (W : World), RI f x m W (instrB f x m) := ri_any f
  simp only [RI, hv] at hC
  replace hC : Hid _ := hC
  rw [hv]
  clear ha hv
  replace hel : Hid _ := hel
  replace hrowc : Hid _ := hrowc
  clear hrowi
  go_enter Try.func10, Try.ntmps10
  go_wp2
  go_loopw [6] (fun i wr => ∃ m : Nat, m ≤ f.cs.length ∧ i = .int .i64 m ∧ Hid (AllTo (fun _ => constB n) f.cs m) ∧ wr.heap[w.heap.size]? = some (.cells #[.slice a n c, .int .i64 main] 24) ∧ wr.heap[w.heap.size + 1]? = some (.cells #[.int .i64 f.p, .int .i64 f.r, .slice f.ca f.cs.length f.cc, .slice (some ⟨b, off, none⟩) f.is.length f.ic] 30) ∧ Below w.heap.size w wr) (fun i _ => f.cs.length - (intOf i).toNat)
  case atStart => exact ⟨0, Nat.zero_le _, rfl, AllTo.zero, hp0, hf0, hb0⟩
  case round =>
    clear hf0 hb0 hp0
    obtain ⟨m, hm, rfl, hG, hp, hf, hb⟩ := hrel
    have d0 : wr.cell? ⟨w.heap.size, 0, none⟩ = some (.slice a n c) := cell_block hp rfl
    have c0 : wr.cell? ⟨w.heap.size + 1, 0, none⟩ = some (.int .i64 f.p) := cell_block hf rfl
    have c1 : wr.cell? ⟨w.heap.size + 1, 1, none⟩ = some (.int .i64 f.r) := cell_block hf rfl
    have c2 : wr.cell? ⟨w.heap.size + 1, 2, none⟩ = some (.slice f.ca f.cs.length f.cc) := cell_block hf rfl
    have c3 : wr.cell? ⟨w.heap.size + 1, 3, none⟩ = some (.slice (some ⟨b, off, none⟩) f.is.length f.ic) := cell_block hf rfl
    have hl0 : w.heap.size < wr.heap.size := (Array.getElem?_eq_some_iff.1 hp).1
    have hl9 : w.heap.size + 1 < wr.heap.size := (Array.getElem?_eq_some_iff.1 hf).1
    by_cases hlt : m < f.cs.length
    · obtain ⟨x, hx⟩ : ∃ x, f.cs[m]? = some x := ⟨f.cs[m], by simp [hlt]⟩
      obtain ⟨b', off', ha', hbl', hel'⟩ := hrowc.out (by intro e; rw [e] at hlt; simp at hlt)
      obtain ⟨t0, t1, t2⟩ := (hel' m x hx).below hb hbl'
      rw [ha'] at c2
      clear ha'
      have hbad : constB n x = false → Hid ((allB (fun _ => constB n) f.cs && codeB f) = false) := fun h => by
        rw [allB_false (p := fun _ => constB n) hx h]; exact rfl
      have hnext : constB n x = true → Hid (AllTo (fun _ => constB n) f.cs (m + 1)) := fun h => AllTo.next (p := fun _ => constB n) hx h hG.out
      replace hbad : Hid _ := hbad
      replace hnext : Hid _ := hnext
      clear hx hG hel'
      cases e1 : mayB x.k x.n x.s
      · have hM := fun w => rmay_ff x w e1
        replace e1 : Hid _ := e1
        go_wp2_with (go_at_call 14; refine (hM _).mono ?_; rintro e w3 ⟨rfl, hb3⟩)
        go_ret
        exact ⟨by rw [← hans.out, (hbad.out (by simp [constB, e1.out])).out]; rfl, ext_trans (ext_alloc hb _) hb3⟩
      · have hM := fun w => rmay_tt x w e1
        replace e1 : Hid _ := e1
        go_wp2_with (go_at_call 14; refine (hM _).mono ?_; rintro e w3 ⟨rfl, hb3⟩; have v0 := in_box (i := 0) hb3 rfl; have v1 := in_box (i := 1) hb3 rfl; have p3 := block_below hb3 ((Below.heap_alloc _ _ _ hl0).trans hp); have f3 := block_below hb3 ((Below.heap_alloc _ _ _ hl9).trans hf); have d0' := cell_block p3 (i := 0) rfl; refine Hid.out ?_)
        replace hb := ext_trans (ext_alloc hb _) hb3
        clear t0 t1 t2 hb3 hM d0 c0 c1 c2 c3
        refine Lib.hid ?_
        cases e4 : (x.k == 4)
        · cases e5 : (x.k == 5)
          · go_wp2
            go_roundw
            case rel => exact ⟨m + 1, hlt, by simp, (hnext.out (by simp [constB, e1.out, e4, e5])), p3, f3, hb⟩
            case measure => simp [intOf]; omega
          · cases e6 : decide ((n : Int) ≤ x.n)
            · go_wp2
              go_roundw
              case rel => exact ⟨m + 1, hlt, by simp, (hnext.out (by simp [constB, e1.out, e4, e5, e6])), p3, f3, hb⟩
              case measure => simp [intOf]; omega
            · go_wp2
              go_ret
              exact ⟨by rw [← hans.out, (hbad.out (by simp [constB, e1.out, e4, e5, e6])).out]; rfl, hb⟩
        · go_wp2
          go_ret
          exact ⟨by rw [← hans.out, (hbad.out (by simp [constB, e1.out, e4])).out]; rfl, hb⟩
    · obtain rfl : m = f.cs.length := by omega
      replace hans : Hid (codeB f = ans) := by
        have := hans.out
        rw [allB_true hG.out] at this
        exact this
      clear hG hrowc
      go_wp2
      clear c2 c3 d0 c0 c1 hl0 hl9
      go_loopw [8] (fun i ws => ∃ m : Nat, m ≤ f.is.length ∧ i = .int .i64 m ∧ Hid (AllTo (fun i x => instrB f x i) f.is m) ∧ ws.heap[w.heap.size + 1]? = some (.cells #[.int .i64 f.p, .int .i64 f.r, .slice f.ca f.cs.length f.cc, .slice (some ⟨b, off, none⟩) f.is.length f.ic] 30) ∧ Below w.heap.size w ws) (fun i _ => f.is.length - (intOf i).toNat)
      case atStart => exact ⟨0, Nat.zero_le _, rfl, AllTo.zero, hf, hb⟩
      case round =>
        clear hp hf hb
        obtain ⟨m, hm, rfl, hG, hf, hb⟩ := hrel
        have c0 : wr.cell? ⟨w.heap.size + 1, 0, none⟩ = some (.int .i64 f.p) := cell_block hf rfl
        have c1 : wr.cell? ⟨w.heap.size + 1, 1, none⟩ = some (.int .i64 f.r) := cell_block hf rfl
        have c2 : wr.cell? ⟨w.heap.size + 1, 2, none⟩ = some (.slice f.ca f.cs.length f.cc) := cell_block hf rfl
        have c3 : wr.cell? ⟨w.heap.size + 1, 3, none⟩ = some (.slice (some ⟨b, off, none⟩) f.is.length f.ic) := cell_block hf rfl
        by_cases hlt : m < f.is.length
        · obtain ⟨x, hx⟩ : ∃ x, f.is[m]? = some x := ⟨f.is[m], by simp [hlt]⟩
          obtain ⟨t0, t1, t2, t3⟩ := (hel.out m x hx).below hb hbl
          have hbad : instrB f x m = false → Hid (codeB f = false) := fun h => by
            unfold codeB; rw [allB_false (p := fun i x => instrB f x i) hx h]; exact rfl
          have hnext : instrB f x m = true → Hid (AllTo (fun i x => instrB f x i) f.is (m + 1)) := fun h => AllTo.next (p := fun i x => instrB f x i) hx h hG.out
          replace hbad : Hid _ := hbad
          replace hnext : Hid _ := hnext
          have hI := hC.out x m
          clear hx hG
          have s0 : (m : Int) < (f.is.length : Int) := by omega
          cases e1 : instrB f x m
          · rw [e1] at hI
            replace e1 : Hid _ := e1
            go_wp2
            go_region_held3 (fun u => u.cell? ⟨w.heap.size + 1, 0, none⟩ = some (.int .i64 f.p) ∧ u.cell? ⟨w.heap.size + 1, 1, none⟩ = some (.int .i64 f.r) ∧ u.cell? ⟨w.heap.size + 1, 2, none⟩ = some (.slice f.ca f.cs.length f.cc) ∧ u.cell? ⟨w.heap.size + 1, 3, none⟩ = some (.slice (some ⟨b, off, none⟩) f.is.length f.ic) ∧ u.cell? ⟨b, off + m * 4, none⟩ = some (.int .i64 x.op) ∧ u.cell? ⟨b, off + m * 4 + 1, none⟩ = some (.int .i64 x.a) ∧ u.cell? ⟨b, off + m * 4 + 2, none⟩ = some (.int .i64 x.b) ∧ u.cell? ⟨b, off + m * 4 + 3, none⟩ = some (.int .i64 x.c)) (go_keep) ((go_at_call 15; refine (hI _).mono ?_; rintro e w3 ⟨rfl, hb3⟩; have f3 := block_below hb3 (show wr.drew.heap[w.heap.size + 1]? = _ from hf); have b3 := ext_trans hb.drew hb3; have c0 := cell_block f3 (i := 0) rfl; have c1 := cell_block f3 (i := 1) rfl; have c2 := cell_block f3 (i := 2) rfl; have c3 := cell_block f3 (i := 3) rfl; have t0 := cellB hb3 (show wr.drew.cell? _ = _ from t0); have t1 := cellB hb3 (show wr.drew.cell? _ = _ from t1); have t2 := cellB hb3 (show wr.drew.cell? _ = _ from t2); have t3 := cellB hb3 (show wr.drew.cell? _ = _ from t3)))
            go_wp2
            go_ret
            exact ⟨by rw [← hans.out, (hbad.out e1.out).out]; rfl, b3⟩
          · rw [e1] at hI
            replace e1 : Hid _ := e1
            go_wp2
            go_region_held3 (fun u => u.cell? ⟨w.heap.size + 1, 0, none⟩ = some (.int .i64 f.p) ∧ u.cell? ⟨w.heap.size + 1, 1, none⟩ = some (.int .i64 f.r) ∧ u.cell? ⟨w.heap.size + 1, 2, none⟩ = some (.slice f.ca f.cs.length f.cc) ∧ u.cell? ⟨w.heap.size + 1, 3, none⟩ = some (.slice (some ⟨b, off, none⟩) f.is.length f.ic) ∧ u.cell? ⟨b, off + m * 4, none⟩ = some (.int .i64 x.op) ∧ u.cell? ⟨b, off + m * 4 + 1, none⟩ = some (.int .i64 x.a) ∧ u.cell? ⟨b, off + m * 4 + 2, none⟩ = some (.int .i64 x.b) ∧ u.cell? ⟨b, off + m * 4 + 3, none⟩ = some (.int .i64 x.c)) (go_keep) ((go_at_call 15; refine (hI _).mono ?_; rintro e w3 ⟨rfl, hb3⟩; have f3 := block_below hb3 (show wr.drew.heap[w.heap.size + 1]? = _ from hf); have b3 := ext_trans hb.drew hb3; have c0 := cell_block f3 (i := 0) rfl; have c1 := cell_block f3 (i := 1) rfl; have c2 := cell_block f3 (i := 2) rfl; have c3 := cell_block f3 (i := 3) rfl; have t0 := cellB hb3 (show wr.drew.cell? _ = _ from t0); have t1 := cellB hb3 (show wr.drew.cell? _ = _ from t1); have t2 := cellB hb3 (show wr.drew.cell? _ = _ from t2); have t3 := cellB hb3 (show wr.drew.cell? _ = _ from t3)))
            go_wp2
            go_roundw
            case rel => exact ⟨m + 1, hlt, by simp, (hnext.out e1.out), f3, b3⟩
            case measure => simp [intOf]; omega
        · obtain rfl : m = f.is.length := by omega
          obtain ⟨x, hx⟩ : ∃ x, f.is[f.is.length - 1]? = some x := ⟨f.is[f.is.length - 1], List.getElem?_eq_getElem (by omega)⟩
          obtain ⟨t0, t1, t2, t3⟩ := (hel.out _ x hx).below hb hbl
          have he : codeB f = lastB x := by unfold codeB; rw [allB_true hG.out, hx]; rfl
          replace he : Hid _ := he
          clear hx hG hel
          have hi : ((f.is.length : Int) - 1).toNat = f.is.length - 1 := by omega
          have hi2 : (0 : Int) ≤ (f.is.length : Int) - 1 := by omega
          have hi3 : (f.is.length : Int) - 1 < (f.is.length : Int) := by omega
          have hi4 : wrap64 ((f.is.length : Int) - 1) = (f.is.length : Int) - 1 := wrap64_id (by omega) (by omega)
          cases e1 : (x.op == 12)
          · cases e2 : (x.op == 8)
            · cases e3 : (x.op == 10)
              · go_wp2
                go_ret
                exact ⟨by rw [← hans.out, he.out]; simp [lastB, e1, e2, e3], hb⟩
              · go_wp2
                go_ret
                exact ⟨by rw [← hans.out, he.out]; simp [lastB, e1, e2, e3], hb⟩
            · go_wp2
              go_ret
              exact ⟨by rw [← hans.out, he.out]; simp [lastB, e1, e2], hb⟩
          · go_wp2
            go_ret
            exact ⟨by rw [← hans.out, he.out]; simp [lastB, e1], hb⟩

/-- The document's fn. -/
theorem fn_any (a : Option Addr) (n c : Nat) (main : Int) (f : Fd) (w : World) (hF : FdIn w.heap.size w f) :
    Calls Try.prog 10 #[PV a n c main, f.v] w fun e w' => e = .returned (.bool (fnB n f)) ∧ Below w.heap.size w w' := by
  have key : ∀ b : Bool, fnB n f = b → (Calls Try.prog 10 #[PV a n c main, f.v] w fun e w' => e = .returned (.bool b) ∧ Below w.heap.size w w') → Calls Try.prog 10 #[PV a n c main, f.v] w fun e w' => e = .returned (.bool (fnB n f)) ∧ Below w.heap.size w w' := by
    intro b hb h; rw [hb]; exact h
  have hd : headB f = false → fnB n f = false := fun h => by unfold fnB; rw [h]; rfl
  by_cases h0 : f.p < 0
  · exact key false (hd (by simp [headB, frB]; omega)) (fn_h0 a n c main f w h0)
  by_cases h1 : 5 < f.p
  · exact key false (hd (by simp [headB, frB]; omega)) (fn_h1 a n c main f w h0 h1)
  by_cases h2 : f.r < 1
  · exact key false (hd (by simp [headB, frB]; omega)) (fn_h2 a n c main f w h0 h1 h2)
  by_cases h3 : 250 < f.r
  · exact key false (hd (by simp [headB, frB]; omega)) (fn_h3 a n c main f w h0 h1 h2 h3)
  by_cases h4 : f.r < f.p
  · exact key false (hd (by simp [headB, frB]; omega)) (fn_h4 a n c main f w h0 h1 h2 h3 h4)
  by_cases h5 : (700 : Int) < (f.cs.length : Int)
  · exact key false (hd (by simp [headB, frB]; omega)) (fn_h5 a n c main f w h0 h1 h2 h3 h4 h5)
  by_cases h6 : (f.is.length : Int) < 1
  · exact key false (hd (by simp [headB, frB]; omega)) (fn_h6 a n c main f w h0 h1 h2 h3 h4 h5 h6)
  by_cases h7 : (3000 : Int) < (f.is.length : Int)
  · exact key false (hd (by simp [headB, frB]; omega)) (fn_h7 a n c main f w h0 h1 h2 h3 h4 h5 h6 h7)
  refine key _ ?_ (fn_loop a n c main f w hF h0 h1 h2 h3 h4 h5 h6 h7)
  have : headB f = true := by simp [headB, frB]; omega
  unfold fnB
  rw [this]
  rfl
end Go.Proofs.Ytklgjfpgclelbaa
