/- The document's fn. -/
import Derived.Test.YthpgbienakcbeaaGreatDoorS29
import Derived.Test.YthpgbienakcbeaaGreatDoorS14
namespace Go.Proofs.YthpgbienakcbeaaGreatDoor
open Go.RowKit Go Go.Shelf
set_option maxRecDepth 100000
set_option maxHeartbeats 8000000
set_option linter.all false
section
variable [DecidableEq Vl]
theorem c0q (x : Vl) (w : World) (h : mayB x.k x.n x.s = true) : Calls Tryz.prog 47 #[x.v] w fun e w' => e = .returned (.bool true) ∧ Below w.heap.size w w' := by
 have hn : -9223372036854775808 ≤ x.n ∧ x.n ≤ 9223372036854775807 := by have := x.wn; simpa [Lit.wf, IntKind.min, IntKind.max, IntKind.signed, IntKind.bits] using this
 exact (a5v x.k x.n x.s w hn.1 hn.2 h).mono fun e w' ⟨he, hw⟩ => ⟨he, by rw [hw]; exact a0c (Below.refl _ _) _⟩
theorem c0r (x : Vl) (w : World) (h : mayB x.k x.n x.s = false) : Calls Tryz.prog 47 #[x.v] w fun e w' => e = .returned (.bool false) ∧ Below w.heap.size w w' := by
 have hn : -9223372036854775808 ≤ x.n ∧ x.n ≤ 9223372036854775807 := by have := x.wn; simpa [Lit.wf, IntKind.min, IntKind.max, IntKind.signed, IntKind.bits] using this
 exact (b5a x.k x.n x.s w hn.1 hn.2 h).mono fun e w' ⟨he, hw⟩ => ⟨he, by rw [hw]; exact a0c (Below.refl _ _) _⟩
theorem d4b (a : Option Addr) (n c : Nat) (main : Int) (f : Fd) (w : World) (h0 : (f.p < 0)) :
  Calls Tryz.prog 26 #[PV a n c main, f.v] w fun e w' => e = .returned (.bool false) ∧ Below w.heap.size w w' := by
 go_enter Tryz.func26, Tryz.ntmps26
 go_wp2
 go_ret
 refine ⟨rfl, ?_⟩
 repeat (first | exact Below.refl _ _ | refine a0c ?_ _)
theorem d4c (a : Option Addr) (n c : Nat) (main : Int) (f : Fd) (w : World) (h0 : ¬ (f.p < 0)) (h1 : (5 < f.p)) :
  Calls Tryz.prog 26 #[PV a n c main, f.v] w fun e w' => e = .returned (.bool false) ∧ Below w.heap.size w w' := by
 go_enter Tryz.func26, Tryz.ntmps26
 go_wp2
 go_ret
 refine ⟨rfl, ?_⟩
 repeat (first | exact Below.refl _ _ | refine a0c ?_ _)
theorem d4d (a : Option Addr) (n c : Nat) (main : Int) (f : Fd) (w : World) (h0 : ¬ (f.p < 0)) (h1 : ¬ (5 < f.p)) (h2 : (f.r < 1)) :
  Calls Tryz.prog 26 #[PV a n c main, f.v] w fun e w' => e = .returned (.bool false) ∧ Below w.heap.size w w' := by
 go_enter Tryz.func26, Tryz.ntmps26
 go_wp2
 go_ret
 refine ⟨rfl, ?_⟩
 repeat (first | exact Below.refl _ _ | refine a0c ?_ _)
theorem d4e (a : Option Addr) (n c : Nat) (main : Int) (f : Fd) (w : World) (h0 : ¬ (f.p < 0)) (h1 : ¬ (5 < f.p)) (h2 : ¬ (f.r < 1)) (h3 : (250 < f.r)) :
  Calls Tryz.prog 26 #[PV a n c main, f.v] w fun e w' => e = .returned (.bool false) ∧ Below w.heap.size w w' := by
 go_enter Tryz.func26, Tryz.ntmps26
 go_wp2
 go_ret
 refine ⟨rfl, ?_⟩
 repeat (first | exact Below.refl _ _ | refine a0c ?_ _)
theorem d4f (a : Option Addr) (n c : Nat) (main : Int) (f : Fd) (w : World) (h0 : ¬ (f.p < 0)) (h1 : ¬ (5 < f.p)) (h2 : ¬ (f.r < 1)) (h3 : ¬ (250 < f.r)) (h4 : (f.r < f.p)) :
  Calls Tryz.prog 26 #[PV a n c main, f.v] w fun e w' => e = .returned (.bool false) ∧ Below w.heap.size w w' := by
 go_enter Tryz.func26, Tryz.ntmps26
 go_wp2
 go_ret
 refine ⟨rfl, ?_⟩
 repeat (first | exact Below.refl _ _ | refine a0c ?_ _)
theorem d4g (a : Option Addr) (n c : Nat) (main : Int) (f : Fd) (w : World) (h0 : ¬ (f.p < 0)) (h1 : ¬ (5 < f.p)) (h2 : ¬ (f.r < 1)) (h3 : ¬ (250 < f.r)) (h4 : ¬ (f.r < f.p)) (h5 : ((700 : Int) < (f.cs.length : Int))) :
  Calls Tryz.prog 26 #[PV a n c main, f.v] w fun e w' => e = .returned (.bool false) ∧ Below w.heap.size w w' := by
 go_enter Tryz.func26, Tryz.ntmps26
 go_wp2
 go_ret
 refine ⟨rfl, ?_⟩
 repeat (first | exact Below.refl _ _ | refine a0c ?_ _)
theorem d4h (a : Option Addr) (n c : Nat) (main : Int) (f : Fd) (w : World) (h0 : ¬ (f.p < 0)) (h1 : ¬ (5 < f.p)) (h2 : ¬ (f.r < 1)) (h3 : ¬ (250 < f.r)) (h4 : ¬ (f.r < f.p)) (h5 : ¬ ((700 : Int) < (f.cs.length : Int))) (h6 : ((f.is.length : Int) < 1)) :
  Calls Tryz.prog 26 #[PV a n c main, f.v] w fun e w' => e = .returned (.bool false) ∧ Below w.heap.size w w' := by
 go_enter Tryz.func26, Tryz.ntmps26
 go_wp2
 go_ret
 refine ⟨rfl, ?_⟩
 repeat (first | exact Below.refl _ _ | refine a0c ?_ _)
theorem d4i (a : Option Addr) (n c : Nat) (main : Int) (f : Fd) (w : World) (h0 : ¬ (f.p < 0)) (h1 : ¬ (5 < f.p)) (h2 : ¬ (f.r < 1)) (h3 : ¬ (250 < f.r)) (h4 : ¬ (f.r < f.p)) (h5 : ¬ ((700 : Int) < (f.cs.length : Int))) (h6 : ¬ ((f.is.length : Int) < 1)) (h7 : ((3000 : Int) < (f.is.length : Int))) :
  Calls Tryz.prog 26 #[PV a n c main, f.v] w fun e w' => e = .returned (.bool false) ∧ Below w.heap.size w w' := by
 go_enter Tryz.func26, Tryz.ntmps26
 go_wp2
 go_ret
 refine ⟨rfl, ?_⟩
 repeat (first | exact Below.refl _ _ | refine a0c ?_ _)
theorem c9q (a : Option Addr) (n c : Nat) (main : Int) (f : Fd) (w : World) (hF : FdIn w.heap.size w f) (h0 : ¬ (f.p < 0)) (h1 : ¬ (5 < f.p)) (h2 : ¬ (f.r < 1)) (h3 : ¬ (250 < f.r)) (h4 : ¬ (f.r < f.p)) (h5 : ¬ ((700 : Int) < (f.cs.length : Int))) (h6 : ¬ ((f.is.length : Int) < 1)) (h7 : ¬ ((3000 : Int) < (f.is.length : Int))) :
  Calls Tryz.prog 26 #[PV a n c main, f.v] w fun e w' => e = .returned (.bool (allB (fun _ => a2g n) f.cs && a6e f)) ∧ Below w.heap.size w w' := by
 obtain ⟨⟨_, hrowc⟩, ⟨_, hrowi⟩⟩ := hF
 have hne : f.is ≠ [] := by
  intro e
  rw [e] at h6
  exact h6 (by decide)
 obtain ⟨b, off, ha, hbl, hel⟩ := hrowi hne
 have hpos : 0 < f.is.length := List.length_pos_iff.2 hne
 have hl1 : f.is.length ≤ 3000 := by omega
 have hl2 : f.cs.length ≤ 700 := by omega
 have hv : f.v = .agg #[.int .i64 f.p, .int .i64 f.r, .slice f.ca f.cs.length f.cc, .slice (some ⟨b, off, none⟩) f.is.length f.ic] := by rw [← ha]
 have hf0 : ((w.alloc (.cells #[.slice a n c, .int .i64 main] 24)).alloc (.cells #[.int .i64 f.p, .int .i64 f.r, .slice f.ca f.cs.length f.cc, .slice (some ⟨b, off, none⟩) f.is.length f.ic] 54)).heap[w.heap.size + 1]? = some (.cells #[.int .i64 f.p, .int .i64 f.r, .slice f.ca f.cs.length f.cc, .slice (some ⟨b, off, none⟩) f.is.length f.ic] 54) := by simpa using a0h (w.alloc _) _
 have hp0 : ((w.alloc (.cells #[.slice a n c, .int .i64 main] 24)).alloc (.cells #[.int .i64 f.p, .int .i64 f.r, .slice f.ca f.cs.length f.cc, .slice (some ⟨b, off, none⟩) f.is.length f.ic] 54)).heap[w.heap.size]? = some (.cells #[.slice a n c, .int .i64 main] 24) := (Below.heap_alloc _ _ _ (by simp)).trans (a0h _ _)
 have hb0 : Below w.heap.size w ((w.alloc (.cells #[.slice a n c, .int .i64 main] 24)).alloc (.cells #[.int .i64 f.p, .int .i64 f.r, .slice f.ca f.cs.length f.cc, .slice (some ⟨b, off, none⟩) f.is.length f.ic] 54)) := a0c (a0c (Below.refl _ _) _) _
 obtain ⟨ans, hans⟩ := exq ((allB (fun _ => a2g n) f.cs && a6e f))
 rw [hans]
 replace hans : Hid _ := hans
 have hC : ∀ (x : Od) (m : Nat) (W : World), RIn f x m W (a0s f x m) := d2e f
 simp only [RIn, hv] at hC
 replace hC : Hid _ := hC
 rw [hv]
 clear ha hv
 replace hel : Hid _ := hel
 replace hrowc : Hid _ := hrowc
 clear hrowi
 go_enter Tryz.func26, Tryz.ntmps26
 go_wp2
 go_loopw [6] (fun i wr => ∃ m : Nat, m ≤ f.cs.length ∧ i = .int .i64 m ∧ Hid (a1w (fun _ => a2g n) f.cs m) ∧ wr.heap[w.heap.size]? = some (.cells #[.slice a n c, .int .i64 main] 24) ∧ wr.heap[w.heap.size + 1]? = some (.cells #[.int .i64 f.p, .int .i64 f.r, .slice f.ca f.cs.length f.cc, .slice (some ⟨b, off, none⟩) f.is.length f.ic] 54) ∧ Below w.heap.size w wr) (fun i _ => f.cs.length - (intOf i).toNat)
 case atStart => exact ⟨0, Nat.zero_le _, rfl, a1w.zero, hp0, hf0, hb0⟩
 case round =>
  clear hf0 hb0 hp0
  obtain ⟨m, hm, rfl, hG, hp, hf, hb⟩ := hrel
  have d0 : wr.cell? ⟨w.heap.size, 0, none⟩ = some (.slice a n c) := a0a hp rfl
  have c0 : wr.cell? ⟨w.heap.size + 1, 0, none⟩ = some (.int .i64 f.p) := a0a hf rfl
  have c1 : wr.cell? ⟨w.heap.size + 1, 1, none⟩ = some (.int .i64 f.r) := a0a hf rfl
  have c2 : wr.cell? ⟨w.heap.size + 1, 2, none⟩ = some (.slice f.ca f.cs.length f.cc) := a0a hf rfl
  have c3 : wr.cell? ⟨w.heap.size + 1, 3, none⟩ = some (.slice (some ⟨b, off, none⟩) f.is.length f.ic) := a0a hf rfl
  have hl0 : w.heap.size < wr.heap.size := (Array.getElem?_eq_some_iff.1 hp).1
  have hl9 : w.heap.size + 1 < wr.heap.size := (Array.getElem?_eq_some_iff.1 hf).1
  by_cases hlt : m < f.cs.length
  ·obtain ⟨x, hx⟩ : ∃ x, f.cs[m]? = some x := ⟨f.cs[m], by simp [hlt]⟩
   obtain ⟨b', off', ha', hbl', hel'⟩ := hrowc.out (by intro e; rw [e] at hlt; simp at hlt)
   obtain ⟨t0, t1, t2⟩ := (hel' m x hx).below hb hbl'
   rw [ha'] at c2
   clear ha'
   have hbad : a2g n x = false → Hid ((allB (fun _ => a2g n) f.cs && a6e f) = false) := fun h => by
    rw [a2c (p := fun _ => a2g n) hx h]; exact rfl
   have hnext : a2g n x = true → Hid (a1w (fun _ => a2g n) f.cs (m + 1)) := fun h => a1w.next (p := fun _ => a2g n) hx h hG.out
   replace hbad : Hid _ := hbad
   replace hnext : Hid _ := hnext
   clear hx hG hel'
   cases e1 : mayB x.k x.n x.s
   ·have hM := fun w => c0r x w e1
    replace e1 : Hid _ := e1
    go_wp2_with (go_at_call 47; refine (hM _).mono ?_; rintro e w3 ⟨rfl, hb3⟩)
    go_ret
    exact ⟨by rw [← hans.out, (hbad.out (by simp [a2g, e1.out])).out]; rfl, a0b (a0c hb _) hb3⟩
   ·have hM := fun w => c0q x w e1
    replace e1 : Hid _ := e1
    go_wp2_with (go_at_call 47; refine (hM _).mono ?_; rintro e w3 ⟨rfl, hb3⟩; have v0 := a5j (i := 0) hb3 rfl; have v1 := a5j (i := 1) hb3 rfl; have p3 := a0d hb3 ((Below.heap_alloc _ _ _ hl0).trans hp); have f3 := a0d hb3 ((Below.heap_alloc _ _ _ hl9).trans hf); have d0' := a0a p3 (i := 0) rfl; refine Hid.out ?_)
    replace hb := a0b (a0c hb _) hb3
    clear t0 t1 t2 hb3 hM d0 c0 c1 c2 c3
    refine Lib.hid ?_
    cases e4 : (x.k == 4)
    ·cases e5 : (x.k == 5)
     ·go_wp2
      go_roundw
      case rel => exact ⟨m + 1, hlt, by simp, (hnext.out (by simp [a2g, e1.out, e4, e5])), p3, f3, hb⟩
      case measure => simp [intOf]; omega
     ·cases e6 : decide ((n : Int) ≤ x.n)
      ·go_wp2
       go_roundw
       case rel => exact ⟨m + 1, hlt, by simp, (hnext.out (by simp [a2g, e1.out, e4, e5, e6])), p3, f3, hb⟩
       case measure => simp [intOf]; omega
      ·go_wp2
       go_ret
       exact ⟨by rw [← hans.out, (hbad.out (by simp [a2g, e1.out, e4, e5, e6])).out]; rfl, hb⟩
    ·go_wp2
     go_ret
     exact ⟨by rw [← hans.out, (hbad.out (by simp [a2g, e1.out, e4])).out]; rfl, hb⟩
  ·obtain rfl : m = f.cs.length := by omega
   replace hans : Hid (a6e f = ans) := by
    have := hans.out
    rw [a2l hG.out] at this
    exact this
   clear hG hrowc
   go_wp2
   clear c2 c3 d0 c0 c1 hl0 hl9
   go_loopw [8] (fun i ws => ∃ m : Nat, m ≤ f.is.length ∧ i = .int .i64 m ∧ Hid (a1w (fun i x => a0s f x i) f.is m) ∧ ws.heap[w.heap.size + 1]? = some (.cells #[.int .i64 f.p, .int .i64 f.r, .slice f.ca f.cs.length f.cc, .slice (some ⟨b, off, none⟩) f.is.length f.ic] 54) ∧ Below w.heap.size w ws) (fun i _ => f.is.length - (intOf i).toNat)
   case atStart => exact ⟨0, Nat.zero_le _, rfl, a1w.zero, hf, hb⟩
   case round =>
    clear hp hf hb
    obtain ⟨m, hm, rfl, hG, hf, hb⟩ := hrel
    have c0 : wr.cell? ⟨w.heap.size + 1, 0, none⟩ = some (.int .i64 f.p) := a0a hf rfl
    have c1 : wr.cell? ⟨w.heap.size + 1, 1, none⟩ = some (.int .i64 f.r) := a0a hf rfl
    have c2 : wr.cell? ⟨w.heap.size + 1, 2, none⟩ = some (.slice f.ca f.cs.length f.cc) := a0a hf rfl
    have c3 : wr.cell? ⟨w.heap.size + 1, 3, none⟩ = some (.slice (some ⟨b, off, none⟩) f.is.length f.ic) := a0a hf rfl
    by_cases hlt : m < f.is.length
    ·obtain ⟨x, hx⟩ : ∃ x, f.is[m]? = some x := ⟨f.is[m], by simp [hlt]⟩
     obtain ⟨t0, t1, t2, t3⟩ := (hel.out m x hx).below hb hbl
     have hbad : a0s f x m = false → Hid (a6e f = false) := fun h => by
      unfold a6e; rw [a2c (p := fun i x => a0s f x i) hx h]; exact rfl
     have hnext : a0s f x m = true → Hid (a1w (fun i x => a0s f x i) f.is (m + 1)) := fun h => a1w.next (p := fun i x => a0s f x i) hx h hG.out
     replace hbad : Hid _ := hbad
     replace hnext : Hid _ := hnext
     have hI := hC.out x m
     clear hx hG
     have s0 : (m : Int) < (f.is.length : Int) := by omega
     cases e1 : a0s f x m
     ·rw [e1] at hI
      replace e1 : Hid _ := e1
      go_wp2
      go_region_held3 (fun u => u.cell? ⟨w.heap.size + 1, 0, none⟩ = some (.int .i64 f.p) ∧ u.cell? ⟨w.heap.size + 1, 1, none⟩ = some (.int .i64 f.r) ∧ u.cell? ⟨w.heap.size + 1, 2, none⟩ = some (.slice f.ca f.cs.length f.cc) ∧ u.cell? ⟨w.heap.size + 1, 3, none⟩ = some (.slice (some ⟨b, off, none⟩) f.is.length f.ic) ∧ u.cell? ⟨b, off + m * 4, none⟩ = some (.int .i64 x.op) ∧ u.cell? ⟨b, off + m * 4 + 1, none⟩ = some (.int .i64 x.a) ∧ u.cell? ⟨b, off + m * 4 + 2, none⟩ = some (.int .i64 x.b) ∧ u.cell? ⟨b, off + m * 4 + 3, none⟩ = some (.int .i64 x.c)) (go_keep) ((go_at_call 49; refine (hI _).mono ?_; rintro e w3 ⟨rfl, hb3⟩; have f3 := a0d hb3 (show wr.drew.heap[w.heap.size + 1]? = _ from hf); have b3 := a0b hb.drew hb3; have c0 := a0a f3 (i := 0) rfl; have c1 := a0a f3 (i := 1) rfl; have c2 := a0a f3 (i := 2) rfl; have c3 := a0a f3 (i := 3) rfl; have t0 := a0l hb3 (show wr.drew.cell? _ = _ from t0); have t1 := a0l hb3 (show wr.drew.cell? _ = _ from t1); have t2 := a0l hb3 (show wr.drew.cell? _ = _ from t2); have t3 := a0l hb3 (show wr.drew.cell? _ = _ from t3)))
      go_wp2
      go_ret
      exact ⟨by rw [← hans.out, (hbad.out e1.out).out]; rfl, b3⟩
     ·rw [e1] at hI
      replace e1 : Hid _ := e1
      go_wp2
      go_region_held3 (fun u => u.cell? ⟨w.heap.size + 1, 0, none⟩ = some (.int .i64 f.p) ∧ u.cell? ⟨w.heap.size + 1, 1, none⟩ = some (.int .i64 f.r) ∧ u.cell? ⟨w.heap.size + 1, 2, none⟩ = some (.slice f.ca f.cs.length f.cc) ∧ u.cell? ⟨w.heap.size + 1, 3, none⟩ = some (.slice (some ⟨b, off, none⟩) f.is.length f.ic) ∧ u.cell? ⟨b, off + m * 4, none⟩ = some (.int .i64 x.op) ∧ u.cell? ⟨b, off + m * 4 + 1, none⟩ = some (.int .i64 x.a) ∧ u.cell? ⟨b, off + m * 4 + 2, none⟩ = some (.int .i64 x.b) ∧ u.cell? ⟨b, off + m * 4 + 3, none⟩ = some (.int .i64 x.c)) (go_keep) ((go_at_call 49; refine (hI _).mono ?_; rintro e w3 ⟨rfl, hb3⟩; have f3 := a0d hb3 (show wr.drew.heap[w.heap.size + 1]? = _ from hf); have b3 := a0b hb.drew hb3; have c0 := a0a f3 (i := 0) rfl; have c1 := a0a f3 (i := 1) rfl; have c2 := a0a f3 (i := 2) rfl; have c3 := a0a f3 (i := 3) rfl; have t0 := a0l hb3 (show wr.drew.cell? _ = _ from t0); have t1 := a0l hb3 (show wr.drew.cell? _ = _ from t1); have t2 := a0l hb3 (show wr.drew.cell? _ = _ from t2); have t3 := a0l hb3 (show wr.drew.cell? _ = _ from t3)))
      go_wp2
      go_roundw
      case rel => exact ⟨m + 1, hlt, by simp, (hnext.out e1.out), f3, b3⟩
      case measure => simp [intOf]; omega
    ·obtain rfl : m = f.is.length := by omega
     obtain ⟨x, hx⟩ : ∃ x, f.is[f.is.length - 1]? = some x := ⟨f.is[f.is.length - 1], List.getElem?_eq_getElem (by omega)⟩
     obtain ⟨t0, t1, t2, t3⟩ := (hel.out _ x hx).below hb hbl
     have he : a6e f = a8k x := by unfold a6e; rw [a2l hG.out, hx]; rfl
     replace he : Hid _ := he
     clear hx hG hel
     have hi : ((f.is.length : Int) - 1).toNat = f.is.length - 1 := by omega
     have hi2 : (0 : Int) ≤ (f.is.length : Int) - 1 := by omega
     have hi3 : (f.is.length : Int) - 1 < (f.is.length : Int) := by omega
     have hi4 : wrap64 ((f.is.length : Int) - 1) = (f.is.length : Int) - 1 := a6d (by omega) (by omega)
     cases e1 : (x.op == 12)
     ·cases e2 : (x.op == 8)
      ·cases e3 : (x.op == 10)
       ·go_wp2
        go_ret
        exact ⟨by rw [← hans.out, he.out]; simp [a8k, e1, e2, e3], hb⟩
       ·go_wp2
        go_ret
        exact ⟨by rw [← hans.out, he.out]; simp [a8k, e1, e2, e3], hb⟩
      ·go_wp2
       go_ret
       exact ⟨by rw [← hans.out, he.out]; simp [a8k, e1, e2], hb⟩
     ·go_wp2
      go_ret
      exact ⟨by rw [← hans.out, he.out]; simp [a8k, e1], hb⟩
theorem d2f (a : Option Addr) (n c : Nat) (main : Int) (f : Fd) (w : World) (hF : FdIn w.heap.size w f) :
  Calls Tryz.prog 26 #[PV a n c main, f.v] w fun e w' => e = .returned (.bool (fnB n f)) ∧ Below w.heap.size w w' := by
 have key : ∀ b : Bool, fnB n f = b → (Calls Tryz.prog 26 #[PV a n c main, f.v] w fun e w' => e = .returned (.bool b) ∧ Below w.heap.size w w') → Calls Tryz.prog 26 #[PV a n c main, f.v] w fun e w' => e = .returned (.bool (fnB n f)) ∧ Below w.heap.size w w' := by
  intro b hb h; rw [hb]; exact h
 have hd : a3x f = false → fnB n f = false := fun h => by unfold fnB; rw [h]; rfl
 by_cases h0 : f.p < 0
 ·exact key false (hd (by simp [a3x, frB]; omega)) (d4b a n c main f w h0)
 by_cases h1 : 5 < f.p
 ·exact key false (hd (by simp [a3x, frB]; omega)) (d4c a n c main f w h0 h1)
 by_cases h2 : f.r < 1
 ·exact key false (hd (by simp [a3x, frB]; omega)) (d4d a n c main f w h0 h1 h2)
 by_cases h3 : 250 < f.r
 ·exact key false (hd (by simp [a3x, frB]; omega)) (d4e a n c main f w h0 h1 h2 h3)
 by_cases h4 : f.r < f.p
 ·exact key false (hd (by simp [a3x, frB]; omega)) (d4f a n c main f w h0 h1 h2 h3 h4)
 by_cases h5 : (700 : Int) < (f.cs.length : Int)
 ·exact key false (hd (by simp [a3x, frB]; omega)) (d4g a n c main f w h0 h1 h2 h3 h4 h5)
 by_cases h6 : (f.is.length : Int) < 1
 ·exact key false (hd (by simp [a3x, frB]; omega)) (d4h a n c main f w h0 h1 h2 h3 h4 h5 h6)
 by_cases h7 : (3000 : Int) < (f.is.length : Int)
 ·exact key false (hd (by simp [a3x, frB]; omega)) (d4i a n c main f w h0 h1 h2 h3 h4 h5 h6 h7)
 refine key _ ?_ (c9q a n c main f w hF h0 h1 h2 h3 h4 h5 h6 h7)
 have : a3x f = true := by simp [a3x, frB]; omega
 unfold fnB
 rw [this]
 rfl
theorem rc_0 (a : Option Addr) (c : Nat) (fs : List Fd) (main : Int) (w : World) (h : (fs.length : Int) < 1) :
  Calls Tryz.prog 9 #[PV a fs.length c main] w fun e w' => e = .returned (.bool false) ∧ Below w.heap.size w w' := by
 go_enter Tryz.func9, Tryz.ntmps9
 go_wp2
 go_ret
 refine ⟨rfl, ?_⟩
 repeat (first | exact Below.refl _ _ | refine a0c ?_ _)
theorem d4j (a : Option Addr) (c : Nat) (fs : List Fd) (main : Int) (w : World) (h : ¬ (fs.length : Int) < 1) (h2 : (12 : Int) < (fs.length : Int)) :
  Calls Tryz.prog 9 #[PV a fs.length c main] w fun e w' => e = .returned (.bool false) ∧ Below w.heap.size w w' := by
 go_enter Tryz.func9, Tryz.ntmps9
 go_wp2
 go_ret
 refine ⟨rfl, ?_⟩
 repeat (first | exact Below.refl _ _ | refine a0c ?_ _)
theorem d4k (a : Option Addr) (c : Nat) (fs : List Fd) (main : Int) (w : World) (h : ¬ (fs.length : Int) < 1) (h2 : ¬ (12 : Int) < (fs.length : Int)) (h3 : main < 0) :
  Calls Tryz.prog 9 #[PV a fs.length c main] w fun e w' => e = .returned (.bool false) ∧ Below w.heap.size w w' := by
 go_enter Tryz.func9, Tryz.ntmps9
 go_wp2
 go_ret
 refine ⟨rfl, ?_⟩
 repeat (first | exact Below.refl _ _ | refine a0c ?_ _)
theorem d4l (a : Option Addr) (c : Nat) (fs : List Fd) (main : Int) (w : World) (h : ¬ (fs.length : Int) < 1) (h2 : ¬ (12 : Int) < (fs.length : Int)) (h3 : ¬ main < 0) (h4 : (fs.length : Int) ≤ main) :
  Calls Tryz.prog 9 #[PV a fs.length c main] w fun e w' => e = .returned (.bool false) ∧ Below w.heap.size w w' := by
 go_enter Tryz.func9, Tryz.ntmps9
 go_wp2
 go_ret
 refine ⟨rfl, ?_⟩
 repeat (first | exact Below.refl _ _ | refine a0c ?_ _)
theorem c9r (b off c : Nat) (fs : List Fd) (main : Nat) (f : Fd) (w : World) (h : ¬ (fs.length : Int) < 1) (h2 : ¬ (12 : Int) < (fs.length : Int)) (hm : main < fs.length)
  (hb : b < w.heap.size) (hc : w.cell? ⟨b, off + main * 4, none⟩ = some (.int .i64 f.p)) (hel : ∀ j f, fs[j]? = some f → FAt w b (off + j * 4) f ∧ FdIn w.heap.size w f) :
  Calls Tryz.prog 9 #[PV (some ⟨b, off, none⟩) fs.length c main] w fun e w' => e = .returned (.bool ((f.p == 0) && allB (fun _ => fnB fs.length) fs)) ∧ Below w.heap.size w w' := by
 have h3 : ¬ (main : Int) < 0 := by omega
 have h4 : (main : Int) < (fs.length : Int) := by omega
 have hf0 := a0h w (.cells #[.slice (some ⟨b, off, none⟩) fs.length c, .int .i64 main] 24)
 have hb0 : Below w.heap.size w (w.alloc (.cells #[.slice (some ⟨b, off, none⟩) fs.length c, .int .i64 main] 24)) := a0c (Below.refl _ _) _
 obtain ⟨ans, hans⟩ := exq (((f.p == 0) && allB (fun _ => fnB fs.length) fs))
 rw [hans]
 replace hans : Hid _ := hans
 replace hel : Hid _ := hel
 have hFn : ∀ (x : Fd) (W : World), FdIn W.heap.size W x → Calls Tryz.prog 26 #[PV (some ⟨b, off, none⟩) fs.length c main, x.v] W _ := fun x W hx => d2f _ _ _ _ x W hx
 replace hFn : Hid _ := hFn
 go_enter Tryz.func9, Tryz.ntmps9
 go_wp2
 go_loopw [3] (fun i wr => ∃ m : Nat, m ≤ fs.length ∧ i = .int .i64 m ∧ Hid (a1w (fun _ => fnB fs.length) fs m) ∧ wr.heap[w.heap.size]? = some (.cells #[.slice (some ⟨b, off, none⟩) fs.length c, .int .i64 main] 24) ∧ Below w.heap.size w wr) (fun i _ => fs.length - (intOf i).toNat)
 case atStart => exact ⟨0, Nat.zero_le _, rfl, a1w.zero, hf0, hb0⟩
 case round =>
  clear hf0 hb0
  obtain ⟨m, hm', rfl, hG, hf, hbw⟩ := hrel
  have c0 : wr.cell? ⟨w.heap.size, 0, none⟩ = some (.slice (some ⟨b, off, none⟩) fs.length c) := a0a hf rfl
  have c1 : wr.cell? ⟨w.heap.size, 1, none⟩ = some (.int .i64 main) := a0a hf rfl
  by_cases hlt : m < fs.length
  ·obtain ⟨x, hx⟩ : ∃ x, fs[m]? = some x := ⟨fs[m], by simp [hlt]⟩
   obtain ⟨hFA, hFI⟩ := hel.out m x hx
   obtain ⟨t0, t1, t2, t3⟩ := hFA.below hbw hb
   have hbad : fnB fs.length x = false → Hid (((f.p == 0) && allB (fun _ => fnB fs.length) fs) = false) := fun h => by
    rw [a2c (p := fun _ => fnB fs.length) hx h, Bool.and_false]; exact rfl
   have hnext : fnB fs.length x = true → Hid (a1w (fun _ => fnB fs.length) fs (m + 1)) := fun h => a1w.next hx h hG.out
   replace hbad : Hid _ := hbad
   replace hnext : Hid _ := hnext
   clear hx hG hFA
   have s0 : (m : Int) < (fs.length : Int) := by omega
   have hC := hFn.out x wr.drew (hFI.at hbw.drew)
   clear hFI
   cases e1 : fnB fs.length x
   ·rw [e1] at hC
    replace e1 : Hid _ := e1
    go_wp2
    go_region_held3 (fun u => u.cell? ⟨w.heap.size, 0, none⟩ = some (.slice (some ⟨b, off, none⟩) fs.length c) ∧ u.cell? ⟨w.heap.size, 1, none⟩ = some (.int .i64 main) ∧ u.cell? ⟨b, off + m * 4, none⟩ = some (.int .i64 x.p) ∧ u.cell? ⟨b, off + m * 4 + 1, none⟩ = some (.int .i64 x.r) ∧ u.cell? ⟨b, off + m * 4 + 2, none⟩ = some (.slice x.ca x.cs.length x.cc) ∧ u.cell? ⟨b, off + m * 4 + 3, none⟩ = some (.slice x.ia x.is.length x.ic)) (go_keep) ((go_at_call 26; refine hC.mono ?_; rintro e w3 ⟨rfl, hb3⟩; have f3 := a0d hb3 (show wr.drew.heap[w.heap.size]? = _ from hf); have b3 := a0b hbw.drew hb3; have c0 := a0a f3 (i := 0) rfl; have c1 := a0a f3 (i := 1) rfl; have t0 := a0l hb3 (show wr.drew.cell? _ = _ from t0); have t1 := a0l hb3 (show wr.drew.cell? _ = _ from t1); have t2 := a0l hb3 (show wr.drew.cell? _ = _ from t2); have t3 := a0l hb3 (show wr.drew.cell? _ = _ from t3)))
    go_wp2
    go_ret
    exact ⟨by rw [← hans.out, (hbad.out e1.out).out]; rfl, b3⟩
   ·rw [e1] at hC
    replace e1 : Hid _ := e1
    go_wp2
    go_region_held3 (fun u => u.cell? ⟨w.heap.size, 0, none⟩ = some (.slice (some ⟨b, off, none⟩) fs.length c) ∧ u.cell? ⟨w.heap.size, 1, none⟩ = some (.int .i64 main) ∧ u.cell? ⟨b, off + m * 4, none⟩ = some (.int .i64 x.p) ∧ u.cell? ⟨b, off + m * 4 + 1, none⟩ = some (.int .i64 x.r) ∧ u.cell? ⟨b, off + m * 4 + 2, none⟩ = some (.slice x.ca x.cs.length x.cc) ∧ u.cell? ⟨b, off + m * 4 + 3, none⟩ = some (.slice x.ia x.is.length x.ic)) (go_keep) ((go_at_call 26; refine hC.mono ?_; rintro e w3 ⟨rfl, hb3⟩; have f3 := a0d hb3 (show wr.drew.heap[w.heap.size]? = _ from hf); have b3 := a0b hbw.drew hb3; have c0 := a0a f3 (i := 0) rfl; have c1 := a0a f3 (i := 1) rfl; have t0 := a0l hb3 (show wr.drew.cell? _ = _ from t0); have t1 := a0l hb3 (show wr.drew.cell? _ = _ from t1); have t2 := a0l hb3 (show wr.drew.cell? _ = _ from t2); have t3 := a0l hb3 (show wr.drew.cell? _ = _ from t3)))
    go_wp2
    go_roundw
    case rel => exact ⟨m + 1, hlt, by simp, (hnext.out e1.out), f3, b3⟩
    case measure => simp [intOf]; omega
  ·obtain rfl : m = fs.length := by omega
   replace hans : Hid ((f.p == 0) = ans) := by
    have := hans.out
    rw [a2l (p := fun _ => fnB fs.length) hG.out, Bool.and_true] at this
    exact this
   have hc' := (hbw.cell (p := ⟨b, off + main * 4, none⟩) hb).trans hc
   clear hc hG
   go_wp2
   go_ret
   exact ⟨by rw [← hans.out]; rfl, hbw⟩
theorem b3a (a : Option Addr) (c : Nat) (fs : List Fd) (main : Int) (w : World) (hr : RowF w.heap.size w a fs) :
  Calls Tryz.prog 9 #[PV a fs.length c main] w fun e w' => e = .returned (.bool (a2i fs main)) ∧ Below w.heap.size w w' := by
 have key : ∀ b : Bool, a2i fs main = b → (Calls Tryz.prog 9 #[PV a fs.length c main] w fun e w' => e = .returned (.bool b) ∧ Below w.heap.size w w') → Calls Tryz.prog 9 #[PV a fs.length c main] w fun e w' => e = .returned (.bool (a2i fs main)) ∧ Below w.heap.size w w' := by
  intro b hb h; rw [hb]; exact h
 by_cases h1 : fs.length < 1
 ·exact key false (by
            have h : ¬ 1 ≤ fs.length := by omega
            simp [a2i, h]) (rc_0 a c fs main w (by omega))
 by_cases h2 : 12 < fs.length
 ·exact key false (by
            have h : ¬ fs.length ≤ 12 := by omega
            simp [a2i, h]) (d4j a c fs main w (by omega) (by omega))
 by_cases h3 : main < 0
 ·exact key false (by
            have h : belB main fs.length = false := by simp [belB]; omega
            simp [a2i, h]) (d4k a c fs main w (by omega) (by omega) h3)
 by_cases h4 : (fs.length : Int) ≤ main
 ·exact key false (by
            have h : belB main fs.length = false := by simp [belB]; omega
            simp [a2i, h]) (d4l a c fs main w (by omega) (by omega) h3 h4)
 have h5 : belB main fs.length = true := by simp [belB]; omega
 obtain ⟨n, rfl⟩ : ∃ n : Nat, main = n := ⟨main.toNat, by omega⟩
 have hn : n < fs.length := by omega
 obtain ⟨b, off, rfl, hb, hel⟩ := hr.2 (by intro e; subst e; simp at hn)
 obtain ⟨f, hf⟩ : ∃ f, fs[n]? = some f := ⟨fs[n], by simp [hn]⟩
 have hm : c0p fs n = (f.p == 0) := by simp [c0p, hf]
 refine key _ ?_ (c9r b off c fs n f w (by omega) (by omega) hn hb (hel n f hf).1.p hel)
 have e1 : decide (1 ≤ fs.length) = true := by simp; omega
 have e2 : decide (fs.length ≤ 12) = true := by simp; omega
 unfold a2i
 rw [e1, e2, h5, hm]
 rfl
theorem c0s (ks vs ks' vs' : Value) (xs ys : List Vl) (w : World) (hT : Tab w.heap.size w ks vs xs ys) (hT' : Tab w.heap.size w ks' vs' xs ys) (hx : xs.length ≤ 1000) (hy : ys.length ≤ 1000) :
  Calls Tryz.prog 28 #[.agg #[ks, vs], .agg #[ks', vs']] w fun e w' => e = .returned (.bool true) ∧ Below w.heap.size w w' := by
 obtain ⟨a, c1, rfl, _, hr1⟩ := hT.keys
 obtain ⟨a', c2, rfl, _, hr2⟩ := hT.vals
 obtain ⟨b, d1, rfl, _, hr3⟩ := hT'.keys
 obtain ⟨b', d2, rfl, _, hr4⟩ := hT'.vals
 have g1 : ((xs.length : Int) != (xs.length : Int)) = false := by simp
 have g2 : ((ys.length : Int) != (ys.length : Int)) = false := by simp
 obtain ⟨W0, hW0⟩ := exq ((w.alloc (.cells #[.slice a xs.length c1, .slice a' ys.length c2] 57)).alloc (.cells #[.slice b xs.length d1, .slice b' ys.length d2] 57))
 have hb0 : Below w.heap.size w W0 := by rw [← hW0]; exact ((Below.refl _ w).alloc (Nat.le_refl _) _).alloc (by simp) _
 have ht0 : W0.heap[w.heap.size]? = some (.cells #[.slice a xs.length c1, .slice a' ys.length c2] 57) := by rw [← hW0]; exact a0g _ (World.alloc_heap_new w _)
 have hu0 : W0.heap[w.heap.size + 1]? = some (.cells #[.slice b xs.length d1, .slice b' ys.length d2] 57) := by
  have := World.alloc_heap_new (w.alloc (.cells #[.slice a xs.length c1, .slice a' ys.length c2] 57)) (.cells #[.slice b xs.length d1, .slice b' ys.length d2] 57)
  simp only [World.size_alloc] at this
  rw [← hW0]; exact this
 clear hT hT'
 replace hW0 : Hid _ := hW0
 go_enter Tryz.func28, Tryz.ntmps28
 go_wp2
 rw [hW0.out]
 clear hW0
 go_loopw [5] (fun i wr => ∃ m : Nat, m ≤ xs.length ∧ i = .int .i64 m ∧ wr.heap[w.heap.size]? = some (.cells #[.slice a xs.length c1, .slice a' ys.length c2] 57) ∧ wr.heap[w.heap.size + 1]? = some (.cells #[.slice b xs.length d1, .slice b' ys.length d2] 57) ∧ Below w.heap.size w wr) (fun i _ => xs.length - (intOf i).toNat)
 case atStart => exact ⟨0, Nat.zero_le _, rfl, ht0, hu0, hb0⟩
 case round =>
  clear ht0 hu0 hb0
  obtain ⟨m, hm, rfl, ht, hu, hb⟩ := hrel
  have t0 : wr.cell? ⟨w.heap.size, 0, none⟩ = some (.slice a xs.length c1) := a0a ht rfl
  have t1 : wr.cell? ⟨w.heap.size, 1, none⟩ = some (.slice a' ys.length c2) := a0a ht rfl
  have u0 : wr.cell? ⟨w.heap.size + 1, 0, none⟩ = some (.slice b xs.length d1) := a0a hu rfl
  have u1 : wr.cell? ⟨w.heap.size + 1, 1, none⟩ = some (.slice b' ys.length d2) := a0a hu rfl
  by_cases hlt : m < xs.length
  ·obtain ⟨x, hx'⟩ : ∃ x, xs[m]? = some x := ⟨xs[m], by simp [hlt]⟩
   obtain ⟨ba, oa, rfl, hl1, he1⟩ := hr1 (by intro e; subst e; simp at hlt)
   obtain ⟨bb, ob, rfl, hl3, he3⟩ := hr3 (by intro e; subst e; simp at hlt)
   obtain ⟨r0, r1, r2⟩ := (he1 m x hx').below hb hl1
   obtain ⟨s0, s1, s2⟩ := (he3 m x hx').below hb hl3
   have hC := a5g x x wr.drew
   rw [decide_eq_true rfl] at hC
   have hb3 : Below w.heap.size w ((wr.drew.alloc (bx x)).alloc (bx x)) := (hb.drew.alloc hb.size _).alloc (by simp; exact Nat.le_succ_of_le hb.size) _
   have ht3 := a0g (bx x) (a0g (W := wr.drew) (bx x) ht)
   have hu3 := a0g (bx x) (a0g (W := wr.drew) (bx x) hu)
   replace hx' : Hid _ := hx'
   clear hr1 hr3 he1 he3 ht hu hr2 hr4
   go_wp2
   go_region_held3 (fun q => q.cell? ⟨w.heap.size, 0, none⟩ = some (.slice (some ⟨ba, oa, none⟩) xs.length c1) ∧ q.cell? ⟨w.heap.size + 1, 0, none⟩ = some (.slice (some ⟨bb, ob, none⟩) xs.length d1) ∧ q.cell? ⟨ba, oa + m * 3, none⟩ = some (.int .i64 x.k) ∧ q.cell? ⟨ba, oa + m * 3 + 1, none⟩ = some (.int .i64 x.n) ∧ q.cell? ⟨ba, oa + m * 3 + 2, none⟩ = some (.string x.s) ∧ q.cell? ⟨bb, ob + m * 3, none⟩ = some (.int .i64 x.k) ∧ q.cell? ⟨bb, ob + m * 3 + 1, none⟩ = some (.int .i64 x.n) ∧ q.cell? ⟨bb, ob + m * 3 + 2, none⟩ = some (.string x.s)) (go_keep) (first | (go_at_call 23; refine hC.mono ?_; rintro e w3 ⟨rfl, rfl⟩))
   all_goals
    go_wp2
    refine ⟨⟨m + 1, hlt, by simp, ht3, hu3, hb3⟩, by simp [intOf]; omega⟩
  ·obtain rfl : m = xs.length := by omega
   go_wp2
   go_loopw [6] (fun i wr => ∃ m : Nat, m ≤ ys.length ∧ i = .int .i64 m ∧ wr.heap[w.heap.size]? = some (.cells #[.slice a xs.length c1, .slice a' ys.length c2] 57) ∧ wr.heap[w.heap.size + 1]? = some (.cells #[.slice b xs.length d1, .slice b' ys.length d2] 57) ∧ Below w.heap.size w wr) (fun i _ => ys.length - (intOf i).toNat)
   case atStart => exact ⟨0, Nat.zero_le _, rfl, ht, hu, hb⟩
   case round =>
    clear ht hu hb t0 t1 u0 u1
    obtain ⟨m, hm', rfl, ht, hu, hb⟩ := hrel
    have t0 : wr.cell? ⟨w.heap.size, 0, none⟩ = some (.slice a xs.length c1) := a0a ht rfl
    have t1 : wr.cell? ⟨w.heap.size, 1, none⟩ = some (.slice a' ys.length c2) := a0a ht rfl
    have u0 : wr.cell? ⟨w.heap.size + 1, 0, none⟩ = some (.slice b xs.length d1) := a0a hu rfl
    have u1 : wr.cell? ⟨w.heap.size + 1, 1, none⟩ = some (.slice b' ys.length d2) := a0a hu rfl
    by_cases hlt' : m < ys.length
    ·obtain ⟨x, hx'⟩ : ∃ x, ys[m]? = some x := ⟨ys[m], by simp [hlt']⟩
     obtain ⟨ba, oa, rfl, hl1, he1⟩ := hr2 (by intro e; subst e; simp at hlt')
     obtain ⟨bb, ob, rfl, hl3, he3⟩ := hr4 (by intro e; subst e; simp at hlt')
     obtain ⟨r0, r1, r2⟩ := (he1 m x hx').below hb hl1
     obtain ⟨s0, s1, s2⟩ := (he3 m x hx').below hb hl3
     have hC := a5g x x wr.drew
     rw [decide_eq_true rfl] at hC
     have hb3 : Below w.heap.size w ((wr.drew.alloc (bx x)).alloc (bx x)) := (hb.drew.alloc hb.size _).alloc (by simp; exact Nat.le_succ_of_le hb.size) _
     have ht3 := a0g (bx x) (a0g (W := wr.drew) (bx x) ht)
     have hu3 := a0g (bx x) (a0g (W := wr.drew) (bx x) hu)
     replace hx' : Hid _ := hx'
     clear hr1 hr3 he1 he3 ht hu hr2 hr4
     go_wp2
     go_region_held3 (fun q => q.cell? ⟨w.heap.size, 1, none⟩ = some (.slice (some ⟨ba, oa, none⟩) ys.length c2) ∧ q.cell? ⟨w.heap.size + 1, 1, none⟩ = some (.slice (some ⟨bb, ob, none⟩) ys.length d2) ∧ q.cell? ⟨ba, oa + m * 3, none⟩ = some (.int .i64 x.k) ∧ q.cell? ⟨ba, oa + m * 3 + 1, none⟩ = some (.int .i64 x.n) ∧ q.cell? ⟨ba, oa + m * 3 + 2, none⟩ = some (.string x.s) ∧ q.cell? ⟨bb, ob + m * 3, none⟩ = some (.int .i64 x.k) ∧ q.cell? ⟨bb, ob + m * 3 + 1, none⟩ = some (.int .i64 x.n) ∧ q.cell? ⟨bb, ob + m * 3 + 2, none⟩ = some (.string x.s)) (go_keep) (first | (go_at_call 23; refine hC.mono ?_; rintro e w3 ⟨rfl, rfl⟩))
     all_goals
      go_wp2
      refine ⟨⟨m + 1, hlt', by simp, ht3, hu3, hb3⟩, by simp [intOf]; omega⟩
    ·obtain rfl : m = ys.length := by omega
     go_wp2
     go_ret
     exact ⟨rfl, hb⟩
end
end Go.Proofs.YthpgbienakcbeaaGreatDoor
