/- The document's Code; the law. -/
import Derived.Test.YtklgjfpgclelbaaCJ
namespace Go.Proofs.Ytklgjfpgclelbaa
open Go.RowKit
open Go

set_option maxRecDepth 100000 in
set_option maxHeartbeats 1000000 in
theorem rc_0 (a : Option Addr) (c : Nat) (fs : List Fd) (main : Int) (w : World) (h : (fs.length : Int) < 1) :
    Calls Try.prog 5 #[PV a fs.length c main] w fun e w' => e = .returned (.bool false) ∧ Below w.heap.size w w' := by
  go_enter Try.func5, Try.ntmps5
  go_wp2
  go_ret
  refine ⟨rfl, ?_⟩
  repeat (first | exact Below.refl _ _ | refine ext_alloc ?_ _)
set_option maxRecDepth 100000 in
set_option maxHeartbeats 1000000 in
theorem rc_12 (a : Option Addr) (c : Nat) (fs : List Fd) (main : Int) (w : World) (h : ¬ (fs.length : Int) < 1) (h2 : (12 : Int) < (fs.length : Int)) :
    Calls Try.prog 5 #[PV a fs.length c main] w fun e w' => e = .returned (.bool false) ∧ Below w.heap.size w w' := by
  go_enter Try.func5, Try.ntmps5
  go_wp2
  go_ret
  refine ⟨rfl, ?_⟩
  repeat (first | exact Below.refl _ _ | refine ext_alloc ?_ _)
set_option maxRecDepth 100000 in
set_option maxHeartbeats 1000000 in
theorem rc_lo (a : Option Addr) (c : Nat) (fs : List Fd) (main : Int) (w : World) (h : ¬ (fs.length : Int) < 1) (h2 : ¬ (12 : Int) < (fs.length : Int)) (h3 : main < 0) :
    Calls Try.prog 5 #[PV a fs.length c main] w fun e w' => e = .returned (.bool false) ∧ Below w.heap.size w w' := by
  go_enter Try.func5, Try.ntmps5
  go_wp2
  go_ret
  refine ⟨rfl, ?_⟩
  repeat (first | exact Below.refl _ _ | refine ext_alloc ?_ _)
set_option maxRecDepth 100000 in
set_option maxHeartbeats 1000000 in
theorem rc_hi (a : Option Addr) (c : Nat) (fs : List Fd) (main : Int) (w : World) (h : ¬ (fs.length : Int) < 1) (h2 : ¬ (12 : Int) < (fs.length : Int)) (h3 : ¬ main < 0) (h4 : (fs.length : Int) ≤ main) :
    Calls Try.prog 5 #[PV a fs.length c main] w fun e w' => e = .returned (.bool false) ∧ Below w.heap.size w w' := by
  go_enter Try.func5, Try.ntmps5
  go_wp2
  go_ret
  refine ⟨rfl, ?_⟩
  repeat (first | exact Below.refl _ _ | refine ext_alloc ?_ _)

set_option maxRecDepth 100000 in
set_option maxHeartbeats 8000000 in
theorem rc_loop (b off c : Nat) (fs : List Fd) (main : Nat) (f : Fd) (w : World) (h : ¬ (fs.length : Int) < 1) (h2 : ¬ (12 : Int) < (fs.length : Int)) (hm : main < fs.length)
    (hb : b < w.heap.size) (hc : w.cell? ⟨b, off + main * 4, none⟩ = some (.int .i64 f.p)) (hel : ∀ j f, fs[j]? = some f → FAt w b (off + j * 4) f ∧ FdIn w.heap.size w f) :
    Calls Try.prog 5 #[PV (some ⟨b, off, none⟩) fs.length c main] w fun e w' => e = .returned (.bool ((f.p == 0) && allB (fun _ => fnB fs.length) fs)) ∧ Below w.heap.size w w' := by
  have h3 : ¬ (main : Int) < 0 := by omega
  have h4 : (main : Int) < (fs.length : Int) := by omega
  have hf0 := heap_new w (.cells #[.slice (some ⟨b, off, none⟩) fs.length c, .int .i64 main] 24)
  have hb0 : Below w.heap.size w (w.alloc (.cells #[.slice (some ⟨b, off, none⟩) fs.length c, .int .i64 main] 24)) := ext_alloc (Below.refl _ _) _
  obtain ⟨ans, hans⟩ : ∃ ans, ((f.p == 0) && allB (fun _ => fnB fs.length) fs) = ans := ⟨_, rfl⟩
  rw [hans]
  replace hans : Hid _ := hans
  replace hel : Hid _ := hel
  have hFn : ∀ (x : Fd) (W : World), FdIn W.heap.size W x → Calls Try.prog 10 #[PV (some ⟨b, off, none⟩) fs.length c main, x.v] W _ := fun x W hx => fn_any _ _ _ _ x W hx
  replace hFn : Hid _ := hFn
  go_enter Try.func5, Try.ntmps5
  go_wp2
  go_loopw [3] (fun i wr => ∃ m : Nat, m ≤ fs.length ∧ i = .int .i64 m ∧ Hid (AllTo (fun _ => fnB fs.length) fs m) ∧ wr.heap[w.heap.size]? = some (.cells #[.slice (some ⟨b, off, none⟩) fs.length c, .int .i64 main] 24) ∧ Below w.heap.size w wr) (fun i _ => fs.length - (intOf i).toNat)
  case atStart => exact ⟨0, Nat.zero_le _, rfl, AllTo.zero, hf0, hb0⟩
  case round =>
    clear hf0 hb0
    obtain ⟨m, hm', rfl, hG, hf, hbw⟩ := hrel
    have c0 : wr.cell? ⟨w.heap.size, 0, none⟩ = some (.slice (some ⟨b, off, none⟩) fs.length c) := cell_block hf rfl
    have c1 : wr.cell? ⟨w.heap.size, 1, none⟩ = some (.int .i64 main) := cell_block hf rfl
    by_cases hlt : m < fs.length
    · obtain ⟨x, hx⟩ : ∃ x, fs[m]? = some x := ⟨fs[m], by simp [hlt]⟩
      obtain ⟨hFA, hFI⟩ := hel.out m x hx
      obtain ⟨t0, t1, t2, t3⟩ := hFA.below hbw hb
      have hbad : fnB fs.length x = false → Hid (((f.p == 0) && allB (fun _ => fnB fs.length) fs) = false) := fun h => by
        rw [allB_false (p := fun _ => fnB fs.length) hx h, Bool.and_false]; exact rfl
      have hnext : fnB fs.length x = true → Hid (AllTo (fun _ => fnB fs.length) fs (m + 1)) := fun h => AllTo.next hx h hG.out
      replace hbad : Hid _ := hbad
      replace hnext : Hid _ := hnext
      clear hx hG hFA
      have s0 : (m : Int) < (fs.length : Int) := by omega
      have hC := hFn.out x wr.drew (hFI.at hbw.drew)
      clear hFI
      cases e1 : fnB fs.length x
      · rw [e1] at hC
        replace e1 : Hid _ := e1
        go_wp2
        go_region_held3 (fun u => u.cell? ⟨w.heap.size, 0, none⟩ = some (.slice (some ⟨b, off, none⟩) fs.length c) ∧ u.cell? ⟨w.heap.size, 1, none⟩ = some (.int .i64 main) ∧ u.cell? ⟨b, off + m * 4, none⟩ = some (.int .i64 x.p) ∧ u.cell? ⟨b, off + m * 4 + 1, none⟩ = some (.int .i64 x.r) ∧ u.cell? ⟨b, off + m * 4 + 2, none⟩ = some (.slice x.ca x.cs.length x.cc) ∧ u.cell? ⟨b, off + m * 4 + 3, none⟩ = some (.slice x.ia x.is.length x.ic)) (go_keep) ((go_at_call 10; refine hC.mono ?_; rintro e w3 ⟨rfl, hb3⟩; have f3 := block_below hb3 (show wr.drew.heap[w.heap.size]? = _ from hf); have b3 := ext_trans hbw.drew hb3; have c0 := cell_block f3 (i := 0) rfl; have c1 := cell_block f3 (i := 1) rfl; have t0 := cellB hb3 (show wr.drew.cell? _ = _ from t0); have t1 := cellB hb3 (show wr.drew.cell? _ = _ from t1); have t2 := cellB hb3 (show wr.drew.cell? _ = _ from t2); have t3 := cellB hb3 (show wr.drew.cell? _ = _ from t3)))
        go_wp2
        go_ret
        exact ⟨by rw [← hans.out, (hbad.out e1.out).out]; rfl, b3⟩
      · rw [e1] at hC
        replace e1 : Hid _ := e1
        go_wp2
        go_region_held3 (fun u => u.cell? ⟨w.heap.size, 0, none⟩ = some (.slice (some ⟨b, off, none⟩) fs.length c) ∧ u.cell? ⟨w.heap.size, 1, none⟩ = some (.int .i64 main) ∧ u.cell? ⟨b, off + m * 4, none⟩ = some (.int .i64 x.p) ∧ u.cell? ⟨b, off + m * 4 + 1, none⟩ = some (.int .i64 x.r) ∧ u.cell? ⟨b, off + m * 4 + 2, none⟩ = some (.slice x.ca x.cs.length x.cc) ∧ u.cell? ⟨b, off + m * 4 + 3, none⟩ = some (.slice x.ia x.is.length x.ic)) (go_keep) ((go_at_call 10; refine hC.mono ?_; rintro e w3 ⟨rfl, hb3⟩; have f3 := block_below hb3 (show wr.drew.heap[w.heap.size]? = _ from hf); have b3 := ext_trans hbw.drew hb3; have c0 := cell_block f3 (i := 0) rfl; have c1 := cell_block f3 (i := 1) rfl; have t0 := cellB hb3 (show wr.drew.cell? _ = _ from t0); have t1 := cellB hb3 (show wr.drew.cell? _ = _ from t1); have t2 := cellB hb3 (show wr.drew.cell? _ = _ from t2); have t3 := cellB hb3 (show wr.drew.cell? _ = _ from t3)))
        go_wp2
        go_roundw
        case rel => exact ⟨m + 1, hlt, by simp, (hnext.out e1.out), f3, b3⟩
        case measure => simp [intOf]; omega
    · obtain rfl : m = fs.length := by omega
      replace hans : Hid ((f.p == 0) = ans) := by
        have := hans.out
        rw [allB_true (p := fun _ => fnB fs.length) hG.out, Bool.and_true] at this
        exact this
      have hc' := (hbw.cell (p := ⟨b, off + main * 4, none⟩) hb).trans hc
      clear hc hG
      go_wp2
      go_ret
      exact ⟨by rw [← hans.out]; rfl, hbw⟩

/-- The document's Code. -/
theorem rcode_any (a : Option Addr) (c : Nat) (fs : List Fd) (main : Int) (w : World) (hr : RowF w.heap.size w a fs) :
    Calls Try.prog 5 #[PV a fs.length c main] w fun e w' => e = .returned (.bool (progB fs main)) ∧ Below w.heap.size w w' := by
  have key : ∀ b : Bool, progB fs main = b → (Calls Try.prog 5 #[PV a fs.length c main] w fun e w' => e = .returned (.bool b) ∧ Below w.heap.size w w') → Calls Try.prog 5 #[PV a fs.length c main] w fun e w' => e = .returned (.bool (progB fs main)) ∧ Below w.heap.size w w' := by
    intro b hb h; rw [hb]; exact h
  by_cases h1 : fs.length < 1
  · exact key false (by have h : ¬ 1 ≤ fs.length := by omega
                        simp [progB, h]) (rc_0 a c fs main w (by omega))
  by_cases h2 : 12 < fs.length
  · exact key false (by have h : ¬ fs.length ≤ 12 := by omega
                        simp [progB, h]) (rc_12 a c fs main w (by omega) (by omega))
  by_cases h3 : main < 0
  · exact key false (by have h : belB main fs.length = false := by simp [belB]; omega
                        simp [progB, h]) (rc_lo a c fs main w (by omega) (by omega) h3)
  by_cases h4 : (fs.length : Int) ≤ main
  · exact key false (by have h : belB main fs.length = false := by simp [belB]; omega
                        simp [progB, h]) (rc_hi a c fs main w (by omega) (by omega) h3 h4)
  have h5 : belB main fs.length = true := by simp [belB]; omega
  obtain ⟨n, rfl⟩ : ∃ n : Nat, main = n := ⟨main.toNat, by omega⟩
  have hn : n < fs.length := by omega
  obtain ⟨b, off, rfl, hb, hel⟩ := hr.2 (by intro e; subst e; simp at hn)
  obtain ⟨f, hf⟩ : ∃ f, fs[n]? = some f := ⟨fs[n], by simp [hn]⟩
  have hm : mainB fs n = (f.p == 0) := by simp [mainB, hf]
  refine key _ ?_ (rc_loop b off c fs n f w (by omega) (by omega) hn hb (hel n f hf).1.p hel)
  have e1 : decide (1 ≤ fs.length) = true := by simp; omega
  have e2 : decide (fs.length ≤ 12) = true := by simp; omega
  unfold progB
  rw [e1, e2, h5, hm]
  rfl

set_option maxRecDepth 100000 in
set_option maxHeartbeats 1000000 in
/-- The law: the program tells as the document does whether a program in orders may be. -/
theorem tells_any (a : Option Addr) (c : Nat) (fs : List Fd) (main : Int) (w : World) (hr : RowF w.heap.size w a fs) :
    Calls Try.prog 3 #[PV a fs.length c main] w fun e w' => e = .returned (.bool true) ∧ Below w.heap.size w w' := by
  have hb0 : Below w.heap.size w (w.alloc (.cells #[.slice a fs.length c, .int .i64 main] 24)) := ext_alloc (Below.refl _ _) _
  have hP := may_prog a c fs main _ ((hr.below hb0).mono hb0.size)
  have hD := fun W => rcode_any a c fs main W
  have hat : ∀ W, Below w.heap.size w W → RowF W.heap.size W a fs := fun W hW => (hr.below hW).mono hW.size
  replace hat : Hid _ := hat
  generalize progB fs main = q at hP hD
  have hqq : (q == q) = true := by simp
  clear hr
  go_enter Try.func3, Try.ntmps3
  go_wp2_with (first | (go_at_call 4; refine hP.mono ?_; rintro e w3 ⟨rfl, hb3⟩; have b3 := ext_trans hb0 hb3; have f3 := block_below hb3 (heap_new w _); have c0 := cell_block f3 (i := 0) rfl; have c1 := cell_block f3 (i := 1) rfl) | (go_at_call 5; refine (hD _ (hat.out _ b3)).mono ?_; rintro e w4 ⟨rfl, hb4⟩))
  go_ret
  exact ⟨ret_bool (by simp), ext_trans b3 hb4⟩
end Go.Proofs.Ytklgjfpgclelbaa
