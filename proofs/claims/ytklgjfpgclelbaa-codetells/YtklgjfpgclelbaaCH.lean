/- code.May: the program's answer. -/
import Derived.Test.YtklgjfpgclelbaaCG
namespace Go.Proofs.Ytklgjfpgclelbaa
open Go.RowKit
open Go

/-- Four cells that hold a function. -/
structure FAt (W : World) (b o : Nat) (f : Fd) : Prop where
  p : W.cell? ⟨b, o, none⟩ = some (.int .i64 f.p)
  r : W.cell? ⟨b, o + 1, none⟩ = some (.int .i64 f.r)
  c : W.cell? ⟨b, o + 2, none⟩ = some (.slice f.ca f.cs.length f.cc)
  i : W.cell? ⟨b, o + 3, none⟩ = some (.slice f.ia f.is.length f.ic)
theorem FAt.below {n₀ : Nat} {A B : World} (h : Below n₀ A B) {b o : Nat} {x : Fd} (hb : b < n₀) (t : FAt A b o x) : FAt B b o x :=
  ⟨(h.cell (p := ⟨b, o, none⟩) hb).trans t.p, (h.cell (p := ⟨b, o + 1, none⟩) hb).trans t.r, (h.cell (p := ⟨b, o + 2, none⟩) hb).trans t.c, (h.cell (p := ⟨b, o + 3, none⟩) hb).trans t.i⟩
/-- What a function's rows hold. -/
def FdIn (n₀ : Nat) (W : World) (f : Fd) : Prop := RowV n₀ W f.ca f.cs ∧ RowI n₀ W f.ia f.is
theorem FdIn.below {n₀ : Nat} {A B : World} (h : Below n₀ A B) {f : Fd} (t : FdIn n₀ A f) : FdIn n₀ B f := ⟨t.1.below h, t.2.below h⟩
theorem FdIn.mono {n₀ m : Nat} (hm : n₀ ≤ m) {A : World} {f : Fd} (t : FdIn n₀ A f) : FdIn m A f := ⟨t.1.mono hm, t.2.mono hm⟩
theorem FdIn.at {w W : World} {f : Fd} (h : Below w.heap.size w W) (t : FdIn w.heap.size w f) : FdIn W.heap.size W f := (t.below h).mono h.size
def RowF (n₀ : Nat) (W : World) (a : Option Addr) (fs : List Fd) : Prop :=
  fs.length ≤ maxLen ∧ (fs ≠ [] → ∃ b off, a = some ⟨b, off, none⟩ ∧ b < n₀ ∧ ∀ j f, fs[j]? = some f → FAt W b (off + j * 4) f ∧ FdIn n₀ W f)
theorem RowF.below {n₀ : Nat} {A B : World} (h : Below n₀ A B) {a : Option Addr} {xs : List Fd} (r : RowF n₀ A a xs) : RowF n₀ B a xs := by
  refine ⟨r.1, fun hne => ?_⟩
  obtain ⟨b, off, ea, hb, hc⟩ := r.2 hne
  exact ⟨b, off, ea, hb, fun j x hj => ⟨(hc j x hj).1.below h hb, (hc j x hj).2.below h⟩⟩
theorem RowF.mono {n₀ m : Nat} (hm : n₀ ≤ m) {A : World} {a : Option Addr} {xs : List Fd} (r : RowF n₀ A a xs) : RowF m A a xs := by
  refine ⟨r.1, fun hne => ?_⟩
  obtain ⟨b, off, ea, hb, hc⟩ := r.2 hne
  exact ⟨b, off, ea, by omega, fun j x hj => ⟨(hc j x hj).1, (hc j x hj).2.mono hm⟩⟩

/-- G1: may a function be, among so many? -/
def fnB (nf : Int) (f : Fd) : Bool := headB f && allB (fun _ => constB nf) f.cs && codeB f
def mainB (fs : List Fd) (main : Int) : Bool := match fs[main.toNat]? with | some f => f.p == 0 | none => false
/-- G1: may a program in orders be? -/
def progB (fs : List Fd) (main : Int) : Bool :=
  decide (1 ≤ fs.length) && decide (fs.length ≤ 12) && belB main fs.length && mainB fs main && allB (fun _ => fnB fs.length) fs

theorem head_ne {f : Fd} (h : headB f = true) : f.is ≠ [] := by
  intro e
  simp [headB, frB, e] at h

theorem cellB {W W' : World} (hb : Below W.heap.size W W') {b i : Nat} {v : Value} (h : W.cell? ⟨b, i, none⟩ = some v) : W'.cell? ⟨b, i, none⟩ = some v :=
  (hb.cell (p := ⟨b, i, none⟩) (World.block_lt_of_cell? _ _ h)).trans h
abbrev PV (a : Option Addr) (n c : Nat) (main : Int) : Value := .agg #[.slice a n c, .int .i64 main]

set_option maxRecDepth 100000 in
set_option maxHeartbeats 1000000 in
theorem may_0 (a : Option Addr) (c : Nat) (fs : List Fd) (main : Int) (w : World) (h : (fs.length : Int) < 1) :
    Calls Try.prog 4 #[PV a fs.length c main] w fun e w' => e = .returned (.bool false) ∧ Below w.heap.size w w' := by
  go_enter Try.func4, Try.ntmps4
  go_wp2
  go_ret
  refine ⟨rfl, ?_⟩
  repeat (first | exact Below.refl _ _ | refine ext_alloc ?_ _)
set_option maxRecDepth 100000 in
set_option maxHeartbeats 1000000 in
theorem may_12 (a : Option Addr) (c : Nat) (fs : List Fd) (main : Int) (w : World) (h : ¬ (fs.length : Int) < 1) (h2 : (12 : Int) < (fs.length : Int)) :
    Calls Try.prog 4 #[PV a fs.length c main] w fun e w' => e = .returned (.bool false) ∧ Below w.heap.size w w' := by
  go_enter Try.func4, Try.ntmps4
  go_wp2
  go_ret
  refine ⟨rfl, ?_⟩
  repeat (first | exact Below.refl _ _ | refine ext_alloc ?_ _)
set_option maxRecDepth 100000 in
set_option maxHeartbeats 1000000 in
theorem may_main (a : Option Addr) (c : Nat) (fs : List Fd) (main : Int) (w : World) (h : ¬ (fs.length : Int) < 1) (h2 : ¬ (12 : Int) < (fs.length : Int)) (h3 : belB main fs.length = false) :
    Calls Try.prog 4 #[PV a fs.length c main] w fun e w' => e = .returned (.bool false) ∧ Below w.heap.size w w' := by
  go_enter Try.func4, Try.ntmps4
  go_wp2_with (go_at_call 6; refine (below_any _ _ _).mono ?_; rw [h3]; rintro e w' ⟨rfl, rfl⟩)
  go_ret
  refine ⟨rfl, ?_⟩
  repeat (first | exact Below.refl _ _ | refine ext_alloc ?_ _)
set_option maxRecDepth 100000 in
set_option maxHeartbeats 1000000 in
theorem may_params (b off c : Nat) (fs : List Fd) (main : Nat) (f : Fd) (w : World) (h : ¬ (fs.length : Int) < 1) (h2 : ¬ (12 : Int) < (fs.length : Int)) (h3 : belB main fs.length = true) (hm : main < fs.length)
    (hb : b < w.heap.size) (hc : w.cell? ⟨b, off + main * 4, none⟩ = some (.int .i64 f.p)) (hp : (f.p == 0) = false) :
    Calls Try.prog 4 #[PV (some ⟨b, off, none⟩) fs.length c main] w fun e w' => e = .returned (.bool false) ∧ Below w.heap.size w w' := by
  have hp' : (f.p != 0) = true := by rw [bne, hp]; rfl
  go_enter Try.func4, Try.ntmps4
  go_wp2_with (go_at_call 6; refine (below_any _ _ _).mono ?_; rw [h3]; rintro e w' ⟨rfl, rfl⟩)
  go_ret
  refine ⟨rfl, ?_⟩
  repeat (first | exact Below.refl _ _ | refine ext_alloc ?_ _)
set_option maxRecDepth 100000 in
set_option maxHeartbeats 8000000 in
theorem may_loop (b off c : Nat) (fs : List Fd) (main : Nat) (f : Fd) (w : World) (h : ¬ (fs.length : Int) < 1) (h2 : ¬ (12 : Int) < (fs.length : Int)) (h3 : belB main fs.length = true) (hm : main < fs.length)
    (hb : b < w.heap.size) (hc : w.cell? ⟨b, off + main * 4, none⟩ = some (.int .i64 f.p)) (hp : (f.p == 0) = true) (hel : ∀ j f, fs[j]? = some f → FAt w b (off + j * 4) f ∧ FdIn w.heap.size w f) :
    Calls Try.prog 4 #[PV (some ⟨b, off, none⟩) fs.length c main] w fun e w' => e = .returned (.bool (allB (fun _ => fnB fs.length) fs)) ∧ Below w.heap.size w w' := by
  have hp' : (f.p != 0) = false := by rw [bne, hp]; rfl
  have hf0 := heap_new w (.cells #[.slice (some ⟨b, off, none⟩) fs.length c, .int .i64 main] 24)
  have hb0 : Below w.heap.size w (w.alloc (.cells #[.slice (some ⟨b, off, none⟩) fs.length c, .int .i64 main] 24)) := ext_alloc (Below.refl _ _) _
  obtain ⟨ans, hans⟩ : ∃ ans, allB (fun _ => fnB fs.length) fs = ans := ⟨_, rfl⟩
  rw [hans]
  replace hans : Hid _ := hans
  replace hel : Hid _ := hel
  go_enter Try.func4, Try.ntmps4
  go_wp2_with (go_at_call 6; refine (below_any _ _ _).mono ?_; rw [h3]; rintro e w' ⟨rfl, rfl⟩)
  go_loopw [37] (fun i wr => ∃ m : Nat, m ≤ fs.length ∧ i = .int .i64 m ∧ Hid (AllTo (fun _ => fnB fs.length) fs m) ∧ wr.heap[w.heap.size]? = some (.cells #[.slice (some ⟨b, off, none⟩) fs.length c, .int .i64 main] 24) ∧ Below w.heap.size w wr) (fun i _ => fs.length - (intOf i).toNat)
  case atStart => exact ⟨0, Nat.zero_le _, rfl, AllTo.zero, hf0, hb0⟩
  case round =>
    clear hf0 hb0
    obtain ⟨m, hm, rfl, hG, hf, hbw⟩ := hrel
    have c0 : wr.cell? ⟨w.heap.size, 0, none⟩ = some (.slice (some ⟨b, off, none⟩) fs.length c) := cell_block hf rfl
    have hl0 : w.heap.size < wr.heap.size := (Array.getElem?_eq_some_iff.1 hf).1
    by_cases hlt : m < fs.length
    · obtain ⟨x, hx⟩ : ∃ x, fs[m]? = some x := ⟨fs[m], by simp [hlt]⟩
      obtain ⟨hFA, hFI⟩ := hel.out m x hx
      obtain ⟨t0, t1, t2, t3⟩ := hFA.below hbw hb
      have hbad : fnB fs.length x = false → Hid (allB (fun _ => fnB fs.length) fs = false) := fun h => allB_false hx h
      have hnext : fnB fs.length x = true → Hid (AllTo (fun _ => fnB fs.length) fs (m + 1)) := fun h => AllTo.next hx h hG.out
      replace hbad : Hid _ := hbad
      replace hnext : Hid _ := hnext
      clear hx hG hFA
      cases e1 : headB x
      · have hC := head_any x
        rw [e1] at hC
        replace e1 : Hid _ := e1
        replace hFI : Hid _ := hFI
        go_wp2_with (go_at_call 7; refine (hC _).mono ?_; rintro e w3 ⟨rfl, hb3⟩)
        go_ret
        exact ⟨by rw [← hans.out, (hbad.out (by simp [fnB, e1.out])).out]; rfl, ext_trans (ext_alloc hbw _) hb3⟩
      · have hC := head_any x
        rw [e1] at hC
        have hne := head_ne e1
        replace e1 : Hid _ := e1
        have hC2 : ∀ W, Below w.heap.size w W → Calls Try.prog 8 #[.slice x.ca x.cs.length x.cc, .int .i64 fs.length] W _ := fun W hW => consts_any x.ca x.cc x.cs fs.length W (hFI.at hW).1
        have hC3 : ∀ W, Below w.heap.size w W → Calls Try.prog 9 #[x.v] W _ := fun W hW => code_any x W (hFI.at hW).2 hne
        replace hFI : Hid _ := hFI
        cases e2 : allB (fun _ => constB fs.length) x.cs
        · rw [e2] at hC2
          replace e2 : Hid _ := e2
          clear hC3
          go_wp2_with (first | (go_at_call 7; refine (hC _).mono ?_; rintro e w3 ⟨rfl, hb3⟩; have v2 := in_box (i := 2) hb3 rfl; have b3 := ext_trans (ext_alloc hbw _) hb3; have d0 := cell_block (block_below hb3 ((Below.heap_alloc _ _ _ hl0).trans hf)) (i := 0) rfl) | (go_at_call 8; refine (hC2 _ b3).mono ?_; rintro e w4 ⟨rfl, hb4⟩))
          go_ret
          exact ⟨by rw [← hans.out, (hbad.out (by simp [fnB, e1.out, e2.out])).out]; rfl, ext_trans b3 hb4⟩
        · rw [e2] at hC2
          replace e2 : Hid _ := e2
          cases e3 : codeB x
          · rw [e3] at hC3
            replace e3 : Hid _ := e3
            go_wp2_with (first | (go_at_call 7; refine (hC _).mono ?_; rintro e w3 ⟨rfl, hb3⟩; have v0 := in_box (i := 0) hb3 rfl; have v1 := in_box (i := 1) hb3 rfl; have v2 := in_box (i := 2) hb3 rfl; have v3 := in_box (i := 3) hb3 rfl; have b3 := ext_trans (ext_alloc hbw _) hb3; have f3 := block_below hb3 ((Below.heap_alloc _ _ _ hl0).trans hf); have d0 := cell_block f3 (i := 0) rfl) | (go_at_call 8; refine (hC2 _ b3).mono ?_; rintro e w4 ⟨rfl, hb4⟩; have v0 := cellB hb4 v0; have v1 := cellB hb4 v1; have v2 := cellB hb4 v2; have v3 := cellB hb4 v3; have b4 := ext_trans b3 hb4; have f4 := block_below hb4 f3) | (go_at_call 9; refine (hC3 _ b4).mono ?_; rintro e w5 ⟨rfl, hb5⟩))
            go_ret
            exact ⟨by rw [← hans.out, (hbad.out (by simp [fnB, e1.out, e2.out, e3.out])).out]; rfl, ext_trans b4 hb5⟩
          · rw [e3] at hC3
            replace e3 : Hid _ := e3
            go_wp2_with (first | (go_at_call 7; refine (hC _).mono ?_; rintro e w3 ⟨rfl, hb3⟩; have v0 := in_box (i := 0) hb3 rfl; have v1 := in_box (i := 1) hb3 rfl; have v2 := in_box (i := 2) hb3 rfl; have v3 := in_box (i := 3) hb3 rfl; have b3 := ext_trans (ext_alloc hbw _) hb3; have f3 := block_below hb3 ((Below.heap_alloc _ _ _ hl0).trans hf); have d0 := cell_block f3 (i := 0) rfl) | (go_at_call 8; refine (hC2 _ b3).mono ?_; rintro e w4 ⟨rfl, hb4⟩; have v0 := cellB hb4 v0; have v1 := cellB hb4 v1; have v2 := cellB hb4 v2; have v3 := cellB hb4 v3; have b4 := ext_trans b3 hb4; have f4 := block_below hb4 f3) | (go_at_call 9; refine (hC3 _ b4).mono ?_; rintro e w5 ⟨rfl, hb5⟩))
            go_roundw
            case rel => exact ⟨m + 1, hlt, by simp, (hnext.out (by simp [fnB, e1.out, e2.out, e3.out])), block_below hb5 f4, ext_trans b4 hb5⟩
            case measure => simp [intOf]; omega
    · obtain rfl : m = fs.length := by omega
      go_wp2
      go_ret
      exact ⟨by rw [← hans.out, allB_true hG.out]; rfl, hbw⟩

/-- The program's May. -/
theorem may_prog (a : Option Addr) (c : Nat) (fs : List Fd) (main : Int) (w : World) (hr : RowF w.heap.size w a fs) :
    Calls Try.prog 4 #[PV a fs.length c main] w fun e w' => e = .returned (.bool (progB fs main)) ∧ Below w.heap.size w w' := by
  have key : ∀ b : Bool, progB fs main = b → (Calls Try.prog 4 #[PV a fs.length c main] w fun e w' => e = .returned (.bool b) ∧ Below w.heap.size w w') → Calls Try.prog 4 #[PV a fs.length c main] w fun e w' => e = .returned (.bool (progB fs main)) ∧ Below w.heap.size w w' := by
    intro b hb h; rw [hb]; exact h
  by_cases h1 : fs.length < 1
  · exact key false (by have h : ¬ 1 ≤ fs.length := by omega
                        simp [progB, h]) (may_0 a c fs main w (by omega))
  by_cases h2 : 12 < fs.length
  · exact key false (by have h : ¬ fs.length ≤ 12 := by omega
                        simp [progB, h]) (may_12 a c fs main w (by omega) (by omega))
  cases h3 : belB main fs.length
  · exact key false (by simp [progB, h3]) (may_main a c fs main w (by omega) (by omega) h3)
  have h4 : 0 ≤ main ∧ main < fs.length := by simpa [belB] using h3
  obtain ⟨n, rfl⟩ : ∃ n : Nat, main = n := ⟨main.toNat, by omega⟩
  have hn : n < fs.length := by omega
  obtain ⟨b, off, rfl, hb, hel⟩ := hr.2 (by intro e; subst e; simp at hn)
  obtain ⟨f, hf⟩ : ∃ f, fs[n]? = some f := ⟨fs[n], by simp [hn]⟩
  have hm : mainB fs n = (f.p == 0) := by simp [mainB, hf]
  cases h5 : (f.p == 0)
  · exact key false (by simp [progB, hm, h5]) (may_params b off c fs n f w (by omega) (by omega) h3 hn hb (hel n f hf).1.p h5)
  · refine key _ ?_ (may_loop b off c fs n f w (by omega) (by omega) h3 hn hb (hel n f hf).1.p h5 hel)
    have e1 : decide (1 ≤ fs.length) = true := by simp; omega
    have e2 : decide (fs.length ≤ 12) = true := by simp; omega
    unfold progB
    rw [e1, e2, h3, hm, h5]
    rfl
end Go.Proofs.Ytklgjfpgclelbaa
