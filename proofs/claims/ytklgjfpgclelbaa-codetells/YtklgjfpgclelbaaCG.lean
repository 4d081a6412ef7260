/- mayHead, mayCode. -/
import Derived.Test.YtklgjfpgclelbaaCF
namespace Go.Proofs.Ytklgjfpgclelbaa
open Go.RowKit
open Go

def headB (f : Fd) : Bool := frB 0 f.p 5 && frB (max 1 f.p) f.r 250 && decide ((f.cs.length : Int) ≤ 700) && frB 1 f.is.length 3000

theorem head_0 (f : Fd) (w : World) (h0 : frB 0 f.p 5 = false) : Calls Try.prog 7 #[f.v] w fun e w' => e = .returned (.bool false) ∧ Below w.heap.size w w' := by
  go_enter Try.func7, Try.ntmps7
  go_wp2_with (go_at_call 11; refine (from_any _ _ _ _).mono ?_; (first | rw [h0] | skip); rintro e w' ⟨rfl, rfl⟩)
  go_ret
  refine ⟨rfl, ?_⟩
  repeat (first | exact Below.refl _ _ | refine ext_alloc ?_ _)
theorem head_1lo (f : Fd) (w : World) (hp : f.p ≤ 1) (h0 : frB 0 f.p 5 = true) (h1 : frB 1 f.r 250 = false) : Calls Try.prog 7 #[f.v] w fun e w' => e = .returned (.bool false) ∧ Below w.heap.size w w' := by
  go_enter Try.func7, Try.ntmps7
  go_wp2_with (go_at_call 11; refine (from_any _ _ _ _).mono ?_; (first | rw [h0] | rw [h1] | skip); rintro e w' ⟨rfl, rfl⟩)
  go_ret
  refine ⟨rfl, ?_⟩
  repeat (first | exact Below.refl _ _ | refine ext_alloc ?_ _)
theorem head_2lo (f : Fd) (w : World) (hp : f.p ≤ 1) (h0 : frB 0 f.p 5 = true) (h1 : frB 1 f.r 250 = true) (h2 : ¬ ((f.cs.length : Int) ≤ 700)) : Calls Try.prog 7 #[f.v] w fun e w' => e = .returned (.bool false) ∧ Below w.heap.size w w' := by
  go_enter Try.func7, Try.ntmps7
  go_wp2_with (go_at_call 11; refine (from_any _ _ _ _).mono ?_; (first | rw [h0] | rw [h1] | skip); rintro e w' ⟨rfl, rfl⟩)
  go_ret
  refine ⟨rfl, ?_⟩
  repeat (first | exact Below.refl _ _ | refine ext_alloc ?_ _)
theorem head_3lo (f : Fd) (w : World) (hp : f.p ≤ 1) (h0 : frB 0 f.p 5 = true) (h1 : frB 1 f.r 250 = true) (h2 : ((f.cs.length : Int) ≤ 700)) : Calls Try.prog 7 #[f.v] w fun e w' => e = .returned (.bool (frB 1 f.is.length 3000)) ∧ Below w.heap.size w w' := by
  go_enter Try.func7, Try.ntmps7
  go_wp2_with (go_at_call 11; refine (from_any _ _ _ _).mono ?_; (first | rw [h0] | rw [h1] | skip); rintro e w' ⟨rfl, rfl⟩)
  go_ret
  refine ⟨rfl, ?_⟩
  repeat (first | exact Below.refl _ _ | refine ext_alloc ?_ _)
theorem head_1hi (f : Fd) (w : World) (hp : ¬ f.p ≤ 1) (h0 : frB 0 f.p 5 = true) (h1 : frB f.p f.r 250 = false) : Calls Try.prog 7 #[f.v] w fun e w' => e = .returned (.bool false) ∧ Below w.heap.size w w' := by
  go_enter Try.func7, Try.ntmps7
  go_wp2_with (go_at_call 11; refine (from_any _ _ _ _).mono ?_; (first | rw [h0] | rw [h1] | skip); rintro e w' ⟨rfl, rfl⟩)
  go_ret
  refine ⟨rfl, ?_⟩
  repeat (first | exact Below.refl _ _ | refine ext_alloc ?_ _)
theorem head_2hi (f : Fd) (w : World) (hp : ¬ f.p ≤ 1) (h0 : frB 0 f.p 5 = true) (h1 : frB f.p f.r 250 = true) (h2 : ¬ ((f.cs.length : Int) ≤ 700)) : Calls Try.prog 7 #[f.v] w fun e w' => e = .returned (.bool false) ∧ Below w.heap.size w w' := by
  go_enter Try.func7, Try.ntmps7
  go_wp2_with (go_at_call 11; refine (from_any _ _ _ _).mono ?_; (first | rw [h0] | rw [h1] | skip); rintro e w' ⟨rfl, rfl⟩)
  go_ret
  refine ⟨rfl, ?_⟩
  repeat (first | exact Below.refl _ _ | refine ext_alloc ?_ _)
theorem head_3hi (f : Fd) (w : World) (hp : ¬ f.p ≤ 1) (h0 : frB 0 f.p 5 = true) (h1 : frB f.p f.r 250 = true) (h2 : ((f.cs.length : Int) ≤ 700)) : Calls Try.prog 7 #[f.v] w fun e w' => e = .returned (.bool (frB 1 f.is.length 3000)) ∧ Below w.heap.size w w' := by
  go_enter Try.func7, Try.ntmps7
  go_wp2_with (go_at_call 11; refine (from_any _ _ _ _).mono ?_; (first | rw [h0] | rw [h1] | skip); rintro e w' ⟨rfl, rfl⟩)
  go_ret
  refine ⟨rfl, ?_⟩
  repeat (first | exact Below.refl _ _ | refine ext_alloc ?_ _)
theorem head_any (f : Fd) (w : World) : Calls Try.prog 7 #[f.v] w fun e w' => e = .returned (.bool (headB f)) ∧ Below w.heap.size w w' := by
  have key : ∀ b : Bool, headB f = b → (Calls Try.prog 7 #[f.v] w fun e w' => e = .returned (.bool b) ∧ Below w.heap.size w w') → Calls Try.prog 7 #[f.v] w fun e w' => e = .returned (.bool (headB f)) ∧ Below w.heap.size w w' := by
    intro b hb h; rw [hb]; exact h
  cases h0 : frB 0 f.p 5
  · exact key false (by unfold headB; rw [h0]; rfl) (head_0 f w h0)
  by_cases hp : f.p ≤ 1
  · have hm : max 1 f.p = 1 := by omega
    cases h1 : frB 1 f.r 250
    · exact key false (by unfold headB; rw [hm, h0, h1]; rfl) (head_1lo f w hp h0 h1)
    by_cases h2 : (f.cs.length : Int) ≤ 700
    · exact key _ (by unfold headB; rw [hm, h0, h1, decide_eq_true h2]; rfl) (head_3lo f w hp h0 h1 h2)
    · exact key false (by unfold headB; rw [hm, h0, h1, decide_eq_false h2]; rfl) (head_2lo f w hp h0 h1 h2)
  · have hm : max 1 f.p = f.p := by omega
    cases h1 : frB f.p f.r 250
    · exact key false (by unfold headB; rw [hm, h0, h1]; rfl) (head_1hi f w hp h0 h1)
    by_cases h2 : (f.cs.length : Int) ≤ 700
    · exact key _ (by unfold headB; rw [hm, h0, h1, decide_eq_true h2]; rfl) (head_3hi f w hp h0 h1 h2)
    · exact key false (by unfold headB; rw [hm, h0, h1, decide_eq_false h2]; rfl) (head_2hi f w hp h0 h1 h2)

def lastB (x : Od) : Bool := x.op == 12 || x.op == 8 || x.op == 10
def codeB (f : Fd) : Bool := allB (fun i x => instrB f x i) f.is && (match f.is[f.is.length - 1]? with | some x => lastB x | none => false)

set_option maxRecDepth 100000 in
set_option maxHeartbeats 4000000 in
theorem code_any (f : Fd) (w : World) (hr : RowI w.heap.size w f.ia f.is) (hne : f.is ≠ []) :
    Calls Try.prog 9 #[f.v] w fun e w' => e = .returned (.bool (codeB f)) ∧ Below w.heap.size w w' := by
  obtain ⟨hlen, hrow⟩ := hr
  replace hlen := le_lit hlen
  obtain ⟨b, off, ha, hbl, hel⟩ := hrow hne
  have hpos : 0 < f.is.length := List.length_pos_iff.2 hne
  have hv : f.v = .agg #[.int .i64 f.p, .int .i64 f.r, .slice f.ca f.cs.length f.cc, .slice (some ⟨b, off, none⟩) f.is.length f.ic] := by rw [← ha]
  have hpl : ∀ (x : Od) (m : Nat), plc f x m = .agg #[.int .i64 f.p, .int .i64 f.r, .slice f.ca f.cs.length f.cc, .slice (some ⟨b, off, none⟩) f.is.length f.ic, .int .i64 x.op, .int .i64 x.a, .int .i64 x.b, .int .i64 x.c, .int .i64 m] := fun x m => by rw [← ha]
  replace hpl : Hid _ := hpl
  have hf0 := heap_new w (.cells #[.int .i64 f.p, .int .i64 f.r, .slice f.ca f.cs.length f.cc, .slice (some ⟨b, off, none⟩) f.is.length f.ic] 30)
  have hb0 : Below w.heap.size w (w.alloc (.cells #[.int .i64 f.p, .int .i64 f.r, .slice f.ca f.cs.length f.cc, .slice (some ⟨b, off, none⟩) f.is.length f.ic] 30)) := ext_alloc (Below.refl _ _) _
  rw [hv]
  clear hv ha
  obtain ⟨ans, hans⟩ : ∃ ans, codeB f = ans := ⟨_, rfl⟩
  rw [hans]
  replace hans : Hid _ := hans
  go_enter Try.func9, Try.ntmps9
  go_wp2
  go_loopw [8] (fun i wr => ∃ m : Nat, m ≤ f.is.length ∧ i = .int .i64 m ∧ Hid (AllTo (fun i x => instrB f x i) f.is m) ∧ wr.heap[w.heap.size]? = some (.cells #[.int .i64 f.p, .int .i64 f.r, .slice f.ca f.cs.length f.cc, .slice (some ⟨b, off, none⟩) f.is.length f.ic] 30) ∧ Below w.heap.size w wr) (fun i _ => f.is.length - (intOf i).toNat)
  case atStart => exact ⟨0, Nat.zero_le _, rfl, AllTo.zero, hf0, hb0⟩
  case round =>
    clear hf0 hb0
    obtain ⟨m, hm, rfl, hG, hf, hb⟩ := hrel
    have c0 : wr.cell? ⟨w.heap.size, 0, none⟩ = some (.int .i64 f.p) := cell_block hf rfl
    have c1 : wr.cell? ⟨w.heap.size, 1, none⟩ = some (.int .i64 f.r) := cell_block hf rfl
    have c2 : wr.cell? ⟨w.heap.size, 2, none⟩ = some (.slice f.ca f.cs.length f.cc) := cell_block hf rfl
    have c3 : wr.cell? ⟨w.heap.size, 3, none⟩ = some (.slice (some ⟨b, off, none⟩) f.is.length f.ic) := cell_block hf rfl
    have hl0 : w.heap.size < wr.heap.size := (Array.getElem?_eq_some_iff.1 hf).1
    by_cases hlt : m < f.is.length
    · obtain ⟨x, hx⟩ : ∃ x, f.is[m]? = some x := ⟨f.is[m], by simp [hlt]⟩
      obtain ⟨t0, t1, t2, t3⟩ := (hel m x hx).below hb hbl
      have hbad : instrB f x m = false → Hid (codeB f = false) := fun h => by
        unfold codeB; rw [allB_false (p := fun i x => instrB f x i) hx h]; exact rfl
      have hnext : instrB f x m = true → Hid (AllTo (fun i x => instrB f x i) f.is (m + 1)) := fun h => AllTo.next (p := fun i x => instrB f x i) hx h hG.out
      replace hbad : Hid _ := hbad
      replace hnext : Hid _ := hnext
      clear hx hG hrow hel
      cases e1 : instrB f x m
      · have hC := mo_any f x m
        rw [e1, hpl.out] at hC
        replace e1 : Hid _ := e1
        go_wp2_with (go_at_call 13; refine (hC _).mono ?_; rintro e w3 ⟨rfl, hb3⟩)
        go_ret
        exact ⟨by rw [← hans.out, (hbad.out e1.out).out]; rfl, ext_trans (ext_alloc hb _) hb3⟩
      · have hC := mo_any f x m
        rw [e1, hpl.out] at hC
        replace e1 : Hid _ := e1
        go_wp2_with (go_at_call 13; refine (hC _).mono ?_; rintro e w3 ⟨rfl, hb3⟩)
        go_roundw
        case rel => exact ⟨m + 1, hlt, by simp, (hnext.out e1.out), block_below hb3 ((Below.heap_alloc _ _ _ (Array.getElem?_eq_some_iff.1 hf).1).trans hf), ext_trans (ext_alloc hb _) hb3⟩
        case measure => simp [intOf]; omega
    · obtain rfl : m = f.is.length := by omega
      obtain ⟨x, hx⟩ : ∃ x, f.is[f.is.length - 1]? = some x := ⟨f.is[f.is.length - 1], List.getElem?_eq_getElem (by omega)⟩
      obtain ⟨t0, t1, t2, t3⟩ := (hel _ x hx).below hb hbl
      have he : codeB f = lastB x := by unfold codeB; rw [allB_true hG.out, hx]; rfl
      replace he : Hid _ := he
      clear hx hG hrow hel
      have hi : ((f.is.length : Int) - 1).toNat = f.is.length - 1 := by omega
      have hi2 : (0 : Int) ≤ (f.is.length : Int) - 1 := by omega
      have hi3 : (f.is.length : Int) - 1 < (f.is.length : Int) := by omega
      have hi4 : wrap64 ((f.is.length : Int) - 1) = (f.is.length : Int) - 1 := wrap64_id (by omega) (by omega)
      cases e1 : (x.op == 12)
      · cases e2 : (x.op == 8)
        · cases e3 : (x.op == 10)
          · go_wp2
            go_ret
            exact ⟨by rw [← hans.out, he.out]; simp [lastB, e1, e2, e3], hb⟩
          · go_wp2
            go_ret
            exact ⟨by rw [← hans.out, he.out]; simp [lastB, e1, e2, e3], hb⟩
        · go_wp2
          go_ret
          exact ⟨by rw [← hans.out, he.out]; simp [lastB, e1, e2], hb⟩
      · go_wp2
        go_ret
        exact ⟨by rw [← hans.out, he.out]; simp [lastB, e1], hb⟩
end Go.Proofs.Ytklgjfpgclelbaa
