/- Walks of the value package, on the way to the statements of chapter 1. -/
import Derived.Test.YtklgjfpgclelbaaMay
namespace Go.Proofs.Ytklgjfpgclelbaa
open Go.RowKit
open Go

/-- May, whatever the value. -/
theorem may_any (k n : Int) (s : ByteArray) (w : World) : Calls Try.prog 12 #[val k n s] w fun e w' => e = .returned (.bool (mayB k n s)) ∧ Below w.heap.size w w' := by
  unfold mayB
  by_cases h3 : k = 3
  · rw [if_pos h3]; exact may_text k n s w (by simpa using h3)
  rw [if_neg h3]
  have h3' : (k == 3) = false := by simpa using h3
  rcases Bool.eq_false_or_eq_true s.toList.isEmpty with he | he
  · rw [if_neg (by rw [he]; decide)]
    by_cases h0 : k = 0
    · rw [if_pos h0]; exact may_nil k n s w h3' he (by simpa using h0)
    rw [if_neg h0]
    have h0' : (k == 0) = false := by simpa using h0
    by_cases h1 : k = 1
    · rw [if_pos h1]; exact may_bool k n s w h3' he h0' (by simpa using h1)
    rw [if_neg h1]
    have h1' : (k == 1) = false := by simpa using h1
    by_cases h4 : k = 4 ∨ k = 5
    · rw [if_pos h4]; exact may_far k n s w h3' he h0' h1' (by simpa using h4)
    rw [if_neg h4]
    have h4' : (k == 4 || k == 5) = false := by simpa using h4
    rcases Bool.eq_false_or_eq_true (k == 2) with h2 | h2
    · rw [h2]; exact may_int k n s w h3' he h0' h1' h4' h2
    · rw [h2]; exact may_none k n s w h3' he h0' h1' h4' h2
  · rw [if_pos he]; exact may_more k n s w h3' he

theorem may_t (k n : Int) (s : ByteArray) (w : World) (h : mayB k n s = true) : Calls Try.prog 12 #[val k n s] w fun e w' => e = .returned (.bool true) ∧ Below w.heap.size w w' := h ▸ may_any k n s w
theorem may_f (k n : Int) (s : ByteArray) (w : World) (h : mayB k n s = false) : Calls Try.prog 12 #[val k n s] w fun e w' => e = .returned (.bool false) ∧ Below w.heap.size w w' := h ▸ may_any k n s w

theorem bcell {W w1 : World} (hb : Below W.heap.size W w1) : (∀ b o, b < W.heap.size → w1.cell? ⟨b, o, none⟩ = W.cell? ⟨b, o, none⟩) ∧ (∀ b o, b < W.heap.size → w1.frozen? ⟨b, o, none⟩ = W.frozen? ⟨b, o, none⟩) :=
  ⟨fun b o h => hb.cell (p := ⟨b, o, none⟩) h, fun b o h => hb.frozen (p := ⟨b, o, none⟩) h⟩
/-- A value's box. -/
abbrev box (k n : Int) (s : ByteArray) : Obj := .cells #[.int .i64 k, .int .i64 n, .string s] 36
abbrev E0 : ByteArray := ⟨#[]⟩

end Go.Proofs.Ytklgjfpgclelbaa
