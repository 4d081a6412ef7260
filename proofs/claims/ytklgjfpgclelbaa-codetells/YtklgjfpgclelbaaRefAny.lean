/- The document's own answer: which values may be; small functions of chapter 1. -/
import Derived.Test.YtklgjfpgclelbaaRefMay
namespace Go.Proofs.Ytklgjfpgclelbaa
open Go.RowKit
open Go

theorem rmay_any (k n : Int) (s : ByteArray) (w : World) (hn : -9223372036854775808 ≤ n) (hn' : n ≤ 9223372036854775807) :
    Calls Try.prog 14 #[val k n s] w fun e w' => e = .returned (.bool (mayB k n s)) ∧ w' = w.alloc (box k n s) := by
  have key : ∀ b : Bool, mayB k n s = b → (Calls Try.prog 14 #[val k n s] w fun e w' => e = .returned (.bool b) ∧ w' = w.alloc (box k n s)) → Calls Try.prog 14 #[val k n s] w fun e w' => e = .returned (.bool (mayB k n s)) ∧ w' = w.alloc (box k n s) := by
    intro b hb h; rw [hb]; exact h
  have he : s.toList.isEmpty = true ∨ s.toList.isEmpty = false := (Bool.eq_false_or_eq_true _)
  by_cases k0 : k = 0
  · subst k0
    by_cases a : n < 0
    · exact key false (by unfold mayB; rcases he with e | e <;> simp [e]; omega) (rmay_nil_lo 0 n s w rfl a)
    · by_cases b : 0 < n
      · exact key false (by unfold mayB; rcases he with e | e <;> simp [e]; omega) (rmay_nil_hi 0 n s w rfl b)
      · exact key _ (by unfold mayB; rcases he with e | e <;> simp [e]; omega) (rmay_nil 0 n s w rfl (by omega) (by omega))
  have k0' : (k == 0) = false := by simpa using k0
  by_cases k1 : k = 1
  · subst k1
    by_cases a : n < 0
    · exact key false (by unfold mayB; rcases he with e | e <;> simp [e]; omega) (rmay_bool_lo 1 n s w rfl rfl a)
    · by_cases b : 1 < n
      · exact key false (by unfold mayB; rcases he with e | e <;> simp [e]; omega) (rmay_bool_hi 1 n s w rfl rfl b)
      · exact key _ (by unfold mayB; rcases he with e | e <;> simp [e]; omega) (rmay_bool 1 n s w rfl rfl (by omega) (by omega))
  have k1' : (k == 1) = false := by simpa using k1
  by_cases k2 : k = 2
  · subst k2
    exact key _ (by unfold mayB; rcases he with e | e <;> simp [e]) (rmay_int 2 n s w rfl rfl rfl hn hn')
  have k2' : (k == 2) = false := by simpa using k2
  by_cases k3 : k = 3
  · subst k3
    by_cases a : n < 0
    · exact key false (by unfold mayB; simp; omega) (rmay_txt_lo 3 n s w rfl rfl rfl rfl a)
    · by_cases b : 0 < n
      · exact key false (by unfold mayB; simp; omega) (rmay_txt_hi 3 n s w rfl rfl rfl rfl b)
      · obtain rfl : n = 0 := by omega
        exact key _ (by unfold mayB; simp) (rmay_txt 3 0 s w rfl rfl rfl rfl (by omega) (by omega))
  have k3' : (k == 3) = false := by simpa using k3
  by_cases k4 : k = 4
  · subst k4
    by_cases a : n < 0
    · exact key false (by unfold mayB; rcases he with e | e <;> simp [e]; omega) (rmay_tab_lo 4 n s w rfl rfl rfl rfl rfl a)
    · by_cases b : 2147483647 < n
      · exact key false (by unfold mayB; rcases he with e | e <;> simp [e]; omega) (rmay_tab_hi 4 n s w rfl rfl rfl rfl rfl b)
      · exact key _ (by unfold mayB; rcases he with e | e <;> simp [e]; omega) (rmay_tab 4 n s w rfl rfl rfl rfl rfl (by omega) (by omega))
  have k4' : (k == 4) = false := by simpa using k4
  by_cases k5 : k = 5
  · subst k5
    by_cases a : n < 0
    · exact key false (by unfold mayB; rcases he with e | e <;> simp [e]; omega) (rmay_fun_lo 5 n s w rfl rfl rfl rfl rfl rfl a)
    · by_cases b : 2147483647 < n
      · exact key false (by unfold mayB; rcases he with e | e <;> simp [e]; omega) (rmay_fun_hi 5 n s w rfl rfl rfl rfl rfl rfl b)
      · exact key _ (by unfold mayB; rcases he with e | e <;> simp [e]; omega) (rmay_fun 5 n s w rfl rfl rfl rfl rfl rfl (by omega) (by omega))
  have k5' : (k == 5) = false := by simpa using k5
  exact key false (by unfold mayB; rcases he with e | e <;> simp [e, k0, k1, k2, k3, k4, k5]) (rmay_none k n s w k0' k1' k2' k3' k4' k5')

theorem rmay_t (k n : Int) (s : ByteArray) (w : World) (hn : -9223372036854775808 ≤ n) (hn' : n ≤ 9223372036854775807) (h : mayB k n s = true) :
    Calls Try.prog 14 #[val k n s] w fun e w' => e = .returned (.bool true) ∧ w' = w.alloc (box k n s) := h ▸ rmay_any k n s w hn hn'
theorem rmay_f (k n : Int) (s : ByteArray) (w : World) (hn : -9223372036854775808 ≤ n) (hn' : n ≤ 9223372036854775807) (h : mayB k n s = false) :
    Calls Try.prog 14 #[val k n s] w fun e w' => e = .returned (.bool false) ∧ w' = w.alloc (box k n s) := h ▸ rmay_any k n s w hn hn'

end Go.Proofs.Ytklgjfpgclelbaa
