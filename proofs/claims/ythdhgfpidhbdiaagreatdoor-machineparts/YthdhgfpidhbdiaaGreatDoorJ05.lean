/- Going on step by step: up to some steps, and from there up to more, is going on up to more at once. Over any kind of state. -/
import Derived.Below
namespace Go.Proofs.YthdhgfpidhbdiaaGreatDoor
open Go

/-- Steps are done as long as it lives and fewer than so many are done; at most k of them. -/
def goP {S : Type} (st : S → S) (live : S → Bool) (steps : S → Nat) (fuel : Nat) : Nat → S → S
  | 0, s => s
  | k + 1, s => if live s = true ∧ steps s < fuel then goP st live steps fuel k (st s) else s
section
variable {S : Type} {st : S → S} {live : S → Bool} {steps : S → Nat}
theorem goP_stop {fuel : Nat} {s : S} (h : ¬ (live s = true ∧ steps s < fuel)) : ∀ k, goP st live steps fuel k s = s
  | 0 => rfl
  | k + 1 => by rw [goP, if_neg h]
/-- More rounds than are left change nothing. -/
theorem goP_more (hst : ∀ s, steps (st s) = steps s + 1) (fuel : Nat) : ∀ (k m : Nat) (s : S), fuel ≤ steps s + k → fuel ≤ steps s + m → goP st live steps fuel k s = goP st live steps fuel m s
  | 0, m, s, h, _ => by
    have hh : ¬ (live s = true ∧ steps s < fuel) := fun h2 => by have := h2.2; omega
    rw [goP_stop hh m, goP_stop hh 0]
  | k + 1, 0, s, _, h => by
    have hh : ¬ (live s = true ∧ steps s < fuel) := fun h2 => by have := h2.2; omega
    rw [goP_stop hh (k + 1), goP_stop hh 0]
  | k + 1, m + 1, s, h1, h2 => by
    rw [goP, goP]
    split
    · exact goP_more hst fuel k m (st s) (by rw [hst]; omega) (by rw [hst]; omega)
    · rfl
/-- In parts. -/
theorem goP_parts (hst : ∀ s, steps (st s) = steps s + 1) {few more : Nat} (hfm : few ≤ more) : ∀ (k m : Nat) (s : S), few ≤ steps s + k → more ≤ steps s + m → goP st live steps more m (goP st live steps few k s) = goP st live steps more m s
  | 0, m, s, _, _ => rfl
  | k + 1, m, s, h1, h2 => by
    rw [goP]
    split
    · rename_i hc
      have h3 := goP_parts hst hfm k m (st s) (by rw [hst]; omega) (by rw [hst]; omega)
      rw [h3]
      cases m with
      | zero => omega
      | succ m =>
        have h4 : goP st live steps more (m + 1) s = goP st live steps more m (st s) := by rw [goP, if_pos ⟨hc.1, by omega⟩]
        rw [h4]
        exact goP_more hst more (m + 1) m (st s) (by rw [hst]; omega) (by rw [hst]; omega)
    · rfl
end
end Go.Proofs.YthdhgfpidhbdiaaGreatDoor
