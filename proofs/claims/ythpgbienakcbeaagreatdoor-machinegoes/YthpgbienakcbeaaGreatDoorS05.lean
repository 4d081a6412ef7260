/- Going on step by step: up to some steps, and from there up to more, is going on up to more at once. Over any kind of state. -/
import Derived.Below
namespace Go.Proofs.YthpgbienakcbeaaGreatDoor
open Go
set_option maxRecDepth 100000
set_option maxHeartbeats 8000000
set_option linter.all false
def goP {S : Type} (st : S → S) (live : S → Bool) (steps : S → Nat) (fuel : Nat) : Nat → S → S
 | 0, s => s
 | k + 1, s => if live s = true ∧ steps s < fuel then goP st live steps fuel k (st s) else s
section
variable {S : Type} {st : S → S} {live : S → Bool} {steps : S → Nat}
theorem b4z {fuel : Nat} {s : S} (h : ¬ (live s = true ∧ steps s < fuel)) : ∀ k, goP st live steps fuel k s = s
 | 0 => rfl
 | k + 1 => by rw [goP, if_neg h]
end
end Go.Proofs.YthpgbienakcbeaaGreatDoor
