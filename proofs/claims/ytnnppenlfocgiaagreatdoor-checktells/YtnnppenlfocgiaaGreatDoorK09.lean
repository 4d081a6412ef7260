/- What is asked of a program behind its functions. -/
import Derived.Test.YtnnppenlfocgiaaGreatDoorK08
namespace Go.Proofs.YtnnppenlfocgiaaGreatDoor
open Go

/-- What is asked of a program behind its functions. -/
def endC (n : Nd) (R : CR) : Except (Int × Nat) (List Int) :=
  match R with
  | .error e => .error e
  | .ok c => match funI (n.kids.map Nd.t) W.main_ with
    | none => .error (4, 0)
    | some j => if paramB n.kids[j]? then .error (6, 0) else .ok c.sl
theorem unitC_eq (n : Nd) : unitC n = endC n (funsC (n.kids.map Nd.t) 0 n.kids ⟨[-1], []⟩) := rfl
theorem endC_error (n : Nd) (e : Int × Nat) : endC n (.error e) = .error e := rfl
theorem endC_none (n : Nd) (c : Cs) (h : funI (n.kids.map Nd.t) W.main_ = none) : endC n (.ok c) = .error (4, 0) := by simp only [endC, h]
theorem endC_some (n : Nd) (c : Cs) (j : Nat) (h : funI (n.kids.map Nd.t) W.main_ = some j) : endC n (.ok c) = if paramB n.kids[j]? then .error (6, 0) else .ok c.sl := by simp only [endC, h]
end Go.Proofs.YtnnppenlfocgiaaGreatDoor
