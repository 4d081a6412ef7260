/- A fault has a code. -/
import Derived.Test.YtnnppenlfocgiaaGreatDoorK08
namespace Go.Proofs.YtnnppenlfocgiaaGreatDoor
open Go

def Ec (x : CR) : Prop := ∀ e, x = .error e → e.1 ≠ 0
theorem Ec.ok (c : Cs) : Ec (.ok c) := fun e h => by cases h
theorem Ec.er {k : Int} {a : Nat} (h : k ≠ 0) : Ec (.error (k, a)) := fun e he => by cases he; exact h
theorem Ec.bind {x : CR} {f : Cs → CR} (hx : Ec x) (hf : ∀ c, Ec (f c)) : Ec (x.bind f) := by
  cases x with
  | error e => exact fun e' h => hx e' h
  | ok c => exact hf c
theorem Ec.map {x : CR} {f : Cs → Cs} (hx : Ec x) : Ec (x.map f) := by
  cases x with
  | error e =>
    intro e' h
    simp only [Except.map] at h
    cases h
    exact hx e rfl
  | ok c => intro e' h; simp only [Except.map] at h; cases h
theorem ec_declare (s : List UInt8) (fx : Bool) (a : Nat) (c : Cs) : Ec (declareC s fx a c) := by
  unfold declareC
  split
  · exact Ec.ok _
  · split
    · exact Ec.er (by decide)
    · split
      · exact Ec.er (by decide)
      · exact Ec.ok _
theorem ec_act (fs : List (List UInt8)) (k : Int) (t : List UInt8) (ks : List Nd) (a : Nat) (c : Cs) : Ec (actC fs k t ks a c) := by
  unfold actC
  split
  · exact ec_declare _ _ _ _
  split
  · unfold nameC
    split
    · exact Ec.ok _
    · split
      · exact Ec.ok _
      · exact Ec.er (by decide)
  split
  · split
    · exact Ec.ok _
    · exact Ec.er (by decide)
  split
  · split
    · exact Ec.er (by decide)
    · exact Ec.ok _
  · exact Ec.ok _
theorem ec_vis (fs : List (List UInt8)) (n : Nd) : ∀ (f : Bool) (c : Cs), Ec (visC fs f n c) := by
  refine nd_ind (m := fun n => ∀ (f : Bool) (c : Cs), Ec (visC fs f n c)) (fun k t o ks ih f c => ?_) n
  have hgo : ∀ (k : Int) (t : List UInt8) (a : Nat) (l : List Nd), (∀ y ∈ l, y ∈ ks) → ∀ (i : Nat) (c : Cs), Ec (visC.go fs k t a i l c) := by
    intro k t a l
    induction l with
    | nil => intro _ i c; rw [visC.go]; exact Ec.ok _
    | cons x l ihl =>
      intro hm i c
      rw [visC.go]
      refine Ec.bind ?_ (fun d => ihl (fun y hy => hm y (by simp [hy])) _ d)
      split
      · exact Ec.bind (ec_declare _ _ _ _) (fun d => (ih x (hm x (by simp)) _ _).map)
      · exact ih x (hm x (by simp)) _ _
  rw [visC]
  split
  · split
    · exact hgo _ _ _ ks (fun _ h => h) _ _
    · exact (hgo _ _ _ ks (fun _ h => h) _ _).map
  · refine Ec.bind (hgo _ _ _ ks (fun _ h => h) _ _) (fun d => ?_)
    split
    · exact Ec.ok _
    · exact ec_act _ _ _ _ _ _
theorem ec_body (fs : List (List UInt8)) : ∀ (l : List Nd) (c : Cs), Ec (bodyC fs l c)
  | [], c => by rw [bodyC]; exact Ec.ok _
  | [z], c => by rw [bodyC]; exact ec_vis fs z _ _
  | x :: y :: l, c => by rw [bodyC]; exact Ec.bind (ec_vis fs x _ _) (fun d => ec_body fs (y :: l) d)
theorem ec_fun (fs : List (List UInt8)) (i : Nat) (n : Nd) (c : Cs) : Ec (funC fs i n c) := by
  unfold funC
  split
  · exact Ec.er (by decide)
  split
  · exact Ec.er (by decide)
  · exact (ec_body fs _ _).map
theorem ec_funs (fs : List (List UInt8)) : ∀ (l : List Nd) (i : Nat) (c : Cs), Ec (funsC fs i l c)
  | [], i, c => by rw [funsC]; exact Ec.ok _
  | x :: l, i, c => by rw [funsC]; exact Ec.bind (ec_fun fs i x c) (fun d => ec_funs fs l (i + 1) d)
theorem unit_code {n : Nd} {cd : Int} {a : Nat} (h : unitC n = .error (cd, a)) : cd ≠ 0 := by
  unfold unitC at h
  simp only at h
  split at h
  · rename_i e he
    cases h
    exact ec_funs _ _ _ _ _ he
  · split at h
    · cases h; decide
    · split at h
      · cases h; decide
      · cases h
/-- What Check and Slots say of a text. -/
def checkR (p : (Int × Nat) ⊕ Nd) : (Int × Nat) ⊕ (Nd × List Int) :=
  match p with
  | .inl x => .inl x
  | .inr n => match unitC n with
    | .error e => .inl e
    | .ok sl => .inr (n, sl)
end Go.Proofs.YtnnppenlfocgiaaGreatDoor
