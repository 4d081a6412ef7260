/- stands; the small things of a table. -/
import Derived.Test.YtkcieeckndimpaaSeen
import Derived.Test.YtkcieeckndimpaaRefAny
namespace Go.Proofs.Ytkcieeckndimpaa
open Go.RowKit Go.Shelf
open Go

/-- May it be a key, or stand under one? -/
def stB (x : Vl) : Bool := x.k != 0 && mayB x.k x.n x.s

set_option maxHeartbeats 800000 in
theorem stands_nil (x : Vl) (w : World) (h : (x.k != 0) = false) : Calls Try.prog 25 #[x.v] w fun e w' => e = .returned (.bool false) ∧ Below w.heap.size w w' := by
  go_enter Try.func25, Try.ntmps25
  go_wp2
  go_ret
  exact ⟨rfl, (Below.refl _ _).alloc (Nat.le_refl _) _⟩

set_option maxHeartbeats 800000 in
theorem stands_more (x : Vl) (w : World) (h : (x.k != 0) = true) : Calls Try.prog 25 #[x.v] w fun e w' => e = .returned (.bool (mayB x.k x.n x.s)) ∧ Below w.heap.size w w' := by
  go_enter Try.func25, Try.ntmps25
  go_wp2_with (go_at_call 21; refine (may_any _ _ _ _).mono ?_; rintro e w1 ⟨rfl, hb1⟩)
  go_ret
  exact ⟨rfl, ext_trans ((Below.refl _ _).alloc (Nat.le_refl _) _) hb1⟩

theorem stands_any (x : Vl) (w : World) : Calls Try.prog 25 #[x.v] w fun e w' => e = .returned (.bool (stB x)) ∧ Below w.heap.size w w' := by
  unfold stB
  cases h : (x.k != 0)
  · exact stands_nil x w h
  · exact stands_more x w h

theorem stands_t {x : Vl} (h : stB x = true) (w : World) : Calls Try.prog 25 #[x.v] w fun e w' => e = .returned (.bool true) ∧ Below w.heap.size w w' := h ▸ stands_any x w
theorem stands_f {x : Vl} (h : stB x = false) (w : World) : Calls Try.prog 25 #[x.v] w fun e w' => e = .returned (.bool false) ∧ Below w.heap.size w w' := h ▸ stands_any x w

/-- Are two values the same? -/
def vlEq : DecidableEq Vl := fun x y =>
  if h : x.k = y.k ∧ x.n = y.n ∧ x.s.toList = y.s.toList then .isTrue (Vl.ext' h.1 h.2.1 h.2.2) else .isFalse (fun e => h (by subst e; exact ⟨rfl, rfl, rfl⟩))

set_option linter.unusedSectionVars false
variable [DecidableEq Vl]

/-- Which tables may be. -/
def mayT (xs ys : List Vl) : Bool := decide (xs.length = ys.length) && decide (xs.length ≤ 100) && (xs.all stB && ys.all stB) && decide xs.Nodup

/-- A table's value: two slices. -/
theorem Row.slice {m : Nat} {W : World} {sv : Value} {xs : List Vl} (h : Row m W sv xs) : ∃ a c, sv = .slice a xs.length c := let ⟨a, c, e, _⟩ := h; ⟨a, c, e⟩

set_option maxRecDepth 100000 in
set_option maxHeartbeats 2000000 in
theorem tmay_len (ks vs : Value) (xs ys : List Vl) (w : World) (hT : Tab w.heap.size w ks vs xs ys) (h : (xs.length == ys.length) = false) :
    Calls Try.prog 12 #[.agg #[ks, vs]] w fun e w' => e = .returned (.bool false) ∧ Below w.heap.size w w' := by
  obtain ⟨a, c1, rfl⟩ := hT.keys.slice
  obtain ⟨a', c2, rfl⟩ := hT.vals.slice
  have h' : ((xs.length : Int) != (ys.length : Int)) = true := by simp at h ⊢; omega
  clear hT h
  go_enter Try.func12, Try.ntmps12
  go_wp2
  exact bodyPost_ret (v := .bool false) (by simp [results, Try.results12, go_sem]) rfl ⟨rfl, ((Below.refl _ _).alloc (Nat.le_refl _) _).alloc (by simp) _⟩

set_option maxRecDepth 100000 in
set_option maxHeartbeats 2000000 in
theorem tmay_long (ks vs : Value) (xs ys : List Vl) (w : World) (hT : Tab w.heap.size w ks vs xs ys) (h : xs.length = ys.length) (hl : 100 < xs.length) :
    Calls Try.prog 12 #[.agg #[ks, vs]] w fun e w' => e = .returned (.bool false) ∧ Below w.heap.size w w' := by
  obtain ⟨a, c1, rfl⟩ := hT.keys.slice
  obtain ⟨a', c2, rfl⟩ := hT.vals.slice
  have h' : ((xs.length : Int) != (ys.length : Int)) = false := by simp; omega
  have h2 : (100 : Int) < (xs.length : Int) := by omega
  clear hT hl
  go_enter Try.func12, Try.ntmps12
  go_wp2
  exact bodyPost_ret (v := .bool false) (by simp [results, Try.results12, go_sem]) rfl ⟨rfl, ((Below.refl _ _).alloc (Nat.le_refl _) _).alloc (by simp) _⟩

end Go.Proofs.Ytkcieeckndimpaa
