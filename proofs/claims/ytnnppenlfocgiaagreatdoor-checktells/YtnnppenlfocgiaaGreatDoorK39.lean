/- The document's Look: every statement, every block. The document's Look: a function. -/
import Derived.Test.YtnnppenlfocgiaaGreatDoorK24
import Derived.Test.YtnnppenlfocgiaaGreatDoorK25
import Derived.Test.YtnnppenlfocgiaaGreatDoorK20
namespace Go.Proofs.YtnnppenlfocgiaaGreatDoor
open Go

theorem stat_any (n : Nd) : isN n → (statK n.k → SC n) ∧ (n.k = 4 → BC n) := by
  refine nd_ind (m := fun n => isN n → (statK n.k → SC n) ∧ (n.k = 4 → BC n)) (fun k t o ks ih h => ?_) n
  rw [isN] at h
  obtain ⟨h1, _, _, _, _, _, _, _, h9⟩ := h
  rw [isN_go] at h9
  refine ⟨fun hs => ?_, fun e => ?_⟩
  · simp only [statK] at hs
    have hx : ∀ (j : Nat) (y : Nd), ks[j]? = some y → exprK y.k → exprK y.k ∧ XC y := fun j y hj he => ⟨he, expr_any y (h9 j y hj).2 he⟩
    have hb : ∀ (j : Nat) (y : Nd), ks[j]? = some y → y.k = 4 → y.k = 4 ∧ BC y := fun j y hj he => ⟨he, (ih y (List.mem_of_getElem? hj) (h9 j y hj).2).2 he⟩
    have hf : ∀ (j : Nat) (y : Nd), ks[j]? = some y → fitsK k ks.length j y.k := fun j y hj => by have := (h9 j y hj).1; rwa [Nat.zero_add] at this
    by_cases h5 : k = 5
    · subst h5
      refine stat_local t o ks (fun y hy => ?_)
      obtain ⟨j, hj⟩ := List.getElem?_of_mem hy
      have := hf j y hj
      unfold fitsK at this
      rw [if_neg (by omega), if_neg (by omega), if_neg (by omega), if_neg (by omega), if_neg (by omega)] at this
      exact hx j y hj this
    by_cases h6 : k = 6
    · subst h6
      have hl : ks.length = 2 := by unfold kidsOK at h1; omega
      obtain ⟨p, hp⟩ : ∃ p, ks[0]? = some p := ⟨_, List.getElem?_eq_getElem (by omega)⟩
      refine stat_set t o ks p hp (fun y hy => ?_)
      obtain ⟨j, hj⟩ := List.getElem?_of_mem hy
      have := hf j y hj
      unfold fitsK at this
      rw [if_neg (by omega), if_neg (by omega), if_neg (by omega), if_neg (by omega), if_neg (by omega)] at this
      exact hx j y hj this
    by_cases h10 : k = 10
    · subst h10
      refine stat_for t o ks (fun j y hj => ?_)
      have := hf j y hj
      unfold fitsK at this
      rw [if_neg (by omega), if_neg (by omega), if_neg (by omega), if_neg (by omega), if_pos rfl] at this
      by_cases h2 : j = 2
      · rw [if_pos h2] at this
        exact .inr ⟨h2, hb j y hj this⟩
      · rw [if_neg h2] at this
        exact .inl ⟨h2, hx j y hj this⟩
    refine stat_plain k t o ks (by omega) (fun y hy => ?_)
    obtain ⟨j, hj⟩ := List.getElem?_of_mem hy
    have := hf j y hj
    unfold fitsK at this
    rw [if_neg (by omega), if_neg (by omega), if_neg (by omega)] at this
    by_cases h8 : k = 8 ∨ k = 9
    · rw [if_pos h8] at this
      by_cases h0 : 0 < j
      · rw [if_pos h0] at this
        exact .inr (hb j y hj this)
      · rw [if_neg h0] at this
        exact .inl (hx j y hj this)
    · rw [if_neg h8, if_neg (by omega)] at this
      exact .inl (hx j y hj this)
  · simp only at e
    subst e
    refine blk_of t o ks (fun y hy => ?_)
    obtain ⟨j, hj⟩ := List.getElem?_of_mem hy
    have := (h9 j y hj).1
    unfold fitsK at this
    rw [if_neg (by omega), if_neg (by omega), if_pos rfl] at this
    exact (ih y hy (h9 j y hj).2).1 this
end Go.Proofs.YtnnppenlfocgiaaGreatDoor
namespace Go.Proofs.YtnnppenlfocgiaaGreatDoor
open Go.RowKit
open Go

/-- No locals. -/
theorem Lo.nil {w0 : World} {B : Nat} {u : Nd} {ub : Option Addr} {uc : Nat} {sl : List Int} {ls : List Ld} {c a : Int} {st : Bool} {W : World} (h : Lo w0 B u ub uc sl ls c a st W) : (∃ v, W.cell? ⟨B, 5, none⟩ = some v) ∧ W.frozen? ⟨B, 5, none⟩ = false ∧ Lo w0 B u ub uc sl [] c a st (W.setCell ⟨B, 5, none⟩ (.slice none 0 0)) ∧ LK B W (W.setCell ⟨B, 5, none⟩ (.slice none 0 0)) := by
  obtain ⟨⟨sb, sc, lb, lc, h1, h2, h3, h4, h5⟩, h6, h7⟩ := h
  have key := Lo.locals (ls' := []) (lb' := none) (lc' := 0) h1 h2 h4 h5 h6 h7 ⟨rfl, .inl ⟨rfl, rfl⟩⟩ (grown_refl W _) (fun q e => by simp [Value.ownBlock] at e)
  exact ⟨⟨_, cell_block h1 rfl⟩, frozen_block h1, key⟩
def FQ (w0 : World) (B : Nat) (u : Nd) (ub : Option Addr) (uc : Nat) (c a : Int) (s0 m : Nat) (R : CR) (W : World) (e : Ending) (W' : World) : Prop :=
  e = .returned (.tuple #[]) ∧ LK B W W' ∧ ((∃ sl' ls', R = .ok ⟨sl', []⟩ ∧ s0 < sl'.length ∧ sl'.length ≤ s0 + m ∧ ls'.length ≤ 100000 ∧ Lo w0 B u ub uc sl' ls' c a false W') ∨ (∃ cd at_ sl' ls', R = .error (cd, at_) ∧ s0 < sl'.length ∧ sl'.length ≤ s0 + m ∧ Lo w0 B u ub uc sl' ls' cd (at_ : Nat) true W'))
/-- Between two parameters. -/
def PI (w0 : World) (B : Nat) (u : Nd) (ub : Option Addr) (uc : Nat) (c a : Int) (S : Nat → Prop) (n : Nd) (b : Option Addr) (cap : Nat) (W : World) (t M s0 : Nat) (R : CR) (j : Nat) (wr : World) : Prop :=
  wr.heap[t]? = some (nbx n b cap) ∧ ApL B wr t ∧ LK B W wr ∧ SA S B wr ∧ KA S wr ub uc u.kids ∧ KA S wr b cap n.kids ∧
  ((∃ sl' m, bodyC (u.kids.map Nd.t) (n.kids.drop j) ⟨sl', [m]⟩ = R ∧ s0 < sl'.length ∧ sl'.length + manyN.go (n.kids.drop j) ≤ M ∧ m.length = j ∧ NB [m] ∧ Lo w0 B u ub uc sl' (flatD [m]) c a false wr) ∨ (∃ cd at_ sl' ls', R = .error (cd, at_) ∧ s0 < sl'.length ∧ sl'.length + 1 ≤ M ∧ Lo w0 B u ub uc sl' ls' cd (at_ : Nat) true wr))
/-- A parameter. -/
theorem vis_param (fs : List (List UInt8)) (x : Nd) (hx : x.k = 3) (hk : x.kids = []) (sl : List Int) (m : List Lc) (hm : m.length ≤ 5) : visC fs false x ⟨sl, [m]⟩ = if m.any (fun y => y.nm == x.t) then .error (5, sl.length) else .ok ⟨(sl ++ [-1]).set sl.length ((m.length : Nat) : Int), [m ++ [⟨x.t, false⟩]]⟩ := by
  obtain ⟨xk, xt, xn, xs⟩ := x
  simp only at hx hk
  subst hx hk
  rw [vis_else fs 3 xt xn [] _ (by omega) (by omega)]
  show actC fs 3 xt [] sl.length ⟨sl ++ [-1], [m]⟩ = _
  rw [actC, if_pos (by omega)]
  have e : (⟨sl ++ [-1], [m]⟩ : Cs).live = m.length := by show sumL [m] = _; rw [sumL_cons]; simp [sumL]
  simp only [declareC, e]
  split
  · rfl
  · rw [if_neg (by omega)]
end Go.Proofs.YtnnppenlfocgiaaGreatDoor
