/- Which nodes are an expression's, kind by kind. -/
import Derived.Test.YtbdkiimggggndaaGreatDoorJ14
namespace Go.Proofs.YtbdkiimggggndaaGreatDoor
open Go.RowKit
open Go

abbrev isX (y : Nd) : Prop := isN y ∧ exprK y.k
abbrev isK (k : Int) (y : Nd) : Prop := isN y ∧ y.k = k
abbrev isS (y : Nd) : Prop := isN y ∧ statK y.k
theorem isN_iff (k : Int) (t : List UInt8) (n : Int) (ks : List Nd) : isN ⟨k, t, n, ks⟩ ↔ kidsOK k ks.length ∧ (hasName k → nameB t = true) ∧ (¬ hasName k → k ≠ 14 → t = []) ∧ ((k = 22 → (opOf n).isSome = true) ∧ (k = 14 → quotB t = true)) ∧ (k = 13 → 0 ≤ n ∧ n ≤ 9223372036854775807) ∧ (k ≠ 22 → k ≠ 13 → n = 0) ∧
    (k = 6 → (ks.head?.bind chainC) = some 0) ∧ (k = 7 → (ks.head?.bind chainC).isSome = true ∧ ks.head?.map (fun x => x.k) = some 21) ∧ ∀ j x, ks[j]? = some x → fitsK k ks.length j x.k ∧ isN x := by
  rw [isN, isN_go]
  simp only [Nat.zero_add]
theorem all0 (p : Nat → Nd → Prop) : (∀ j x, ([] : List Nd)[j]? = some x → p j x) ↔ True := by simp
theorem all1 (p : Nat → Nd → Prop) (a : Nd) : (∀ j x, [a][j]? = some x → p j x) ↔ p 0 a := by
  refine ⟨fun h => h 0 a rfl, fun h j x hj => ?_⟩
  match j, hj with
  | 0, hj => cases hj; exact h
  | j + 1, hj => simp at hj
theorem all2 (p : Nat → Nd → Prop) (a b : Nd) : (∀ j x, [a, b][j]? = some x → p j x) ↔ p 0 a ∧ p 1 b := by
  refine ⟨fun h => ⟨h 0 a rfl, h 1 b rfl⟩, fun h j x hj => ?_⟩
  match j, hj with
  | 0, hj => cases hj; exact h.1
  | 1, hj => cases hj; exact h.2
  | j + 2, hj => simp at hj
theorem all3 (p : Nat → Nd → Prop) (a b c : Nd) : (∀ j x, [a, b, c][j]? = some x → p j x) ↔ p 0 a ∧ p 1 b ∧ p 2 c := by
  refine ⟨fun h => ⟨h 0 a rfl, h 1 b rfl, h 2 c rfl⟩, fun h j x hj => ?_⟩
  match j, hj with
  | 0, hj => cases hj; exact h.1
  | 1, hj => cases hj; exact h.2.1
  | 2, hj => cases hj; exact h.2.2
  | j + 3, hj => simp at hj
theorem len0 (ks : List Nd) : ks.length = 0 ↔ ks = [] := List.length_eq_zero_iff
theorem len1 (ks : List Nd) : ks.length = 1 ↔ ∃ a, ks = [a] := List.length_eq_one_iff
theorem len2 (ks : List Nd) : ks.length = 2 ↔ ∃ a b, ks = [a, b] := by
  constructor
  · intro h
    match ks, h with
    | [a, b], _ => exact ⟨a, b, rfl⟩
  · rintro ⟨a, b, rfl⟩; rfl
theorem len3 (ks : List Nd) : ks.length = 3 ↔ ∃ a b c, ks = [a, b, c] := by
  constructor
  · intro h
    match ks, h with
    | [a, b, c], _ => exact ⟨a, b, c, rfl⟩
  · rintro ⟨a, b, c, rfl⟩; rfl
theorem isx13 {t : List UInt8} {n : Int} {ks : List Nd} (hn : n ≤ 9223372036854775807) : isX ⟨13, t, n, ks⟩ ↔ 0 ≤ n ∧ t = [] ∧ ks = [] := by
  simp only [isX, isN_iff, kidsOK, hasName, exprK]
  simp
  constructor
  · rintro ⟨h1, h2, ⟨h3, _⟩, _⟩; exact ⟨h3, h2, h1⟩
  · rintro ⟨h1, h2, h3⟩; subst h3; exact ⟨rfl, h2, ⟨h1, hn⟩, by simp⟩
theorem isx14 {t : List UInt8} {n : Int} {ks : List Nd} : isX ⟨14, t, n, ks⟩ ↔ n = 0 ∧ quotB t = true ∧ ks = [] := by
  simp only [isX, isN_iff, kidsOK, hasName, exprK]
  simp
  constructor
  · rintro ⟨h1, h2, h3, _⟩; exact ⟨h3, h2, h1⟩
  · rintro ⟨h1, h2, h3⟩; subst h3; exact ⟨rfl, h2, h1, by simp⟩
theorem isx18 {t : List UInt8} {n : Int} {ks : List Nd} : isX ⟨18, t, n, ks⟩ ↔ (n = 0 ∧ nameB t = true) ∧ ks = [] := by
  simp only [isX, isN_iff, kidsOK, hasName, exprK]
  simp
  constructor
  · rintro ⟨h1, h2, h3, _⟩; exact ⟨⟨h3, h2⟩, h1⟩
  · rintro ⟨⟨h1, h2⟩, h3⟩; subst h3; exact ⟨rfl, h2, h1, by simp⟩
theorem isx15 {k : Int} {t : List UInt8} {n : Int} {ks : List Nd} (hk : k = 15 ∨ k = 16 ∨ k = 17 ∨ k = 19) : isX ⟨k, t, n, ks⟩ ↔ (t = [] ∧ n = 0) ∧ ks = [] := by
  rcases hk with rfl | rfl | rfl | rfl
  all_goals
    simp only [isX, isN_iff, kidsOK, hasName, exprK]
    simp
    constructor
    · rintro ⟨h1, h2, h3, _⟩; exact ⟨⟨h2, h3⟩, h1⟩
    · rintro ⟨⟨h1, h2⟩, h3⟩; subst h3; exact ⟨rfl, h1, h2, by simp⟩
theorem isx23 {k : Int} {t : List UInt8} {n : Int} {ks : List Nd} (hk : k = 23 ∨ k = 24 ∨ k = 25) : isX ⟨k, t, n, ks⟩ ↔ (t = [] ∧ n = 0) ∧ ∃ y, ks = [y] ∧ isX y := by
  rcases hk with rfl | rfl | rfl
  all_goals
    simp only [isX, isN_iff, kidsOK, hasName, exprK]
    simp [len1]
    constructor
    · rintro ⟨⟨a, rfl⟩, h2, h3, h4⟩
      rw [all1] at h4
      simp [fitsK, exprK] at h4
      exact ⟨⟨h2, h3⟩, a, rfl, h4.2, h4.1⟩
    · rintro ⟨⟨h1, h2⟩, a, rfl, h3, h4⟩
      rw [all1]
      exact ⟨⟨a, rfl⟩, h1, h2, by simp [fitsK, exprK]; exact h4, h3⟩
theorem isx20 {k : Int} {t : List UInt8} {n : Int} {ks : List Nd} (hk : k = 20 ∨ k = 26) : isX ⟨k, t, n, ks⟩ ↔ (t = [] ∧ n = 0) ∧ ∃ y z, ks = [y, z] ∧ isX y ∧ isX z := by
  rcases hk with rfl | rfl
  all_goals
    simp only [isX, isN_iff, kidsOK, hasName, exprK]
    simp [len2]
    constructor
    · rintro ⟨⟨a, b, rfl⟩, h2, h3, h4⟩
      rw [all2] at h4
      simp [fitsK, exprK] at h4
      exact ⟨⟨h2, h3⟩, a, b, rfl, ⟨h4.1.2, h4.1.1⟩, h4.2.2, h4.2.1⟩
    · rintro ⟨⟨h1, h2⟩, a, b, rfl, ⟨h3, h4⟩, h5, h6⟩
      rw [all2]
      exact ⟨⟨a, b, rfl⟩, h1, h2, ⟨by simp [fitsK, exprK]; exact h4, h3⟩, by simp [fitsK, exprK]; exact h6, h5⟩
theorem isx22 {t : List UInt8} {n : Int} {ks : List Nd} : isX ⟨22, t, n, ks⟩ ↔ (opOf n).isSome = true ∧ t = [] ∧ ∃ y z, ks = [y, z] ∧ isX y ∧ isX z := by
  simp only [isX, isN_iff, kidsOK, hasName, exprK]
  simp [len2]
  constructor
  · rintro ⟨⟨a, b, rfl⟩, h2, h3, h4⟩
    rw [all2] at h4
    simp [fitsK, exprK] at h4
    exact ⟨h3, h2, a, b, rfl, ⟨h4.1.2, h4.1.1⟩, h4.2.2, h4.2.1⟩
  · rintro ⟨h1, h2, a, b, rfl, ⟨h3, h4⟩, h5, h6⟩
    rw [all2]
    exact ⟨⟨a, b, rfl⟩, h2, h1, ⟨by simp [fitsK, exprK]; exact h4, h3⟩, by simp [fitsK, exprK]; exact h6, h5⟩
theorem isx21 {t : List UInt8} {n : Int} {ks : List Nd} : isX ⟨21, t, n, ks⟩ ↔ (t = [] ∧ n = 0) ∧ 0 < ks.length ∧ ∀ y ∈ ks, isX y := by
  simp only [isX, isN_iff, kidsOK, hasName, exprK]
  simp
  constructor
  · rintro ⟨h1, h2, h3, h4⟩
    refine ⟨⟨h2, h3⟩, by omega, fun y hy => ?_⟩
    obtain ⟨j, hj, e⟩ := List.getElem_of_mem hy
    have := h4 j y (by rw [List.getElem?_eq_getElem hj, e])
    simp [fitsK, exprK] at this
    exact ⟨this.2, this.1⟩
  · rintro ⟨⟨h1, h2⟩, h3, h4⟩
    refine ⟨by omega, h1, h2, fun j x hx => ?_⟩
    have := h4 x (List.mem_of_getElem? hx)
    exact ⟨by simp [fitsK, exprK]; exact this.2, this.1⟩
theorem isx_no {k : Int} {t : List UInt8} {n : Int} {ks : List Nd} (h : ¬ exprK k) : ¬ isX ⟨k, t, n, ks⟩ := fun hh => h hh.2
theorem iss5 {t : List UInt8} {n : Int} {ks : List Nd} : isS ⟨5, t, n, ks⟩ ↔ (n = 0 ∧ nameB t = true) ∧ ∃ y, ks = [y] ∧ isX y := by
  simp only [isS, isX, isN_iff, kidsOK, hasName, statK]
  simp [len1]
  constructor
  · rintro ⟨⟨a, rfl⟩, h2, h3, h4⟩
    rw [all1] at h4
    simp [fitsK] at h4
    exact ⟨⟨h3, h2⟩, a, rfl, h4.2, h4.1⟩
  · rintro ⟨⟨h1, h2⟩, a, rfl, h3, h4⟩
    rw [all1]
    exact ⟨⟨a, rfl⟩, h2, h1, by simp [fitsK]; exact h4, h3⟩
theorem iss11 {k : Int} {t : List UInt8} {n : Int} {ks : List Nd} (hk : k = 11 ∨ k = 12) : isS ⟨k, t, n, ks⟩ ↔ (t = [] ∧ n = 0) ∧ ∃ y, ks = [y] ∧ isX y := by
  rcases hk with rfl | rfl
  all_goals
    simp only [isS, isX, isN_iff, kidsOK, hasName, statK]
    simp [len1]
    constructor
    · rintro ⟨⟨a, rfl⟩, h2, h3, h4⟩
      rw [all1] at h4
      simp [fitsK] at h4
      exact ⟨⟨h2, h3⟩, a, rfl, h4.2, h4.1⟩
    · rintro ⟨⟨h1, h2⟩, a, rfl, h3, h4⟩
      rw [all1]
      exact ⟨⟨a, rfl⟩, h1, h2, by simp [fitsK]; exact h4, h3⟩
abbrev isPl (y : Nd) : Prop := isX y ∧ chainC y = some 0
abbrev isCl (y : Nd) : Prop := isX y ∧ y.k = 21 ∧ (chainC y).isSome = true
theorem iss6 {t : List UInt8} {n : Int} {ks : List Nd} : isS ⟨6, t, n, ks⟩ ↔ (t = [] ∧ n = 0) ∧ ∃ y z, ks = [y, z] ∧ isPl y ∧ isX z := by
  simp only [isS, isX, isN_iff, kidsOK, hasName, statK]
  simp [len2]
  constructor
  · rintro ⟨⟨a, b, rfl⟩, h2, h3, h5, h4⟩
    rw [all2] at h4
    simp [fitsK] at h4 h5
    exact ⟨⟨h2, h3⟩, a, b, rfl, ⟨⟨h4.1.2, h4.1.1⟩, h5⟩, h4.2.2, h4.2.1⟩
  · rintro ⟨⟨h1, h2⟩, a, b, rfl, ⟨⟨h3, h4⟩, h7⟩, h5, h6⟩
    rw [all2]
    exact ⟨⟨a, b, rfl⟩, h1, h2, by simpa using h7, ⟨by simp [fitsK]; exact h4, h3⟩, by simp [fitsK]; exact h6, h5⟩
theorem iss7 {t : List UInt8} {n : Int} {ks : List Nd} : isS ⟨7, t, n, ks⟩ ↔ (t = [] ∧ n = 0) ∧ ∃ y, ks = [y] ∧ isCl y := by
  simp only [isS, isN_iff, kidsOK, hasName, statK]
  simp [len1]
  constructor
  · rintro ⟨⟨a, rfl⟩, h2, h3, h5, h4⟩
    rw [all1] at h4
    simp [fitsK] at h4 h5
    exact ⟨⟨h2, h3⟩, a, rfl, ⟨h4.2, h4.1⟩, h5.2, h5.1⟩
  · rintro ⟨⟨h1, h2⟩, a, rfl, ⟨h3, h4⟩, h5, h6⟩
    rw [all1]
    exact ⟨⟨a, rfl⟩, h1, h2, by simpa using ⟨h6, h5⟩, by simp [fitsK]; exact h4, h3⟩
theorem iss8 {t : List UInt8} {n : Int} {ks : List Nd} : isS ⟨8, t, n, ks⟩ ↔ (t = [] ∧ n = 0) ∧ ((∃ y z, ks = [y, z] ∧ isX y ∧ isK 4 z) ∨ ∃ y z v, ks = [y, z, v] ∧ isX y ∧ isK 4 z ∧ isK 4 v) := by
  simp only [isS, isX, isN_iff, kidsOK, hasName, statK]
  simp [len2, len3]
  constructor
  · rintro ⟨⟨a, b, rfl⟩ | ⟨a, b, c, rfl⟩, h2, h3, h4⟩
    · rw [all2] at h4
      simp [fitsK] at h4
      exact ⟨⟨h2, h3⟩, .inl ⟨a, b, rfl, ⟨h4.1.2, h4.1.1⟩, h4.2.2, h4.2.1⟩⟩
    · rw [all3] at h4
      simp [fitsK] at h4
      exact ⟨⟨h2, h3⟩, .inr ⟨a, b, c, rfl, ⟨h4.1.2, h4.1.1⟩, ⟨h4.2.1.2, h4.2.1.1⟩, h4.2.2.2, h4.2.2.1⟩⟩
  · rintro ⟨⟨h1, h2⟩, ⟨a, b, rfl, ⟨h3, h4⟩, h5, h6⟩ | ⟨a, b, c, rfl, ⟨h3, h4⟩, ⟨h5, h6⟩, h7, h8⟩⟩
    · rw [all2]
      exact ⟨.inl ⟨a, b, rfl⟩, h1, h2, ⟨by simp [fitsK]; exact h4, h3⟩, by simp [fitsK]; exact h6, h5⟩
    · rw [all3]
      exact ⟨.inr ⟨a, b, c, rfl⟩, h1, h2, ⟨by simp [fitsK]; exact h4, h3⟩, ⟨by simp [fitsK]; exact h6, h5⟩, by simp [fitsK]; exact h8, h7⟩
theorem iss9 {t : List UInt8} {n : Int} {ks : List Nd} : isS ⟨9, t, n, ks⟩ ↔ (t = [] ∧ n = 0) ∧ ∃ y z, ks = [y, z] ∧ isX y ∧ isK 4 z := by
  simp only [isS, isX, isN_iff, kidsOK, hasName, statK]
  simp [len2]
  constructor
  · rintro ⟨⟨a, b, rfl⟩, h2, h3, h4⟩
    rw [all2] at h4
    simp [fitsK] at h4
    exact ⟨⟨h2, h3⟩, a, b, rfl, ⟨h4.1.2, h4.1.1⟩, h4.2.2, h4.2.1⟩
  · rintro ⟨⟨h1, h2⟩, a, b, rfl, ⟨h3, h4⟩, h5, h6⟩
    rw [all2]
    exact ⟨⟨a, b, rfl⟩, h1, h2, ⟨by simp [fitsK]; exact h4, h3⟩, by simp [fitsK]; exact h6, h5⟩
theorem iss10 {t : List UInt8} {n : Int} {ks : List Nd} : isS ⟨10, t, n, ks⟩ ↔ (n = 0 ∧ nameB t = true) ∧ ∃ y z v, ks = [y, z, v] ∧ isX y ∧ isX z ∧ isK 4 v := by
  simp only [isS, isX, isN_iff, kidsOK, hasName, statK]
  simp [len3]
  constructor
  · rintro ⟨⟨a, b, c, rfl⟩, h2, h3, h4⟩
    rw [all3] at h4
    simp [fitsK] at h4
    exact ⟨⟨h3, h2⟩, a, b, c, rfl, ⟨h4.1.2, h4.1.1⟩, ⟨h4.2.1.2, h4.2.1.1⟩, h4.2.2.2, h4.2.2.1⟩
  · rintro ⟨⟨h1, h2⟩, a, b, c, rfl, ⟨h3, h4⟩, ⟨h5, h6⟩, h7, h8⟩
    rw [all3]
    exact ⟨⟨a, b, c, rfl⟩, h2, h1, ⟨by simp [fitsK]; exact h4, h3⟩, ⟨by simp [fitsK]; exact h6, h5⟩, by simp [fitsK]; exact h8, h7⟩
theorem kids_all {ks : List Nd} {p : Nd → Prop} : (∀ (j : Nat) x, ks[j]? = some x → p x) ↔ ∀ y ∈ ks, p y := by
  constructor
  · intro h y hy
    obtain ⟨j, hj, e⟩ := List.getElem_of_mem hy
    exact h j y (by rw [List.getElem?_eq_getElem hj, e])
  · intro h j x hx
    exact h x (List.mem_of_getElem? hx)
theorem isk4 {t : List UInt8} {n : Int} {ks : List Nd} : isK 4 ⟨4, t, n, ks⟩ ↔ (t = [] ∧ n = 0) ∧ ∀ y ∈ ks, isS y := by
  simp only [isK, isS, isN_iff, kidsOK, hasName]
  simp [fitsK]
  constructor
  · rintro ⟨h2, h3, h4⟩
    exact ⟨⟨h2, h3⟩, fun y hy => by have := kids_all.1 h4 y hy; exact ⟨this.2, this.1⟩⟩
  · rintro ⟨⟨h2, h3⟩, h4⟩
    exact ⟨h2, h3, fun j x hx => by have := h4 x (List.mem_of_getElem? hx); exact ⟨this.2, this.1⟩⟩
theorem isk1 {t : List UInt8} {n : Int} {ks : List Nd} : isK 1 ⟨1, t, n, ks⟩ ↔ (t = [] ∧ n = 0) ∧ ∀ y ∈ ks, isK 2 y := by
  simp only [isK, isN_iff, kidsOK, hasName]
  simp [fitsK]
  constructor
  · rintro ⟨h2, h3, h4⟩
    exact ⟨⟨h2, h3⟩, fun y hy => by have := kids_all.1 h4 y hy; exact ⟨this.2, this.1⟩⟩
  · rintro ⟨⟨h2, h3⟩, h4⟩
    exact ⟨h2, h3, fun j x hx => by have := h4 x (List.mem_of_getElem? hx); exact ⟨this.2, this.1⟩⟩
theorem isk3 {t : List UInt8} {n : Int} {ks : List Nd} : isK 3 ⟨3, t, n, ks⟩ ↔ (n = 0 ∧ nameB t = true) ∧ ks = [] := by
  simp only [isK, isN_iff, kidsOK, hasName]
  simp
  constructor
  · rintro ⟨h1, h2, h3, _⟩; exact ⟨⟨h3, h2⟩, h1⟩
  · rintro ⟨⟨h1, h2⟩, h3⟩; subst h3; exact ⟨rfl, h2, h1, by simp⟩
theorem isk2 {t : List UInt8} {n : Int} {ks : List Nd} : isK 2 ⟨2, t, n, ks⟩ ↔ (n = 0 ∧ nameB t = true) ∧ 0 < ks.length ∧ (∀ y ∈ ks.take (ks.length - 1), isK 3 y) ∧ ∀ y, ks[ks.length - 1]? = some y → isK 4 y := by
  simp only [isK, isN_iff, kidsOK, hasName]
  simp
  constructor
  · rintro ⟨h1, h2, h3, h4⟩
    refine ⟨⟨h3, h2⟩, by omega, fun y hy => ?_, fun y hy => ?_⟩
    · obtain ⟨j, hj, e⟩ := List.getElem_of_mem hy
      simp at hj e
      have := h4 j y (by rw [List.getElem?_eq_getElem (by omega), e])
      simp [fitsK] at this
      rw [if_neg (by omega)] at this
      exact ⟨this.2, this.1⟩
    · have := h4 _ y hy
      simp [fitsK] at this
      rw [if_pos (by omega)] at this
      exact ⟨this.2, this.1⟩
  · rintro ⟨⟨h1, h2⟩, h3, h4, h5⟩
    refine ⟨by omega, h2, h1, fun j x hx => ?_⟩
    have hj := (List.getElem?_eq_some_iff.1 hx).1
    by_cases e : j + 1 = ks.length
    · obtain rfl : j = ks.length - 1 := by omega
      have := h5 x hx
      refine ⟨?_, this.1⟩
      simp [fitsK]
      rw [if_pos (by omega)]
      exact this.2
    · have := h4 x (by
        refine List.mem_of_getElem? (i := j) ?_
        rw [List.getElem?_take, if_pos (by omega), hx])
      refine ⟨?_, this.1⟩
      simp [fitsK]
      rw [if_neg (by omega)]
      exact this.2
end Go.Proofs.YtbdkiimggggndaaGreatDoor
