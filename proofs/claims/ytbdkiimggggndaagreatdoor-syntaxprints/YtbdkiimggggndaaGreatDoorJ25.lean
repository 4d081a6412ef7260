/- The document's Is: its first test. What the document's Is asks of a node, in plain words. -/
import Derived.Test.YtbdkiimggggndaaGreatDoorJ19
import Derived.Test.YtbdkiimggggndaaGreatDoorJ24
import Derived.Deep.RegionHeld3
namespace Go.Proofs.YtbdkiimggggndaaGreatDoor
open Go.RowKit
open Go

/-- Is a node one of a program? -/
noncomputable def isD (n : Nd) : Bool := @decide (isN n) (Classical.propDecidable _)
theorem isD_true {n : Nd} (h : isN n) : isD n = true := @decide_eq_true _ (Classical.propDecidable _) h
theorem isD_false {n : Nd} (h : ¬ isN n) : isD n = false := @decide_eq_false _ (Classical.propDecidable _) h
theorem isD_iff (n : Nd) : isD n = true ↔ isN n := by
  by_cases h : isN n
  · simp [isD_true h, h]
  · simp [isD_false h, h]
abbrev IsC (n : Nd) : Prop := ∀ (S : Nat → Prop) (b : Option Addr) (cap : Nat) (w : World), okN n → NdV S w n (ndv n b cap) → Calls Tryz.prog 22 #[ndv n b cap] w fun e w' => e = .returned (.bool (isD n)) ∧ Below w.heap.size w w'
abbrev IsR (n : Nd) (b : Option Addr) (cap : Nat) (w : World) (ans : Bool) : Prop := Calls Tryz.prog 22 #[ndv n b cap] w fun e w' => e = .returned (.bool ans) ∧ Below w.heap.size w w'
theorem fr156 {Q : Act → World → Prop} {a : Act} {W : World} (h : a.tmps[156]? = some (.bool true)) (hs : a.tmps.size = 157) (hd : a.defers = []) (hq : ∀ fr : Act, fr.tmps[156]? = some (.bool true) → fr.tmps.size = 157 → fr.defers = [] → Q fr W) : Q a W := hq a h hs hd
theorem tail22 {fr : Act} {W : World} {Q : Exit → Act → World → Prop} (h156 : fr.tmps[156]? = some (.bool true)) (h : Q .ret (fr.put (some 2) (.bool false)) W) :
    Code.wp Tryz.prog (Code.cond (.tmp 156) ((Code.region 20 #[{ dst := some 2, op := Op.assign (Operand.const (Value.bool false)), type := 4, pos := "print.go:121", after := #[], guard := none }] false).seq Code.ret) Code.skip) Q fr W := by
  have he : fr.eval (.tmp 156) = .bool true := by simp [Act.eval, h156]
  refine wp_cond_true he ?_
  go_wp2
  exact h
theorem res22 {fr : Act} {W : World} (hs : fr.tmps.size = 157) : (results Tryz.f22 (fr.put (some 2) (.bool false)).tmps).run Tryz.prog W = .ok (.bool false) W := by
  simp [results, Tryz.results22, go_sem, Act.put, hs]
theorem def22 {fr : Act} (hd : fr.defers = []) : (fr.put (some 2) (.bool false)).defers = [] := by
  simp [Act.put, hd]
abbrev CntC (k l m : Int) (nm ok : Bool) : Prop := ∀ w : World, Calls Tryz.prog 46 #[.int .i64 k] w fun e w' => e = .returned (.tuple #[.int .i64 l, .int .i64 m, .bool nm, .bool ok]) ∧ w' = w
set_option maxRecDepth 20000 in
set_option maxHeartbeats 1000000 in
theorem is_a1 (n : Nd) (b : Option Addr) (cap : Nat) (w : World) (l m : Int) (nm : Bool) (hC : CntC n.k l m nm false) : IsR n b cap w false := by
  go_enter Tryz.func22, Tryz.ntmps22
  go_wp2_with (go_at_call 46; refine (hC _).mono ?_; rintro e w' ⟨rfl, rfl⟩)
  go_ret
  exact ⟨rfl, ext_alloc (Below.refl _ _) _⟩
set_option maxRecDepth 20000 in
set_option maxHeartbeats 1000000 in
theorem is_a2 (n : Nd) (b : Option Addr) (cap : Nat) (w : World) (l m : Int) (nm : Bool) (hC : CntC n.k l m nm true) (h1 : (n.kids.length : Int) < l) : IsR n b cap w false := by
  go_enter Tryz.func22, Tryz.ntmps22
  go_wp2_with (go_at_call 46; refine (hC _).mono ?_; rintro e w' ⟨rfl, rfl⟩)
  go_ret
  exact ⟨rfl, ext_alloc (Below.refl _ _) _⟩
set_option maxRecDepth 20000 in
set_option maxHeartbeats 1000000 in
theorem is_a3 (n : Nd) (b : Option Addr) (cap : Nat) (w : World) (l m : Int) (nm : Bool) (hC : CntC n.k l m nm true) (h1 : ¬ (n.kids.length : Int) < l) (h2 : 0 ≤ m) (h3 : m < (n.kids.length : Int)) : IsR n b cap w false := by
  go_enter Tryz.func22, Tryz.ntmps22
  go_wp2_with (go_at_call 46; refine (hC _).mono ?_; rintro e w' ⟨rfl, rfl⟩)
  go_ret
  exact ⟨rfl, ext_alloc (Below.refl _ _) _⟩
end Go.Proofs.YtbdkiimggggndaaGreatDoor
namespace Go.Proofs.YtbdkiimggggndaaGreatDoor
open Go.RowKit
open Go

/-- All but the kids. -/
def HD (k : Int) (t : List UInt8) (o : Int) (ks : List Nd) : Prop :=
  kidsOK k ks.length ∧ (hasName k → nameB t = true) ∧ (¬ hasName k → k ≠ 14 → t = []) ∧ ((k = 22 → (opOf o).isSome = true) ∧ (k = 14 → quotB t = true)) ∧ (k = 13 → 0 ≤ o ∧ o ≤ 9223372036854775807) ∧ (k ≠ 22 → k ≠ 13 → o = 0) ∧
    (k = 6 → (ks.head?.bind chainC) = some 0) ∧ (k = 7 → (ks.head?.bind chainC).isSome = true ∧ ks.head?.map (fun x => x.k) = some 21)
theorem isN_head (k : Int) (t : List UInt8) (o : Int) (ks : List Nd) : isN ⟨k, t, o, ks⟩ ↔ HD k t o ks ∧ ∀ j y, ks[j]? = some y → (fitsKB k ks.length j y.k && isD y) = true := by
  rw [isN, isN_go]
  have e : (∀ j x, ks[j]? = some x → fitsK k ks.length (0 + j) x.k ∧ isN x) ↔ ∀ j y, ks[j]? = some y → (fitsKB k ks.length j y.k && isD y) = true := by
    simp only [Nat.zero_add, Bool.and_eq_true, fitsKB_iff, isD_iff]
  rw [e]
  unfold HD
  constructor
  · rintro ⟨h1, h2, h3, h4, h5, h6, h7, h8, h9⟩
    exact ⟨⟨h1, h2, h3, h4, h5, h6, h7, h8⟩, h9⟩
  · rintro ⟨⟨h1, h2, h3, h4, h5, h6, h7, h8⟩, h9⟩
    exact ⟨h1, h2, h3, h4, h5, h6, h7, h8, h9⟩
theorem no_head {k : Int} {t : List UInt8} {o : Int} {ks : List Nd} (h : ¬ HD k t o ks) : isD ⟨k, t, o, ks⟩ = false := isD_false fun h' => h ((isN_head k t o ks).1 h').1
theorem head_yes {k : Int} {t : List UInt8} {o : Int} {ks : List Nd} (h : HD k t o ks) : (∀ j y, ks[j]? = some y → (fitsKB k ks.length j y.k && isD y) = true) → isD ⟨k, t, o, ks⟩ = true := fun h' => isD_true ((isN_head k t o ks).2 ⟨h, h'⟩)
theorem head_no {k : Int} {t : List UInt8} {o : Int} {ks : List Nd} : ∀ j y, ks[j]? = some y → (fitsKB k ks.length j y.k && isD y) = false → isD ⟨k, t, o, ks⟩ = false := fun j y hy hb => isD_false fun h => by
  have := ((isN_head k t o ks).1 h).2 j y hy
  rw [hb] at this
  cases this

theorem cnt_far {k : Int} (h : ¬ (1 ≤ k ∧ k ≤ 26)) : cntR k = (0, 0, false, false) := by
  unfold cntR
  rw [if_neg (by omega), if_neg (by omega), if_neg (by omega), if_neg (by omega), if_neg (by omega), if_neg (by omega), if_neg (by omega), if_neg (by omega), if_neg (by omega), if_neg (by omega)]
theorem kinds26 {k : Int} (h : 1 ≤ k ∧ k ≤ 26) : k = 1 ∨ k = 2 ∨ k = 3 ∨ k = 4 ∨ k = 5 ∨ k = 6 ∨ k = 7 ∨ k = 8 ∨ k = 9 ∨ k = 10 ∨ k = 11 ∨ k = 12 ∨ k = 13 ∨ k = 14 ∨ k = 15 ∨ k = 16 ∨ k = 17 ∨ k = 18 ∨ k = 19 ∨ k = 20 ∨ k = 21 ∨ k = 22 ∨ k = 23 ∨ k = 24 ∨ k = 25 ∨ k = 26 := by omega
theorem cnt_kids (k : Int) (len : Nat) : kidsOK k len ↔ (cntR k).2.2.2 = true ∧ ¬ (len : Int) < (cntR k).1 ∧ ((cntR k).2.1 < 0 ∨ ¬ (cntR k).2.1 < (len : Int)) := by
  by_cases h : 1 ≤ k ∧ k ≤ 26
  · rcases kinds26 h with rfl | rfl | rfl | rfl | rfl | rfl | rfl | rfl | rfl | rfl | rfl | rfl | rfl | rfl | rfl | rfl | rfl | rfl | rfl | rfl | rfl | rfl | rfl | rfl | rfl | rfl
    all_goals
      simp [kidsOK, cntR]
      try omega
  · rw [cnt_far h]
    simp [kidsOK]
    omega
theorem cnt_name (k : Int) : (cntR k).2.2.1 = true ↔ hasName k := by
  by_cases h : 1 ≤ k ∧ k ≤ 26
  · rcases kinds26 h with rfl | rfl | rfl | rfl | rfl | rfl | rfl | rfl | rfl | rfl | rfl | rfl | rfl | rfl | rfl | rfl | rfl | rfl | rfl | rfl | rfl | rfl | rfl | rfl | rfl | rfl
    all_goals simp [hasName, cntR]
  · rw [cnt_far h]
    simp [hasName]
    omega
theorem name_kinds {k : Int} (h : hasName k) : (k == 14) = false ∧ (k == 22) = false ∧ (k == 13) = false ∧ (k == 6) = false ∧ (k == 7) = false := by
  unfold hasName at h
  refine ⟨?_, ?_, ?_, ?_, ?_⟩ <;> (simp; omega)
theorem sign_ne {o : Int} {s : List UInt8} {k : Nat} (h : opOf o = some (s, k)) : ∃ x l, s = x :: l := by
  unfold opOf at h
  obtain ⟨p, hp, e⟩ := Option.map_eq_some_iff.1 h
  have hm := List.mem_of_find?_eq_some hp
  have : ∀ p ∈ opsL, p.1 ≠ [] := by decide
  have h1 := this p hm
  cases e
  cases e2 : p.1 with
  | nil => exact absurd e2 h1
  | cons x l => exact ⟨x, l, rfl⟩
end Go.Proofs.YtbdkiimggggndaaGreatDoor
