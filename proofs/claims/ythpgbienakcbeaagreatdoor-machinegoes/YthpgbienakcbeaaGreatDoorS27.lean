/- What an operation makes of two values: one answer, whatever the world. -/
import Derived.Test.YthpgbienakcbeaaGreatDoorS02
import Derived.Test.YthpgbienakcbeaaGreatDoorS26
namespace Go.Proofs.YthpgbienakcbeaaGreatDoor
open Go.RowKit Go
set_option maxRecDepth 100000
set_option maxHeartbeats 8000000
set_option linter.all false
variable {n k op : Int} {s : ByteArray} {x y : Vl}
theorem wf64 (h : (Lit.int .i64 n).wf = true) : -9223372036854775808 ≤ n ∧ n ≤ 9223372036854775807 := by
 have h' : (decide ((-9223372036854775808 : Int) ≤ n) && decide (n ≤ 9223372036854775807)) = true := h
 simpa using h'
theorem a3w {a b : ByteArray} (h : a.toList = b.toList) : a = b := WideShapes.bytes_inj (by rwa [ByteArray.toList_eq, ByteArray.toList_eq] at h)
theorem b1q (h : mayB 3 n s = true) : s.size ≤ 300 := by
 unfold mayB at h
 rw [if_pos rfl] at h
 simp at h
 omega
theorem a9u (h : mayB k n s = true) (hn : -9223372036854775808 ≤ n ∧ n ≤ 9223372036854775807) : (a3n k n s).size ≤ 300 := by
 unfold a3n
 rw [if_neg (by rw [h]; decide)]
 split
 ·decide
 ·split
  ·split <;> decide
  ·split
   ·have e : (ByteArray.mk (Lib.itoa n).toArray).size = (Lib.itoa n).length := rfl
    have := Lib.itoa_length_le n hn.1 hn.2
    omega
   ·split
    ·rename_i h3
     subst h3
     exact b1q h
    ·split <;> decide
def OC (op : Int) (x y : Vl) (k n er : Int) (s : ByteArray) : Prop :=
 ∀ w, PTab w → Calls Tryz.prog 122 #[.int .i64 op, x.v, y.v] w fun e w' => e = .returned (.tuple #[val k n s, .int .i64 er]) ∧ Below w.heap.size w w'
def OX (op : Int) (x y : Vl) : Prop := ∃ (r : Vl) (er : Int), OC op x y r.k r.n er r.s ∧ (er = 0 → mayB r.k r.n r.s = true ∧ ¬ r.k = 4 ∧ ¬ r.k = 5) ∧
 ((1 ≤ op ∧ op ≤ 11 ∧ mayB x.k x.n x.s = true ∧ mayB y.k y.n y.s = true) → er = 0 ∨ er = 1 ∨ er = 3 ∨ er = 7)
theorem a2u {er : Int} (h : OC op x y 0 0 er ⟨#[]⟩) (he : er = 1 ∨ er = 3 ∨ er = 7) : OX op x y :=
 ⟨⟨0, 0, ⟨#[]⟩, by decide, by decide, by decide⟩, er, h, fun e => by omega, fun _ => .inr he⟩
theorem c4w (h : OC op x y 0 0 2 ⟨#[]⟩) (hn : ¬ (1 ≤ op ∧ op ≤ 11 ∧ mayB x.k x.n x.s = true ∧ mayB y.k y.n y.s = true)) : OX op x y :=
 ⟨⟨0, 0, ⟨#[]⟩, by decide, by decide, by decide⟩, 2, h, fun e => by omega, fun e => absurd e hn⟩
theorem b0s (h : OC op x y 2 (wrap64 n) 0 ⟨#[]⟩) : OX op x y :=
 ⟨⟨2, wrap64 n, ⟨#[]⟩, by decide, RowKit.wrap64_wf _, by decide⟩, 0, h, fun _ => ⟨by simp [mayB], by simp, by simp⟩, fun _ => .inl rfl⟩
theorem a2o (h : OC op x y 1 n 0 ⟨#[]⟩) (hn : n = 0 ∨ n = 1) : OX op x y := by
 rcases hn with rfl | rfl
 ·exact ⟨⟨1, 0, ⟨#[]⟩, by decide, by decide, by decide⟩, 0, h, fun _ => ⟨by simp [mayB], by simp, by simp⟩, fun _ => .inl rfl⟩
 ·exact ⟨⟨1, 1, ⟨#[]⟩, by decide, by decide, by decide⟩, 0, h, fun _ => ⟨by simp [mayB], by simp, by simp⟩, fun _ => .inl rfl⟩
theorem d1v (h : OC op x y 3 0 0 s) (hs : s.size ≤ 300) : OX op x y :=
 ⟨⟨3, 0, s, by decide, by decide, by unfold maxLen; omega⟩, 0, h, fun _ => ⟨by simp [mayB]; omega, by simp, by simp⟩, fun _ => .inl rfl⟩
theorem ox1 (x y : Vl) (ha : mayB x.k x.n x.s = true) (hb : mayB y.k y.n y.s = true) : OX 1 x y := by
 by_cases h : x.k = 2
 ·by_cases h' : y.k = 2
  ·exact b0s (fun w1 _ => a4f x.k x.n y.k y.n x.s y.s _ _ _ _ w1 ha hb (fun w => b0i x.k x.n y.k y.n x.s y.s w (by simpa using h) (by simpa using h')))
  ·exact a2u (fun w1 _ => a4f x.k x.n y.k y.n x.s y.s _ _ _ _ w1 ha hb (fun w => a2x 1 x.k x.n y.k y.n x.s y.s w (by simpa using h) (by simpa using h'))) (by omega)
 ·exact a2u (fun w1 _ => a4f x.k x.n y.k y.n x.s y.s _ _ _ _ w1 ha hb (fun w => a3r 1 x.k x.n y.k y.n x.s y.s w (by simpa using h))) (by omega)
theorem ox2 (x y : Vl) (ha : mayB x.k x.n x.s = true) (hb : mayB y.k y.n y.s = true) : OX 2 x y := by
 by_cases h : x.k = 2
 ·by_cases h' : y.k = 2
  ·exact b0s (fun w1 _ => a4g x.k x.n y.k y.n x.s y.s _ _ _ _ w1 ha hb (fun w => a6h x.k x.n y.k y.n x.s y.s w (by simpa using h) (by simpa using h')))
  ·exact a2u (fun w1 _ => a4g x.k x.n y.k y.n x.s y.s _ _ _ _ w1 ha hb (fun w => a2x 2 x.k x.n y.k y.n x.s y.s w (by simpa using h) (by simpa using h'))) (by omega)
 ·exact a2u (fun w1 _ => a4g x.k x.n y.k y.n x.s y.s _ _ _ _ w1 ha hb (fun w => a3r 2 x.k x.n y.k y.n x.s y.s w (by simpa using h))) (by omega)
theorem ox3 (x y : Vl) (ha : mayB x.k x.n x.s = true) (hb : mayB y.k y.n y.s = true) : OX 3 x y := by
 by_cases h : x.k = 2
 ·by_cases h' : y.k = 2
  ·exact b0s (fun w1 _ => a4h x.k x.n y.k y.n x.s y.s _ _ _ _ w1 ha hb (fun w => b0j x.k x.n y.k y.n x.s y.s w (by simpa using h) (by simpa using h')))
  ·exact a2u (fun w1 _ => a4h x.k x.n y.k y.n x.s y.s _ _ _ _ w1 ha hb (fun w => a2x 3 x.k x.n y.k y.n x.s y.s w (by simpa using h) (by simpa using h'))) (by omega)
 ·exact a2u (fun w1 _ => a4h x.k x.n y.k y.n x.s y.s _ _ _ _ w1 ha hb (fun w => a3r 3 x.k x.n y.k y.n x.s y.s w (by simpa using h))) (by omega)
theorem ox4 (x y : Vl) (ha : mayB x.k x.n x.s = true) (hb : mayB y.k y.n y.s = true) : OX 4 x y := by
 by_cases h : x.k = 2
 ·by_cases h' : y.k = 2
  ·rcases Bool.eq_false_or_eq_true (y.n == 0) with z | z
   ·exact a2u (fun w1 _ => a3c x.k x.n y.k y.n x.s y.s _ _ _ _ w1 ha hb (fun w => a9i x.k x.n y.k y.n x.s y.s w (by simpa using h) (by simpa using h') z)) (by omega)
   ·exact b0s (fun w1 _ => a3c x.k x.n y.k y.n x.s y.s _ _ _ _ w1 ha hb (fun w => b0k x.k x.n y.k y.n x.s y.s w (by simpa using h) (by simpa using h') z))
  ·exact a2u (fun w1 _ => a3c x.k x.n y.k y.n x.s y.s _ _ _ _ w1 ha hb (fun w => a2x 4 x.k x.n y.k y.n x.s y.s w (by simpa using h) (by simpa using h'))) (by omega)
 ·exact a2u (fun w1 _ => a3c x.k x.n y.k y.n x.s y.s _ _ _ _ w1 ha hb (fun w => a3r 4 x.k x.n y.k y.n x.s y.s w (by simpa using h))) (by omega)
theorem ox5 (x y : Vl) (ha : mayB x.k x.n x.s = true) (hb : mayB y.k y.n y.s = true) : OX 5 x y := by
 by_cases h : x.k = 2
 ·by_cases h' : y.k = 2
  ·rcases Bool.eq_false_or_eq_true (y.n == 0) with z | z
   ·exact a2u (fun w1 _ => a3d x.k x.n y.k y.n x.s y.s _ _ _ _ w1 ha hb (fun w => a9j x.k x.n y.k y.n x.s y.s w (by simpa using h) (by simpa using h') z)) (by omega)
   ·exact b0s (fun w1 _ => a3d x.k x.n y.k y.n x.s y.s _ _ _ _ w1 ha hb (fun w => b0l x.k x.n y.k y.n x.s y.s w (by simpa using h) (by simpa using h') z))
  ·exact a2u (fun w1 _ => a3d x.k x.n y.k y.n x.s y.s _ _ _ _ w1 ha hb (fun w => a2x 5 x.k x.n y.k y.n x.s y.s w (by simpa using h) (by simpa using h'))) (by omega)
 ·exact a2u (fun w1 _ => a3d x.k x.n y.k y.n x.s y.s _ _ _ _ w1 ha hb (fun w => a3r 5 x.k x.n y.k y.n x.s y.s w (by simpa using h))) (by omega)
theorem ox11 (x y : Vl) (ha : mayB x.k x.n x.s = true) (hb : mayB y.k y.n y.s = true) : OX 11 x y := by
 by_cases h : x.k = 2
 ·exact b0s (fun w1 _ => b5o x.k x.n y.k y.n x.s y.s _ _ _ _ w1 ha hb (fun w => a6h 2 0 x.k x.n _ x.s w rfl (by simpa using h)))
 ·exact a2u (fun w1 _ => b5o x.k x.n y.k y.n x.s y.s _ _ _ _ w1 ha hb (fun w => a2x 2 2 0 x.k x.n _ x.s w rfl (by simpa using h))) (by omega)
theorem ox10 (x y : Vl) (ha : mayB x.k x.n x.s = true) (hb : mayB y.k y.n y.s = true) : OX 10 x y := by
 rcases Bool.eq_false_or_eq_true (truthB x.k x.n x.s) with t | t
 ·exact a2o (fun w1 _ => b5m x.k x.n y.k y.n x.s y.s w1 ha hb t) (by omega)
 ·exact a2o (fun w1 _ => b5n x.k x.n y.k y.n x.s y.s w1 ha hb t) (by omega)
theorem ox7 (x y : Vl) (ha : mayB x.k x.n x.s = true) (hb : mayB y.k y.n y.s = true) : OX 7 x y := by
 obtain ⟨k, n, s, wk, wn, ws⟩ := x
 obtain ⟨k', n', s', wk', wn', ws'⟩ := y
 simp only at ha hb
 by_cases h : k = k'
 ·subst h
  by_cases h2 : n = n'
  ·subst h2
   by_cases h3 : s.toList = s'.toList
   ·obtain rfl := a3w h3
    exact a2o (fun w1 _ => b2h k n s w1 ha hb) (by omega)
   ·exact a2o (fun w1 _ => b2k k n s s' w1 ha hb h3) (by omega)
  ·exact a2o (fun w1 _ => b2j k n n' s s' w1 ha hb h2) (by omega)
 ·exact a2o (fun w1 _ => b2i k n k' n' s s' w1 ha hb h) (by omega)
theorem ox8 (x y : Vl) (ha : mayB x.k x.n x.s = true) (hb : mayB y.k y.n y.s = true) : OX 8 x y := by
 obtain ⟨k, n, s, wk, wn, ws⟩ := x
 obtain ⟨k', n', s', wk', wn', ws'⟩ := y
 simp only at ha hb
 by_cases h2 : k = 2
 ·by_cases h2' : k' = 2
  ·by_cases l : n < n'
   ·exact a2o (fun w1 _ => a1u k n k' n' s s' _ _ _ _ w1 ha hb (fun w => a7h k n k' n' s s' w (by simpa using h2) (by simpa using h2') l)) (by omega)
   ·by_cases g : n' < n
    ·exact a2o (fun w1 _ => a1u k n k' n' s s' _ _ _ _ w1 ha hb (fun w => a7k k n k' n' s s' w (by simpa using h2) (by simpa using h2') g)) (by omega)
    ·obtain rfl : n = n' := by omega
     exact a2o (fun w1 _ => a1u k n k' n s s' _ _ _ _ w1 ha hb (fun w => a7m k n k' s s' w (by simpa using h2) (by simpa using h2'))) (by omega)
  ·exact a2u (fun w1 _ => a1u k n k' n' s s' _ _ _ _ w1 ha hb (fun w => a8y 8 k n k' n' s s' w (by simpa using h2) (by simpa using h2') (by simp [h2]))) (by omega)
 ·by_cases h3 : k = 3
  ·by_cases h3' : k' = 3
   ·rcases Bool.eq_false_or_eq_true (Op.bytesLess s.toList s'.toList) with l | l
    ·exact a2o (fun w1 _ => a1u k n k' n' s s' _ _ _ _ w1 ha hb (fun w => a7o k n k' n' s s' w (by simpa using h3) (by simpa using h3') (by simpa using h2) l)) (by omega)
    ·rcases Bool.eq_false_or_eq_true (s.toList == s'.toList) with e | e
     ·exact a2o (fun w1 _ => a1u k n k' n' s s' _ _ _ _ w1 ha hb (fun w => a7t k n k' n' s s' w (by simpa using h3) (by simpa using h3') (by simpa using h2) l e)) (by omega)
     ·exact a2o (fun w1 _ => a1u k n k' n' s s' _ _ _ _ w1 ha hb (fun w => a7r k n k' n' s s' w (by simpa using h3) (by simpa using h3') (by simpa using h2) l e)) (by omega)
   ·exact a2u (fun w1 _ => a1u k n k' n' s s' _ _ _ _ w1 ha hb (fun w => a8x 8 k n k' n' s s' w (by simpa using h2) (by simpa using h3) (by simpa using h3'))) (by omega)
  ·exact a2u (fun w1 _ => a1u k n k' n' s s' _ _ _ _ w1 ha hb (fun w => a8w 8 k n k' n' s s' w (by simpa using h2) (by simpa using h3))) (by omega)
theorem ox9 (x y : Vl) (ha : mayB x.k x.n x.s = true) (hb : mayB y.k y.n y.s = true) : OX 9 x y := by
 obtain ⟨k, n, s, wk, wn, ws⟩ := x
 obtain ⟨k', n', s', wk', wn', ws'⟩ := y
 simp only at ha hb
 by_cases h2 : k = 2
 ·by_cases h2' : k' = 2
  ·by_cases l : n < n'
   ·exact a2o (fun w1 _ => a1v k n k' n' s s' _ _ _ _ w1 ha hb (fun w => a7i k n k' n' s s' w (by simpa using h2) (by simpa using h2') l)) (by omega)
   ·by_cases g : n' < n
    ·exact a2o (fun w1 _ => a1v k n k' n' s s' _ _ _ _ w1 ha hb (fun w => a7l k n k' n' s s' w (by simpa using h2) (by simpa using h2') g)) (by omega)
    ·obtain rfl : n = n' := by omega
     exact a2o (fun w1 _ => a1v k n k' n s s' _ _ _ _ w1 ha hb (fun w => a7u k n k' s s' w (by simpa using h2) (by simpa using h2'))) (by omega)
  ·exact a2u (fun w1 _ => a1v k n k' n' s s' _ _ _ _ w1 ha hb (fun w => a8y 9 k n k' n' s s' w (by simpa using h2) (by simpa using h2') (by simp [h2]))) (by omega)
 ·by_cases h3 : k = 3
  ·by_cases h3' : k' = 3
   ·rcases Bool.eq_false_or_eq_true (Op.bytesLess s.toList s'.toList) with l | l
    ·exact a2o (fun w1 _ => a1v k n k' n' s s' _ _ _ _ w1 ha hb (fun w => a7p k n k' n' s s' w (by simpa using h3) (by simpa using h3') (by simpa using h2) l)) (by omega)
    ·rcases Bool.eq_false_or_eq_true (s.toList == s'.toList) with e | e
     ·exact a2o (fun w1 _ => a1v k n k' n' s s' _ _ _ _ w1 ha hb (fun w => a7v k n k' n' s s' w (by simpa using h3) (by simpa using h3') (by simpa using h2) l e)) (by omega)
     ·exact a2o (fun w1 _ => a1v k n k' n' s s' _ _ _ _ w1 ha hb (fun w => a7s k n k' n' s s' w (by simpa using h3) (by simpa using h3') (by simpa using h2) l e)) (by omega)
   ·exact a2u (fun w1 _ => a1v k n k' n' s s' _ _ _ _ w1 ha hb (fun w => a8x 9 k n k' n' s s' w (by simpa using h2) (by simpa using h3) (by simpa using h3'))) (by omega)
  ·exact a2u (fun w1 _ => a1v k n k' n' s s' _ _ _ _ w1 ha hb (fun w => a8w 9 k n k' n' s s' w (by simpa using h2) (by simpa using h3))) (by omega)
theorem ox6 (x y : Vl) (ha : mayB x.k x.n x.s = true) (hb : mayB y.k y.n y.s = true) : OX 6 x y := by
 have na := wf64 x.wn
 have nb := wf64 y.wn
 by_cases h : x.k = 2 ∨ x.k = 3
 ·by_cases h' : y.k = 2 ∨ y.k = 3
  ·have la := a9u ha na
   have lb := a9u hb nb
   by_cases z : (a3n x.k x.n x.s).size + (a3n y.k y.n y.s).size ≤ 300
   ·exact d1v (fun w1 ht => a4c x.k x.n y.k y.n x.s y.s _ _ _ _ w1 ha hb (fun w2 e2 => b9z x.k x.n y.k y.n x.s y.s _ _ w2 (by simpa using h) (by simpa using h') (fun w3 e3 => a5p _ _ _ w3 na.1 na.2 (ht.on (a0b e2 e3))) (fun w3 e3 => a5p _ _ _ w3 nb.1 nb.2 (ht.on (a0b e2 e3))) z)) (by rw [ByteArray.size_append]; exact z)
   ·exact a2u (fun w1 ht => a4c x.k x.n y.k y.n x.s y.s _ _ _ _ w1 ha hb (fun w2 e2 => b5p x.k x.n y.k y.n x.s y.s _ _ w2 (by simpa using h) (by simpa using h') (fun w3 e3 => a5p _ _ _ w3 na.1 na.2 (ht.on (a0b e2 e3))) (fun w3 e3 => a5p _ _ _ w3 nb.1 nb.2 (ht.on (a0b e2 e3))) la lb (by omega))) (by omega)
  ·exact a2u (fun w1 _ => a4c x.k x.n y.k y.n x.s y.s _ _ _ _ w1 ha hb (fun w2 _ => c7c x.k x.n y.k y.n x.s y.s w2 (by simpa using h) (by simpa using h'))) (by omega)
 ·exact a2u (fun w1 _ => a4c x.k x.n y.k y.n x.s y.s _ _ _ _ w1 ha hb (fun w2 _ => b9y x.k x.n y.k y.n x.s y.s w2 (by simpa using h))) (by omega)
theorem d3m (op : Int) (x y : Vl) : OX op x y := by
 by_cases h1 : op < 1
 ·exact c4w (fun w _ => c7a op x.k x.n y.k y.n x.s y.s w h1) (by omega)
 by_cases h2 : 11 < op
 ·exact c4w (fun w _ => b8a op x.k x.n y.k y.n x.s y.s w h2) (by omega)
 cases ha : mayB x.k x.n x.s
 ·exact c4w (fun w _ => op_a op x.k x.n y.k y.n x.s y.s w (by omega) (by omega) ha) (fun h => by rw [ha] at h; cases h.2.2.1)
 cases hb : mayB y.k y.n y.s
 ·exact c4w (fun w _ => op_b op x.k x.n y.k y.n x.s y.s w (by omega) (by omega) ha hb) (fun h => by rw [hb] at h; cases h.2.2.2)
 have : op = 1 ∨ op = 2 ∨ op = 3 ∨ op = 4 ∨ op = 5 ∨ op = 6 ∨ op = 7 ∨ op = 8 ∨ op = 9 ∨ op = 10 ∨ op = 11 := by omega
 rcases this with rfl | rfl | rfl | rfl | rfl | rfl | rfl | rfl | rfl | rfl | rfl
 ·exact ox1 x y ha hb
 ·exact ox2 x y ha hb
 ·exact ox3 x y ha hb
 ·exact ox4 x y ha hb
 ·exact ox5 x y ha hb
 ·exact ox6 x y ha hb
 ·exact ox7 x y ha hb
 ·exact ox8 x y ha hb
 ·exact ox9 x y ha hb
 ·exact ox10 x y ha hb
 ·exact ox11 x y ha hb
structure OpF (F : Int → Vl → Vl → Vl × Int) : Prop where
 c : ∀ (op : Int) (x y : Vl) (w : World), PTab w → Calls Tryz.prog 122 #[.int .i64 op, x.v, y.v] w fun e w' => e = .returned (.tuple #[(F op x y).1.v, .int .i64 (F op x y).2]) ∧ Below w.heap.size w w'
 m : ∀ (op : Int) (x y : Vl), (F op x y).2 = 0 → mayB (F op x y).1.k (F op x y).1.n (F op x y).1.s = true ∧ ¬ (F op x y).1.k = 4 ∧ ¬ (F op x y).1.k = 5
 e : ∀ (op : Int) (x y : Vl), (1 ≤ op ∧ op ≤ 11 ∧ mayB x.k x.n x.s = true ∧ mayB y.k y.n y.s = true) → (F op x y).2 = 0 ∨ (F op x y).2 = 1 ∨ (F op x y).2 = 3 ∨ (F op x y).2 = 7
theorem d1w : ∃ F, OpF F := by
 have h : ∀ (op : Int) (x y : Vl), ∃ r : Vl × Int, (∀ w, PTab w → Calls Tryz.prog 122 #[.int .i64 op, x.v, y.v] w fun e w' => e = .returned (.tuple #[r.1.v, .int .i64 r.2]) ∧ Below w.heap.size w w') ∧ (r.2 = 0 → mayB r.1.k r.1.n r.1.s = true ∧ ¬ r.1.k = 4 ∧ ¬ r.1.k = 5) ∧
   ((1 ≤ op ∧ op ≤ 11 ∧ mayB x.k x.n x.s = true ∧ mayB y.k y.n y.s = true) → r.2 = 0 ∨ r.2 = 1 ∨ r.2 = 3 ∨ r.2 = 7) := fun op x y => by
  obtain ⟨r, er, h1, h2, h3⟩ := d3m op x y
  exact ⟨(r, er), h1, h2, h3⟩
 exact ⟨fun op x y => Classical.choose (h op x y), fun op x y w hw => (Classical.choose_spec (h op x y)).1 w hw, fun op x y => (Classical.choose_spec (h op x y)).2.1, fun op x y => (Classical.choose_spec (h op x y)).2.2⟩
theorem d3n (ka na kb nb : Int) (sa sb : ByteArray) (ha : mayB ka na sa = true) (hb : mayB kb nb sb = true) (h : ¬ (ka = kb ∧ na = nb ∧ sa.toList = sb.toList)) (w : World) : Calls Tryz.prog 122 #[.int .i64 7, val ka na sa, val kb nb sb] w fun e w' => e = .returned (.tuple #[val 1 0 ⟨#[]⟩, .int .i64 0]) ∧ Below w.heap.size w w' := by
 by_cases hk : ka = kb
 ·subst hk
  by_cases hn : na = nb
  ·subst hn
   exact b2k ka na sa sb w ha hb (fun hs => h ⟨rfl, rfl, hs⟩)
  ·exact b2j ka na nb sa sb w ha hb hn
 ·exact b2i ka na kb nb sa sb w ha hb hk
theorem a8b (h : mayB 2 n s = true) : s.toList = [] := by
 unfold mayB at h
 rw [if_neg (by decide)] at h
 rcases Bool.eq_false_or_eq_true s.toList.isEmpty with e | e
 ·simpa using e
 ·rw [if_pos e] at h; cases h
theorem a9b (h : mayB 3 n s = true) : n = 0 := by
 unfold mayB at h
 rw [if_pos rfl] at h
 simp at h
 exact h.1
theorem a4s (h : mayB 3 n s = true) : s.size ≤ 300 := by
 unfold mayB at h
 rw [if_pos rfl] at h
 simp at h
 omega
theorem b0t (h : mayB k n s = true) (hn : In64 n) (hk : k = 2 ∨ k = 3) : (a3n k n s).size ≤ 300 := by
 unfold a3n
 rw [if_neg (by rw [h]; decide)]
 rcases hk with rfl | rfl
 ·rw [if_neg (by decide), if_neg (by decide), if_pos rfl]
  have e : (ByteArray.mk (Lib.itoa n).toArray).size = (Lib.itoa n).length := rfl
  have := Lib.itoa_length_le n hn.1 hn.2
  omega
 ·rw [if_neg (by decide), if_neg (by decide), if_neg (by decide), if_pos rfl]
  exact a4s h
variable {k n k' n' : Int} {s s' : ByteArray} {w : World}
def Both (op k n k' n' : Int) (s s' : ByteArray) (w : World) : Prop :=
 ∃ (k3 n3 er : Int) (s3 : ByteArray),
  (∀ w1, Below w.heap.size w w1 → Calls Tryz.prog 122 #[.int .i64 op, val k n s, val k' n' s'] w1 fun e w' => e = .returned (.tuple #[val k3 n3 s3, .int .i64 er]) ∧ Below w1.heap.size w1 w') ∧
  (∀ w1, Calls Tryz.prog 55 #[.int .i64 op, val k n s, val k' n' s'] w1 fun e w' => e = .returned (.tuple #[val k3 n3 s3, .int .i64 er]) ∧ Below w1.heap.size w1 w')
theorem d3o (hv : V2 k n k' n' s s') : Both 1 k n k' n' s s' w := by
 obtain ⟨hna, hnb, ha, hb⟩ := id hv
 by_cases h : k = 2
 ·by_cases h' : k' = 2
  ·exact ⟨_, _, _, _, fun w1 _ => a4f k n k' n' s s' _ _ _ _ w1 ha hb (fun w => b0i k n k' n' s s' w (by simpa using h) (by simpa using h')),
    fun w1 => a2e (by decide) (by decide) hv (by simp [a2w, h, h']) rfl rq1 w1⟩
  ·exact ⟨_, _, _, _, fun w1 _ => a4f k n k' n' s s' _ _ _ _ w1 ha hb (fun w => a2x 1 k n k' n' s s' w (by simpa using h) (by simpa using h')),
    fun w1 => a2e (by decide) (by decide) hv (by simp [a2w, h, h']) rfl (a4r (by simp)) w1⟩
 ·exact ⟨_, _, _, _, fun w1 _ => a4f k n k' n' s s' _ _ _ _ w1 ha hb (fun w => a3r 1 k n k' n' s s' w (by simpa using h)),
   fun w1 => a2e (by decide) (by decide) hv (by simp [a2w, h]) rfl (a4r (by simp)) w1⟩
theorem d3p (hv : V2 k n k' n' s s') : Both 2 k n k' n' s s' w := by
 obtain ⟨hna, hnb, ha, hb⟩ := id hv
 by_cases h : k = 2
 ·by_cases h' : k' = 2
  ·exact ⟨_, _, _, _, fun w1 _ => a4g k n k' n' s s' _ _ _ _ w1 ha hb (fun w => a6h k n k' n' s s' w (by simpa using h) (by simpa using h')),
    fun w1 => a2e (by decide) (by decide) hv (by simp [a2w, h, h']) rfl rq2 w1⟩
  ·exact ⟨_, _, _, _, fun w1 _ => a4g k n k' n' s s' _ _ _ _ w1 ha hb (fun w => a2x 2 k n k' n' s s' w (by simpa using h) (by simpa using h')),
    fun w1 => a2e (by decide) (by decide) hv (by simp [a2w, h, h']) rfl (a4r (by simp)) w1⟩
 ·exact ⟨_, _, _, _, fun w1 _ => a4g k n k' n' s s' _ _ _ _ w1 ha hb (fun w => a3r 2 k n k' n' s s' w (by simpa using h)),
   fun w1 => a2e (by decide) (by decide) hv (by simp [a2w, h]) rfl (a4r (by simp)) w1⟩
theorem d3q (hv : V2 k n k' n' s s') : Both 3 k n k' n' s s' w := by
 obtain ⟨hna, hnb, ha, hb⟩ := id hv
 by_cases h : k = 2
 ·by_cases h' : k' = 2
  ·exact ⟨_, _, _, _, fun w1 _ => a4h k n k' n' s s' _ _ _ _ w1 ha hb (fun w => b0j k n k' n' s s' w (by simpa using h) (by simpa using h')),
    fun w1 => a2e (by decide) (by decide) hv (by simp [a2w, h, h']) rfl rq3 w1⟩
  ·exact ⟨_, _, _, _, fun w1 _ => a4h k n k' n' s s' _ _ _ _ w1 ha hb (fun w => a2x 3 k n k' n' s s' w (by simpa using h) (by simpa using h')),
    fun w1 => a2e (by decide) (by decide) hv (by simp [a2w, h, h']) rfl (a4r (by simp)) w1⟩
 ·exact ⟨_, _, _, _, fun w1 _ => a4h k n k' n' s s' _ _ _ _ w1 ha hb (fun w => a3r 3 k n k' n' s s' w (by simpa using h)),
   fun w1 => a2e (by decide) (by decide) hv (by simp [a2w, h]) rfl (a4r (by simp)) w1⟩
theorem d3r (hv : V2 k n k' n' s s') : Both 4 k n k' n' s s' w := by
 obtain ⟨hna, hnb, ha, hb⟩ := id hv
 by_cases h : k = 2
 ·by_cases h' : k' = 2
  ·rcases Bool.eq_false_or_eq_true (n' == 0) with z | z
   ·exact ⟨_, _, _, _, fun w1 _ => a3c k n k' n' s s' _ _ _ _ w1 ha hb (fun w => a9i k n k' n' s s' w (by simpa using h) (by simpa using h') z),
     fun w1 => a2e (by decide) (by decide) hv (by simp [a2w, h, h']) rfl (c0n (by simp) z) w1⟩
   ·exact ⟨_, _, _, _, fun w1 _ => a3c k n k' n' s s' _ _ _ _ w1 ha hb (fun w => b0k k n k' n' s s' w (by simpa using h) (by simpa using h') z),
     fun w1 => a2e (by decide) (by decide) hv (by simp [a2w, h, h']) rfl (rq4 hna hnb z) w1⟩
  ·exact ⟨_, _, _, _, fun w1 _ => a3c k n k' n' s s' _ _ _ _ w1 ha hb (fun w => a2x 4 k n k' n' s s' w (by simpa using h) (by simpa using h')),
    fun w1 => a2e (by decide) (by decide) hv (by simp [a2w, h, h']) rfl (a4r (by simp)) w1⟩
 ·exact ⟨_, _, _, _, fun w1 _ => a3c k n k' n' s s' _ _ _ _ w1 ha hb (fun w => a3r 4 k n k' n' s s' w (by simpa using h)),
   fun w1 => a2e (by decide) (by decide) hv (by simp [a2w, h]) rfl (a4r (by simp)) w1⟩
theorem d3s (hv : V2 k n k' n' s s') : Both 5 k n k' n' s s' w := by
 obtain ⟨hna, hnb, ha, hb⟩ := id hv
 by_cases h : k = 2
 ·by_cases h' : k' = 2
  ·rcases Bool.eq_false_or_eq_true (n' == 0) with z | z
   ·exact ⟨_, _, _, _, fun w1 _ => a3d k n k' n' s s' _ _ _ _ w1 ha hb (fun w => a9j k n k' n' s s' w (by simpa using h) (by simpa using h') z),
     fun w1 => a2e (by decide) (by decide) hv (by simp [a2w, h, h']) rfl (c0n (by simp) z) w1⟩
   ·exact ⟨_, _, _, _, fun w1 _ => a3d k n k' n' s s' _ _ _ _ w1 ha hb (fun w => b0l k n k' n' s s' w (by simpa using h) (by simpa using h') z),
     fun w1 => a2e (by decide) (by decide) hv (by simp [a2w, h, h']) rfl (rq5 hna hnb z) w1⟩
  ·exact ⟨_, _, _, _, fun w1 _ => a3d k n k' n' s s' _ _ _ _ w1 ha hb (fun w => a2x 5 k n k' n' s s' w (by simpa using h) (by simpa using h')),
    fun w1 => a2e (by decide) (by decide) hv (by simp [a2w, h, h']) rfl (a4r (by simp)) w1⟩
 ·exact ⟨_, _, _, _, fun w1 _ => a3d k n k' n' s s' _ _ _ _ w1 ha hb (fun w => a3r 5 k n k' n' s s' w (by simpa using h)),
   fun w1 => a2e (by decide) (by decide) hv (by simp [a2w, h]) rfl (a4r (by simp)) w1⟩
theorem d1x (hv : V2 k n k' n' s s') : Both 11 k n k' n' s s' w := by
 obtain ⟨hna, hnb, ha, hb⟩ := id hv
 by_cases h : k = 2
 ·have c : ∀ w1, Calls Tryz.prog 122 #[.int .i64 11, val k n s, val k' n' s'] w1 fun e w' => e = .returned (.tuple #[val 2 (wrap64 (0 - n)) ⟨#[]⟩, .int .i64 0]) ∧ Below w1.heap.size w1 w' :=
   fun w1 => b5o k n k' n' s s' _ _ _ _ w1 ha hb (fun w => a6h 2 0 k n _ s w rfl (by simpa using h))
  by_cases h' : k' = 2
  ·exact ⟨_, _, _, _, fun w1 _ => c w1, fun w1 => a2e (by decide) (by decide) hv (by simp [a2w, h]) rfl rq11 w1⟩
  ·exact ⟨_, _, _, _, fun w1 _ => c w1, fun w1 => a2e (by decide) (by decide) hv (by simp [a2w, h]) rfl rq11 w1⟩
 ·exact ⟨_, _, _, _, fun w1 _ => b5o k n k' n' s s' _ _ _ _ w1 ha hb (fun w => a2x 2 2 0 k n _ s w rfl (by simpa using h)),
   fun w1 => a2e (by decide) (by decide) hv (by simp [a2w, h]) rfl (a4r (by simp)) w1⟩
theorem d3t (hv : V2 k n k' n' s s') : Both 7 k n k' n' s s' w := by
 obtain ⟨hna, hnb, ha, hb⟩ := id hv
 by_cases h : k = k' ∧ n = n' ∧ s.toList = s'.toList
 ·obtain ⟨rfl, rfl, hs⟩ := h
  obtain rfl := a3w hs
  exact ⟨_, _, _, _, fun w1 _ => b2h k n s w1 ha ha, fun w1 => a2e (by decide) (by decide) ⟨hna, hna, ha, ha⟩ rfl rfl (rq7 true fun w => b1p k n s w) w1⟩
 ·exact ⟨_, _, _, _, fun w1 _ => d3n k n k' n' s s' ha hb h w1, fun w1 => a2e (by decide) (by decide) hv rfl rfl (rq7 false fun w => b1o k n k' n' s s' w h) w1⟩
theorem d1y (hv : V2 k n k' n' s s') : Both 10 k n k' n' s s' w := by
 obtain ⟨hna, hnb, ha, hb⟩ := id hv
 rcases Bool.eq_false_or_eq_true (truthB k n s) with t | t
 ·exact ⟨_, _, _, _, fun w1 _ => b5m k n k' n' s s' w1 ha hb t, fun w1 => a2e (by decide) (by decide) hv rfl rfl (rq10 true fun w => c0l k n s w hna t) w1⟩
 ·exact ⟨_, _, _, _, fun w1 _ => b5n k n k' n' s s' w1 ha hb t, fun w1 => a2e (by decide) (by decide) hv rfl rfl (rq10 false fun w => c0m k n s w hna t) w1⟩
theorem d3u (hv : V2 k n k' n' s s') : Both 8 k n k' n' s s' w := by
 obtain ⟨hna, hnb, ha, hb⟩ := id hv
 by_cases h2 : k = 2
 ·by_cases h2' : k' = 2
  ·by_cases l : n < n'
   ·exact ⟨_, _, _, _, fun w1 _ => a1u k n k' n' s s' _ _ _ _ w1 ha hb (fun w => a7h k n k' n' s s' w (by simpa using h2) (by simpa using h2') l),
     fun w1 => a2e (by decide) (by decide) hv (by simp [a2w, h2, h2']) (by simp [a8t, h2]) (c0o (by simp) l) w1⟩
   ·by_cases g : n' < n
    ·exact ⟨_, _, _, _, fun w1 _ => a1u k n k' n' s s' _ _ _ _ w1 ha hb (fun w => a7k k n k' n' s s' w (by simpa using h2) (by simpa using h2') g),
      fun w1 => a2e (by decide) (by decide) hv (by simp [a2w, h2, h2']) (by simp [a8t, h2]) (c7d (by simpa using l)) w1⟩
    ·obtain rfl : n = n' := by omega
     subst h2; subst h2'
     obtain rfl : s = s' := a3w (by rw [a8b ha, a8b hb])
     exact ⟨_, _, _, _, fun w1 _ => a1u 2 n 2 n s s _ _ _ _ w1 ha hb (fun w => a7m 2 n 2 s s w rfl rfl),
      fun w1 => a2e (by decide) (by decide) ⟨hna, hna, ha, ha⟩ rfl rfl (c7d (by simp)) w1⟩
  ·exact ⟨_, _, _, _, fun w1 _ => a1u k n k' n' s s' _ _ _ _ w1 ha hb (fun w => a8y 8 k n k' n' s s' w (by simpa using h2) (by simpa using h2') (by simp [h2])),
    fun w1 => a2e (by decide) (by decide) hv (by simp [a2w, h2, h2']) (by simp [a8t, h2]) (a5i (by simp)) w1⟩
 ·by_cases h3 : k = 3
  ·by_cases h3' : k' = 3
   ·subst h3; subst h3'
    rcases Bool.eq_false_or_eq_true (Op.bytesLess s.toList s'.toList) with l | l
    ·exact ⟨_, _, _, _, fun w1 _ => a1u 3 n 3 n' s s' _ _ _ _ w1 ha hb (fun w => a7o 3 n 3 n' s s' w rfl rfl rfl l),
      fun w1 => a2e (by decide) (by decide) ⟨hna, hnb, ha, hb⟩ rfl rfl (b4h true fun w => b5u _ _ w (a4s ha) l) w1⟩
    ·rcases Bool.eq_false_or_eq_true (s.toList == s'.toList) with e | e
     ·obtain rfl : s = s' := a3w (by simpa using e)
      obtain rfl : n = n' := by rw [a9b ha, a9b hb]
      exact ⟨_, _, _, _, fun w1 _ => a1u 3 n 3 n s s _ _ _ _ w1 ha hb (fun w => a7t 3 n 3 n s s w rfl rfl rfl l e),
       fun w1 => a2e (by decide) (by decide) ⟨hna, hna, ha, ha⟩ rfl rfl (b4h false fun w => a9a _ _ w (a4s ha) l) w1⟩
     ·exact ⟨_, _, _, _, fun w1 _ => a1u 3 n 3 n' s s' _ _ _ _ w1 ha hb (fun w => a7r 3 n 3 n' s s' w rfl rfl rfl l e),
       fun w1 => a2e (by decide) (by decide) ⟨hna, hnb, ha, hb⟩ rfl rfl (b4h false fun w => a9a _ _ w (a4s ha) l) w1⟩
   ·exact ⟨_, _, _, _, fun w1 _ => a1u k n k' n' s s' _ _ _ _ w1 ha hb (fun w => a8x 8 k n k' n' s s' w (by simpa using h2) (by simpa using h3) (by simpa using h3')),
     fun w1 => a2e (by decide) (by decide) hv (by simp [a2w, h2]) (by simp [a8t, h3']) (a5i (by simp)) w1⟩
  ·exact ⟨_, _, _, _, fun w1 _ => a1u k n k' n' s s' _ _ _ _ w1 ha hb (fun w => a8w 8 k n k' n' s s' w (by simpa using h2) (by simpa using h3)),
    fun w1 => a2e (by decide) (by decide) hv (by simp [a2w, h2]) (by simp [a8t, h3]) (a5i (by simp)) w1⟩
theorem d3v (hv : V2 k n k' n' s s') : Both 9 k n k' n' s s' w := by
 obtain ⟨hna, hnb, ha, hb⟩ := id hv
 by_cases h2 : k = 2
 ·by_cases h2' : k' = 2
  ·by_cases l : n < n'
   ·exact ⟨_, _, _, _, fun w1 _ => a1v k n k' n' s s' _ _ _ _ w1 ha hb (fun w => a7i k n k' n' s s' w (by simpa using h2) (by simpa using h2') l),
     fun w1 => a2e (by decide) (by decide) hv (by simp [a2w, h2, h2']) (by simp [a8t, h2]) (c0o (by simp) l) w1⟩
   ·by_cases g : n' < n
    ·exact ⟨_, _, _, _, fun w1 _ => a1v k n k' n' s s' _ _ _ _ w1 ha hb (fun w => a7l k n k' n' s s' w (by simpa using h2) (by simpa using h2') g),
      fun w1 => a2e (by decide) (by decide) hv (by simp [a2w, h2, h2']) (by simp [a8t, h2]) (c7e (by simpa using l) false fun w => b1o k n k' n' s s' w fun e => by omega) w1⟩
    ·obtain rfl : n = n' := by omega
     subst h2; subst h2'
     obtain rfl : s = s' := a3w (by rw [a8b ha, a8b hb])
     exact ⟨_, _, _, _, fun w1 _ => a1v 2 n 2 n s s _ _ _ _ w1 ha hb (fun w => a7u 2 n 2 s s w rfl rfl),
      fun w1 => a2e (by decide) (by decide) ⟨hna, hna, ha, ha⟩ rfl rfl (c7e (by simp) true fun w => b1p 2 n s w) w1⟩
  ·exact ⟨_, _, _, _, fun w1 _ => a1v k n k' n' s s' _ _ _ _ w1 ha hb (fun w => a8y 9 k n k' n' s s' w (by simpa using h2) (by simpa using h2') (by simp [h2])),
    fun w1 => a2e (by decide) (by decide) hv (by simp [a2w, h2, h2']) (by simp [a8t, h2]) (a5i (by simp)) w1⟩
 ·by_cases h3 : k = 3
  ·by_cases h3' : k' = 3
   ·subst h3; subst h3'
    rcases Bool.eq_false_or_eq_true (Op.bytesLess s.toList s'.toList) with l | l
    ·exact ⟨_, _, _, _, fun w1 _ => a1v 3 n 3 n' s s' _ _ _ _ w1 ha hb (fun w => a7p 3 n 3 n' s s' w rfl rfl rfl l),
      fun w1 => a2e (by decide) (by decide) ⟨hna, hnb, ha, hb⟩ rfl rfl (c9j fun w => b5u _ _ w (a4s ha) l) w1⟩
    ·rcases Bool.eq_false_or_eq_true (s.toList == s'.toList) with e | e
     ·obtain rfl : s = s' := a3w (by simpa using e)
      obtain rfl : n = n' := by rw [a9b ha, a9b hb]
      exact ⟨_, _, _, _, fun w1 _ => a1v 3 n 3 n s s _ _ _ _ w1 ha hb (fun w => a7v 3 n 3 n s s w rfl rfl rfl l e),
       fun w1 => a2e (by decide) (by decide) ⟨hna, hna, ha, ha⟩ rfl rfl (b5v (fun w => a9a _ _ w (a4s ha) l) true fun w => b1p 3 n s w) w1⟩
     ·exact ⟨_, _, _, _, fun w1 _ => a1v 3 n 3 n' s s' _ _ _ _ w1 ha hb (fun w => a7s 3 n 3 n' s s' w rfl rfl rfl l e),
       fun w1 => a2e (by decide) (by decide) ⟨hna, hnb, ha, hb⟩ rfl rfl (b5v (fun w => a9a _ _ w (a4s ha) l) false fun w => b1o _ _ _ _ _ _ w (fun c => by rw [c.2.2] at e; simp at e)) w1⟩
   ·exact ⟨_, _, _, _, fun w1 _ => a1v k n k' n' s s' _ _ _ _ w1 ha hb (fun w => a8x 9 k n k' n' s s' w (by simpa using h2) (by simpa using h3) (by simpa using h3')),
     fun w1 => a2e (by decide) (by decide) hv (by simp [a2w, h2]) (by simp [a8t, h3']) (a5i (by simp)) w1⟩
  ·exact ⟨_, _, _, _, fun w1 _ => a1v k n k' n' s s' _ _ _ _ w1 ha hb (fun w => a8w 9 k n k' n' s s' w (by simpa using h2) (by simpa using h3)),
    fun w1 => a2e (by decide) (by decide) hv (by simp [a2w, h2]) (by simp [a8t, h3]) (a5i (by simp)) w1⟩
theorem d3w (hv : V2 k n k' n' s s') (ht : PTab w) : Both 6 k n k' n' s s' w := by
 obtain ⟨hna, hnb, ha, hb⟩ := id hv
 by_cases h : k = 2 ∨ k = 3
 ·by_cases h' : k' = 2 ∨ k' = 3
  ·have la := b0t ha hna h
   have lb := b0t hb hnb h'
   have W1 := fun w => a8a k n s w hna.1 hna.2 h
   have W2 := fun w => a8a k' n' s' w hnb.1 hnb.2 h'
   have Ca : ∀ w1, Below w.heap.size w w1 → ∀ w2, Below w1.heap.size w1 w2 → Calls Tryz.prog 121 #[val k n s] w2 fun e w' => e = .returned (.string (a3n k n s)) ∧ Below w2.heap.size w2 w' :=
    fun w1 e1 w2 e2 => a5p k n s w2 hna.1 hna.2 (ht.on (a0b e1 e2))
   have Cb : ∀ w1, Below w.heap.size w w1 → ∀ w2, Below w1.heap.size w1 w2 → Calls Tryz.prog 121 #[val k' n' s'] w2 fun e w' => e = .returned (.string (a3n k' n' s')) ∧ Below w2.heap.size w2 w' :=
    fun w1 e1 w2 e2 => a5p k' n' s' w2 hnb.1 hnb.2 (ht.on (a0b e1 e2))
   by_cases z : (a3n k n s).size + (a3n k' n' s').size ≤ 300
   ·exact ⟨_, _, _, _, fun w1 e1 => a4c k n k' n' s s' _ _ _ _ w1 ha hb (fun w2 e2 => b9z k n k' n' s s' _ _ w2 (by simpa using h) (by simpa using h') (Ca w2 (a0b e1 e2)) (Cb w2 (a0b e1 e2)) z),
     fun w1 => a2e (by decide) (by decide) hv rfl rfl (rq6 W1 W2 z) w1⟩
   ·exact ⟨_, _, _, _, fun w1 e1 => a4c k n k' n' s s' _ _ _ _ w1 ha hb (fun w2 e2 => b5p k n k' n' s s' _ _ w2 (by simpa using h) (by simpa using h') (Ca w2 (a0b e1 e2)) (Cb w2 (a0b e1 e2)) la lb (by omega)),
     fun w1 => a2e (by decide) (by decide) hv rfl rfl (c9l W1 W2 la lb (by omega)) w1⟩
  ·exact ⟨_, _, _, _, fun w1 _ => a4c k n k' n' s s' _ _ _ _ w1 ha hb (fun w2 _ => c7c k n k' n' s s' w2 (by simpa using h) (by simpa using h')),
    fun w1 => a2e (by decide) (by decide) hv rfl rfl (c9k (fun w => a8a k n s w hna.1 hna.2 h) (fun w => a9s k' n' s' w hnb.1 hnb.2 (by simpa using fun e => h' (Or.inl e)) (by simpa using fun e => h' (Or.inr e))) rfl) w1⟩
 ·have F1 := fun w => a9s k n s w hna.1 hna.2 (by simpa using fun e => h (Or.inl e)) (by simpa using fun e => h (Or.inr e))
  by_cases h' : k' = 2 ∨ k' = 3
  ·exact ⟨_, _, _, _, fun w1 _ => a4c k n k' n' s s' _ _ _ _ w1 ha hb (fun w2 _ => b9y k n k' n' s s' w2 (by simpa using h)),
    fun w1 => a2e (by decide) (by decide) hv rfl rfl (c9k F1 (fun w => a8a k' n' s' w hnb.1 hnb.2 h') rfl) w1⟩
  ·exact ⟨_, _, _, _, fun w1 _ => a4c k n k' n' s s' _ _ _ _ w1 ha hb (fun w2 _ => b9y k n k' n' s s' w2 (by simpa using h)),
    fun w1 => a2e (by decide) (by decide) hv rfl rfl (c9k F1 (fun w => a9s k' n' s' w hnb.1 hnb.2 (by simpa using fun e => h' (Or.inl e)) (by simpa using fun e => h' (Or.inr e))) rfl) w1⟩
theorem c4x (op k n k' n' : Int) (s s' : ByteArray) (w : World) (hna : In64 n) (hnb : In64 n') (ht : PTab w) : Both op k n k' n' s s' w := by
 by_cases l : op < 1
 ·exact ⟨_, _, _, _, fun w1 _ => c7a op k n k' n' s s' w1 l, fun w1 => c9m op k n k' n' s s' w1 l⟩
 by_cases g : 11 < op
 ·exact ⟨_, _, _, _, fun w1 _ => b8a op k n k' n' s s' w1 g, fun w1 => c4v op k n k' n' s s' w1 g⟩
 rcases Bool.eq_false_or_eq_true (mayB k n s) with ha | ha
 ·rcases Bool.eq_false_or_eq_true (mayB k' n' s') with hb | hb
  ·have h : op = 1 ∨ op = 2 ∨ op = 3 ∨ op = 4 ∨ op = 5 ∨ op = 6 ∨ op = 7 ∨ op = 8 ∨ op = 9 ∨ op = 10 ∨ op = 11 := by omega
   rcases h with rfl | rfl | rfl | rfl | rfl | rfl | rfl | rfl | rfl | rfl | rfl
   ·exact d3o ⟨hna, hnb, ha, hb⟩
   ·exact d3p ⟨hna, hnb, ha, hb⟩
   ·exact d3q ⟨hna, hnb, ha, hb⟩
   ·exact d3r ⟨hna, hnb, ha, hb⟩
   ·exact d3s ⟨hna, hnb, ha, hb⟩
   ·exact d3w ⟨hna, hnb, ha, hb⟩ ht
   ·exact d3t ⟨hna, hnb, ha, hb⟩
   ·exact d3u ⟨hna, hnb, ha, hb⟩
   ·exact d3v ⟨hna, hnb, ha, hb⟩
   ·exact d1y ⟨hna, hnb, ha, hb⟩
   ·exact d1x ⟨hna, hnb, ha, hb⟩
  ·exact ⟨_, _, _, _, fun w1 _ => op_b op k n k' n' s s' w1 (by omega) (by omega) ha hb, fun w1 => d3l op k n k' n' s s' w1 hna hnb (by omega) (by omega) ha hb⟩
 ·exact ⟨_, _, _, _, fun w1 _ => op_a op k n k' n' s s' w1 (by omega) (by omega) ha, fun w1 => d3k op k n k' n' s s' w1 hna (by omega) (by omega) ha⟩
theorem d1z {P : Program} {f : FuncId} {args : Array Value} {w : World} {v v' : Value} {R R' : World → Prop} (h : Calls P f args w fun e w' => e = .returned v ∧ R w') (h' : Calls P f args w fun e w' => e = .returned v' ∧ R' w') (hi : P.inits.idxOf? f = none) : v = v' := by
 have g : Calls P f args w fun | .returned u, w' => u = v ∧ R w' | _, _ => False := h.mono fun e w' ⟨he, q⟩ => by subst he; exact ⟨rfl, q⟩
 have g' : Calls P f args w fun | .returned u, w' => u = v' ∧ R' w' | _, _ => False := h'.mono fun e w' ⟨he, q⟩ => by subst he; exact ⟨rfl, q⟩
 obtain ⟨n, u, w1, e1, r1⟩ := g.done hi
 obtain ⟨m, u', w2, e2, r2⟩ := g'.done hi
 have a := runN_ended e1 m
 have b := runN_ended e2 n
 rw [Nat.add_comm, a] at b
 injection b with ho hw
 injection ho with hv
 rw [← r1.1, ← r2.1, hv]
theorem OpF.doc {F : Int → Vl → Vl → Vl × Int} (hF : OpF F) {w0 : World} (hT : PTab w0) (op : Int) (x y : Vl) (w : World) :
  Calls Tryz.prog 55 #[.int .i64 op, x.v, y.v] w fun e w' => e = .returned (.tuple #[(F op x y).1.v, .int .i64 (F op x y).2]) ∧ Below w.heap.size w w' := by
 obtain ⟨k3, n3, er, s3, C1, C2⟩ := c4x op x.k x.n y.k y.n x.s y.s w0 (wf64 x.wn) (wf64 y.wn) hT
 have e := d1z (hF.c op x y w0 hT) (C1 w0 (Below.refl _ _)) (by kernel_rfl)
 rw [e]
 exact C2 w
end Go.Proofs.YthpgbienakcbeaaGreatDoor
