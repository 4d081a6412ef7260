/- What an operation makes of two values: one answer, whatever the world. -/
import Derived.Test.YthpgbienakcbeaaGreatDoorR19
import Derived.Test.YthpgbienakcbeaaGreatDoorR12
import Derived.Test.YthpgbienakcbeaaGreatDoorR01
import Derived.Lib.ItoaLen
namespace Go.Proofs.YthpgbienakcbeaaGreatDoor
open Go.RowKit Go
set_option maxRecDepth 100000
set_option maxHeartbeats 8000000
set_option linter.all false
theorem wf64 {n : Int} (h : (Lit.int .i64 n).wf = true) : -9223372036854775808 ≤ n ∧ n ≤ 9223372036854775807 := by
 have h' : (decide ((-9223372036854775808 : Int) ≤ n) && decide (n ≤ 9223372036854775807)) = true := h
 simpa using h'
theorem ext_bytes {a b : ByteArray} (h : a.toList = b.toList) : a = b := WideShapes.bytes_inj (by rwa [ByteArray.toList_eq, ByteArray.toList_eq] at h)
theorem txt_size {n : Int} {s : ByteArray} (h : mayB 3 n s = true) : s.size ≤ 300 := by
 unfold mayB at h
 rw [if_pos rfl] at h
 simp at h
 omega
theorem text_size {k n : Int} {s : ByteArray} (h : mayB k n s = true) (hn : -9223372036854775808 ≤ n ∧ n ≤ 9223372036854775807) : (textB k n s).size ≤ 300 := by
 unfold textB
 rw [if_neg (by rw [h]; decide)]
 split
 ·decide
 ·split
  ·split <;> decide
  ·split
   ·have e : (ByteArray.mk (Lib.itoa n).toArray).size = (Lib.itoa n).length := rfl
    have := Lib.itoa_length_le n hn.1 hn.2
    omega
   ·split
    ·rename_i h3
     subst h3
     exact txt_size h
    ·split <;> decide
def OC (op : Int) (x y : Vl) (k n er : Int) (s : ByteArray) : Prop :=
 ∀ w, PTab w → Calls Tryz.prog 122 #[.int .i64 op, x.v, y.v] w fun e w' => e = .returned (.tuple #[val k n s, .int .i64 er]) ∧ Below w.heap.size w w'
def OX (op : Int) (x y : Vl) : Prop := ∃ (r : Vl) (er : Int), OC op x y r.k r.n er r.s ∧ (er = 0 → mayB r.k r.n r.s = true ∧ ¬ r.k = 4 ∧ ¬ r.k = 5) ∧
 ((1 ≤ op ∧ op ≤ 11 ∧ mayB x.k x.n x.s = true ∧ mayB y.k y.n y.s = true) → er = 0 ∨ er = 1 ∨ er = 3 ∨ er = 7)
theorem ox_bad {op er : Int} {x y : Vl} (h : OC op x y 0 0 er ⟨#[]⟩) (he : er = 1 ∨ er = 3 ∨ er = 7) : OX op x y :=
 ⟨⟨0, 0, ⟨#[]⟩, by decide, by decide, by decide⟩, er, h, fun e => by omega, fun _ => .inr he⟩
theorem ox_no {op : Int} {x y : Vl} (h : OC op x y 0 0 2 ⟨#[]⟩) (hn : ¬ (1 ≤ op ∧ op ≤ 11 ∧ mayB x.k x.n x.s = true ∧ mayB y.k y.n y.s = true)) : OX op x y :=
 ⟨⟨0, 0, ⟨#[]⟩, by decide, by decide, by decide⟩, 2, h, fun e => by omega, fun e => absurd e hn⟩
theorem ox_num {op n : Int} {x y : Vl} (h : OC op x y 2 (wrap64 n) 0 ⟨#[]⟩) : OX op x y :=
 ⟨⟨2, wrap64 n, ⟨#[]⟩, by decide, RowKit.wrap64_wf _, by decide⟩, 0, h, fun _ => ⟨by simp [mayB], by simp, by simp⟩, fun _ => .inl rfl⟩
theorem ox_bool {op n : Int} {x y : Vl} (h : OC op x y 1 n 0 ⟨#[]⟩) (hn : n = 0 ∨ n = 1) : OX op x y := by
 rcases hn with rfl | rfl
 ·exact ⟨⟨1, 0, ⟨#[]⟩, by decide, by decide, by decide⟩, 0, h, fun _ => ⟨by simp [mayB], by simp, by simp⟩, fun _ => .inl rfl⟩
 ·exact ⟨⟨1, 1, ⟨#[]⟩, by decide, by decide, by decide⟩, 0, h, fun _ => ⟨by simp [mayB], by simp, by simp⟩, fun _ => .inl rfl⟩
theorem ox_txt {op : Int} {s : ByteArray} {x y : Vl} (h : OC op x y 3 0 0 s) (hs : s.size ≤ 300) : OX op x y :=
 ⟨⟨3, 0, s, by decide, by decide, by unfold maxLen; omega⟩, 0, h, fun _ => ⟨by simp [mayB]; omega, by simp, by simp⟩, fun _ => .inl rfl⟩
theorem ox1 (x y : Vl) (ha : mayB x.k x.n x.s = true) (hb : mayB y.k y.n y.s = true) : OX 1 x y := by
 by_cases h : x.k = 2
 ·by_cases h' : y.k = 2
  ·exact ox_num (fun w1 _ => op_reckon1 x.k x.n y.k y.n x.s y.s _ _ _ _ w1 ha hb (fun w => reckon_add x.k x.n y.k y.n x.s y.s w (by simpa using h) (by simpa using h')))
  ·exact ox_bad (fun w1 _ => op_reckon1 x.k x.n y.k y.n x.s y.s _ _ _ _ w1 ha hb (fun w => reckon_g 1 x.k x.n y.k y.n x.s y.s w (by simpa using h) (by simpa using h'))) (by omega)
 ·exact ox_bad (fun w1 _ => op_reckon1 x.k x.n y.k y.n x.s y.s _ _ _ _ w1 ha hb (fun w => reckon_f 1 x.k x.n y.k y.n x.s y.s w (by simpa using h))) (by omega)
theorem ox2 (x y : Vl) (ha : mayB x.k x.n x.s = true) (hb : mayB y.k y.n y.s = true) : OX 2 x y := by
 by_cases h : x.k = 2
 ·by_cases h' : y.k = 2
  ·exact ox_num (fun w1 _ => op_reckon2 x.k x.n y.k y.n x.s y.s _ _ _ _ w1 ha hb (fun w => reckon_sub x.k x.n y.k y.n x.s y.s w (by simpa using h) (by simpa using h')))
  ·exact ox_bad (fun w1 _ => op_reckon2 x.k x.n y.k y.n x.s y.s _ _ _ _ w1 ha hb (fun w => reckon_g 2 x.k x.n y.k y.n x.s y.s w (by simpa using h) (by simpa using h'))) (by omega)
 ·exact ox_bad (fun w1 _ => op_reckon2 x.k x.n y.k y.n x.s y.s _ _ _ _ w1 ha hb (fun w => reckon_f 2 x.k x.n y.k y.n x.s y.s w (by simpa using h))) (by omega)
theorem ox3 (x y : Vl) (ha : mayB x.k x.n x.s = true) (hb : mayB y.k y.n y.s = true) : OX 3 x y := by
 by_cases h : x.k = 2
 ·by_cases h' : y.k = 2
  ·exact ox_num (fun w1 _ => op_reckon3 x.k x.n y.k y.n x.s y.s _ _ _ _ w1 ha hb (fun w => reckon_mul x.k x.n y.k y.n x.s y.s w (by simpa using h) (by simpa using h')))
  ·exact ox_bad (fun w1 _ => op_reckon3 x.k x.n y.k y.n x.s y.s _ _ _ _ w1 ha hb (fun w => reckon_g 3 x.k x.n y.k y.n x.s y.s w (by simpa using h) (by simpa using h'))) (by omega)
 ·exact ox_bad (fun w1 _ => op_reckon3 x.k x.n y.k y.n x.s y.s _ _ _ _ w1 ha hb (fun w => reckon_f 3 x.k x.n y.k y.n x.s y.s w (by simpa using h))) (by omega)
theorem ox4 (x y : Vl) (ha : mayB x.k x.n x.s = true) (hb : mayB y.k y.n y.s = true) : OX 4 x y := by
 by_cases h : x.k = 2
 ·by_cases h' : y.k = 2
  ·rcases Bool.eq_false_or_eq_true (y.n == 0) with z | z
   ·exact ox_bad (fun w1 _ => op_reckon4 x.k x.n y.k y.n x.s y.s _ _ _ _ w1 ha hb (fun w => reckon_div0 x.k x.n y.k y.n x.s y.s w (by simpa using h) (by simpa using h') z)) (by omega)
   ·exact ox_num (fun w1 _ => op_reckon4 x.k x.n y.k y.n x.s y.s _ _ _ _ w1 ha hb (fun w => reckon_div x.k x.n y.k y.n x.s y.s w (by simpa using h) (by simpa using h') z))
  ·exact ox_bad (fun w1 _ => op_reckon4 x.k x.n y.k y.n x.s y.s _ _ _ _ w1 ha hb (fun w => reckon_g 4 x.k x.n y.k y.n x.s y.s w (by simpa using h) (by simpa using h'))) (by omega)
 ·exact ox_bad (fun w1 _ => op_reckon4 x.k x.n y.k y.n x.s y.s _ _ _ _ w1 ha hb (fun w => reckon_f 4 x.k x.n y.k y.n x.s y.s w (by simpa using h))) (by omega)
theorem ox5 (x y : Vl) (ha : mayB x.k x.n x.s = true) (hb : mayB y.k y.n y.s = true) : OX 5 x y := by
 by_cases h : x.k = 2
 ·by_cases h' : y.k = 2
  ·rcases Bool.eq_false_or_eq_true (y.n == 0) with z | z
   ·exact ox_bad (fun w1 _ => op_reckon5 x.k x.n y.k y.n x.s y.s _ _ _ _ w1 ha hb (fun w => reckon_mod0 x.k x.n y.k y.n x.s y.s w (by simpa using h) (by simpa using h') z)) (by omega)
   ·exact ox_num (fun w1 _ => op_reckon5 x.k x.n y.k y.n x.s y.s _ _ _ _ w1 ha hb (fun w => reckon_mod x.k x.n y.k y.n x.s y.s w (by simpa using h) (by simpa using h') z))
  ·exact ox_bad (fun w1 _ => op_reckon5 x.k x.n y.k y.n x.s y.s _ _ _ _ w1 ha hb (fun w => reckon_g 5 x.k x.n y.k y.n x.s y.s w (by simpa using h) (by simpa using h'))) (by omega)
 ·exact ox_bad (fun w1 _ => op_reckon5 x.k x.n y.k y.n x.s y.s _ _ _ _ w1 ha hb (fun w => reckon_f 5 x.k x.n y.k y.n x.s y.s w (by simpa using h))) (by omega)
theorem ox11 (x y : Vl) (ha : mayB x.k x.n x.s = true) (hb : mayB y.k y.n y.s = true) : OX 11 x y := by
 by_cases h : x.k = 2
 ·exact ox_num (fun w1 _ => op_neg x.k x.n y.k y.n x.s y.s _ _ _ _ w1 ha hb (fun w => reckon_sub 2 0 x.k x.n _ x.s w rfl (by simpa using h)))
 ·exact ox_bad (fun w1 _ => op_neg x.k x.n y.k y.n x.s y.s _ _ _ _ w1 ha hb (fun w => reckon_g 2 2 0 x.k x.n _ x.s w rfl (by simpa using h))) (by omega)
theorem ox10 (x y : Vl) (ha : mayB x.k x.n x.s = true) (hb : mayB y.k y.n y.s = true) : OX 10 x y := by
 rcases Bool.eq_false_or_eq_true (truthB x.k x.n x.s) with t | t
 ·exact ox_bool (fun w1 _ => op_not_t x.k x.n y.k y.n x.s y.s w1 ha hb t) (by omega)
 ·exact ox_bool (fun w1 _ => op_not_f x.k x.n y.k y.n x.s y.s w1 ha hb t) (by omega)
theorem ox7 (x y : Vl) (ha : mayB x.k x.n x.s = true) (hb : mayB y.k y.n y.s = true) : OX 7 x y := by
 obtain ⟨k, n, s, wk, wn, ws⟩ := x
 obtain ⟨k', n', s', wk', wn', ws'⟩ := y
 simp only at ha hb
 by_cases h : k = k'
 ·subst h
  by_cases h2 : n = n'
  ·subst h2
   by_cases h3 : s.toList = s'.toList
   ·obtain rfl := ext_bytes h3
    exact ox_bool (fun w1 _ => op_same_t k n s w1 ha hb) (by omega)
   ·exact ox_bool (fun w1 _ => op_same_s k n s s' w1 ha hb h3) (by omega)
  ·exact ox_bool (fun w1 _ => op_same_n k n n' s s' w1 ha hb h2) (by omega)
 ·exact ox_bool (fun w1 _ => op_same_k k n k' n' s s' w1 ha hb h) (by omega)
theorem ox8 (x y : Vl) (ha : mayB x.k x.n x.s = true) (hb : mayB y.k y.n y.s = true) : OX 8 x y := by
 obtain ⟨k, n, s, wk, wn, ws⟩ := x
 obtain ⟨k', n', s', wk', wn', ws'⟩ := y
 simp only at ha hb
 by_cases h2 : k = 2
 ·by_cases h2' : k' = 2
  ·by_cases l : n < n'
   ·exact ox_bool (fun w1 _ => op_order8 k n k' n' s s' _ _ _ _ w1 ha hb (fun w => order_int_lt8 k n k' n' s s' w (by simpa using h2) (by simpa using h2') l)) (by omega)
   ·by_cases g : n' < n
    ·exact ox_bool (fun w1 _ => op_order8 k n k' n' s s' _ _ _ _ w1 ha hb (fun w => order_int_gt8 k n k' n' s s' w (by simpa using h2) (by simpa using h2') g)) (by omega)
    ·obtain rfl : n = n' := by omega
     exact ox_bool (fun w1 _ => op_order8 k n k' n s s' _ _ _ _ w1 ha hb (fun w => order_int_eq8 k n k' s s' w (by simpa using h2) (by simpa using h2'))) (by omega)
  ·exact ox_bad (fun w1 _ => op_order8 k n k' n' s s' _ _ _ _ w1 ha hb (fun w => order_gf 8 k n k' n' s s' w (by simpa using h2) (by simpa using h2') (by simp [h2]))) (by omega)
 ·by_cases h3 : k = 3
  ·by_cases h3' : k' = 3
   ·rcases Bool.eq_false_or_eq_true (Op.bytesLess s.toList s'.toList) with l | l
    ·exact ox_bool (fun w1 _ => op_order8 k n k' n' s s' _ _ _ _ w1 ha hb (fun w => order_txt_lt8 k n k' n' s s' w (by simpa using h3) (by simpa using h3') (by simpa using h2) l)) (by omega)
    ·rcases Bool.eq_false_or_eq_true (s.toList == s'.toList) with e | e
     ·exact ox_bool (fun w1 _ => op_order8 k n k' n' s s' _ _ _ _ w1 ha hb (fun w => order_txt_eq8 k n k' n' s s' w (by simpa using h3) (by simpa using h3') (by simpa using h2) l e)) (by omega)
     ·exact ox_bool (fun w1 _ => op_order8 k n k' n' s s' _ _ _ _ w1 ha hb (fun w => order_txt_gt8 k n k' n' s s' w (by simpa using h3) (by simpa using h3') (by simpa using h2) l e)) (by omega)
   ·exact ox_bad (fun w1 _ => op_order8 k n k' n' s s' _ _ _ _ w1 ha hb (fun w => order_fg 8 k n k' n' s s' w (by simpa using h2) (by simpa using h3) (by simpa using h3'))) (by omega)
  ·exact ox_bad (fun w1 _ => op_order8 k n k' n' s s' _ _ _ _ w1 ha hb (fun w => order_ff 8 k n k' n' s s' w (by simpa using h2) (by simpa using h3))) (by omega)
theorem ox9 (x y : Vl) (ha : mayB x.k x.n x.s = true) (hb : mayB y.k y.n y.s = true) : OX 9 x y := by
 obtain ⟨k, n, s, wk, wn, ws⟩ := x
 obtain ⟨k', n', s', wk', wn', ws'⟩ := y
 simp only at ha hb
 by_cases h2 : k = 2
 ·by_cases h2' : k' = 2
  ·by_cases l : n < n'
   ·exact ox_bool (fun w1 _ => op_order9 k n k' n' s s' _ _ _ _ w1 ha hb (fun w => order_int_lt9 k n k' n' s s' w (by simpa using h2) (by simpa using h2') l)) (by omega)
   ·by_cases g : n' < n
    ·exact ox_bool (fun w1 _ => op_order9 k n k' n' s s' _ _ _ _ w1 ha hb (fun w => order_int_gt9 k n k' n' s s' w (by simpa using h2) (by simpa using h2') g)) (by omega)
    ·obtain rfl : n = n' := by omega
     exact ox_bool (fun w1 _ => op_order9 k n k' n s s' _ _ _ _ w1 ha hb (fun w => order_int_eq9 k n k' s s' w (by simpa using h2) (by simpa using h2'))) (by omega)
  ·exact ox_bad (fun w1 _ => op_order9 k n k' n' s s' _ _ _ _ w1 ha hb (fun w => order_gf 9 k n k' n' s s' w (by simpa using h2) (by simpa using h2') (by simp [h2]))) (by omega)
 ·by_cases h3 : k = 3
  ·by_cases h3' : k' = 3
   ·rcases Bool.eq_false_or_eq_true (Op.bytesLess s.toList s'.toList) with l | l
    ·exact ox_bool (fun w1 _ => op_order9 k n k' n' s s' _ _ _ _ w1 ha hb (fun w => order_txt_lt9 k n k' n' s s' w (by simpa using h3) (by simpa using h3') (by simpa using h2) l)) (by omega)
    ·rcases Bool.eq_false_or_eq_true (s.toList == s'.toList) with e | e
     ·exact ox_bool (fun w1 _ => op_order9 k n k' n' s s' _ _ _ _ w1 ha hb (fun w => order_txt_eq9 k n k' n' s s' w (by simpa using h3) (by simpa using h3') (by simpa using h2) l e)) (by omega)
     ·exact ox_bool (fun w1 _ => op_order9 k n k' n' s s' _ _ _ _ w1 ha hb (fun w => order_txt_gt9 k n k' n' s s' w (by simpa using h3) (by simpa using h3') (by simpa using h2) l e)) (by omega)
   ·exact ox_bad (fun w1 _ => op_order9 k n k' n' s s' _ _ _ _ w1 ha hb (fun w => order_fg 9 k n k' n' s s' w (by simpa using h2) (by simpa using h3) (by simpa using h3'))) (by omega)
  ·exact ox_bad (fun w1 _ => op_order9 k n k' n' s s' _ _ _ _ w1 ha hb (fun w => order_ff 9 k n k' n' s s' w (by simpa using h2) (by simpa using h3))) (by omega)
theorem ox6 (x y : Vl) (ha : mayB x.k x.n x.s = true) (hb : mayB y.k y.n y.s = true) : OX 6 x y := by
 have na := wf64 x.wn
 have nb := wf64 y.wn
 by_cases h : x.k = 2 ∨ x.k = 3
 ·by_cases h' : y.k = 2 ∨ y.k = 3
  ·have la := text_size ha na
   have lb := text_size hb nb
   by_cases z : (textB x.k x.n x.s).size + (textB y.k y.n y.s).size ≤ 300
   ·exact ox_txt (fun w1 ht => op_joinT x.k x.n y.k y.n x.s y.s _ _ _ _ w1 ha hb (fun w2 e2 => join_ok x.k x.n y.k y.n x.s y.s _ _ w2 (by simpa using h) (by simpa using h') (fun w3 e3 => text_any _ _ _ w3 na.1 na.2 (ht.on (ext_trans e2 e3))) (fun w3 e3 => text_any _ _ _ w3 nb.1 nb.2 (ht.on (ext_trans e2 e3))) z)) (by rw [ByteArray.size_append]; exact z)
   ·exact ox_bad (fun w1 ht => op_joinT x.k x.n y.k y.n x.s y.s _ _ _ _ w1 ha hb (fun w2 e2 => join_big x.k x.n y.k y.n x.s y.s _ _ w2 (by simpa using h) (by simpa using h') (fun w3 e3 => text_any _ _ _ w3 na.1 na.2 (ht.on (ext_trans e2 e3))) (fun w3 e3 => text_any _ _ _ w3 nb.1 nb.2 (ht.on (ext_trans e2 e3))) la lb (by omega))) (by omega)
  ·exact ox_bad (fun w1 _ => op_joinT x.k x.n y.k y.n x.s y.s _ _ _ _ w1 ha hb (fun w2 _ => join_g x.k x.n y.k y.n x.s y.s w2 (by simpa using h) (by simpa using h'))) (by omega)
 ·exact ox_bad (fun w1 _ => op_joinT x.k x.n y.k y.n x.s y.s _ _ _ _ w1 ha hb (fun w2 _ => join_f x.k x.n y.k y.n x.s y.s w2 (by simpa using h))) (by omega)
theorem op_ex (op : Int) (x y : Vl) : OX op x y := by
 by_cases h1 : op < 1
 ·exact ox_no (fun w _ => op_low op x.k x.n y.k y.n x.s y.s w h1) (by omega)
 by_cases h2 : 11 < op
 ·exact ox_no (fun w _ => op_high op x.k x.n y.k y.n x.s y.s w h2) (by omega)
 cases ha : mayB x.k x.n x.s
 ·exact ox_no (fun w _ => op_a op x.k x.n y.k y.n x.s y.s w (by omega) (by omega) ha) (fun h => by rw [ha] at h; cases h.2.2.1)
 cases hb : mayB y.k y.n y.s
 ·exact ox_no (fun w _ => op_b op x.k x.n y.k y.n x.s y.s w (by omega) (by omega) ha hb) (fun h => by rw [hb] at h; cases h.2.2.2)
 have : op = 1 ∨ op = 2 ∨ op = 3 ∨ op = 4 ∨ op = 5 ∨ op = 6 ∨ op = 7 ∨ op = 8 ∨ op = 9 ∨ op = 10 ∨ op = 11 := by omega
 rcases this with rfl | rfl | rfl | rfl | rfl | rfl | rfl | rfl | rfl | rfl | rfl
 ·exact ox1 x y ha hb
 ·exact ox2 x y ha hb
 ·exact ox3 x y ha hb
 ·exact ox4 x y ha hb
 ·exact ox5 x y ha hb
 ·exact ox6 x y ha hb
 ·exact ox7 x y ha hb
 ·exact ox8 x y ha hb
 ·exact ox9 x y ha hb
 ·exact ox10 x y ha hb
 ·exact ox11 x y ha hb
structure OpF (F : Int → Vl → Vl → Vl × Int) : Prop where
 c : ∀ (op : Int) (x y : Vl) (w : World), PTab w → Calls Tryz.prog 122 #[.int .i64 op, x.v, y.v] w fun e w' => e = .returned (.tuple #[(F op x y).1.v, .int .i64 (F op x y).2]) ∧ Below w.heap.size w w'
 m : ∀ (op : Int) (x y : Vl), (F op x y).2 = 0 → mayB (F op x y).1.k (F op x y).1.n (F op x y).1.s = true ∧ ¬ (F op x y).1.k = 4 ∧ ¬ (F op x y).1.k = 5
 e : ∀ (op : Int) (x y : Vl), (1 ≤ op ∧ op ≤ 11 ∧ mayB x.k x.n x.s = true ∧ mayB y.k y.n y.s = true) → (F op x y).2 = 0 ∨ (F op x y).2 = 1 ∨ (F op x y).2 = 3 ∨ (F op x y).2 = 7
theorem opF_ex : ∃ F, OpF F := by
 have h : ∀ (op : Int) (x y : Vl), ∃ r : Vl × Int, (∀ w, PTab w → Calls Tryz.prog 122 #[.int .i64 op, x.v, y.v] w fun e w' => e = .returned (.tuple #[r.1.v, .int .i64 r.2]) ∧ Below w.heap.size w w') ∧ (r.2 = 0 → mayB r.1.k r.1.n r.1.s = true ∧ ¬ r.1.k = 4 ∧ ¬ r.1.k = 5) ∧
   ((1 ≤ op ∧ op ≤ 11 ∧ mayB x.k x.n x.s = true ∧ mayB y.k y.n y.s = true) → r.2 = 0 ∨ r.2 = 1 ∨ r.2 = 3 ∨ r.2 = 7) := fun op x y => by
  obtain ⟨r, er, h1, h2, h3⟩ := op_ex op x y
  exact ⟨(r, er), h1, h2, h3⟩
 exact ⟨fun op x y => Classical.choose (h op x y), fun op x y w hw => (Classical.choose_spec (h op x y)).1 w hw, fun op x y => (Classical.choose_spec (h op x y)).2.1, fun op x y => (Classical.choose_spec (h op x y)).2.2⟩
end Go.Proofs.YthpgbienakcbeaaGreatDoor
