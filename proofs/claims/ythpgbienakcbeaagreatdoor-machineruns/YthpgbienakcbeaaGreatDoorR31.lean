/- One answer for both: value.Op and the document's. -/
import Derived.Test.YthpgbienakcbeaaGreatDoorR23
import Derived.Test.YthpgbienakcbeaaGreatDoorR24
import Derived.Test.YthpgbienakcbeaaGreatDoorR25
namespace Go.Proofs.YthpgbienakcbeaaGreatDoor
open Go.RowKit Go
set_option maxRecDepth 100000
set_option maxHeartbeats 8000000
set_option linter.all false
theorem op7_f (ka na kb nb : Int) (sa sb : ByteArray) (ha : mayB ka na sa = true) (hb : mayB kb nb sb = true) (h : ¬ (ka = kb ∧ na = nb ∧ sa.toList = sb.toList))  (w : World) : Calls Tryz.prog 122 #[.int .i64 7, val ka na sa, val kb nb sb] w fun e w' => e = .returned (.tuple #[val 1 0 ⟨#[]⟩, .int .i64 0]) ∧ Below w.heap.size w w' := by
 by_cases hk : ka = kb
 ·subst hk
  by_cases hn : na = nb
  ·subst hn
   exact op_same_s ka na sa sb w ha hb (fun hs => h ⟨rfl, rfl, hs⟩)
  ·exact op_same_n ka na nb sa sb w ha hb hn
 ·exact op_same_k ka na kb nb sa sb w ha hb hk
theorem int_empty {n : Int} {s : ByteArray} (h : mayB 2 n s = true) : s.toList = [] := by
 unfold mayB at h
 rw [if_neg (by decide)] at h
 rcases Bool.eq_false_or_eq_true s.toList.isEmpty with e | e
 ·simpa using e
 ·rw [if_pos e] at h; cases h
theorem txt_zero {n : Int} {s : ByteArray} (h : mayB 3 n s = true) : n = 0 := by
 unfold mayB at h
 rw [if_pos rfl] at h
 simp at h
 exact h.1
theorem txt_size2 {n : Int} {s : ByteArray} (h : mayB 3 n s = true) : s.size ≤ 300 := by
 unfold mayB at h
 rw [if_pos rfl] at h
 simp at h
 omega
theorem text_size2 {k n : Int} {s : ByteArray} (h : mayB k n s = true) (hn : In64 n) (hk : k = 2 ∨ k = 3) : (textB k n s).size ≤ 300 := by
 unfold textB
 rw [if_neg (by rw [h]; decide)]
 rcases hk with rfl | rfl
 ·rw [if_neg (by decide), if_neg (by decide), if_pos rfl]
  have e : (ByteArray.mk (Lib.itoa n).toArray).size = (Lib.itoa n).length := rfl
  have := Lib.itoa_length_le n hn.1 hn.2
  omega
 ·rw [if_neg (by decide), if_neg (by decide), if_neg (by decide), if_pos rfl]
  exact txt_size2 h
def Both (op k n k' n' : Int) (s s' : ByteArray) (w : World) : Prop :=
 ∃ (k3 n3 er : Int) (s3 : ByteArray),
  (∀ w1, Below w.heap.size w w1 → Calls Tryz.prog 122 #[.int .i64 op, val k n s, val k' n' s'] w1 fun e w' => e = .returned (.tuple #[val k3 n3 s3, .int .i64 er]) ∧ Below w1.heap.size w1 w') ∧
  (∀ w1, Calls Tryz.prog 55 #[.int .i64 op, val k n s, val k' n' s'] w1 fun e w' => e = .returned (.tuple #[val k3 n3 s3, .int .i64 er]) ∧ Below w1.heap.size w1 w')
theorem both1 (k n k' n' : Int) (s s' : ByteArray) (w : World) (hna : In64 n) (hnb : In64 n') (ha : mayB k n s = true) (hb : mayB k' n' s' = true) : Both 1 k n k' n' s s' w := by
 by_cases h : k = 2
 ·by_cases h' : k' = 2
  ·exact ⟨_, _, _, _, fun w1 _ => op_reckon1 k n k' n' s s' _ _ _ _ w1 ha hb (fun w => reckon_add k n k' n' s s' w (by simpa using h) (by simpa using h')),
    fun w1 => rop1 k n k' n' s s' w1 hna hnb ha hb (by simpa using h) (by simpa using h') (by simp [h])⟩
  ·exact ⟨_, _, _, _, fun w1 _ => op_reckon1 k n k' n' s s' _ _ _ _ w1 ha hb (fun w => reckon_g 1 k n k' n' s s' w (by simpa using h) (by simpa using h')),
    fun w1 => ropg1 k n k' n' s s' w1 hna hnb ha hb (by simpa using h) (by simpa using h') (by simp [h])⟩
 ·exact ⟨_, _, _, _, fun w1 _ => op_reckon1 k n k' n' s s' _ _ _ _ w1 ha hb (fun w => reckon_f 1 k n k' n' s s' w (by simpa using h)),
   fun w1 => ropf1 k n k' n' s s' w1 hna hnb ha hb (by simpa using h)⟩
theorem both2 (k n k' n' : Int) (s s' : ByteArray) (w : World) (hna : In64 n) (hnb : In64 n') (ha : mayB k n s = true) (hb : mayB k' n' s' = true) : Both 2 k n k' n' s s' w := by
 by_cases h : k = 2
 ·by_cases h' : k' = 2
  ·exact ⟨_, _, _, _, fun w1 _ => op_reckon2 k n k' n' s s' _ _ _ _ w1 ha hb (fun w => reckon_sub k n k' n' s s' w (by simpa using h) (by simpa using h')),
    fun w1 => rop2 k n k' n' s s' w1 hna hnb ha hb (by simpa using h) (by simpa using h') (by simp [h])⟩
  ·exact ⟨_, _, _, _, fun w1 _ => op_reckon2 k n k' n' s s' _ _ _ _ w1 ha hb (fun w => reckon_g 2 k n k' n' s s' w (by simpa using h) (by simpa using h')),
    fun w1 => ropg2 k n k' n' s s' w1 hna hnb ha hb (by simpa using h) (by simpa using h') (by simp [h])⟩
 ·exact ⟨_, _, _, _, fun w1 _ => op_reckon2 k n k' n' s s' _ _ _ _ w1 ha hb (fun w => reckon_f 2 k n k' n' s s' w (by simpa using h)),
   fun w1 => ropf2 k n k' n' s s' w1 hna hnb ha hb (by simpa using h)⟩
theorem both3 (k n k' n' : Int) (s s' : ByteArray) (w : World) (hna : In64 n) (hnb : In64 n') (ha : mayB k n s = true) (hb : mayB k' n' s' = true) : Both 3 k n k' n' s s' w := by
 by_cases h : k = 2
 ·by_cases h' : k' = 2
  ·exact ⟨_, _, _, _, fun w1 _ => op_reckon3 k n k' n' s s' _ _ _ _ w1 ha hb (fun w => reckon_mul k n k' n' s s' w (by simpa using h) (by simpa using h')),
    fun w1 => rop3 k n k' n' s s' w1 hna hnb ha hb (by simpa using h) (by simpa using h') (by simp [h])⟩
  ·exact ⟨_, _, _, _, fun w1 _ => op_reckon3 k n k' n' s s' _ _ _ _ w1 ha hb (fun w => reckon_g 3 k n k' n' s s' w (by simpa using h) (by simpa using h')),
    fun w1 => ropg3 k n k' n' s s' w1 hna hnb ha hb (by simpa using h) (by simpa using h') (by simp [h])⟩
 ·exact ⟨_, _, _, _, fun w1 _ => op_reckon3 k n k' n' s s' _ _ _ _ w1 ha hb (fun w => reckon_f 3 k n k' n' s s' w (by simpa using h)),
   fun w1 => ropf3 k n k' n' s s' w1 hna hnb ha hb (by simpa using h)⟩
theorem both4 (k n k' n' : Int) (s s' : ByteArray) (w : World) (hna : In64 n) (hnb : In64 n') (ha : mayB k n s = true) (hb : mayB k' n' s' = true) : Both 4 k n k' n' s s' w := by
 by_cases h : k = 2
 ·by_cases h' : k' = 2
  ·rcases Bool.eq_false_or_eq_true (n' == 0) with z | z
   ·exact ⟨_, _, _, _, fun w1 _ => op_reckon4 k n k' n' s s' _ _ _ _ w1 ha hb (fun w => reckon_div0 k n k' n' s s' w (by simpa using h) (by simpa using h') z),
     fun w1 => rop4z k n k' n' s s' w1 hna hnb ha hb (by simpa using h) (by simpa using h') (by simp [h]) z⟩
   ·exact ⟨_, _, _, _, fun w1 _ => op_reckon4 k n k' n' s s' _ _ _ _ w1 ha hb (fun w => reckon_div k n k' n' s s' w (by simpa using h) (by simpa using h') z),
     fun w1 => rop4 k n k' n' s s' w1 hna hnb ha hb (by simpa using h) (by simpa using h') (by simp [h]) z⟩
  ·exact ⟨_, _, _, _, fun w1 _ => op_reckon4 k n k' n' s s' _ _ _ _ w1 ha hb (fun w => reckon_g 4 k n k' n' s s' w (by simpa using h) (by simpa using h')),
    fun w1 => ropg4 k n k' n' s s' w1 hna hnb ha hb (by simpa using h) (by simpa using h') (by simp [h])⟩
 ·exact ⟨_, _, _, _, fun w1 _ => op_reckon4 k n k' n' s s' _ _ _ _ w1 ha hb (fun w => reckon_f 4 k n k' n' s s' w (by simpa using h)),
   fun w1 => ropf4 k n k' n' s s' w1 hna hnb ha hb (by simpa using h)⟩
theorem both5 (k n k' n' : Int) (s s' : ByteArray) (w : World) (hna : In64 n) (hnb : In64 n') (ha : mayB k n s = true) (hb : mayB k' n' s' = true) : Both 5 k n k' n' s s' w := by
 by_cases h : k = 2
 ·by_cases h' : k' = 2
  ·rcases Bool.eq_false_or_eq_true (n' == 0) with z | z
   ·exact ⟨_, _, _, _, fun w1 _ => op_reckon5 k n k' n' s s' _ _ _ _ w1 ha hb (fun w => reckon_mod0 k n k' n' s s' w (by simpa using h) (by simpa using h') z),
     fun w1 => rop5z k n k' n' s s' w1 hna hnb ha hb (by simpa using h) (by simpa using h') (by simp [h]) z⟩
   ·exact ⟨_, _, _, _, fun w1 _ => op_reckon5 k n k' n' s s' _ _ _ _ w1 ha hb (fun w => reckon_mod k n k' n' s s' w (by simpa using h) (by simpa using h') z),
     fun w1 => rop5 k n k' n' s s' w1 hna hnb ha hb (by simpa using h) (by simpa using h') (by simp [h]) z⟩
  ·exact ⟨_, _, _, _, fun w1 _ => op_reckon5 k n k' n' s s' _ _ _ _ w1 ha hb (fun w => reckon_g 5 k n k' n' s s' w (by simpa using h) (by simpa using h')),
    fun w1 => ropg5 k n k' n' s s' w1 hna hnb ha hb (by simpa using h) (by simpa using h') (by simp [h])⟩
 ·exact ⟨_, _, _, _, fun w1 _ => op_reckon5 k n k' n' s s' _ _ _ _ w1 ha hb (fun w => reckon_f 5 k n k' n' s s' w (by simpa using h)),
   fun w1 => ropf5 k n k' n' s s' w1 hna hnb ha hb (by simpa using h)⟩
theorem both11 (k n k' n' : Int) (s s' : ByteArray) (w : World) (hna : In64 n) (hnb : In64 n') (ha : mayB k n s = true) (hb : mayB k' n' s' = true) : Both 11 k n k' n' s s' w := by
 by_cases h : k = 2
 ·have c : ∀ w1, Calls Tryz.prog 122 #[.int .i64 11, val k n s, val k' n' s'] w1 fun e w' => e = .returned (.tuple #[val 2 (wrap64 (0 - n)) ⟨#[]⟩, .int .i64 0]) ∧ Below w1.heap.size w1 w' :=
   fun w1 => op_neg k n k' n' s s' _ _ _ _ w1 ha hb (fun w => reckon_sub 2 0 k n _ s w rfl (by simpa using h))
  by_cases h' : k' = 2
  ·exact ⟨_, _, _, _, fun w1 _ => c w1, fun w1 => rop11a k n k' n' s s' w1 hna hnb ha hb (by simpa using h) (by simpa using h') (by simp [h])⟩
  ·exact ⟨_, _, _, _, fun w1 _ => c w1, fun w1 => rop11b k n k' n' s s' w1 hna hnb ha hb (by simpa using h) (by simpa using h') (by simp [h])⟩
 ·exact ⟨_, _, _, _, fun w1 _ => op_neg k n k' n' s s' _ _ _ _ w1 ha hb (fun w => reckon_g 2 2 0 k n _ s w rfl (by simpa using h)),
   fun w1 => rop11f k n k' n' s s' w1 hna hnb ha hb (by simpa using h)⟩
theorem both7 (k n k' n' : Int) (s s' : ByteArray) (w : World) (hna : In64 n) (hnb : In64 n') (ha : mayB k n s = true) (hb : mayB k' n' s' = true) : Both 7 k n k' n' s s' w := by
 by_cases h : k = k' ∧ n = n' ∧ s.toList = s'.toList
 ·obtain ⟨rfl, rfl, hs⟩ := h
  obtain rfl := ext_bytes hs
  exact ⟨_, _, _, _, fun w1 _ => op_same_t k n s w1 ha ha, fun w1 => rop7_t k n s w1 hna ha⟩
 ·exact ⟨_, _, _, _, fun w1 _ => op7_f k n k' n' s s' ha hb h w1, fun w1 => rop7_f k n k' n' s s' w1 hna hnb ha hb h⟩
theorem both10 (k n k' n' : Int) (s s' : ByteArray) (w : World) (hna : In64 n) (hnb : In64 n') (ha : mayB k n s = true) (hb : mayB k' n' s' = true) : Both 10 k n k' n' s s' w := by
 rcases Bool.eq_false_or_eq_true (truthB k n s) with t | t
 ·exact ⟨_, _, _, _, fun w1 _ => op_not_t k n k' n' s s' w1 ha hb t, fun w1 => rop10_t k n k' n' s s' w1 hna hnb ha hb t⟩
 ·exact ⟨_, _, _, _, fun w1 _ => op_not_f k n k' n' s s' w1 ha hb t, fun w1 => rop10_f k n k' n' s s' w1 hna hnb ha hb t⟩
theorem both8 (k n k' n' : Int) (s s' : ByteArray) (w : World) (hna : In64 n) (hnb : In64 n') (ha : mayB k n s = true) (hb : mayB k' n' s' = true) : Both 8 k n k' n' s s' w := by
 by_cases h2 : k = 2
 ·by_cases h2' : k' = 2
  ·by_cases l : n < n'
   ·exact ⟨_, _, _, _, fun w1 _ => op_order8 k n k' n' s s' _ _ _ _ w1 ha hb (fun w => order_int_lt8 k n k' n' s s' w (by simpa using h2) (by simpa using h2') l),
     fun w1 => rop8_int_lt k n k' n' s s' w1 hna hnb ha hb (by simpa using h2) (by simpa using h2') (by simp [h2]) l⟩
   ·by_cases g : n' < n
    ·exact ⟨_, _, _, _, fun w1 _ => op_order8 k n k' n' s s' _ _ _ _ w1 ha hb (fun w => order_int_gt8 k n k' n' s s' w (by simpa using h2) (by simpa using h2') g),
      fun w1 => rop8_int_gt k n k' n' s s' w1 hna hnb ha hb (by simpa using h2) (by simpa using h2') (by simp [h2]) (by simpa using l)⟩
    ·obtain rfl : n = n' := by omega
     subst h2; subst h2'
     obtain rfl : s = s' := ext_bytes (by rw [int_empty ha, int_empty hb])
     exact ⟨_, _, _, _, fun w1 _ => op_order8 2 n 2 n s s _ _ _ _ w1 ha hb (fun w => order_int_eq8 2 n 2 s s w rfl rfl),
      fun w1 => rop8_int_eq 2 n s w1 hna ha rfl rfl⟩
  ·exact ⟨_, _, _, _, fun w1 _ => op_order8 k n k' n' s s' _ _ _ _ w1 ha hb (fun w => order_gf 8 k n k' n' s s' w (by simpa using h2) (by simpa using h2') (by simp [h2])),
    fun w1 => rop8_gf k n k' n' s s' w1 hna hnb ha hb (by simpa using h2) (by simpa using h2') (by simp [h2])⟩
 ·by_cases h3 : k = 3
  ·by_cases h3' : k' = 3
   ·subst h3; subst h3'
    rcases Bool.eq_false_or_eq_true (Op.bytesLess s.toList s'.toList) with l | l
    ·exact ⟨_, _, _, _, fun w1 _ => op_order8 3 n 3 n' s s' _ _ _ _ w1 ha hb (fun w => order_txt_lt8 3 n 3 n' s s' w rfl rfl rfl l),
      fun w1 => rop8_txt_lt 3 n 3 n' s s' w1 hna hnb ha hb rfl rfl rfl (txt_size2 ha) l⟩
    ·rcases Bool.eq_false_or_eq_true (s.toList == s'.toList) with e | e
     ·obtain rfl : s = s' := ext_bytes (by simpa using e)
      obtain rfl : n = n' := by rw [txt_zero ha, txt_zero hb]
      exact ⟨_, _, _, _, fun w1 _ => op_order8 3 n 3 n s s _ _ _ _ w1 ha hb (fun w => order_txt_eq8 3 n 3 n s s w rfl rfl rfl l e),
       fun w1 => rop8_txt_eq 3 n s w1 hna ha rfl rfl (txt_size2 ha)⟩
     ·exact ⟨_, _, _, _, fun w1 _ => op_order8 3 n 3 n' s s' _ _ _ _ w1 ha hb (fun w => order_txt_gt8 3 n 3 n' s s' w rfl rfl rfl l e),
       fun w1 => rop8_txt_gt 3 n 3 n' s s' w1 hna hnb ha hb rfl rfl rfl (txt_size2 ha) l⟩
   ·exact ⟨_, _, _, _, fun w1 _ => op_order8 k n k' n' s s' _ _ _ _ w1 ha hb (fun w => order_fg 8 k n k' n' s s' w (by simpa using h2) (by simpa using h3) (by simpa using h3')),
     fun w1 => rop8_fg k n k' n' s s' w1 hna hnb ha hb (by simpa using h2) (by simpa using h3) (by simpa using h3')⟩
  ·exact ⟨_, _, _, _, fun w1 _ => op_order8 k n k' n' s s' _ _ _ _ w1 ha hb (fun w => order_ff 8 k n k' n' s s' w (by simpa using h2) (by simpa using h3)),
    fun w1 => rop8_ff k n k' n' s s' w1 hna hnb ha hb (by simpa using h2) (by simpa using h3)⟩
theorem both9 (k n k' n' : Int) (s s' : ByteArray) (w : World) (hna : In64 n) (hnb : In64 n') (ha : mayB k n s = true) (hb : mayB k' n' s' = true) : Both 9 k n k' n' s s' w := by
 by_cases h2 : k = 2
 ·by_cases h2' : k' = 2
  ·by_cases l : n < n'
   ·exact ⟨_, _, _, _, fun w1 _ => op_order9 k n k' n' s s' _ _ _ _ w1 ha hb (fun w => order_int_lt9 k n k' n' s s' w (by simpa using h2) (by simpa using h2') l),
     fun w1 => rop9_int_lt k n k' n' s s' w1 hna hnb ha hb (by simpa using h2) (by simpa using h2') (by simp [h2]) l⟩
   ·by_cases g : n' < n
    ·exact ⟨_, _, _, _, fun w1 _ => op_order9 k n k' n' s s' _ _ _ _ w1 ha hb (fun w => order_int_gt9 k n k' n' s s' w (by simpa using h2) (by simpa using h2') g),
      fun w1 => rop9_int_gt k n k' n' s s' w1 hna hnb ha hb (by simpa using h2) (by simpa using h2') (by simp [h2]) (by simpa using l) (fun e => by omega)⟩
    ·obtain rfl : n = n' := by omega
     subst h2; subst h2'
     obtain rfl : s = s' := ext_bytes (by rw [int_empty ha, int_empty hb])
     exact ⟨_, _, _, _, fun w1 _ => op_order9 2 n 2 n s s _ _ _ _ w1 ha hb (fun w => order_int_eq9 2 n 2 s s w rfl rfl),
      fun w1 => rop9_int_eq 2 n s w1 hna ha rfl rfl⟩
  ·exact ⟨_, _, _, _, fun w1 _ => op_order9 k n k' n' s s' _ _ _ _ w1 ha hb (fun w => order_gf 9 k n k' n' s s' w (by simpa using h2) (by simpa using h2') (by simp [h2])),
    fun w1 => rop9_gf k n k' n' s s' w1 hna hnb ha hb (by simpa using h2) (by simpa using h2') (by simp [h2])⟩
 ·by_cases h3 : k = 3
  ·by_cases h3' : k' = 3
   ·subst h3; subst h3'
    rcases Bool.eq_false_or_eq_true (Op.bytesLess s.toList s'.toList) with l | l
    ·exact ⟨_, _, _, _, fun w1 _ => op_order9 3 n 3 n' s s' _ _ _ _ w1 ha hb (fun w => order_txt_lt9 3 n 3 n' s s' w rfl rfl rfl l),
      fun w1 => rop9_txt_lt 3 n 3 n' s s' w1 hna hnb ha hb rfl rfl rfl (txt_size2 ha) l⟩
    ·rcases Bool.eq_false_or_eq_true (s.toList == s'.toList) with e | e
     ·obtain rfl : s = s' := ext_bytes (by simpa using e)
      obtain rfl : n = n' := by rw [txt_zero ha, txt_zero hb]
      exact ⟨_, _, _, _, fun w1 _ => op_order9 3 n 3 n s s _ _ _ _ w1 ha hb (fun w => order_txt_eq9 3 n 3 n s s w rfl rfl rfl l e),
       fun w1 => rop9_txt_eq 3 n s w1 hna ha rfl rfl (txt_size2 ha)⟩
     ·exact ⟨_, _, _, _, fun w1 _ => op_order9 3 n 3 n' s s' _ _ _ _ w1 ha hb (fun w => order_txt_gt9 3 n 3 n' s s' w rfl rfl rfl l e),
       fun w1 => rop9_txt_gt 3 n 3 n' s s' w1 hna hnb ha hb rfl rfl rfl (txt_size2 ha) l (fun c => by rw [c.2.2] at e; simp at e)⟩
   ·exact ⟨_, _, _, _, fun w1 _ => op_order9 k n k' n' s s' _ _ _ _ w1 ha hb (fun w => order_fg 9 k n k' n' s s' w (by simpa using h2) (by simpa using h3) (by simpa using h3')),
     fun w1 => rop9_fg k n k' n' s s' w1 hna hnb ha hb (by simpa using h2) (by simpa using h3) (by simpa using h3')⟩
  ·exact ⟨_, _, _, _, fun w1 _ => op_order9 k n k' n' s s' _ _ _ _ w1 ha hb (fun w => order_ff 9 k n k' n' s s' w (by simpa using h2) (by simpa using h3)),
    fun w1 => rop9_ff k n k' n' s s' w1 hna hnb ha hb (by simpa using h2) (by simpa using h3)⟩
theorem both6 (k n k' n' : Int) (s s' : ByteArray) (w : World) (hna : In64 n) (hnb : In64 n') (ha : mayB k n s = true) (hb : mayB k' n' s' = true) (ht : PTab w) : Both 6 k n k' n' s s' w := by
 by_cases h : k = 2 ∨ k = 3
 ·by_cases h' : k' = 2 ∨ k' = 3
  ·have la := text_size2 ha hna h
   have lb := text_size2 hb hnb h'
   have W1 := fun w => written_t k n s w hna.1 hna.2 h
   have W2 := fun w => written_t k' n' s' w hnb.1 hnb.2 h'
   have Ca : ∀ w1, Below w.heap.size w w1 → ∀ w2, Below w1.heap.size w1 w2 → Calls Tryz.prog 121 #[val k n s] w2 fun e w' => e = .returned (.string (textB k n s)) ∧ Below w2.heap.size w2 w' :=
    fun w1 e1 w2 e2 => text_any k n s w2 hna.1 hna.2 (ht.on (ext_trans e1 e2))
   have Cb : ∀ w1, Below w.heap.size w w1 → ∀ w2, Below w1.heap.size w1 w2 → Calls Tryz.prog 121 #[val k' n' s'] w2 fun e w' => e = .returned (.string (textB k' n' s')) ∧ Below w2.heap.size w2 w' :=
    fun w1 e1 w2 e2 => text_any k' n' s' w2 hnb.1 hnb.2 (ht.on (ext_trans e1 e2))
   by_cases z : (textB k n s).size + (textB k' n' s').size ≤ 300
   ·exact ⟨_, _, _, _, fun w1 e1 => op_joinT k n k' n' s s' _ _ _ _ w1 ha hb (fun w2 e2 => join_ok k n k' n' s s' _ _ w2 (by simpa using h) (by simpa using h') (Ca w2 (ext_trans e1 e2)) (Cb w2 (ext_trans e1 e2)) z),
     fun w1 => rop6_ok k n k' n' s s' w1 hna hnb ha hb _ _ W1 W2 z⟩
   ·exact ⟨_, _, _, _, fun w1 e1 => op_joinT k n k' n' s s' _ _ _ _ w1 ha hb (fun w2 e2 => join_big k n k' n' s s' _ _ w2 (by simpa using h) (by simpa using h') (Ca w2 (ext_trans e1 e2)) (Cb w2 (ext_trans e1 e2)) la lb (by omega)),
     fun w1 => rop6_big k n k' n' s s' w1 hna hnb ha hb _ _ W1 W2 la lb (by omega)⟩
  ·exact ⟨_, _, _, _, fun w1 _ => op_joinT k n k' n' s s' _ _ _ _ w1 ha hb (fun w2 _ => join_g k n k' n' s s' w2 (by simpa using h) (by simpa using h')),
    fun w1 => rop6_g k n k' n' s s' w1 hna hnb ha hb _ _ (fun w => written_t k n s w hna.1 hna.2 h) (fun w => written_f k' n' s' w hnb.1 hnb.2 (by simpa using fun e => h' (Or.inl e)) (by simpa using fun e => h' (Or.inr e)))⟩
 ·have F1 := fun w => written_f k n s w hna.1 hna.2 (by simpa using fun e => h (Or.inl e)) (by simpa using fun e => h (Or.inr e))
  by_cases h' : k' = 2 ∨ k' = 3
  ·exact ⟨_, _, _, _, fun w1 _ => op_joinT k n k' n' s s' _ _ _ _ w1 ha hb (fun w2 _ => join_f k n k' n' s s' w2 (by simpa using h)),
    fun w1 => rop6_f k n k' n' s s' w1 hna hnb ha hb _ _ true F1 (fun w => written_t k' n' s' w hnb.1 hnb.2 h')⟩
  ·exact ⟨_, _, _, _, fun w1 _ => op_joinT k n k' n' s s' _ _ _ _ w1 ha hb (fun w2 _ => join_f k n k' n' s s' w2 (by simpa using h)),
    fun w1 => rop6_f k n k' n' s s' w1 hna hnb ha hb _ _ false F1 (fun w => written_f k' n' s' w hnb.1 hnb.2 (by simpa using fun e => h' (Or.inl e)) (by simpa using fun e => h' (Or.inr e)))⟩
theorem both_any (op k n k' n' : Int) (s s' : ByteArray) (w : World) (hna : In64 n) (hnb : In64 n') (ht : PTab w) : Both op k n k' n' s s' w := by
 by_cases l : op < 1
 ·exact ⟨_, _, _, _, fun w1 _ => op_low op k n k' n' s s' w1 l, fun w1 => rop_low op k n k' n' s s' w1 l⟩
 by_cases g : 11 < op
 ·exact ⟨_, _, _, _, fun w1 _ => op_high op k n k' n' s s' w1 g, fun w1 => rop_high op k n k' n' s s' w1 g⟩
 rcases Bool.eq_false_or_eq_true (mayB k n s) with ha | ha
 ·rcases Bool.eq_false_or_eq_true (mayB k' n' s') with hb | hb
  ·have h : op = 1 ∨ op = 2 ∨ op = 3 ∨ op = 4 ∨ op = 5 ∨ op = 6 ∨ op = 7 ∨ op = 8 ∨ op = 9 ∨ op = 10 ∨ op = 11 := by omega
   rcases h with rfl | rfl | rfl | rfl | rfl | rfl | rfl | rfl | rfl | rfl | rfl
   ·exact both1 k n k' n' s s' w hna hnb ha hb
   ·exact both2 k n k' n' s s' w hna hnb ha hb
   ·exact both3 k n k' n' s s' w hna hnb ha hb
   ·exact both4 k n k' n' s s' w hna hnb ha hb
   ·exact both5 k n k' n' s s' w hna hnb ha hb
   ·exact both6 k n k' n' s s' w hna hnb ha hb ht
   ·exact both7 k n k' n' s s' w hna hnb ha hb
   ·exact both8 k n k' n' s s' w hna hnb ha hb
   ·exact both9 k n k' n' s s' w hna hnb ha hb
   ·exact both10 k n k' n' s s' w hna hnb ha hb
   ·exact both11 k n k' n' s s' w hna hnb ha hb
  ·exact ⟨_, _, _, _, fun w1 _ => op_b op k n k' n' s s' w1 (by omega) (by omega) ha hb, fun w1 => rop_b op k n k' n' s s' w1 hna hnb (by omega) (by omega) ha hb⟩
 ·exact ⟨_, _, _, _, fun w1 _ => op_a op k n k' n' s s' w1 (by omega) (by omega) ha, fun w1 => rop_a op k n k' n' s s' w1 hna (by omega) (by omega) ha⟩
theorem agree2 {P : Program} {f : FuncId} {args : Array Value} {w : World} {v v' : Value} {R R' : World → Prop}
  (h : Calls P f args w fun e w' => e = .returned v ∧ R w') (h' : Calls P f args w fun e w' => e = .returned v' ∧ R' w') (hi : P.inits.idxOf? f = none) : v = v' := by
 have g : Calls P f args w fun | .returned u, w' => u = v ∧ R w' | _, _ => False := h.mono fun e w' ⟨he, q⟩ => by subst he; exact ⟨rfl, q⟩
 have g' : Calls P f args w fun | .returned u, w' => u = v' ∧ R' w' | _, _ => False := h'.mono fun e w' ⟨he, q⟩ => by subst he; exact ⟨rfl, q⟩
 obtain ⟨n, u, w1, e1, r1⟩ := g.done hi
 obtain ⟨m, u', w2, e2, r2⟩ := g'.done hi
 have a := runN_ended e1 m
 have b := runN_ended e2 n
 rw [Nat.add_comm, a] at b
 injection b with ho hw
 injection ho with hv
 rw [← r1.1, ← r2.1, hv]
theorem OpF.doc {F : Int → Vl → Vl → Vl × Int} (hF : OpF F) {w0 : World} (hT : PTab w0) (op : Int) (x y : Vl) (w : World) :
  Calls Tryz.prog 55 #[.int .i64 op, x.v, y.v] w fun e w' => e = .returned (.tuple #[(F op x y).1.v, .int .i64 (F op x y).2]) ∧ Below w.heap.size w w' := by
 obtain ⟨k3, n3, er, s3, C1, C2⟩ := both_any op x.k x.n y.k y.n x.s y.s w0 (wf64 x.wn) (wf64 y.wn) hT
 have e := agree2 (hF.c op x y w0 hT) (C1 w0 (Below.refl _ _)) (by kernel_rfl)
 rw [e]
 exact C2 w
end Go.Proofs.YthpgbienakcbeaaGreatDoor
