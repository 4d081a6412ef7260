/- The law ValueOrders, for every three values: Op's answers put together. -/
import Derived.Test.YtcfkkmelenjjoaaDoorLawOrd
import Derived.Test.YtcfkkmelenjjoaaDoorOpB
import Derived.Test.YtcfkkmelenjjoaaDoorOrder
namespace Go.Proofs.YtcfkkmelenjjoaaDoor
open Go.RowKit
open Go

theorem less_irrefl : ∀ x : List UInt8, Op.bytesLess x x = false
  | [] => rfl
  | a :: x => by rw [Op.bytesLess, less_irrefl x]; simp
theorem less_asymm : ∀ x y : List UInt8, Op.bytesLess x y = true → Op.bytesLess y x = false
  | _, [], h => by simp [Op.bytesLess] at h
  | [], _ :: _, _ => by simp [Op.bytesLess]
  | a :: x, b :: y, h => by
    rw [Op.bytesLess] at h ⊢
    simp only [Bool.or_eq_true, decide_eq_true_eq, Bool.and_eq_true, beq_iff_eq, Bool.or_eq_false_iff, decide_eq_false_iff_not, Bool.and_eq_false_iff, beq_eq_false_iff_ne] at h ⊢
    rcases h with h | ⟨rfl, h⟩
    · exact ⟨fun k => absurd (UInt8.lt_trans h k) (UInt8.lt_irrefl _), Or.inl (fun k => by subst k; exact UInt8.lt_irrefl _ h)⟩
    · exact ⟨UInt8.lt_irrefl _, Or.inr (less_asymm x y h)⟩
theorem less_total : ∀ x y : List UInt8, Op.bytesLess x y = false → Op.bytesLess y x = false → x = y
  | [], [], _, _ => rfl
  | _ :: _, [], _, h => by simp [Op.bytesLess] at h
  | [], _ :: _, h, _ => by simp [Op.bytesLess] at h
  | a :: x, b :: y, h, k => by
    rw [Op.bytesLess] at h k
    simp only [Bool.or_eq_false_iff, decide_eq_false_iff_not, Bool.and_eq_false_iff, beq_eq_false_iff_ne] at h k
    have e : a = b := by
      have h1 := h.1; have k1 := k.1
      rw [UInt8.lt_iff_toNat_lt] at h1 k1
      exact UInt8.toNat_inj.1 (by omega)
    subst e
    rw [less_total x y (h.2.resolve_left (fun f => f rfl)) (k.2.resolve_left (fun f => f rfl))]
theorem less_trans : ∀ x y z : List UInt8, Op.bytesLess x y = true → Op.bytesLess y z = true → Op.bytesLess x z = true
  | _, _, [], _, h => by simp [Op.bytesLess] at h
  | _, [], _ :: _, h, _ => by simp [Op.bytesLess] at h
  | [], _ :: _, _ :: _, _, _ => by simp [Op.bytesLess]
  | a :: x, b :: y, c :: z, h, k => by
    rw [Op.bytesLess] at h k ⊢
    simp only [Bool.or_eq_true, decide_eq_true_eq, Bool.and_eq_true, beq_iff_eq] at h k ⊢
    rcases h with h | ⟨rfl, h⟩
    · rcases k with k | ⟨rfl, _⟩
      · exact Or.inl (UInt8.lt_trans h k)
      · exact Or.inl h
    · rcases k with k | ⟨rfl, k⟩
      · exact Or.inl k
      · exact Or.inr ⟨rfl, less_trans x y z h k⟩

theorem ext_bytes {a b : ByteArray} (h : a.toList = b.toList) : a = b := by
  rw [ByteArray.toList_eq, ByteArray.toList_eq] at h
  exact WideShapes.bytes_inj h

/-- Less, of two values of one kind. -/
def ltV (ka na : Int) (sa : ByteArray) (nb : Int) (sb : ByteArray) : Bool := if ka = 2 then decide (na < nb) else Op.bytesLess sa.toList sb.toList
abbrev Tup (k n e : Int) : Ending := .returned (.tuple #[val k n E0, .int .i64 e])
abbrev OpIs (op : Int) (ka na : Int) (sa : ByteArray) (kb nb : Int) (sb : ByteArray) (k n e : Int) : Prop :=
  ∀ w, Calls Tryd.prog 13 #[.int .i64 op, val ka na sa, val kb nb sb] w fun e' w' => e' = Tup k n e ∧ Below w.heap.size w w'

section
variable (ka na kb nb : Int) (sa sb : ByteArray)

theorem op_form (op : Int) (h1 : 1 ≤ op) (h2 : op ≤ 11) (h : mayB ka na sa = false ∨ mayB kb nb sb = false) : OpIs op ka na sa kb nb sb 0 0 2 := by
  intro w
  rcases Bool.eq_false_or_eq_true (mayB ka na sa) with ha | ha
  · exact op_b op ka na kb nb sa sb w h1 h2 ha (h.resolve_left (by rw [ha]; decide))
  · exact op_a op ka na kb nb sa sb w h1 h2 ha

theorem op8_kind (ha : mayB ka na sa = true) (hb : mayB kb nb sb = true) (h : ¬ ((ka = 2 ∧ kb = 2) ∨ (ka = 3 ∧ kb = 3))) : OpIs 8 ka na sa kb nb sb 0 0 3 := by
  intro w
  refine op_order8 ka na kb nb sa sb _ _ _ _ w ha hb (fun w => ?_)
  by_cases g : ka = 2
  · exact order_gf 8 ka na kb nb sa sb w (by simpa using g) (by simp; omega) (by simp; omega)
  · by_cases g3 : ka = 3
    · exact order_fg 8 ka na kb nb sa sb w (by simpa using g) (by simpa using g3) (by simp; omega)
    · exact order_ff 8 ka na kb nb sa sb w (by simpa using g) (by simpa using g3)
theorem op9_kind (ha : mayB ka na sa = true) (hb : mayB kb nb sb = true) (h : ¬ ((ka = 2 ∧ kb = 2) ∨ (ka = 3 ∧ kb = 3))) : OpIs 9 ka na sa kb nb sb 0 0 3 := by
  intro w
  refine op_order9 ka na kb nb sa sb _ _ _ _ w ha hb (fun w => ?_)
  by_cases g : ka = 2
  · exact order_gf 9 ka na kb nb sa sb w (by simpa using g) (by simp; omega) (by simp; omega)
  · by_cases g3 : ka = 3
    · exact order_fg 9 ka na kb nb sa sb w (by simpa using g) (by simpa using g3) (by simp; omega)
    · exact order_ff 9 ka na kb nb sa sb w (by simpa using g) (by simpa using g3)

theorem op8_t (ha : mayB ka na sa = true) (hb : mayB kb nb sb = true) (h : (ka = 2 ∧ kb = 2) ∨ (ka = 3 ∧ kb = 3)) (hl : ltV ka na sa nb sb = true) : OpIs 8 ka na sa kb nb sb 1 1 0 := by
  intro w
  refine op_order8 ka na kb nb sa sb _ _ _ _ w ha hb (fun w => ?_)
  unfold ltV at hl
  rcases h with ⟨g, g'⟩ | ⟨g, g'⟩
  · rw [if_pos g] at hl
    exact order_int_lt8 ka na kb nb sa sb w (by simpa using g) (by simpa using g') (by simpa using hl)
  · rw [if_neg (by omega)] at hl
    exact order_txt_lt8 ka na kb nb sa sb w (by simpa using g) (by simpa using g') (by simp; omega) hl
theorem op8_f (ha : mayB ka na sa = true) (hb : mayB kb nb sb = true) (h : (ka = 2 ∧ kb = 2) ∨ (ka = 3 ∧ kb = 3)) (hl : ltV ka na sa nb sb = false) : OpIs 8 ka na sa kb nb sb 1 0 0 := by
  intro w
  refine op_order8 ka na kb nb sa sb _ _ _ _ w ha hb (fun w => ?_)
  unfold ltV at hl
  rcases h with ⟨g, g'⟩ | ⟨g, g'⟩
  · rw [if_pos g] at hl
    have hl' : ¬ na < nb := by simpa using hl
    by_cases e : na = nb
    · subst e
      exact order_int_eq8 ka na kb sa sb w (by simpa using g) (by simpa using g')
    · exact order_int_gt8 ka na kb nb sa sb w (by simpa using g) (by simpa using g') (by omega)
  · rw [if_neg (by omega)] at hl
    rcases Bool.eq_false_or_eq_true (sa.toList == sb.toList) with e | e
    · exact order_txt_eq8 ka na kb nb sa sb w (by simpa using g) (by simpa using g') (by simp; omega) hl e
    · exact order_txt_gt8 ka na kb nb sa sb w (by simpa using g) (by simpa using g') (by simp; omega) hl e

/-- Most: the other one is not less. -/
theorem op9_t (ha : mayB ka na sa = true) (hb : mayB kb nb sb = true) (h : (ka = 2 ∧ kb = 2) ∨ (ka = 3 ∧ kb = 3)) (hl : ltV kb nb sb na sa = false) : OpIs 9 ka na sa kb nb sb 1 1 0 := by
  intro w
  refine op_order9 ka na kb nb sa sb _ _ _ _ w ha hb (fun w => ?_)
  unfold ltV at hl
  rcases h with ⟨g, g'⟩ | ⟨g, g'⟩
  · rw [if_pos g'] at hl
    have hl' : ¬ nb < na := by simpa using hl
    by_cases e : na = nb
    · subst e
      exact order_int_eq9 ka na kb sa sb w (by simpa using g) (by simpa using g')
    · exact order_int_lt9 ka na kb nb sa sb w (by simpa using g) (by simpa using g') (by omega)
  · rw [if_neg (by omega)] at hl
    rcases Bool.eq_false_or_eq_true (Op.bytesLess sa.toList sb.toList) with l | l
    · exact order_txt_lt9 ka na kb nb sa sb w (by simpa using g) (by simpa using g') (by simp; omega) l
    · exact order_txt_eq9 ka na kb nb sa sb w (by simpa using g) (by simpa using g') (by simp; omega) l (by simpa using less_total _ _ l hl)
theorem op9_f (ha : mayB ka na sa = true) (hb : mayB kb nb sb = true) (h : (ka = 2 ∧ kb = 2) ∨ (ka = 3 ∧ kb = 3)) (hl : ltV kb nb sb na sa = true) : OpIs 9 ka na sa kb nb sb 1 0 0 := by
  intro w
  refine op_order9 ka na kb nb sa sb _ _ _ _ w ha hb (fun w => ?_)
  unfold ltV at hl
  rcases h with ⟨g, g'⟩ | ⟨g, g'⟩
  · rw [if_pos g'] at hl
    exact order_int_gt9 ka na kb nb sa sb w (by simpa using g) (by simpa using g') (by simpa using hl)
  · rw [if_neg (by omega)] at hl
    have l := less_asymm _ _ hl
    rcases Bool.eq_false_or_eq_true (sa.toList == sb.toList) with e | e
    · have e' : sa.toList = sb.toList := by simpa using e
      rw [e', less_irrefl] at hl
      cases hl
    · exact order_txt_gt9 ka na kb nb sa sb w (by simpa using g) (by simpa using g') (by simp; omega) l e

theorem op7_t (ha : mayB ka na sa = true) : OpIs 7 ka na sa ka na sa 1 1 0 := fun w => op_same_t ka na sa w ha ha
theorem op7_f (ha : mayB ka na sa = true) (hb : mayB kb nb sb = true) (h : ¬ (ka = kb ∧ na = nb ∧ sa.toList = sb.toList)) : OpIs 7 ka na sa kb nb sb 1 0 0 := by
  intro w
  by_cases hk : ka = kb
  · subst hk
    by_cases hn : na = nb
    · subst hn
      exact op_same_s ka na sa sb w ha hb (fun hs => h ⟨rfl, rfl, hs⟩)
    · exact op_same_n ka na nb sa sb w ha hb hn
  · exact op_same_k ka na kb nb sa sb w ha hb hk
theorem op7_any (ha : mayB ka na sa = true) (hb : mayB kb nb sb = true) : ∃ x, OpIs 7 ka na sa kb nb sb 1 x 0 := by
  by_cases h : ka = kb ∧ na = nb ∧ sa.toList = sb.toList
  · obtain ⟨rfl, rfl, hs⟩ := h
    obtain rfl := ext_bytes hs
    exact ⟨1, op7_t ka na sa ha⟩
  · exact ⟨0, op7_f ka na kb nb sa sb ha hb h⟩
end

theorem int_empty {n : Int} {s : ByteArray} (h : mayB 2 n s = true) : s.toList = [] := by
  unfold mayB at h
  rw [if_neg (by decide)] at h
  rcases Bool.eq_false_or_eq_true s.toList.isEmpty with e | e
  · simpa using e
  · rw [if_pos e] at h; cases h
theorem txt_zero {n : Int} {s : ByteArray} (h : mayB 3 n s = true) : n = 0 := by
  unfold mayB at h
  rw [if_pos rfl] at h
  simp at h
  exact h.1
/-- Two values of one kind, neither less: they are the same. -/
theorem same_of (ka na kb nb : Int) (sa sb : ByteArray) (ha : mayB ka na sa = true) (hb : mayB kb nb sb = true) (h : (ka = 2 ∧ kb = 2) ∨ (ka = 3 ∧ kb = 3)) (l : ltV ka na sa nb sb = false) (g : ltV kb nb sb na sa = false) : ka = kb ∧ na = nb ∧ sa = sb := by
  unfold ltV at l g
  rcases h with ⟨rfl, rfl⟩ | ⟨rfl, rfl⟩
  · rw [if_pos rfl] at l g
    simp at l g
    exact ⟨rfl, by omega, ext_bytes (by rw [int_empty ha, int_empty hb])⟩
  · rw [if_neg (by decide)] at l g
    exact ⟨rfl, by rw [txt_zero ha, txt_zero hb], ext_bytes (less_total _ _ l g)⟩
theorem lt_asymm' (ka na kb nb : Int) (sa sb : ByteArray) (h : (ka = 2 ∧ kb = 2) ∨ (ka = 3 ∧ kb = 3)) (l : ltV ka na sa nb sb = true) : ltV kb nb sb na sa = false := by
  unfold ltV at l ⊢
  rcases h with ⟨rfl, rfl⟩ | ⟨rfl, rfl⟩
  · rw [if_pos rfl] at l ⊢
    simp at l ⊢
    omega
  · rw [if_neg (by decide)] at l ⊢
    exact less_asymm _ _ l
theorem lt_irrefl' (ka na : Int) (sa : ByteArray) : ltV ka na sa na sa = false := by
  unfold ltV
  split
  · simp
  · exact less_irrefl _
theorem lt_trans' (ka na nb nc : Int) (sa sb sc : ByteArray) (l : ltV ka na sa nb sb = true) (g : ltV ka nb sb nc sc = true) : ltV ka na sa nc sc = true := by
  unfold ltV at l g ⊢
  split at l
  · rename_i h
    rw [if_pos h] at g ⊢
    simp at l g ⊢
    omega
  · rename_i h
    rw [if_neg h] at g ⊢
    exact less_trans _ _ _ l g

/-- THE LAW. -/
theorem orders_any (ka na kb nb kc nc : Int) (sa sb sc : ByteArray) (w : World) :
    Calls Tryd.prog 6 #[val ka na sa, val kb nb sb, val kc nc sc] w fun e w' => e = .returned (.bool true) ∧ Below w.heap.size w w' := by
  by_cases hm : mayB ka na sa = true ∧ mayB kb nb sb = true
  · obtain ⟨ha, hb⟩ := hm
    by_cases h : (ka = 2 ∧ kb = 2) ∨ (ka = 3 ∧ kb = 3)
    · have h' : (kb = 2 ∧ ka = 2) ∨ (kb = 3 ∧ ka = 3) := h.imp And.symm And.symm
      by_cases hc : mayB kc nc sc = true
      · by_cases k : (kb = 2 ∧ kc = 2) ∨ (kb = 3 ∧ kc = 3)
        · have k' : (ka = 2 ∧ kc = 2) ∨ (ka = 3 ∧ kc = 3) := by omega
          have b4 : ∃ x, OpIs 8 kb nb sb kc nc sc 1 x 0 := by
            rcases Bool.eq_false_or_eq_true (ltV kb nb sb nc sc) with l | l
            · exact ⟨1, op8_t _ _ _ _ _ _ hb hc k l⟩
            · exact ⟨0, op8_f _ _ _ _ _ _ hb hc k l⟩
          have b5 : ∃ x, OpIs 8 ka na sa kc nc sc 1 x 0 := by
            rcases Bool.eq_false_or_eq_true (ltV ka na sa nc sc) with l | l
            · exact ⟨1, op8_t _ _ _ _ _ _ ha hc k' l⟩
            · exact ⟨0, op8_f _ _ _ _ _ _ ha hc k' l⟩
          obtain ⟨x4, b4⟩ := b4
          obtain ⟨x5, b5⟩ := b5
          rcases Bool.eq_false_or_eq_true (ltV ka na sa nb sb) with l | l
          · have g := lt_asymm' _ _ _ _ _ _ h l
            have ns : ¬ (ka = kb ∧ na = nb ∧ sa.toList = sb.toList) := by
              rintro ⟨rfl, rfl, hs⟩
              obtain rfl := ext_bytes hs
              rw [g] at l
              cases l
            rcases Bool.eq_false_or_eq_true (ltV kb nb sb nc sc) with m | m
            · obtain rfl : ka = kb := by omega
              exact orders_l_1 ka na ka nb kc nc sa sb sc (op8_t _ _ _ _ _ _ ha hb h l) (op8_f _ _ _ _ _ _ hb ha h' g) (op7_f _ _ _ _ _ _ ha hb ns) (op8_t _ _ _ _ _ _ hb hc k m) (op8_t _ _ _ _ _ _ ha hc k' (lt_trans' _ _ _ _ _ _ _ l m)) (op9_t _ _ _ _ _ _ ha hb h g) w
            · exact orders_l_0 ka na kb nb kc nc sa sb sc x5 (op8_t _ _ _ _ _ _ ha hb h l) (op8_f _ _ _ _ _ _ hb ha h' g) (op7_f _ _ _ _ _ _ ha hb ns) (op8_f _ _ _ _ _ _ hb hc k m) b5 (op9_t _ _ _ _ _ _ ha hb h g) w
          · rcases Bool.eq_false_or_eq_true (ltV kb nb sb na sa) with g | g
            · have ns : ¬ (ka = kb ∧ na = nb ∧ sa.toList = sb.toList) := by
                rintro ⟨rfl, rfl, hs⟩
                obtain rfl := ext_bytes hs
                rw [g] at l
                cases l
              exact orders_g_i ka na kb nb kc nc sa sb sc x4 x5 (op8_f _ _ _ _ _ _ ha hb h l) (op8_t _ _ _ _ _ _ hb ha h' g) (op7_f _ _ _ _ _ _ ha hb ns) b4 b5 (op9_f _ _ _ _ _ _ ha hb h g) w
            · obtain ⟨rfl, rfl, rfl⟩ := same_of _ _ _ _ _ _ ha hb h l g
              exact orders_s_i ka na ka na kc nc sa sa sc x4 x5 (op8_f _ _ _ _ _ _ ha hb h l) (op8_f _ _ _ _ _ _ hb ha h' g) (op7_t _ _ _ ha) b4 b5 (op9_t _ _ _ _ _ _ ha hb h g) w
        · have k' : ¬ ((ka = 2 ∧ kc = 2) ∨ (ka = 3 ∧ kc = 3)) := by omega
          have b4 := op8_kind _ _ _ _ _ _ hb hc k
          have b5 := op8_kind _ _ _ _ _ _ ha hc k'
          rcases Bool.eq_false_or_eq_true (ltV ka na sa nb sb) with l | l
          · have g := lt_asymm' _ _ _ _ _ _ h l
            have ns : ¬ (ka = kb ∧ na = nb ∧ sa.toList = sb.toList) := by
              rintro ⟨rfl, rfl, hs⟩
              obtain rfl := ext_bytes hs
              rw [g] at l
              cases l
            exact orders_l_h3 ka na kb nb kc nc sa sb sc _ _ _ _ _ (op8_t _ _ _ _ _ _ ha hb h l) (op8_f _ _ _ _ _ _ hb ha h' g) (op7_f _ _ _ _ _ _ ha hb ns) b4 b5 (op9_t _ _ _ _ _ _ ha hb h g) w
          · rcases Bool.eq_false_or_eq_true (ltV kb nb sb na sa) with g | g
            · have ns : ¬ (ka = kb ∧ na = nb ∧ sa.toList = sb.toList) := by
                rintro ⟨rfl, rfl, hs⟩
                obtain rfl := ext_bytes hs
                rw [g] at l
                cases l
              exact orders_g_h3 ka na kb nb kc nc sa sb sc _ _ _ _ _ (op8_f _ _ _ _ _ _ ha hb h l) (op8_t _ _ _ _ _ _ hb ha h' g) (op7_f _ _ _ _ _ _ ha hb ns) b4 b5 (op9_f _ _ _ _ _ _ ha hb h g) w
            · obtain ⟨rfl, rfl, rfl⟩ := same_of _ _ _ _ _ _ ha hb h l g
              exact orders_s_h3 ka na ka na kc nc sa sa sc _ _ _ _ _ (op8_f _ _ _ _ _ _ ha hb h l) (op8_f _ _ _ _ _ _ hb ha h' g) (op7_t _ _ _ ha) b4 b5 (op9_t _ _ _ _ _ _ ha hb h g) w
      · have hc' : mayB kc nc sc = false := by simpa using hc
        have b4 := op_form kb nb kc nc sb sc 8 (by decide) (by decide) (Or.inr hc')
        have b5 := op_form ka na kc nc sa sc 8 (by decide) (by decide) (Or.inr hc')
        rcases Bool.eq_false_or_eq_true (ltV ka na sa nb sb) with l | l
        · have g := lt_asymm' _ _ _ _ _ _ h l
          have ns : ¬ (ka = kb ∧ na = nb ∧ sa.toList = sb.toList) := by
            rintro ⟨rfl, rfl, hs⟩
            obtain rfl := ext_bytes hs
            rw [g] at l
            cases l
          exact orders_l_h2 ka na kb nb kc nc sa sb sc _ _ _ _ _ (op8_t _ _ _ _ _ _ ha hb h l) (op8_f _ _ _ _ _ _ hb ha h' g) (op7_f _ _ _ _ _ _ ha hb ns) b4 b5 (op9_t _ _ _ _ _ _ ha hb h g) w
        · rcases Bool.eq_false_or_eq_true (ltV kb nb sb na sa) with g | g
          · have ns : ¬ (ka = kb ∧ na = nb ∧ sa.toList = sb.toList) := by
              rintro ⟨rfl, rfl, hs⟩
              obtain rfl := ext_bytes hs
              rw [g] at l
              cases l
            exact orders_g_h2 ka na kb nb kc nc sa sb sc _ _ _ _ _ (op8_f _ _ _ _ _ _ ha hb h l) (op8_t _ _ _ _ _ _ hb ha h' g) (op7_f _ _ _ _ _ _ ha hb ns) b4 b5 (op9_f _ _ _ _ _ _ ha hb h g) w
          · obtain ⟨rfl, rfl, rfl⟩ := same_of _ _ _ _ _ _ ha hb h l g
            exact orders_s_h2 ka na ka na kc nc sa sa sc _ _ _ _ _ (op8_f _ _ _ _ _ _ ha hb h l) (op8_f _ _ _ _ _ _ hb ha h' g) (op7_t _ _ _ ha) b4 b5 (op9_t _ _ _ _ _ _ ha hb h g) w
    · obtain ⟨x, b3⟩ := op7_any ka na kb nb sa sb ha hb
      exact orders_err3 ka na kb nb kc nc sa sb sc _ _ _ (op8_kind _ _ _ _ _ _ ha hb h) (op8_kind _ _ _ _ _ _ hb ha (fun k => h (k.imp And.symm And.symm))) b3 w
  · have hm' : mayB ka na sa = false ∨ mayB kb nb sb = false := by
      rcases Bool.eq_false_or_eq_true (mayB ka na sa) with ha | ha
      · exact Or.inr (by simpa [ha] using hm)
      · exact Or.inl ha
    exact orders_err2 ka na kb nb kc nc sa sb sc _ _ _ (op_form _ _ _ _ _ _ 8 (by decide) (by decide) hm') (op_form _ _ _ _ _ _ 8 (by decide) (by decide) hm'.symm) (op_form _ _ _ _ _ _ 7 (by decide) (by decide) hm') w
end Go.Proofs.YtcfkkmelenjjoaaDoor
