/- Walks of the document's own answers: small functions of chapter 1. -/
import Derived.Test.YthpgbienakcbeaaGreatDoorR21
import Derived.Test.YthpgbienakcbeaaGreatDoorR12
import Derived.BigQuiet
namespace Go.Proofs.YthpgbienakcbeaaGreatDoor
open Go.RowKit Go
set_option maxRecDepth 100000
set_option maxHeartbeats 8000000
set_option linter.all false
theorem rbool_t (w : World) : Calls Tryz.prog 81 #[.bool true] w fun e w' => e = .returned (val 1 1 E0) ∧ Below w.heap.size w w' := by
 go_enter Tryz.func81, Tryz.ntmps81
 go_wp2
 exact bodyPost_ret (v := val 1 1 E0) (by simp [results, Tryz.results81, go_sem]) rfl ⟨rfl, ext_alloc (ext_alloc (Below.refl _ _) _) _⟩
theorem rbool_f (w : World) : Calls Tryz.prog 81 #[.bool false] w fun e w' => e = .returned (val 1 0 E0) ∧ Below w.heap.size w w' := by
 go_enter Tryz.func81, Tryz.ntmps81
 go_wp2
 exact bodyPost_ret (v := val 1 0 E0) (by simp [results, Tryz.results81, go_sem]) rfl ⟨rfl, ext_alloc (ext_alloc (Below.refl _ _) _) _⟩
theorem div_m1 (a : Int) : divV a (-1) = wrap64 (0 - a) := by
 unfold divV
 have : a.fdiv (-1) = -a := ((Int.fdiv_fmod_unique' (a := a) (b := -1) (r := 0) (q := -a) (by decide)).2 ⟨by omega, by omega, by omega⟩).1
 rw [this]; congr 1; omega
theorem rdiv_any (a b : Int) (w : World) (ha : -9223372036854775808 ≤ a ∧ a ≤ 9223372036854775807) (hb : -9223372036854775808 ≤ b ∧ b ≤ 9223372036854775807) (hz : (b == 0) = false) :
  Calls Tryz.prog 86 #[.int .i64 a, .int .i64 b] w fun e w' => e = .returned (.int .i64 (divV a b)) ∧ w' = w := by
 have hb0 : b ≠ 0 := by simpa using hz
 by_cases m1 : b = -1
 ·subst m1
  go_enter Tryz.func86, Tryz.ntmps86
  go_wp2
  go_ret
  exact ⟨ret_int (by rw [div_m1, Int.zero_sub]), rfl⟩
 ·have e := Int.tmod_add_mul_tdiv a b
  obtain ⟨t1, t2⟩ := tmod_bounds a hb0
  obtain ⟨q, hq⟩ : ∃ q, a.tdiv b = q := ⟨_, rfl⟩
  obtain ⟨m, hm⟩ : ∃ m, a.tmod b = m := ⟨_, rfl⟩
  rw [hm] at t1 t2
  rw [hm, hq] at e
  have hqn : q.natAbs ≤ a.natAbs := by rw [← hq, Int.natAbs_tdiv]; exact Nat.div_le_self _ _
  have hqr : -9223372036854775808 ≤ q ∧ q ≤ 9223372036854775807 := by
   by_cases b1 : b = 1
   ·rw [b1, Int.tdiv_one] at hq; omega
   by_cases h : a = -9223372036854775808
   ·have : q.natAbs ≤ a.natAbs / 2 := by
     rw [← hq, Int.natAbs_tdiv]
     exact Nat.div_le_div_left (by omega) (by decide)
    omega
   ·omega
  have hp : wrap64 (q * b) = a - m := by
   have e2 : q * b = a - m := by rw [Int.mul_comm]; omega
   rw [e2]; exact wrap_id (by omega) (by omega)
  obtain ⟨q1, q2⟩ := hqr
  have hneg : ¬ (b == -1) = true := by simpa using m1
  have hneg' : (b == -1) = false := by simpa using m1
  have HM := Lib.hid hm
  have HQ := Lib.hid hq
  have HE := Lib.hid e
  clear e t1 t2 hqn hm hneg m1
  rcases Bool.eq_false_or_eq_true (m == 0) with m0 | m0
  ·have m0' : m = 0 := by simpa using m0
   subst m0'
   have hp' : wrap64 (q * b) = a := by rw [hp]; omega
   clear hp
   go_enter Tryz.func86, Tryz.ntmps86
   go_wp2
   go_ret
   exact ⟨ret_int (by unfold divV; rw [← fdiv_zero (by simpa using hz) HM.out, HQ.out]; exact (wrap_id q1 q2).symm), rfl⟩
  ·have m1 : ¬ m = 0 := by simpa using m0
   have hne : (wrap64 (q * b) != a) = true := by rw [hp]; simp; omega
   clear hp
   by_cases sa : a < 0
   ·by_cases sb : b < 0
    ·go_enter Tryz.func86, Tryz.ntmps86
     go_wp2
     go_ret
     exact ⟨ret_int (by unfold divV; rw [← fdiv_same hb0 (by simp [sa, sb]), HQ.out]; exact (wrap_id q1 q2).symm), rfl⟩
    ·go_enter Tryz.func86, Tryz.ntmps86
     go_wp2
     go_ret
     exact ⟨ret_int (by unfold divV; rw [← fdiv_less hb0 (by rw [HM.out]; exact m1) (by simp [sa]; omega), HQ.out]), rfl⟩
   ·by_cases sb : b < 0
    ·go_enter Tryz.func86, Tryz.ntmps86
     go_wp2
     go_ret
     exact ⟨ret_int (by unfold divV; rw [← fdiv_less hb0 (by rw [HM.out]; exact m1) (by simp [sb]; omega), HQ.out]), rfl⟩
    ·go_enter Tryz.func86, Tryz.ntmps86
     go_wp2
     go_ret
     exact ⟨ret_int (by unfold divV; rw [← fdiv_same hb0 (by omega), HQ.out]; exact (wrap_id q1 q2).symm), rfl⟩
theorem less_take : ∀ (j : Nat) (l m : List UInt8), l.take j = m.take j → j ≤ l.length → j ≤ m.length → Op.bytesLess l m = Op.bytesLess (l.drop j) (m.drop j)
 | 0, _, _, _, _, _ => rfl
 | j + 1, [], _, _, h, _ => by simp at h
 | j + 1, _ :: _, [], _, _, h => by simp at h
 | j + 1, x :: l, y :: m, h, h1, h2 => by
  simp only [List.take_succ_cons, List.cons.injEq] at h
  obtain ⟨rfl, h⟩ := h
  rw [Op.bytesLess, less_take j l m h (by simpa using h1) (by simpa using h2)]
  simp
theorem less_at {a b : ByteArray} {j : Nat} (h : a.data.toList.take j = b.data.toList.take j) (ja : j < a.size) (jb : j < b.size) (hne : ((a[j].toNat : Int) != (b[j].toNat : Int)) = true) :
  decide (a[j].toNat < b[j].toNat) = Op.bytesLess a.toList b.toList := by
 have la : j < a.data.toList.length := ja
 have lb : j < b.data.toList.length := jb
 rw [ByteArray.toList_eq, ByteArray.toList_eq, less_take j _ _ h (by omega) (by omega), List.drop_eq_getElem_cons la, List.drop_eq_getElem_cons lb, Op.bytesLess]
 have ea : a.data.toList[j] = a[j] := rfl
 have eb : b.data.toList[j] = b[j] := rfl
 rw [ea, eb]
 have hne' : ¬ a[j] = b[j] := by
  intro e
  rw [e] at hne
  simp at hne
 rw [Bool.eq_iff_iff]
 simp [hne', UInt8.lt_iff_toNat_lt]
theorem less_end {a b : ByteArray} {j : Nat} (h : a.data.toList.take j = b.data.toList.take j) (j1 : j ≤ a.size) (j2 : j ≤ b.size) (hj : j = a.size ∨ j = b.size) :
  decide (a.size < b.size) = Op.bytesLess a.toList b.toList := by
 have la : a.data.toList.length = a.size := rfl
 have lb : b.data.toList.length = b.size := rfl
 rw [ByteArray.toList_eq, ByteArray.toList_eq, less_take j _ _ h (by omega) (by omega)]
 rcases hj with e | e
 ·rw [List.drop_eq_nil_of_le (by omega : a.data.toList.length ≤ j)]
  cases hd : b.data.toList.drop j with
  | nil =>
   have := congrArg List.length hd
   simp only [List.length_drop, List.length_nil] at this
   simp [Op.bytesLess]; omega
  | cons x r =>
   have := congrArg List.length hd
   simp only [List.length_drop, List.length_cons] at this
   simp [Op.bytesLess]; omega
 ·rw [List.drop_eq_nil_of_le (by omega : b.data.toList.length ≤ j)]
  have : Op.bytesLess (a.data.toList.drop j) [] = false := by cases a.data.toList.drop j <;> rfl
  rw [this]
  simp; omega
theorem take_next {a b : ByteArray} {j : Nat} (h : a.data.toList.take j = b.data.toList.take j) (ja : j < a.size) (jb : j < b.size) (he : ((a[j].toNat : Int) != (b[j].toNat : Int)) = false) :
  a.data.toList.take (j + 1) = b.data.toList.take (j + 1) := by
 have la : j < a.data.toList.length := ja
 have lb : j < b.data.toList.length := jb
 rw [List.take_succ_eq_append_getElem la, List.take_succ_eq_append_getElem lb, h]
 have ea : a.data.toList[j] = a[j] := rfl
 have eb : b.data.toList[j] = b[j] := rfl
 have e : a[j] = b[j] := by
  have : (a[j].toNat : Int) = (b[j].toNat : Int) := by simpa using he
  exact UInt8.toNat_inj.1 (by omega)
 rw [ea, eb, e]
theorem ext_drewN {a w : World} (h : Below a.heap.size a w) (n : Nat) : Below a.heap.size a (w.drewN n) := ⟨h.os, h.tape, h.output, h.size, h.block⟩
theorem before_any (a b : ByteArray) (w : World) (ha : a.size ≤ 300) :
  Calls Tryz.prog 83 #[.string a, .string b] w fun e w' => e = .returned (.bool (Op.bytesLess a.toList b.toList)) ∧ Below w.heap.size w w' := by
 go_enter Tryz.func83, Tryz.ntmps83
 go_wp2
 go_loopw [5] (fun i wr => ∃ j : Nat, j ≤ a.size ∧ j ≤ b.size ∧ i = .int .i64 j ∧ Hid (a.data.toList.take j = b.data.toList.take j) ∧ Below w.heap.size w wr) (fun i _ => a.size - (intOf i).toNat)
 case atStart => exact ⟨0, Nat.zero_le _, Nat.zero_le _, rfl, by simp [Hid], Below.refl _ _⟩
 case round =>
  obtain ⟨j, j1, j2, rfl, H, hbw⟩ := hrel
  by_cases ja : j < a.size
  ·by_cases jb : j < b.size
   ·have ja' : (j : Int) < (a.size : Int) := by omega
    have jb' : (j : Int) < (b.size : Int) := by omega
    have j0 : (0 : Int) ≤ (j : Int) := by omega
    go_wp2
    go_quiet (fail)
    go_wp2
    ·go_quiet (fail)
     go_wp2
     go_ret
     exact ⟨ret_bool (less_at H.out ja jb (by assumption)), ext_drewN (ext_drewN hbw _) _⟩
    ·rename_i heq
     go_roundw
     case rel => exact ⟨j + 1, by omega, by omega, by go_num, Lib.hid (take_next H.out ja jb heq), ext_drewN hbw _⟩
     case measure => simp [intOf]; omega
   ·go_wp2
    go_ret
    exact ⟨ret_bool (less_end H.out j1 j2 (Or.inr (by omega))), hbw⟩
  ·go_wp2
   go_ret
   exact ⟨ret_bool (less_end H.out j1 j2 (Or.inl (by omega))), hbw⟩
theorem written_2 (k n : Int) (s : ByteArray) (w : World) (hn : -9223372036854775808 ≤ n) (hn' : n ≤ 9223372036854775807) (hk : (k == 2) = true) :
  Calls Tryz.prog 84 #[val k n s] w fun e w' => e = .returned (.tuple #[.string (textB k n s), .bool true]) ∧ Below w.heap.size w w' := by
 have X0 := box1_0 w k n s
 go_enter Tryz.func84, Tryz.ntmps84
 go_wp2_with (go_at_call 105; refine (rtext_any _ _ _ _ hn hn').mono ?_; rintro e w1 ⟨rfl, hb1⟩; obtain ⟨c0, c1, c2⟩ := X0.on hb1; refine Hid.out ?_)
 refine Lib.hid ?_
 go_wp2
 go_quiet (fail)
 go_wp2
 go_ret2
 exact ⟨rfl, ext_drewN (ext_trans (ext_alloc (Below.refl _ _) _) hb1) _⟩
theorem written_3 (k n : Int) (s : ByteArray) (w : World) (hn : -9223372036854775808 ≤ n) (hn' : n ≤ 9223372036854775807) (hk : (k == 2) = false) (h3 : (k == 3) = true) :
  Calls Tryz.prog 84 #[val k n s] w fun e w' => e = .returned (.tuple #[.string (textB k n s), .bool true]) ∧ Below w.heap.size w w' := by
 have X0 := box1_0 w k n s
 go_enter Tryz.func84, Tryz.ntmps84
 go_wp2_with (go_at_call 105; refine (rtext_any _ _ _ _ hn hn').mono ?_; rintro e w1 ⟨rfl, hb1⟩; obtain ⟨c0, c1, c2⟩ := X0.on hb1; refine Hid.out ?_)
 refine Lib.hid ?_
 go_wp2
 go_quiet (fail)
 go_wp2
 go_ret2
 exact ⟨rfl, ext_drewN (ext_trans (ext_alloc (Below.refl _ _) _) hb1) _⟩
theorem written_f (k n : Int) (s : ByteArray) (w : World) (hn : -9223372036854775808 ≤ n) (hn' : n ≤ 9223372036854775807) (hk : (k == 2) = false) (h3 : (k == 3) = false) :
  Calls Tryz.prog 84 #[val k n s] w fun e w' => e = .returned (.tuple #[.string (textB k n s), .bool false]) ∧ Below w.heap.size w w' := by
 have X0 := box1_0 w k n s
 go_enter Tryz.func84, Tryz.ntmps84
 go_wp2_with (go_at_call 105; refine (rtext_any _ _ _ _ hn hn').mono ?_; rintro e w1 ⟨rfl, hb1⟩; obtain ⟨c0, c1, c2⟩ := X0.on hb1; refine Hid.out ?_)
 refine Lib.hid ?_
 go_wp2
 go_quiet (fail)
 go_wp2
 go_ret2
 exact ⟨rfl, ext_drewN (ext_trans (ext_alloc (Below.refl _ _) _) hb1) _⟩
theorem written_t (k n : Int) (s : ByteArray) (w : World) (hn : -9223372036854775808 ≤ n) (hn' : n ≤ 9223372036854775807) (h : k = 2 ∨ k = 3) :
  Calls Tryz.prog 84 #[val k n s] w fun e w' => e = .returned (.tuple #[.string (textB k n s), .bool true]) ∧ Below w.heap.size w w' := by
 rcases h with h | h
 ·exact written_2 k n s w hn hn' (by simpa using h)
 ·exact written_3 k n s w hn hn' (by simp [h]) (by simp [h])
abbrev In64 (n : Int) : Prop := -9223372036854775808 ≤ n ∧ n ≤ 9223372036854775807
theorem rmay_bt (k n : Int) (s : ByteArray) (w : World) (hn : In64 n) (h : mayB k n s = true) :
  Calls Tryz.prog 47 #[val k n s] w fun e w' => e = .returned (.bool true) ∧ Below w.heap.size w w' := by
 refine (rmay_t k n s w hn.1 hn.2 h).mono ?_
 rintro e w' ⟨rfl, rfl⟩
 exact ⟨rfl, ext_alloc (Below.refl _ _) _⟩
theorem rmay_bf (k n : Int) (s : ByteArray) (w : World) (hn : In64 n) (h : mayB k n s = false) :
  Calls Tryz.prog 47 #[val k n s] w fun e w' => e = .returned (.bool false) ∧ Below w.heap.size w w' := by
 refine (rmay_f k n s w hn.1 hn.2 h).mono ?_
 rintro e w' ⟨rfl, rfl⟩
 exact ⟨rfl, ext_alloc (Below.refl _ _) _⟩
theorem none0 (w : World) (o1 o2 o3 : Obj) : Box1 (w.heap.size + 1 + 1 + 1) 0 0 ⟨#[]⟩ ((((w.alloc o1).alloc o2).alloc o3).alloc (box 0 0 ⟨#[]⟩)) :=
 ⟨by rw [World.cell?_alloc_at _ _ _ _ (by simp)]; rfl, by rw [World.cell?_alloc_at _ _ _ _ (by simp)]; rfl, by rw [World.cell?_alloc_at _ _ _ _ (by simp)]; rfl⟩
theorem rtruth_tt (k n : Int) (s : ByteArray) (w : World) (hn : In64 n) (h : truthB k n s = true) : Calls Tryz.prog 82 #[val k n s] w fun e w' => e = .returned (.bool true) ∧ Below w.heap.size w w' := h ▸ rtruth_any k n s w hn.1 hn.2
theorem rtruth_ff (k n : Int) (s : ByteArray) (w : World) (hn : In64 n) (h : truthB k n s = false) : Calls Tryz.prog 82 #[val k n s] w fun e w' => e = .returned (.bool false) ∧ Below w.heap.size w w' := h ▸ rtruth_any k n s w hn.1 hn.2
theorem before_t (a b : ByteArray) (w : World) (ha : a.size ≤ 300) (h : Op.bytesLess a.toList b.toList = true) : Calls Tryz.prog 83 #[.string a, .string b] w fun e w' => e = .returned (.bool true) ∧ Below w.heap.size w w' := h ▸ before_any a b w ha
theorem before_f (a b : ByteArray) (w : World) (ha : a.size ≤ 300) (h : Op.bytesLess a.toList b.toList = false) : Calls Tryz.prog 83 #[.string a, .string b] w fun e w' => e = .returned (.bool false) ∧ Below w.heap.size w w' := h ▸ before_any a b w ha
theorem rsame_ft (k n k' n' : Int) (s s' : ByteArray) (w : World) (h : ¬ (k = k' ∧ n = n' ∧ s.toList = s'.toList)) :
  Calls Tryz.prog 23 #[val k n s, val k' n' s'] w fun e w' => e = .returned (.bool false) ∧ Below w.heap.size w w' := by
 refine (rsame_f k n k' n' s s' w h).mono ?_
 rintro e w' ⟨rfl, rfl⟩
 exact ⟨rfl, ext_alloc (ext_alloc (Below.refl _ _) _) _⟩
theorem rsame_tt (k n : Int) (s : ByteArray) (w : World) :
  Calls Tryz.prog 23 #[val k n s, val k n s] w fun e w' => e = .returned (.bool true) ∧ Below w.heap.size w w' := by
 refine (rsame_t k n s w).mono ?_
 rintro e w' ⟨rfl, rfl⟩
 exact ⟨rfl, ext_alloc (ext_alloc (Below.refl _ _) _) _⟩
theorem below4 (w : World) (o1 o2 o3 o4 : Obj) : Below w.heap.size w ((((w.alloc o1).alloc o2).alloc o3).alloc o4) := ext_alloc (below3 _ _ _ _) _
theorem rop1 (k n k' n' : Int) (s s' : ByteArray) (w : World) (hna : In64 n) (hnb : In64 n') (ha : mayB k n s = true) (hb : mayB k' n' s' = true) (k2 : (k == 2) = true) (k2' : (k' == 2) = true) (k3 : (k == 3) = false) :
  Calls Tryz.prog 55 #[.int .i64 1, val k n s, val k' n' s'] w fun e w' => e = .returned (.tuple #[val 2 (wrap64 (n + n')) ⟨#[]⟩, .int .i64 0]) ∧ Below w.heap.size w w' := by
 have B0 := (boxes0 w k n k' n' 0 0 s s' ⟨#[]⟩).alloc' (box 0 0 ⟨#[]⟩)
 have N0 := none0 w (box k n s) (box k' n' s') (box 0 0 ⟨#[]⟩)
 go_enter Tryz.func55, Tryz.ntmps55
 go_wp2_with (go_at_call 47; refine (rmay_bt _ _ _ _ hna ha).mono ?_; rintro e w1 ⟨rfl, hb1⟩; have B1 := B0.on hb1; have N1 := N0.on hb1; obtain ⟨a0, a1, a2, b0, b1, b2, c0, c1, c2, f0, f1, f2⟩ := id B1; refine Hid.out ?_)
 refine Lib.hid ?_
 go_wp2_with (go_at_call 47; refine (rmay_bt _ _ _ _ hnb hb).mono ?_; rintro e w2 ⟨rfl, hb2⟩; clear a0 a1 a2 b0 b1 b2 c0 c1 c2 f0 f1 f2; have B2 := B1.on hb2; have N2 := N1.on hb2; obtain ⟨a0, a1, a2, b0, b1, b2, c0, c1, c2, f0, f1, f2⟩ := id B2; refine Hid.out ?_)
 refine Lib.hid ?_
 have E2 := ext_trans (below4 w _ _ _ _) (ext_trans hb1 hb2)
 obtain ⟨m0, m1, m2⟩ := id N2
 have hz := B2.size
 have hy0 : w.heap.size < w2.heap.size := by omega
 have hy1 : w.heap.size + 1 < w2.heap.size := by omega
 go_wp2_with (first | (go_at_call 85; refine (rint_any _ _).mono ?_; rintro e wx ⟨rfl, rfl⟩))
 refine bodyPost_ret (v := .tuple #[val 2 (wrap64 (n + n')) ⟨#[]⟩, .int .i64 0]) (by simp [results, Tryz.results55, go_sem, c0, c1, c2, hz]) rfl ⟨rfl, ?_⟩
 exact ext_alloc (((E2.setCell (by simp; omega) _).setCell (by simp; omega) _).setCell (by simp; omega) _) _
theorem rop2 (k n k' n' : Int) (s s' : ByteArray) (w : World) (hna : In64 n) (hnb : In64 n') (ha : mayB k n s = true) (hb : mayB k' n' s' = true) (k2 : (k == 2) = true) (k2' : (k' == 2) = true) (k3 : (k == 3) = false) :
  Calls Tryz.prog 55 #[.int .i64 2, val k n s, val k' n' s'] w fun e w' => e = .returned (.tuple #[val 2 (wrap64 (n - n')) ⟨#[]⟩, .int .i64 0]) ∧ Below w.heap.size w w' := by
 have B0 := (boxes0 w k n k' n' 0 0 s s' ⟨#[]⟩).alloc' (box 0 0 ⟨#[]⟩)
 have N0 := none0 w (box k n s) (box k' n' s') (box 0 0 ⟨#[]⟩)
 go_enter Tryz.func55, Tryz.ntmps55
 go_wp2_with (go_at_call 47; refine (rmay_bt _ _ _ _ hna ha).mono ?_; rintro e w1 ⟨rfl, hb1⟩; have B1 := B0.on hb1; have N1 := N0.on hb1; obtain ⟨a0, a1, a2, b0, b1, b2, c0, c1, c2, f0, f1, f2⟩ := id B1; refine Hid.out ?_)
 refine Lib.hid ?_
 go_wp2_with (go_at_call 47; refine (rmay_bt _ _ _ _ hnb hb).mono ?_; rintro e w2 ⟨rfl, hb2⟩; clear a0 a1 a2 b0 b1 b2 c0 c1 c2 f0 f1 f2; have B2 := B1.on hb2; have N2 := N1.on hb2; obtain ⟨a0, a1, a2, b0, b1, b2, c0, c1, c2, f0, f1, f2⟩ := id B2; refine Hid.out ?_)
 refine Lib.hid ?_
 have E2 := ext_trans (below4 w _ _ _ _) (ext_trans hb1 hb2)
 obtain ⟨m0, m1, m2⟩ := id N2
 have hz := B2.size
 have hy0 : w.heap.size < w2.heap.size := by omega
 have hy1 : w.heap.size + 1 < w2.heap.size := by omega
 go_wp2_with (first | (go_at_call 85; refine (rint_any _ _).mono ?_; rintro e wx ⟨rfl, rfl⟩))
 refine bodyPost_ret (v := .tuple #[val 2 (wrap64 (n - n')) ⟨#[]⟩, .int .i64 0]) (by simp [results, Tryz.results55, go_sem, c0, c1, c2, hz]) rfl ⟨rfl, ?_⟩
 exact ext_alloc (((E2.setCell (by simp; omega) _).setCell (by simp; omega) _).setCell (by simp; omega) _) _
theorem rop3 (k n k' n' : Int) (s s' : ByteArray) (w : World) (hna : In64 n) (hnb : In64 n') (ha : mayB k n s = true) (hb : mayB k' n' s' = true) (k2 : (k == 2) = true) (k2' : (k' == 2) = true) (k3 : (k == 3) = false) :
  Calls Tryz.prog 55 #[.int .i64 3, val k n s, val k' n' s'] w fun e w' => e = .returned (.tuple #[val 2 (wrap64 (n * n')) ⟨#[]⟩, .int .i64 0]) ∧ Below w.heap.size w w' := by
 have B0 := (boxes0 w k n k' n' 0 0 s s' ⟨#[]⟩).alloc' (box 0 0 ⟨#[]⟩)
 have N0 := none0 w (box k n s) (box k' n' s') (box 0 0 ⟨#[]⟩)
 go_enter Tryz.func55, Tryz.ntmps55
 go_wp2_with (go_at_call 47; refine (rmay_bt _ _ _ _ hna ha).mono ?_; rintro e w1 ⟨rfl, hb1⟩; have B1 := B0.on hb1; have N1 := N0.on hb1; obtain ⟨a0, a1, a2, b0, b1, b2, c0, c1, c2, f0, f1, f2⟩ := id B1; refine Hid.out ?_)
 refine Lib.hid ?_
 go_wp2_with (go_at_call 47; refine (rmay_bt _ _ _ _ hnb hb).mono ?_; rintro e w2 ⟨rfl, hb2⟩; clear a0 a1 a2 b0 b1 b2 c0 c1 c2 f0 f1 f2; have B2 := B1.on hb2; have N2 := N1.on hb2; obtain ⟨a0, a1, a2, b0, b1, b2, c0, c1, c2, f0, f1, f2⟩ := id B2; refine Hid.out ?_)
 refine Lib.hid ?_
 have E2 := ext_trans (below4 w _ _ _ _) (ext_trans hb1 hb2)
 obtain ⟨m0, m1, m2⟩ := id N2
 have hz := B2.size
 have hy0 : w.heap.size < w2.heap.size := by omega
 have hy1 : w.heap.size + 1 < w2.heap.size := by omega
 go_wp2_with (first | (go_at_call 85; refine (rint_any _ _).mono ?_; rintro e wx ⟨rfl, rfl⟩))
 refine bodyPost_ret (v := .tuple #[val 2 (wrap64 (n * n')) ⟨#[]⟩, .int .i64 0]) (by simp [results, Tryz.results55, go_sem, c0, c1, c2, hz]) rfl ⟨rfl, ?_⟩
 exact ext_alloc (((E2.setCell (by simp; omega) _).setCell (by simp; omega) _).setCell (by simp; omega) _) _
theorem ropNz (op : Int) (hop : op = 4 ∨ op = 5) (k n k' n' : Int) (s s' : ByteArray) (w : World) (hna : In64 n) (hnb : In64 n') (ha : mayB k n s = true) (hb : mayB k' n' s' = true) (k2 : (k == 2) = true) (k2' : (k' == 2) = true) (k3 : (k == 3) = false) (hz' : (n' == 0) = true) :
  Calls Tryz.prog 55 #[.int .i64 op, val k n s, val k' n' s'] w fun e w' => e = .returned (.tuple #[val 0 0 ⟨#[]⟩, .int .i64 7]) ∧ Below w.heap.size w w' := by
 rcases hop with rfl | rfl
 all_goals
  have B0 := (boxes0 w k n k' n' 0 0 s s' ⟨#[]⟩).alloc' (box 0 0 ⟨#[]⟩)
  have N0 := none0 w (box k n s) (box k' n' s') (box 0 0 ⟨#[]⟩)
  go_enter Tryz.func55, Tryz.ntmps55
  go_wp2_with (go_at_call 47; refine (rmay_bt _ _ _ _ hna ha).mono ?_; rintro e w1 ⟨rfl, hb1⟩; have B1 := B0.on hb1; have N1 := N0.on hb1; obtain ⟨a0, a1, a2, b0, b1, b2, c0, c1, c2, f0, f1, f2⟩ := id B1; refine Hid.out ?_)
  refine Lib.hid ?_
  go_wp2_with (go_at_call 47; refine (rmay_bt _ _ _ _ hnb hb).mono ?_; rintro e w2 ⟨rfl, hb2⟩; clear a0 a1 a2 b0 b1 b2 c0 c1 c2 f0 f1 f2; have B2 := B1.on hb2; have N2 := N1.on hb2; obtain ⟨a0, a1, a2, b0, b1, b2, c0, c1, c2, f0, f1, f2⟩ := id B2; refine Hid.out ?_)
  refine Lib.hid ?_
  have E2 := ext_trans (below4 w _ _ _ _) (ext_trans hb1 hb2)
  obtain ⟨m0, m1, m2⟩ := id N2
  have hz := B2.size
  have hy0 : w.heap.size < w2.heap.size := by omega
  have hy1 : w.heap.size + 1 < w2.heap.size := by omega
  go_wp2
  refine bodyPost_ret (v := .tuple #[val 0 0 ⟨#[]⟩, .int .i64 7]) (by simp [results, Tryz.results55, go_sem, c0, c1, c2]) rfl ⟨rfl, ?_⟩
  exact ((E2.setCell (by simp; omega) _).setCell (by simp; omega) _).setCell (by simp; omega) _
abbrev rop4z := ropNz 4 (by simp)
abbrev rop5z := ropNz 5 (by simp)
theorem rop4 (k n k' n' : Int) (s s' : ByteArray) (w : World) (hna : In64 n) (hnb : In64 n') (ha : mayB k n s = true) (hb : mayB k' n' s' = true) (k2 : (k == 2) = true) (k2' : (k' == 2) = true) (k3 : (k == 3) = false) (hz' : (n' == 0) = false) :
  Calls Tryz.prog 55 #[.int .i64 4, val k n s, val k' n' s'] w fun e w' => e = .returned (.tuple #[val 2 (divV n n') ⟨#[]⟩, .int .i64 0]) ∧ Below w.heap.size w w' := by
 have B0 := (boxes0 w k n k' n' 0 0 s s' ⟨#[]⟩).alloc' (box 0 0 ⟨#[]⟩)
 have N0 := none0 w (box k n s) (box k' n' s') (box 0 0 ⟨#[]⟩)
 go_enter Tryz.func55, Tryz.ntmps55
 go_wp2_with (go_at_call 47; refine (rmay_bt _ _ _ _ hna ha).mono ?_; rintro e w1 ⟨rfl, hb1⟩; have B1 := B0.on hb1; have N1 := N0.on hb1; obtain ⟨a0, a1, a2, b0, b1, b2, c0, c1, c2, f0, f1, f2⟩ := id B1; refine Hid.out ?_)
 refine Lib.hid ?_
 go_wp2_with (go_at_call 47; refine (rmay_bt _ _ _ _ hnb hb).mono ?_; rintro e w2 ⟨rfl, hb2⟩; clear a0 a1 a2 b0 b1 b2 c0 c1 c2 f0 f1 f2; have B2 := B1.on hb2; have N2 := N1.on hb2; obtain ⟨a0, a1, a2, b0, b1, b2, c0, c1, c2, f0, f1, f2⟩ := id B2; refine Hid.out ?_)
 refine Lib.hid ?_
 have E2 := ext_trans (below4 w _ _ _ _) (ext_trans hb1 hb2)
 obtain ⟨m0, m1, m2⟩ := id N2
 have hz := B2.size
 have hy0 : w.heap.size < w2.heap.size := by omega
 have hy1 : w.heap.size + 1 < w2.heap.size := by omega
 go_wp2_with (first | (go_at_call 86; refine (rdiv_any _ _ _ hna hnb hz').mono ?_; rintro e wx ⟨rfl, rfl⟩) | (go_at_call 85; refine (rint_any _ _).mono ?_; rintro e wx ⟨rfl, rfl⟩))
 refine bodyPost_ret (v := .tuple #[val 2 (divV n n') ⟨#[]⟩, .int .i64 0]) (by simp [results, Tryz.results55, go_sem, c0, c1, c2, hz]) rfl ⟨rfl, ?_⟩
 exact ext_alloc (((E2.setCell (by simp; omega) _).setCell (by simp; omega) _).setCell (by simp; omega) _) _
theorem rop11a (k n k' n' : Int) (s s' : ByteArray) (w : World) (hna : In64 n) (hnb : In64 n') (ha : mayB k n s = true) (hb : mayB k' n' s' = true) (k2 : (k == 2) = true) (k2' : (k' == 2) = true) (k3 : (k == 3) = false) :
  Calls Tryz.prog 55 #[.int .i64 11, val k n s, val k' n' s'] w fun e w' => e = .returned (.tuple #[val 2 (wrap64 (0 - n)) ⟨#[]⟩, .int .i64 0]) ∧ Below w.heap.size w w' := by
 have B0 := (boxes0 w k n k' n' 0 0 s s' ⟨#[]⟩).alloc' (box 0 0 ⟨#[]⟩)
 have N0 := none0 w (box k n s) (box k' n' s') (box 0 0 ⟨#[]⟩)
 go_enter Tryz.func55, Tryz.ntmps55
 go_wp2_with (go_at_call 47; refine (rmay_bt _ _ _ _ hna ha).mono ?_; rintro e w1 ⟨rfl, hb1⟩; have B1 := B0.on hb1; have N1 := N0.on hb1; obtain ⟨a0, a1, a2, b0, b1, b2, c0, c1, c2, f0, f1, f2⟩ := id B1; refine Hid.out ?_)
 refine Lib.hid ?_
 go_wp2_with (go_at_call 47; refine (rmay_bt _ _ _ _ hnb hb).mono ?_; rintro e w2 ⟨rfl, hb2⟩; clear a0 a1 a2 b0 b1 b2 c0 c1 c2 f0 f1 f2; have B2 := B1.on hb2; have N2 := N1.on hb2; obtain ⟨a0, a1, a2, b0, b1, b2, c0, c1, c2, f0, f1, f2⟩ := id B2; refine Hid.out ?_)
 refine Lib.hid ?_
 have E2 := ext_trans (below4 w _ _ _ _) (ext_trans hb1 hb2)
 obtain ⟨m0, m1, m2⟩ := id N2
 have hz := B2.size
 have hy0 : w.heap.size < w2.heap.size := by omega
 have hy1 : w.heap.size + 1 < w2.heap.size := by omega
 go_wp2_with (first | (go_at_call 85; refine (rint_any _ _).mono ?_; rintro e wx ⟨rfl, rfl⟩))
 refine bodyPost_ret (v := .tuple #[val 2 (wrap64 (0 - n)) ⟨#[]⟩, .int .i64 0]) (by simp [results, Tryz.results55, go_sem, c0, c1, c2, hz]) rfl ⟨rfl, ?_⟩
 exact ext_alloc (((E2.setCell (by simp; omega) _).setCell (by simp; omega) _).setCell (by simp; omega) _) _
theorem rop11b (k n k' n' : Int) (s s' : ByteArray) (w : World) (hna : In64 n) (hnb : In64 n') (ha : mayB k n s = true) (hb : mayB k' n' s' = true) (k2 : (k == 2) = true) (k2' : (k' == 2) = false) (k3 : (k == 3) = false) :
  Calls Tryz.prog 55 #[.int .i64 11, val k n s, val k' n' s'] w fun e w' => e = .returned (.tuple #[val 2 (wrap64 (0 - n)) ⟨#[]⟩, .int .i64 0]) ∧ Below w.heap.size w w' := by
 have B0 := (boxes0 w k n k' n' 0 0 s s' ⟨#[]⟩).alloc' (box 0 0 ⟨#[]⟩)
 have N0 := none0 w (box k n s) (box k' n' s') (box 0 0 ⟨#[]⟩)
 go_enter Tryz.func55, Tryz.ntmps55
 go_wp2_with (go_at_call 47; refine (rmay_bt _ _ _ _ hna ha).mono ?_; rintro e w1 ⟨rfl, hb1⟩; have B1 := B0.on hb1; have N1 := N0.on hb1; obtain ⟨a0, a1, a2, b0, b1, b2, c0, c1, c2, f0, f1, f2⟩ := id B1; refine Hid.out ?_)
 refine Lib.hid ?_
 go_wp2_with (go_at_call 47; refine (rmay_bt _ _ _ _ hnb hb).mono ?_; rintro e w2 ⟨rfl, hb2⟩; clear a0 a1 a2 b0 b1 b2 c0 c1 c2 f0 f1 f2; have B2 := B1.on hb2; have N2 := N1.on hb2; obtain ⟨a0, a1, a2, b0, b1, b2, c0, c1, c2, f0, f1, f2⟩ := id B2; refine Hid.out ?_)
 refine Lib.hid ?_
 have E2 := ext_trans (below4 w _ _ _ _) (ext_trans hb1 hb2)
 obtain ⟨m0, m1, m2⟩ := id N2
 have hz := B2.size
 have hy0 : w.heap.size < w2.heap.size := by omega
 have hy1 : w.heap.size + 1 < w2.heap.size := by omega
 go_wp2_with (first | (go_at_call 85; refine (rint_any _ _).mono ?_; rintro e wx ⟨rfl, rfl⟩))
 refine bodyPost_ret (v := .tuple #[val 2 (wrap64 (0 - n)) ⟨#[]⟩, .int .i64 0]) (by simp [results, Tryz.results55, go_sem, c0, c1, c2, hz]) rfl ⟨rfl, ?_⟩
 exact ext_alloc (((E2.setCell (by simp; omega) _).setCell (by simp; omega) _).setCell (by simp; omega) _) _
theorem rop11f (k n k' n' : Int) (s s' : ByteArray) (w : World) (hna : In64 n) (hnb : In64 n') (ha : mayB k n s = true) (hb : mayB k' n' s' = true) (k2 : (k == 2) = false) :
  Calls Tryz.prog 55 #[.int .i64 11, val k n s, val k' n' s'] w fun e w' => e = .returned (.tuple #[val 0 0 ⟨#[]⟩, .int .i64 3]) ∧ Below w.heap.size w w' := by
 rcases Bool.eq_false_or_eq_true (k == 3) with k3 | k3
 all_goals
  have B0 := (boxes0 w k n k' n' 0 0 s s' ⟨#[]⟩).alloc' (box 0 0 ⟨#[]⟩)
  have N0 := none0 w (box k n s) (box k' n' s') (box 0 0 ⟨#[]⟩)
  go_enter Tryz.func55, Tryz.ntmps55
  go_wp2_with (go_at_call 47; refine (rmay_bt _ _ _ _ hna ha).mono ?_; rintro e w1 ⟨rfl, hb1⟩; have B1 := B0.on hb1; have N1 := N0.on hb1; obtain ⟨a0, a1, a2, b0, b1, b2, c0, c1, c2, f0, f1, f2⟩ := id B1; refine Hid.out ?_)
  refine Lib.hid ?_
  go_wp2_with (go_at_call 47; refine (rmay_bt _ _ _ _ hnb hb).mono ?_; rintro e w2 ⟨rfl, hb2⟩; clear a0 a1 a2 b0 b1 b2 c0 c1 c2 f0 f1 f2; have B2 := B1.on hb2; have N2 := N1.on hb2; obtain ⟨a0, a1, a2, b0, b1, b2, c0, c1, c2, f0, f1, f2⟩ := id B2; refine Hid.out ?_)
  refine Lib.hid ?_
  have E2 := ext_trans (below4 w _ _ _ _) (ext_trans hb1 hb2)
  obtain ⟨m0, m1, m2⟩ := id N2
  have hz := B2.size
  have hy0 : w.heap.size < w2.heap.size := by omega
  have hy1 : w.heap.size + 1 < w2.heap.size := by omega
  go_wp2
  refine bodyPost_ret (v := .tuple #[val 0 0 ⟨#[]⟩, .int .i64 3]) (by simp [results, Tryz.results55, go_sem, c0, c1, c2]) rfl ⟨rfl, ?_⟩
  exact ((E2.setCell (by simp; omega) _).setCell (by simp; omega) _).setCell (by simp; omega) _
theorem rop10_t (k n k' n' : Int) (s s' : ByteArray) (w : World) (hna : In64 n) (hnb : In64 n') (ha : mayB k n s = true) (hb : mayB k' n' s' = true) (ht : truthB k n s = true) :
  Calls Tryz.prog 55 #[.int .i64 10, val k n s, val k' n' s'] w fun e w' => e = .returned (.tuple #[val 1 0 ⟨#[]⟩, .int .i64 0]) ∧ Below w.heap.size w w' := by
 rcases Bool.eq_false_or_eq_true (k == 2) with k2 | k2 <;> rcases Bool.eq_false_or_eq_true (k == 3) with k3 | k3 <;> rcases Bool.eq_false_or_eq_true (k' == 2) with k2' | k2'
 all_goals
  have B0 := (boxes0 w k n k' n' 0 0 s s' ⟨#[]⟩).alloc' (box 0 0 ⟨#[]⟩)
  have N0 := none0 w (box k n s) (box k' n' s') (box 0 0 ⟨#[]⟩)
  go_enter Tryz.func55, Tryz.ntmps55
  go_wp2_with (go_at_call 47; refine (rmay_bt _ _ _ _ hna ha).mono ?_; rintro e w1 ⟨rfl, hb1⟩; have B1 := B0.on hb1; have N1 := N0.on hb1; obtain ⟨a0, a1, a2, b0, b1, b2, c0, c1, c2, f0, f1, f2⟩ := id B1; refine Hid.out ?_)
  refine Lib.hid ?_
  go_wp2_with (go_at_call 47; refine (rmay_bt _ _ _ _ hnb hb).mono ?_; rintro e w2 ⟨rfl, hb2⟩; clear a0 a1 a2 b0 b1 b2 c0 c1 c2 f0 f1 f2; have B2 := B1.on hb2; have N2 := N1.on hb2; obtain ⟨a0, a1, a2, b0, b1, b2, c0, c1, c2, f0, f1, f2⟩ := id B2; refine Hid.out ?_)
  refine Lib.hid ?_
  have E2 := ext_trans (below4 w _ _ _ _) (ext_trans hb1 hb2)
  have z2 := B2.size
  go_wp2_with (go_at_call 82; refine (rtruth_tt _ _ _ _ hna ht).mono ?_; rintro e w3 ⟨rfl, hb3⟩; clear a0 a1 a2 b0 b1 b2 c0 c1 c2 f0 f1 f2; have B3 := B2.on hb3; have N3 := N2.on hb3; obtain ⟨a0, a1, a2, b0, b1, b2, c0, c1, c2, f0, f1, f2⟩ := id B3; refine Hid.out ?_)
  refine Lib.hid ?_
  have E3 := ext_trans E2 hb3
  have z3 := B3.size
  go_wp2_with (go_at_call 81; refine (rbool_f _).mono ?_; rintro e w4 ⟨rfl, hb4⟩; clear a0 a1 a2 b0 b1 b2 c0 c1 c2 f0 f1 f2; have B4 := B3.on hb4; have N4 := N3.on hb4; obtain ⟨a0, a1, a2, b0, b1, b2, c0, c1, c2, f0, f1, f2⟩ := id B4; refine Hid.out ?_)
  refine Lib.hid ?_
  have E4 := ext_trans E3 hb4
  obtain ⟨m0, m1, m2⟩ := id N4
  have hz := B4.size
  have hy0 : w.heap.size < w4.heap.size := by omega
  have hy1 : w.heap.size + 1 < w4.heap.size := by omega
  go_wp2
  refine bodyPost_ret (v := .tuple #[val 1 0 ⟨#[]⟩, .int .i64 0]) (by simp [results, Tryz.results55, go_sem, c0, c1, c2]) rfl ⟨rfl, ?_⟩
  exact ((E4.setCell (by simp; omega) _).setCell (by simp; omega) _).setCell (by simp; omega) _
theorem rop10_f (k n k' n' : Int) (s s' : ByteArray) (w : World) (hna : In64 n) (hnb : In64 n') (ha : mayB k n s = true) (hb : mayB k' n' s' = true) (ht : truthB k n s = false) :
  Calls Tryz.prog 55 #[.int .i64 10, val k n s, val k' n' s'] w fun e w' => e = .returned (.tuple #[val 1 1 ⟨#[]⟩, .int .i64 0]) ∧ Below w.heap.size w w' := by
 rcases Bool.eq_false_or_eq_true (k == 2) with k2 | k2 <;> rcases Bool.eq_false_or_eq_true (k == 3) with k3 | k3 <;> rcases Bool.eq_false_or_eq_true (k' == 2) with k2' | k2'
 all_goals
  have B0 := (boxes0 w k n k' n' 0 0 s s' ⟨#[]⟩).alloc' (box 0 0 ⟨#[]⟩)
  have N0 := none0 w (box k n s) (box k' n' s') (box 0 0 ⟨#[]⟩)
  go_enter Tryz.func55, Tryz.ntmps55
  go_wp2_with (go_at_call 47; refine (rmay_bt _ _ _ _ hna ha).mono ?_; rintro e w1 ⟨rfl, hb1⟩; have B1 := B0.on hb1; have N1 := N0.on hb1; obtain ⟨a0, a1, a2, b0, b1, b2, c0, c1, c2, f0, f1, f2⟩ := id B1; refine Hid.out ?_)
  refine Lib.hid ?_
  go_wp2_with (go_at_call 47; refine (rmay_bt _ _ _ _ hnb hb).mono ?_; rintro e w2 ⟨rfl, hb2⟩; clear a0 a1 a2 b0 b1 b2 c0 c1 c2 f0 f1 f2; have B2 := B1.on hb2; have N2 := N1.on hb2; obtain ⟨a0, a1, a2, b0, b1, b2, c0, c1, c2, f0, f1, f2⟩ := id B2; refine Hid.out ?_)
  refine Lib.hid ?_
  have E2 := ext_trans (below4 w _ _ _ _) (ext_trans hb1 hb2)
  have z2 := B2.size
  go_wp2_with (go_at_call 82; refine (rtruth_ff _ _ _ _ hna ht).mono ?_; rintro e w3 ⟨rfl, hb3⟩; clear a0 a1 a2 b0 b1 b2 c0 c1 c2 f0 f1 f2; have B3 := B2.on hb3; have N3 := N2.on hb3; obtain ⟨a0, a1, a2, b0, b1, b2, c0, c1, c2, f0, f1, f2⟩ := id B3; refine Hid.out ?_)
  refine Lib.hid ?_
  have E3 := ext_trans E2 hb3
  have z3 := B3.size
  go_wp2_with (go_at_call 81; refine (rbool_t _).mono ?_; rintro e w4 ⟨rfl, hb4⟩; clear a0 a1 a2 b0 b1 b2 c0 c1 c2 f0 f1 f2; have B4 := B3.on hb4; have N4 := N3.on hb4; obtain ⟨a0, a1, a2, b0, b1, b2, c0, c1, c2, f0, f1, f2⟩ := id B4; refine Hid.out ?_)
  refine Lib.hid ?_
  have E4 := ext_trans E3 hb4
  obtain ⟨m0, m1, m2⟩ := id N4
  have hz := B4.size
  have hy0 : w.heap.size < w4.heap.size := by omega
  have hy1 : w.heap.size + 1 < w4.heap.size := by omega
  go_wp2
  refine bodyPost_ret (v := .tuple #[val 1 1 ⟨#[]⟩, .int .i64 0]) (by simp [results, Tryz.results55, go_sem, c0, c1, c2]) rfl ⟨rfl, ?_⟩
  exact ((E4.setCell (by simp; omega) _).setCell (by simp; omega) _).setCell (by simp; omega) _
end Go.Proofs.YthpgbienakcbeaaGreatDoor
