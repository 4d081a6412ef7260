/- Walks of the document's own answers: small functions of chapter 1. -/
import Derived.Test.YthpgbienakcbeaaGreatDoorS25
import Derived.Test.YthpgbienakcbeaaGreatDoorS06
namespace Go.Proofs.YthpgbienakcbeaaGreatDoor
open Go.RowKit Go
set_option maxRecDepth 100000
set_option maxHeartbeats 8000000
set_option linter.all false
variable {a b s s3 ta tb : ByteArray} {j : Nat} {w W : World} {op k n er k3 n3 : Int} {i t : Bool}
theorem b4f (w : World) : Calls Tryz.prog 81 #[.bool true] w fun e w' => e = .returned (val 1 1 E0) ∧ Below w.heap.size w w' := by
 go_enter Tryz.func81, Tryz.ntmps81
 go_wp2
 exact bodyPost_ret (v := val 1 1 E0) (by simp [results, Tryz.results81, go_sem]) rfl ⟨rfl, a0c (a0c (Below.refl _ _) _) _⟩
theorem c0g (w : World) : Calls Tryz.prog 81 #[.bool false] w fun e w' => e = .returned (val 1 0 E0) ∧ Below w.heap.size w w' := by
 go_enter Tryz.func81, Tryz.ntmps81
 go_wp2
 exact bodyPost_ret (v := val 1 0 E0) (by simp [results, Tryz.results81, go_sem]) rfl ⟨rfl, a0c (a0c (Below.refl _ _) _) _⟩
theorem d1s (a : Int) : divV a (-1) = wrap64 (0 - a) := by
 unfold divV
 have : a.fdiv (-1) = -a := ((Int.fdiv_fmod_unique' (a := a) (b := -1) (r := 0) (q := -a) (by decide)).2 ⟨by omega, by omega, by omega⟩).1
 rw [this]; congr 1; omega
theorem b5s (a b : Int) (w : World) (ha : -9223372036854775808 ≤ a ∧ a ≤ 9223372036854775807) (hb : -9223372036854775808 ≤ b ∧ b ≤ 9223372036854775807) (hz : (b == 0) = false) :
  Calls Tryz.prog 86 #[.int .i64 a, .int .i64 b] w fun e w' => e = .returned (.int .i64 (divV a b)) ∧ w' = w := by
 have hb0 : b ≠ 0 := by simpa using hz
 by_cases m1 : b = -1
 ·subst m1
  go_enter Tryz.func86, Tryz.ntmps86
  go_wp2
  go_ret
  exact ⟨a4k (by rw [d1s, Int.zero_sub]), rfl⟩
 ·have e := Int.tmod_add_mul_tdiv a b
  obtain ⟨t1, t2⟩ := a6m a hb0
  obtain ⟨q, hq⟩ := exq (a.tdiv b)
  obtain ⟨m, hm⟩ := exq (a.tmod b)
  rw [hm] at t1 t2
  rw [hm, hq] at e
  have hqn : q.natAbs ≤ a.natAbs := by rw [← hq, Int.natAbs_tdiv]; exact Nat.div_le_self _ _
  have hqr : -9223372036854775808 ≤ q ∧ q ≤ 9223372036854775807 := by
   by_cases b1 : b = 1
   ·rw [b1, Int.tdiv_one] at hq; omega
   by_cases h : a = -9223372036854775808
   ·have : q.natAbs ≤ a.natAbs / 2 := by
     rw [← hq, Int.natAbs_tdiv]
     exact Nat.div_le_div_left (by omega) (by decide)
    omega
   ·omega
  have hp : wrap64 (q * b) = a - m := by
   have e2 : q * b = a - m := by rw [Int.mul_comm]; omega
   rw [e2]; exact b1b (by omega) (by omega)
  obtain ⟨q1, q2⟩ := hqr
  have hneg : ¬ (b == -1) = true := by simpa using m1
  have hneg' : (b == -1) = false := by simpa using m1
  have HM := Lib.hid hm
  have HQ := Lib.hid hq
  have HE := Lib.hid e
  clear e t1 t2 hqn hm hneg m1
  rcases Bool.eq_false_or_eq_true (m == 0) with m0 | m0
  ·have m0' : m = 0 := by simpa using m0
   subst m0'
   have hp' : wrap64 (q * b) = a := by rw [hp]; omega
   clear hp
   go_enter Tryz.func86, Tryz.ntmps86
   go_wp2
   go_ret
   exact ⟨a4k (by unfold divV; rw [← b2a (by simpa using hz) HM.out, HQ.out]; exact (b1b q1 q2).symm), rfl⟩
  ·have m1 : ¬ m = 0 := by simpa using m0
   have hne : (wrap64 (q * b) != a) = true := by rw [hp]; simp; omega
   clear hp
   by_cases sa : a < 0
   ·by_cases sb : b < 0
    ·go_enter Tryz.func86, Tryz.ntmps86
     go_wp2
     go_ret
     exact ⟨a4k (by unfold divV; rw [← a7b hb0 (by simp [sa, sb]), HQ.out]; exact (b1b q1 q2).symm), rfl⟩
    ·go_enter Tryz.func86, Tryz.ntmps86
     go_wp2
     go_ret
     exact ⟨a4k (by unfold divV; rw [← a7c hb0 (by rw [HM.out]; exact m1) (by simp [sa]; omega), HQ.out]), rfl⟩
   ·by_cases sb : b < 0
    ·go_enter Tryz.func86, Tryz.ntmps86
     go_wp2
     go_ret
     exact ⟨a4k (by unfold divV; rw [← a7c hb0 (by rw [HM.out]; exact m1) (by simp [sb]; omega), HQ.out]), rfl⟩
    ·go_enter Tryz.func86, Tryz.ntmps86
     go_wp2
     go_ret
     exact ⟨a4k (by unfold divV; rw [← a7b hb0 (by omega), HQ.out]; exact (b1b q1 q2).symm), rfl⟩
theorem a9r : ∀ (j : Nat) (l m : List UInt8), l.take j = m.take j → j ≤ l.length → j ≤ m.length → Op.bytesLess l m = Op.bytesLess (l.drop j) (m.drop j)
 | 0, _, _, _, _, _ => rfl
 | j + 1, [], _, _, h, _ => by simp at h
 | j + 1, _ :: _, [], _, _, h => by simp at h
 | j + 1, x :: l, y :: m, h, h1, h2 => by
  simp only [List.take_succ_cons, List.cons.injEq] at h
  obtain ⟨rfl, h⟩ := h
  rw [Op.bytesLess, a9r j l m h (by simpa using h1) (by simpa using h2)]
  simp
theorem c9h (h : a.data.toList.take j = b.data.toList.take j) (ja : j < a.size) (jb : j < b.size) (hne : ((a[j].toNat : Int) != (b[j].toNat : Int)) = true) :
  decide (a[j].toNat < b[j].toNat) = Op.bytesLess a.toList b.toList := by
 have la : j < a.data.toList.length := ja
 have lb : j < b.data.toList.length := jb
 rw [ByteArray.toList_eq, ByteArray.toList_eq, a9r j _ _ h (by omega) (by omega), List.drop_eq_getElem_cons la, List.drop_eq_getElem_cons lb, Op.bytesLess]
 have ea : a.data.toList[j] = a[j] := rfl
 have eb : b.data.toList[j] = b[j] := rfl
 rw [ea, eb]
 have hne' : ¬ a[j] = b[j] := by
  intro e
  rw [e] at hne
  simp at hne
 rw [Bool.eq_iff_iff]
 simp [hne', UInt8.lt_iff_toNat_lt]
theorem b5t (h : a.data.toList.take j = b.data.toList.take j) (j1 : j ≤ a.size) (j2 : j ≤ b.size) (hj : j = a.size ∨ j = b.size) :
  decide (a.size < b.size) = Op.bytesLess a.toList b.toList := by
 have la : a.data.toList.length = a.size := rfl
 have lb : b.data.toList.length = b.size := rfl
 rw [ByteArray.toList_eq, ByteArray.toList_eq, a9r j _ _ h (by omega) (by omega)]
 rcases hj with e | e
 ·rw [List.drop_eq_nil_of_le (by omega : a.data.toList.length ≤ j)]
  cases hd : b.data.toList.drop j with
  | nil =>
   have := congrArg List.length hd
   simp only [List.length_drop, List.length_nil] at this
   simp [Op.bytesLess]; omega
  | cons x r =>
   have := congrArg List.length hd
   simp only [List.length_drop, List.length_cons] at this
   simp [Op.bytesLess]; omega
 ·rw [List.drop_eq_nil_of_le (by omega : b.data.toList.length ≤ j)]
  have : Op.bytesLess (a.data.toList.drop j) [] = false := by cases a.data.toList.drop j <;> rfl
  rw [this]
  simp; omega
theorem c0h (h : a.data.toList.take j = b.data.toList.take j) (ja : j < a.size) (jb : j < b.size) (he : ((a[j].toNat : Int) != (b[j].toNat : Int)) = false) :
  a.data.toList.take (j + 1) = b.data.toList.take (j + 1) := by
 have la : j < a.data.toList.length := ja
 have lb : j < b.data.toList.length := jb
 rw [List.take_succ_eq_append_getElem la, List.take_succ_eq_append_getElem lb, h]
 have ea : a.data.toList[j] = a[j] := rfl
 have eb : b.data.toList[j] = b[j] := rfl
 have e : a[j] = b[j] := by
  have : (a[j].toNat : Int) = (b[j].toNat : Int) := by simpa using he
  exact UInt8.toNat_inj.1 (by omega)
 rw [ea, eb, e]
theorem a5h {a : World} (h : Below a.heap.size a w) (n : Nat) : Below a.heap.size a (w.drewN n) := ⟨h.os, h.tape, h.output, h.size, h.block⟩
theorem b0r (a b : ByteArray) (w : World) (ha : a.size ≤ 300) :
  Calls Tryz.prog 83 #[.string a, .string b] w fun e w' => e = .returned (.bool (Op.bytesLess a.toList b.toList)) ∧ Below w.heap.size w w' := by
 go_enter Tryz.func83, Tryz.ntmps83
 go_wp2
 go_loopw [5] (fun i wr => ∃ j : Nat, j ≤ a.size ∧ j ≤ b.size ∧ i = .int .i64 j ∧ Hid (a.data.toList.take j = b.data.toList.take j) ∧ Below w.heap.size w wr) (fun i _ => a.size - (intOf i).toNat)
 case atStart => exact ⟨0, Nat.zero_le _, Nat.zero_le _, rfl, by simp [Hid], Below.refl _ _⟩
 case round =>
  obtain ⟨j, j1, j2, rfl, H, hbw⟩ := hrel
  by_cases ja : j < a.size
  ·by_cases jb : j < b.size
   ·have ja' : (j : Int) < (a.size : Int) := by omega
    have jb' : (j : Int) < (b.size : Int) := by omega
    have j0 : (0 : Int) ≤ (j : Int) := by omega
    go_wp2
    go_quiet (fail)
    go_wp2
    ·go_quiet (fail)
     go_wp2
     go_ret
     exact ⟨a1b (c9h H.out ja jb (by assumption)), a5h (a5h hbw _) _⟩
    ·rename_i heq
     go_roundw
     case rel => exact ⟨j + 1, by omega, by omega, by go_num, Lib.hid (c0h H.out ja jb heq), a5h hbw _⟩
     case measure => simp [intOf]; omega
   ·go_wp2
    go_ret
    exact ⟨a1b (b5t H.out j1 j2 (Or.inr (by omega))), hbw⟩
  ·go_wp2
   go_ret
   exact ⟨a1b (b5t H.out j1 j2 (Or.inl (by omega))), hbw⟩
theorem c0i (k n : Int) (s : ByteArray) (w : World) (hn : -9223372036854775808 ≤ n) (hn' : n ≤ 9223372036854775807) (hk : (k == 2) = true) :
  Calls Tryz.prog 84 #[val k n s] w fun e w' => e = .returned (.tuple #[.string (a3n k n s), .bool true]) ∧ Below w.heap.size w w' := by
 have X0 := a4p w k n s
 go_enter Tryz.func84, Tryz.ntmps84
 go_wp2_with (go_at_call 105; refine (a7z _ _ _ _ hn hn').mono ?_; rintro e w1 ⟨rfl, hb1⟩; obtain ⟨c0, c1, c2⟩ := X0.on hb1; refine Hid.out ?_)
 refine Lib.hid ?_
 go_wp2
 go_quiet (fail)
 go_wp2
 go_ret2
 exact ⟨rfl, a5h (a0b (a0c (Below.refl _ _) _) hb1) _⟩
theorem c0j (k n : Int) (s : ByteArray) (w : World) (hn : -9223372036854775808 ≤ n) (hn' : n ≤ 9223372036854775807) (hk : (k == 2) = false) (h3 : (k == 3) = true) :
  Calls Tryz.prog 84 #[val k n s] w fun e w' => e = .returned (.tuple #[.string (a3n k n s), .bool true]) ∧ Below w.heap.size w w' := by
 have X0 := a4p w k n s
 go_enter Tryz.func84, Tryz.ntmps84
 go_wp2_with (go_at_call 105; refine (a7z _ _ _ _ hn hn').mono ?_; rintro e w1 ⟨rfl, hb1⟩; obtain ⟨c0, c1, c2⟩ := X0.on hb1; refine Hid.out ?_)
 refine Lib.hid ?_
 go_wp2
 go_quiet (fail)
 go_wp2
 go_ret2
 exact ⟨rfl, a5h (a0b (a0c (Below.refl _ _) _) hb1) _⟩
theorem a9s (k n : Int) (s : ByteArray) (w : World) (hn : -9223372036854775808 ≤ n) (hn' : n ≤ 9223372036854775807) (hk : (k == 2) = false) (h3 : (k == 3) = false) :
  Calls Tryz.prog 84 #[val k n s] w fun e w' => e = .returned (.tuple #[.string (a3n k n s), .bool false]) ∧ Below w.heap.size w w' := by
 have X0 := a4p w k n s
 go_enter Tryz.func84, Tryz.ntmps84
 go_wp2_with (go_at_call 105; refine (a7z _ _ _ _ hn hn').mono ?_; rintro e w1 ⟨rfl, hb1⟩; obtain ⟨c0, c1, c2⟩ := X0.on hb1; refine Hid.out ?_)
 refine Lib.hid ?_
 go_wp2
 go_quiet (fail)
 go_wp2
 go_ret2
 exact ⟨rfl, a5h (a0b (a0c (Below.refl _ _) _) hb1) _⟩
theorem a8a (k n : Int) (s : ByteArray) (w : World) (hn : -9223372036854775808 ≤ n) (hn' : n ≤ 9223372036854775807) (h : k = 2 ∨ k = 3) :
  Calls Tryz.prog 84 #[val k n s] w fun e w' => e = .returned (.tuple #[.string (a3n k n s), .bool true]) ∧ Below w.heap.size w w' := by
 rcases h with h | h
 ·exact c0i k n s w hn hn' (by simpa using h)
 ·exact c0j k n s w hn hn' (by simp [h]) (by simp [h])
abbrev In64 (n : Int) : Prop := -9223372036854775808 ≤ n ∧ n ≤ 9223372036854775807
theorem b4g (k n : Int) (s : ByteArray) (w : World) (hn : In64 n) (h : mayB k n s = true) :
  Calls Tryz.prog 47 #[val k n s] w fun e w' => e = .returned (.bool true) ∧ Below w.heap.size w w' := by
 refine (a5v k n s w hn.1 hn.2 h).mono ?_
 rintro e w' ⟨rfl, rfl⟩
 exact ⟨rfl, a0c (Below.refl _ _) _⟩
theorem c0k (k n : Int) (s : ByteArray) (w : World) (hn : In64 n) (h : mayB k n s = false) :
  Calls Tryz.prog 47 #[val k n s] w fun e w' => e = .returned (.bool false) ∧ Below w.heap.size w w' := by
 refine (b5a k n s w hn.1 hn.2 h).mono ?_
 rintro e w' ⟨rfl, rfl⟩
 exact ⟨rfl, a0c (Below.refl _ _) _⟩
theorem c9i (w : World) (o1 o2 o3 : Obj) : Box1 (w.heap.size + 1 + 1 + 1) 0 0 ⟨#[]⟩ ((((w.alloc o1).alloc o2).alloc o3).alloc (box 0 0 ⟨#[]⟩)) :=
 ⟨by rw [World.cell?_alloc_at _ _ _ _ (by simp)]; rfl, by rw [World.cell?_alloc_at _ _ _ _ (by simp)]; rfl, by rw [World.cell?_alloc_at _ _ _ _ (by simp)]; rfl⟩
theorem c0l (k n : Int) (s : ByteArray) (w : World) (hn : In64 n) (h : truthB k n s = true) : Calls Tryz.prog 82 #[val k n s] w fun e w' => e = .returned (.bool true) ∧ Below w.heap.size w w' := h ▸ a8i k n s w hn.1 hn.2
theorem c0m (k n : Int) (s : ByteArray) (w : World) (hn : In64 n) (h : truthB k n s = false) : Calls Tryz.prog 82 #[val k n s] w fun e w' => e = .returned (.bool false) ∧ Below w.heap.size w w' := h ▸ a8i k n s w hn.1 hn.2
theorem b5u (a b : ByteArray) (w : World) (ha : a.size ≤ 300) (h : Op.bytesLess a.toList b.toList = true) : Calls Tryz.prog 83 #[.string a, .string b] w fun e w' => e = .returned (.bool true) ∧ Below w.heap.size w w' := h ▸ b0r a b w ha
theorem a9a (a b : ByteArray) (w : World) (ha : a.size ≤ 300) (h : Op.bytesLess a.toList b.toList = false) : Calls Tryz.prog 83 #[.string a, .string b] w fun e w' => e = .returned (.bool false) ∧ Below w.heap.size w w' := h ▸ b0r a b w ha
theorem b1o (k n k' n' : Int) (s s' : ByteArray) (w : World) (h : ¬ (k = k' ∧ n = n' ∧ s.toList = s'.toList)) :
  Calls Tryz.prog 23 #[val k n s, val k' n' s'] w fun e w' => e = .returned (.bool false) ∧ Below w.heap.size w w' := by
 refine (b7w k n k' n' s s' w h).mono ?_
 rintro e w' ⟨rfl, rfl⟩
 exact ⟨rfl, a0c (a0c (Below.refl _ _) _) _⟩
theorem b1p (k n : Int) (s : ByteArray) (w : World) :
  Calls Tryz.prog 23 #[val k n s, val k n s] w fun e w' => e = .returned (.bool true) ∧ Below w.heap.size w w' := by
 refine (b7v k n s w).mono ?_
 rintro e w' ⟨rfl, rfl⟩
 exact ⟨rfl, a0c (a0c (Below.refl _ _) _) _⟩
theorem b2y (w : World) (o1 o2 o3 o4 : Obj) : Below w.heap.size w ((((w.alloc o1).alloc o2).alloc o3).alloc o4) := a0c (a2p _ _ _ _) _
structure V2 (k n k' n' : Int) (s s' : ByteArray) : Prop where
 na : In64 n
 nb : In64 n'
 a : mayB k n s = true
 b : mayB k' n' s' = true
abbrev Dc55 (op k n k' n' : Int) (s s' : ByteArray) (k3 n3 : Int) (s3 : ByteArray) (er : Int) (w : World) : Prop := Calls Tryz.prog 55 #[.int .i64 op, val k n s, val k' n' s'] w fun e w' => e = .returned (.tuple #[val k3 n3 s3, .int .i64 er]) ∧ Below w.heap.size w w'
structure Fr55 (a : Act) (op : Int) (b : Nat) (i t : Bool) : Prop where
 sz : a.tmps.size = 202
 df : a.defers = []
 g0 : a.tmps.getD 0 undef = .int .i64 op
 g4 : a.tmps.getD 4 undef = .pointer (some ⟨b, 0, none⟩)
 g5 : a.tmps.getD 5 undef = .pointer (some ⟨b + 1, 0, none⟩)
 g6 : a.tmps.getD 6 undef = .pointer (some ⟨b + 1 + 1, 0, none⟩)
 g8 : a.tmps.getD 8 undef = .pointer (some ⟨b + 1 + 1 + 1, 0, none⟩)
 g9 : a.tmps.getD 9 undef = .bool i
 g10 : a.tmps.getD 10 undef = .bool t
theorem Fr55.lit {a : Act} {b : Nat} (h : Fr55 a op b i t) : ∃ x : Nat → Value, a = { tmps := #[.int .i64 op, x 1, x 2, x 3, .pointer (some ⟨b, 0, none⟩), .pointer (some ⟨b + 1, 0, none⟩), .pointer (some ⟨b + 1 + 1, 0, none⟩), x 7, .pointer (some ⟨b + 1 + 1 + 1, 0, none⟩), .bool i, .bool t, x 11, x 12, x 13, x 14, x 15, x 16, x 17, x 18, x 19, x 20, x 21, x 22, x 23, x 24, x 25, x 26, x 27, x 28, x 29, x 30, x 31, x 32, x 33, x 34, x 35, x 36, x 37, x 38, x 39, x 40, x 41, x 42, x 43, x 44, x 45, x 46, x 47, x 48, x 49, x 50, x 51, x 52, x 53, x 54, x 55, x 56, x 57, x 58, x 59, x 60, x 61, x 62, x 63, x 64, x 65, x 66, x 67, x 68, x 69, x 70, x 71, x 72, x 73, x 74, x 75, x 76, x 77, x 78, x 79, x 80, x 81, x 82, x 83, x 84, x 85, x 86, x 87, x 88, x 89, x 90, x 91, x 92, x 93, x 94, x 95, x 96, x 97, x 98, x 99, x 100, x 101, x 102, x 103, x 104, x 105, x 106, x 107, x 108, x 109, x 110, x 111, x 112, x 113, x 114, x 115, x 116, x 117, x 118, x 119, x 120, x 121, x 122, x 123, x 124, x 125, x 126, x 127, x 128, x 129, x 130, x 131, x 132, x 133, x 134, x 135, x 136, x 137, x 138, x 139, x 140, x 141, x 142, x 143, x 144, x 145, x 146, x 147, x 148, x 149, x 150, x 151, x 152, x 153, x 154, x 155, x 156, x 157, x 158, x 159, x 160, x 161, x 162, x 163, x 164, x 165, x 166, x 167, x 168, x 169, x 170, x 171, x 172, x 173, x 174, x 175, x 176, x 177, x 178, x 179, x 180, x 181, x 182, x 183, x 184, x 185, x 186, x 187, x 188, x 189, x 190, x 191, x 192, x 193, x 194, x 195, x 196, x 197, x 198, x 199, x 200, x 201], defers := [] } := by
 refine ⟨fun k => a.tmps.getD k undef, ?_⟩
 have e := b1c a.tmps 202 h.sz
 have e2 : ((List.range 202).map fun k => a.tmps.getD k undef).toArray = (let x := (fun k => a.tmps.getD k undef); #[x 0, x 1, x 2, x 3, x 4, x 5, x 6, x 7, x 8, x 9, x 10, x 11, x 12, x 13, x 14, x 15, x 16, x 17, x 18, x 19, x 20, x 21, x 22, x 23, x 24, x 25, x 26, x 27, x 28, x 29, x 30, x 31, x 32, x 33, x 34, x 35, x 36, x 37, x 38, x 39, x 40, x 41, x 42, x 43, x 44, x 45, x 46, x 47, x 48, x 49, x 50, x 51, x 52, x 53, x 54, x 55, x 56, x 57, x 58, x 59, x 60, x 61, x 62, x 63, x 64, x 65, x 66, x 67, x 68, x 69, x 70, x 71, x 72, x 73, x 74, x 75, x 76, x 77, x 78, x 79, x 80, x 81, x 82, x 83, x 84, x 85, x 86, x 87, x 88, x 89, x 90, x 91, x 92, x 93, x 94, x 95, x 96, x 97, x 98, x 99, x 100, x 101, x 102, x 103, x 104, x 105, x 106, x 107, x 108, x 109, x 110, x 111, x 112, x 113, x 114, x 115, x 116, x 117, x 118, x 119, x 120, x 121, x 122, x 123, x 124, x 125, x 126, x 127, x 128, x 129, x 130, x 131, x 132, x 133, x 134, x 135, x 136, x 137, x 138, x 139, x 140, x 141, x 142, x 143, x 144, x 145, x 146, x 147, x 148, x 149, x 150, x 151, x 152, x 153, x 154, x 155, x 156, x 157, x 158, x 159, x 160, x 161, x 162, x 163, x 164, x 165, x 166, x 167, x 168, x 169, x 170, x 171, x 172, x 173, x 174, x 175, x 176, x 177, x 178, x 179, x 180, x 181, x 182, x 183, x 184, x 185, x 186, x 187, x 188, x 189, x 190, x 191, x 192, x 193, x 194, x 195, x 196, x 197, x 198, x 199, x 200, x 201] : Array Value) := rfl
 rw [e2] at e
 simp only [h.g0, h.g4, h.g5, h.g6, h.g8, h.g9, h.g10] at e
 obtain ⟨t, d⟩ := a
 obtain rfl : d = [] := h.df
 simp only at e
 exact congrArg (fun t => ({ tmps := t, defers := [] } : Act)) e
def Rest (op k n k' n' : Int) (s s' : ByteArray) (i t : Bool) (k3 n3 : Int) (s3 : ByteArray) (er : Int) : Prop := ∀ (b : Nat) (a : Act) (w : World) (K : Exit → Act → World → Prop), Fr55 a op b i t → a6p b k n k' n' 0 0 s s' E0 w → Box1 (b + 1 + 1 + 1) 0 0 E0 w →
  (∀ a' w', a'.defers = [] → a'.tmps.getD 6 undef = .pointer (some ⟨b + 1 + 1, 0, none⟩) → a'.tmps.getD 7 undef = .int .i64 er → Box1 (b + 1 + 1) k3 n3 s3 w' → Below (b + 1 + 1) w w' → K .ret a' w') → Code.wp Tryz.prog ((Tryz.f55.body.bind (seqIn2 6)).getD .skip) K a w
theorem d3j {tm : Array Value} {B : Nat} (hp : tm.getD 6 undef = .pointer (some ⟨B, 0, none⟩)) (hq : tm.getD 7 undef = .int .i64 er) (h : Box1 B k n s W) : (results Tryz.f55 tm).run Tryz.prog W = .ok (.tuple #[val k n s, .int .i64 er]) W := by
 obtain ⟨c0, c1, c2⟩ := h
 have hp' : tm[6]?.getD undef = _ := (Array.getD_eq_getD_getElem? ..).symm.trans hp
 have hq' : tm[7]?.getD undef = _ := (Array.getD_eq_getD_getElem? ..).symm.trans hq
 simp [results, Tryz.results55, go_sem, hp', hq', c0, c1, c2]
def a2w (op k k' : Int) : Bool := (k == 2) && ((k' == 2) || (op == 11))
def a8t (k k' : Int) : Bool := (k == 3) && (k' == 3)
theorem a2e {k' n' : Int} {s' : ByteArray} (h1 : 1 ≤ op) (h2 : op ≤ 11) (hv : V2 k n k' n' s s') (hi : a2w op k k' = i) (ht : a8t k k' = t) (hR : Rest op k n k' n' s s' i t k3 n3 s3 er) (w : World) : Dc55 op k n k' n' s s' k3 n3 s3 er w := by
 have B0 := (a3u w k n k' n' 0 0 s s' ⟨#[]⟩).alloc' (box 0 0 ⟨#[]⟩)
 have N0 := c9i w (box k n s) (box k' n' s') (box 0 0 ⟨#[]⟩)
 have E0' := b2y w (box k n s) (box k' n' s') (box 0 0 ⟨#[]⟩) (box 0 0 ⟨#[]⟩)
 refine calls_of_wp Tryz.func55 (c := .seq ((Tryz.f55.body.bind (a5x 0)).getD .skip) (.seq ((Tryz.f55.body.bind (a5x 1)).getD .skip) (.seq ((Tryz.f55.body.bind (a6n 2)).getD .skip) (.seq ((Tryz.f55.body.bind (a5x 4)).getD .skip) (.seq ((Tryz.f55.body.bind (a5x 5)).getD .skip) ((Tryz.f55.body.bind (seqIn2 6)).getD .skip)))))) (by kernel_rfl) ?_
 simp only [Tryz.ntmps55, List.size_toArray, List.length_cons, List.length_nil, Nat.reduceAdd, Nat.reduceSub, Array.replicate_succ, Array.replicate_zero, List.push_toArray, List.append_toArray, List.nil_append, List.cons_append]
 have hR' : ∀ a w', Fr55 a op w.heap.size i t → a6p w.heap.size k n k' n' 0 0 s s' E0 w' → Box1 (w.heap.size + 1 + 1 + 1) 0 0 E0 w' → Below w.heap.size w w' → Code.wp Tryz.prog ((Tryz.f55.body.bind (seqIn2 6)).getD .skip) (bodyPost Tryz.prog Tryz.f55 fun e w' => e = .returned (.tuple #[val k3 n3 s3, .int .i64 er]) ∧ Below w.heap.size w w') a w' := fun a w' hf hB hN hb => hR _ a w' _ hf hB hN fun a2 w2 d1 d2 d3 hx hb2 => bodyPost_ret (d3j d2 d3 hx) d1 ⟨rfl, hb.trans (hb2.mono (by omega))⟩
 generalize ((Tryz.f55.body.bind (seqIn2 6)).getD .skip) = c at hR' ⊢
 conv => arg 2; arg 1; whnf
 conv => arg 2; arg 2; arg 1; whnf
 conv => arg 2; arg 2; arg 2; arg 1; whnf
 conv => arg 2; arg 2; arg 2; arg 2; arg 1; whnf
 conv => arg 2; arg 2; arg 2; arg 2; arg 2; arg 1; whnf
 replace hR' : Hid _ := hR'
 clear hR
 have hw : ((k == 2) = false ∧ i = false ∧ ((k == 3) = false ∧ t = false ∨ (k == 3) = true ∧ ((k' == 3) = false ∧ t = false ∨ (k' == 3) = true ∧ t = true))) ∨ ((k == 2) = true ∧ (k == 3) = false ∧ t = false ∧ ((k' == 2) = true ∧ i = true ∨ (k' == 2) = false ∧ ((op == 11) = true ∧ i = true ∨ (op == 11) = false ∧ i = false))) := by
  subst hi ht
  unfold a2w a8t
  cases e2 : (k == 2)
  ·cases k == 3 <;> cases k' == 3 <;> simp
  ·have : k = 2 := by simpa using e2
   subst this
   cases k' == 2 <;> cases op == 11 <;> simp
 clear hi ht
 obtain ⟨hna, hnb, ha, hb⟩ := hv
 rcases hw with ⟨k2, rfl, ⟨k3, rfl⟩ | ⟨k3, ⟨k3', rfl⟩ | ⟨k3', rfl⟩⟩⟩ | ⟨k2, k3, rfl, ⟨k2', rfl⟩ | ⟨k2', ⟨o11, rfl⟩ | ⟨o11, rfl⟩⟩⟩
 all_goals
  go_wp2_with (go_at_call 47; refine (b4g _ _ _ _ hna ha).mono ?_; rintro e w1 ⟨rfl, hb1⟩; have B1 := B0.on hb1; have N1 := N0.on hb1; obtain ⟨a0, a1, a2, b0, b1, b2, c0, c1, c2, f0, f1, f2⟩ := id B1; refine Hid.out ?_)
  refine Lib.hid ?_
  go_wp2_with (go_at_call 47; refine (b4g _ _ _ _ hnb hb).mono ?_; rintro e w2 ⟨rfl, hb2⟩; clear a0 a1 a2 b0 b1 b2 c0 c1 c2 f0 f1 f2; have B2 := B1.on hb2; have N2 := N1.on hb2; obtain ⟨a0, a1, a2, b0, b1, b2, c0, c1, c2, f0, f1, f2⟩ := id B2; refine Hid.out ?_)
  refine Lib.hid ?_
  go_wp2
  exact hR'.out _ _ ⟨rfl, rfl, rfl, rfl, rfl, rfl, rfl, rfl, rfl⟩ B2 N2 (a0b E0' (a0b hb1 hb2))
theorem d1t {c b o : Nat} {x y z v : Value} {q : Obj} (hne : b ≠ c) (h : W.cell? ⟨b, o, none⟩ = some v) : ((((W.setCell ⟨c, 0, none⟩ x).setCell ⟨c, 1, none⟩ y).setCell ⟨c, 2, none⟩ z).alloc q).drew.cell? ⟨b, o, none⟩ = some v := by
 have e : ∀ (V : World) (p : Nat) (u : Value), (V.setCell ⟨c, p, none⟩ u).cell? ⟨b, o, none⟩ = V.cell? ⟨b, o, none⟩ := fun V p u => World.cell?_of_block (Below.heap_setCell V ⟨c, p, none⟩ u b hne)
 have h3 : (((W.setCell ⟨c, 0, none⟩ x).setCell ⟨c, 1, none⟩ y).setCell ⟨c, 2, none⟩ z).cell? ⟨b, o, none⟩ = some v := by rw [e, e, e]; exact h
 show ((((W.setCell ⟨c, 0, none⟩ x).setCell ⟨c, 1, none⟩ y).setCell ⟨c, 2, none⟩ z).alloc q).cell? ⟨b, o, none⟩ = some v
 exact cell_later (a0c (Below.refl _ _) q) h3
theorem c4u (n n' : Int) : IntKind.i64.wrap (n - IntKind.i64.wrap (n' * divV n n')) = modV n n' := by
 unfold modV
 rw [IntWalk.i64_left, IntWalk.i64_left, Int.mul_comm]
variable {op k n k' n' : Int} {s s' : ByteArray} {i t : Bool}
theorem a5q {b : Nat} {w1 : World} {K : Exit → Act → World → Prop} {a : Act} (hK : ∀ a' w', a'.defers = [] → a'.tmps.getD 6 undef = .pointer (some ⟨b + 1 + 1, 0, none⟩) → a'.tmps.getD 7 undef = .int .i64 er → Box1 (b + 1 + 1) k3 n3 s3 w' → Below (b + 1 + 1) w w' → K .ret a' w') (hb : Below w.heap.size w w1) (hs : b + 1 + 1 < w.heap.size) (B : a6p b k n k' n' 0 0 s s' E0 w1) (h1 : a.defers = []) (h2 : a.tmps.getD 6 undef = .pointer (some ⟨b + 1 + 1, 0, none⟩)) (h3 : a.tmps.getD 7 undef = .int .i64 er) :
  K .ret a (((w1.setCell ⟨b + 1 + 1, 0, none⟩ (.int .i64 k3)).setCell ⟨b + 1 + 1, 1, none⟩ (.int .i64 n3)).setCell ⟨b + 1 + 1, 2, none⟩ (.string s3)) := by
 obtain ⟨_, _, _, _, _, _, c0, c1, c2, _, _, _⟩ := id B
 refine hK _ _ h1 h2 h3 ⟨?_, ?_, ?_⟩ ((((hb.mono (by omega)).setCell (by simp) _).setCell (by simp) _).setCell (by simp) _) <;> simp [go_sem, c0, c1, c2]
theorem d1u {a b : Int} (ha : In64 a) (hb : In64 b) (hz : (b == 0) = false) (w : World) : Calls Tryz.prog 86 #[.int .i64 a, .int .i64 b] w fun e w' => e = .returned (.int .i64 (divV a b)) ∧ Below w.heap.size w w' := (b5s a b w ha hb hz).mono fun e w' ⟨h1, h2⟩ => ⟨h1, by rw [h2]; exact Below.refl _ _⟩
def bN (r : Bool) : Int := if r then 1 else 0
theorem a9t (r : Bool) (w : World) : Calls Tryz.prog 81 #[.bool r] w fun e w' => e = .returned (val 1 (bN r) E0) ∧ Below w.heap.size w w' := by
 cases r
 ·exact c0g w
 ·exact b4f w
theorem b2z (n : Int) (w : World) : Calls Tryz.prog 85 #[.int .i64 n] w fun e w' => e = .returned (val 2 n E0) ∧ Below w.heap.size w w' := (a7d n w).mono fun e w' ⟨h1, h2⟩ => ⟨h1, by rw [h2]; exact a0c (Below.refl _ _) _⟩
theorem a4r (ho : op = 1 ∨ op = 2 ∨ op = 3 ∨ op = 4 ∨ op = 5 ∨ op = 11) : Rest op k n k' n' s s' false t 0 0 E0 3 := by
 intro b a w0 K hfr B0 N0 hK
 obtain ⟨xf, hx⟩ := hfr.lit
 subst hx
 conv => arg 2; whnf
 clear hfr
 replace hK : Hid _ := hK
 have E0 := Below.refl w0.heap.size w0
 obtain ⟨a0, a1, a2, b0, b1, b2, c0, c1, c2, f0, f1, f2⟩ := id B0
 rcases ho with rfl | rfl | rfl | rfl | rfl | rfl
 all_goals
  obtain ⟨m0, m1, m2⟩ := N0.on E0
  have hz := B0.size
  have hz0 : b < w0.heap.size := by omega
  have hz1 : b + 1 < w0.heap.size := by omega
  go_wp2
  exact a5q hK.out E0 B0.size B0 rfl rfl rfl
theorem c0n (ho : op = 4 ∨ op = 5) (hz' : (n' == 0) = true) : Rest op k n k' n' s s' true t 0 0 E0 7 := by
 intro b a w0 K hfr B0 N0 hK
 obtain ⟨xf, hx⟩ := hfr.lit
 subst hx
 conv => arg 2; whnf
 clear hfr
 replace hK : Hid _ := hK
 have E0 := Below.refl w0.heap.size w0
 obtain ⟨a0, a1, a2, b0, b1, b2, c0, c1, c2, f0, f1, f2⟩ := id B0
 rcases ho with rfl | rfl
 all_goals
  obtain ⟨m0, m1, m2⟩ := N0.on E0
  have hz := B0.size
  have hz0 : b < w0.heap.size := by omega
  have hz1 : b + 1 < w0.heap.size := by omega
  go_wp2
  exact a5q hK.out E0 B0.size B0 rfl rfl rfl
theorem rq1 : Rest 1 k n k' n' s s' true t 2 (wrap64 (n + n')) E0 0 := by
 intro b a w0 K hfr B0 N0 hK
 obtain ⟨xf, hx⟩ := hfr.lit
 subst hx
 conv => arg 2; whnf
 clear hfr
 replace hK : Hid _ := hK
 have E0 := Below.refl w0.heap.size w0
 obtain ⟨a0, a1, a2, b0, b1, b2, c0, c1, c2, f0, f1, f2⟩ := id B0
 go_wp2_with (go_at_call 85; refine Hid.out ?_)
 refine Lib.hid ?_
 refine (b2z _ _).mono ?_
 rintro e w1 ⟨rfl, hb1⟩
 clear a0 a1 a2 b0 b1 b2 c0 c1 c2 f0 f1 f2
 have E1 := a0b E0 hb1
 have B1 := B0.on hb1
 obtain ⟨a0, a1, a2, b0, b1, b2, c0, c1, c2, f0, f1, f2⟩ := id B1
 obtain ⟨m0, m1, m2⟩ := N0.on E1
 have hz := B1.size
 have hz0 : b < w1.heap.size := by omega
 have hz1 : b + 1 < w1.heap.size := by omega
 go_wp2
 exact a5q hK.out E1 B0.size B1 rfl rfl rfl
theorem rq2 : Rest 2 k n k' n' s s' true t 2 (wrap64 (n - n')) E0 0 := by
 intro b a w0 K hfr B0 N0 hK
 obtain ⟨xf, hx⟩ := hfr.lit
 subst hx
 conv => arg 2; whnf
 clear hfr
 replace hK : Hid _ := hK
 have E0 := Below.refl w0.heap.size w0
 obtain ⟨a0, a1, a2, b0, b1, b2, c0, c1, c2, f0, f1, f2⟩ := id B0
 go_wp2_with (go_at_call 85; refine Hid.out ?_)
 refine Lib.hid ?_
 refine (b2z _ _).mono ?_
 rintro e w1 ⟨rfl, hb1⟩
 clear a0 a1 a2 b0 b1 b2 c0 c1 c2 f0 f1 f2
 have E1 := a0b E0 hb1
 have B1 := B0.on hb1
 obtain ⟨a0, a1, a2, b0, b1, b2, c0, c1, c2, f0, f1, f2⟩ := id B1
 obtain ⟨m0, m1, m2⟩ := N0.on E1
 have hz := B1.size
 have hz0 : b < w1.heap.size := by omega
 have hz1 : b + 1 < w1.heap.size := by omega
 go_wp2
 exact a5q hK.out E1 B0.size B1 rfl rfl rfl
theorem rq3 : Rest 3 k n k' n' s s' true t 2 (wrap64 (n * n')) E0 0 := by
 intro b a w0 K hfr B0 N0 hK
 obtain ⟨xf, hx⟩ := hfr.lit
 subst hx
 conv => arg 2; whnf
 clear hfr
 replace hK : Hid _ := hK
 have E0 := Below.refl w0.heap.size w0
 obtain ⟨a0, a1, a2, b0, b1, b2, c0, c1, c2, f0, f1, f2⟩ := id B0
 go_wp2_with (go_at_call 85; refine Hid.out ?_)
 refine Lib.hid ?_
 refine (b2z _ _).mono ?_
 rintro e w1 ⟨rfl, hb1⟩
 clear a0 a1 a2 b0 b1 b2 c0 c1 c2 f0 f1 f2
 have E1 := a0b E0 hb1
 have B1 := B0.on hb1
 obtain ⟨a0, a1, a2, b0, b1, b2, c0, c1, c2, f0, f1, f2⟩ := id B1
 obtain ⟨m0, m1, m2⟩ := N0.on E1
 have hz := B1.size
 have hz0 : b < w1.heap.size := by omega
 have hz1 : b + 1 < w1.heap.size := by omega
 go_wp2
 exact a5q hK.out E1 B0.size B1 rfl rfl rfl
theorem rq11 : Rest 11 k n k' n' s s' true t 2 (wrap64 (0 - n)) E0 0 := by
 intro b a w0 K hfr B0 N0 hK
 obtain ⟨xf, hx⟩ := hfr.lit
 subst hx
 conv => arg 2; whnf
 clear hfr
 replace hK : Hid _ := hK
 have E0 := Below.refl w0.heap.size w0
 obtain ⟨a0, a1, a2, b0, b1, b2, c0, c1, c2, f0, f1, f2⟩ := id B0
 go_wp2_with (go_at_call 85; refine Hid.out ?_)
 refine Lib.hid ?_
 refine (b2z _ _).mono ?_
 rintro e w1 ⟨rfl, hb1⟩
 clear a0 a1 a2 b0 b1 b2 c0 c1 c2 f0 f1 f2
 have E1 := a0b E0 hb1
 have B1 := B0.on hb1
 obtain ⟨a0, a1, a2, b0, b1, b2, c0, c1, c2, f0, f1, f2⟩ := id B1
 obtain ⟨m0, m1, m2⟩ := N0.on E1
 have hz := B1.size
 have hz0 : b < w1.heap.size := by omega
 have hz1 : b + 1 < w1.heap.size := by omega
 rw [Int.zero_sub] at hK
 go_wp2
 exact a5q hK.out E1 B0.size B1 rfl rfl rfl
theorem rq4 (hna : In64 n) (hnb : In64 n') (hz' : (n' == 0) = false) : Rest 4 k n k' n' s s' true t 2 (divV n n') E0 0 := by
 intro b a w0 K hfr B0 N0 hK
 obtain ⟨xf, hx⟩ := hfr.lit
 subst hx
 conv => arg 2; whnf
 clear hfr
 replace hK : Hid _ := hK
 have E0 := Below.refl w0.heap.size w0
 obtain ⟨a0, a1, a2, b0, b1, b2, c0, c1, c2, f0, f1, f2⟩ := id B0
 go_wp2_with (go_at_call 86; refine Hid.out ?_)
 refine Lib.hid ?_
 refine (d1u hna hnb hz' _).mono ?_
 rintro e w1 ⟨rfl, hb1⟩
 clear a0 a1 a2 b0 b1 b2 c0 c1 c2 f0 f1 f2
 have E1 := a0b E0 hb1
 have B1 := B0.on hb1
 obtain ⟨a0, a1, a2, b0, b1, b2, c0, c1, c2, f0, f1, f2⟩ := id B1
 go_wp2_with (go_at_call 85; refine Hid.out ?_)
 refine Lib.hid ?_
 refine (b2z _ _).mono ?_
 rintro e w2 ⟨rfl, hb2⟩
 clear a0 a1 a2 b0 b1 b2 c0 c1 c2 f0 f1 f2
 have E2 := a0b E1 hb2
 have B2 := B1.on hb2
 obtain ⟨a0, a1, a2, b0, b1, b2, c0, c1, c2, f0, f1, f2⟩ := id B2
 obtain ⟨m0, m1, m2⟩ := N0.on E2
 have hz := B2.size
 have hz0 : b < w2.heap.size := by omega
 have hz1 : b + 1 < w2.heap.size := by omega
 go_wp2
 exact a5q hK.out E2 B0.size B2 rfl rfl rfl
theorem rq5 (hna : In64 n) (hnb : In64 n') (hz' : (n' == 0) = false) : Rest 5 k n k' n' s s' true t 2 (modV n n') E0 0 := by
 intro b a w0 K hfr B0 N0 hK
 obtain ⟨xf, hx⟩ := hfr.lit
 subst hx
 conv => arg 2; whnf
 clear hfr
 replace hK : Hid _ := hK
 have E0 := Below.refl w0.heap.size w0
 obtain ⟨a0, a1, a2, b0, b1, b2, c0, c1, c2, f0, f1, f2⟩ := id B0
 obtain ⟨m0, m1, m2⟩ := N0.on E0
 have hz := B0.size
 have hz0 : b < w0.heap.size := by omega
 have hz1 : b + 1 < w0.heap.size := by omega
 have hne3 : ¬ b + 1 + 1 = b := by omega
 have hne4 : ¬ b + 1 + 1 = b + 1 := by omega
 go_wp2
 go_region_held3 (fun w' => w'.cell? ⟨b, 1, none⟩ = some (.int .i64 n) ∧ w'.cell? ⟨b + 1, 1, none⟩ = some (.int .i64 n')) (first | go_keep | (refine ⟨d1t (by omega) ?_, d1t (by omega) ?_⟩ <;> simp [go_sem, *])) (first | (go_at_call 86; refine (b5s _ _ _ hna hnb hz').mono ?_; rintro e wx ⟨rfl, rfl⟩) | (go_at_call 85; refine (a7d _ _).mono ?_; rintro e wx ⟨rfl, rfl⟩))
 go_wp2
 have hx : Box1 (b + 1 + 1) 2 (modV n n') ⟨#[]⟩ (((w0.setCell ⟨b + 1 + 1, 0, none⟩ (.int .i64 2)).setCell ⟨b + 1 + 1, 1, none⟩ (.int .i64 (IntKind.i64.wrap (n - IntKind.i64.wrap (n' * divV n n'))))).setCell ⟨b + 1 + 1, 2, none⟩ (.string ⟨#[]⟩)) := by
  refine ⟨?_, ?_, ?_⟩ <;> simp [go_sem, c0, c1, c2, c4u]
 exact hK.out _ _ rfl rfl rfl ((hx.alloc _).on (a0i (Below.refl _ _))) ((((((E0.mono (by omega)).setCell (by simp) _).setCell (by simp) _).setCell (by simp) _).alloc (by simp; omega) _).drew)
theorem rq10 (r : Bool) (q82 : ∀ w, Calls Tryz.prog 82 #[val k n s] w fun e w' => e = .returned (.bool r) ∧ Below w.heap.size w w') : Rest 10 k n k' n' s s' i t 1 (bN !r) E0 0 := by
 intro b a w0 K hfr B0 N0 hK
 obtain ⟨xf, hx⟩ := hfr.lit
 subst hx
 conv => arg 2; whnf
 clear hfr
 replace hK : Hid _ := hK
 have E0 := Below.refl w0.heap.size w0
 obtain ⟨a0, a1, a2, b0, b1, b2, c0, c1, c2, f0, f1, f2⟩ := id B0
 cases r
 all_goals
  go_wp2_with (go_at_call 82; refine Hid.out ?_)
  refine Lib.hid ?_
  refine (q82 _).mono ?_
  rintro e w1 ⟨rfl, hb1⟩
  clear a0 a1 a2 b0 b1 b2 c0 c1 c2 f0 f1 f2
  have E1 := a0b E0 hb1
  have B1 := B0.on hb1
  obtain ⟨a0, a1, a2, b0, b1, b2, c0, c1, c2, f0, f1, f2⟩ := id B1
  go_wp2_with (go_at_call 81; refine Hid.out ?_)
  refine Lib.hid ?_
  refine (a9t _ _).mono ?_
  rintro e w2 ⟨rfl, hb2⟩
  clear a0 a1 a2 b0 b1 b2 c0 c1 c2 f0 f1 f2
  have E2 := a0b E1 hb2
  have B2 := B1.on hb2
  obtain ⟨a0, a1, a2, b0, b1, b2, c0, c1, c2, f0, f1, f2⟩ := id B2
  obtain ⟨m0, m1, m2⟩ := N0.on E2
  have hz := B2.size
  have hz0 : b < w2.heap.size := by omega
  have hz1 : b + 1 < w2.heap.size := by omega
  go_wp2
  exact a5q hK.out E2 B0.size B2 rfl rfl rfl
theorem rq7 (r : Bool) (q23 : ∀ w, Calls Tryz.prog 23 #[val k n s, val k' n' s'] w fun e w' => e = .returned (.bool r) ∧ Below w.heap.size w w') : Rest 7 k n k' n' s s' i t 1 (bN r) E0 0 := by
 intro b a w0 K hfr B0 N0 hK
 obtain ⟨xf, hx⟩ := hfr.lit
 subst hx
 conv => arg 2; whnf
 clear hfr
 replace hK : Hid _ := hK
 have E0 := Below.refl w0.heap.size w0
 obtain ⟨a0, a1, a2, b0, b1, b2, c0, c1, c2, f0, f1, f2⟩ := id B0
 cases r
 all_goals
  go_wp2_with (go_at_call 23; refine Hid.out ?_)
  refine Lib.hid ?_
  refine (q23 _).mono ?_
  rintro e w1 ⟨rfl, hb1⟩
  clear a0 a1 a2 b0 b1 b2 c0 c1 c2 f0 f1 f2
  have E1 := a0b E0 hb1
  have B1 := B0.on hb1
  obtain ⟨a0, a1, a2, b0, b1, b2, c0, c1, c2, f0, f1, f2⟩ := id B1
  go_wp2_with (go_at_call 81; refine Hid.out ?_)
  refine Lib.hid ?_
  refine (a9t _ _).mono ?_
  rintro e w2 ⟨rfl, hb2⟩
  clear a0 a1 a2 b0 b1 b2 c0 c1 c2 f0 f1 f2
  have E2 := a0b E1 hb2
  have B2 := B1.on hb2
  obtain ⟨a0, a1, a2, b0, b1, b2, c0, c1, c2, f0, f1, f2⟩ := id B2
  obtain ⟨m0, m1, m2⟩ := N0.on E2
  have hz := B2.size
  have hz0 : b < w2.heap.size := by omega
  have hz1 : b + 1 < w2.heap.size := by omega
  go_wp2
  exact a5q hK.out E2 B0.size B2 rfl rfl rfl
theorem a5i (ho : op = 8 ∨ op = 9) : Rest op k n k' n' s s' false false 0 0 E0 3 := by
 intro b a w0 K hfr B0 N0 hK
 obtain ⟨xf, hx⟩ := hfr.lit
 subst hx
 conv => arg 2; whnf
 clear hfr
 replace hK : Hid _ := hK
 have E0 := Below.refl w0.heap.size w0
 obtain ⟨a0, a1, a2, b0, b1, b2, c0, c1, c2, f0, f1, f2⟩ := id B0
 rcases ho with rfl | rfl
 all_goals
  obtain ⟨m0, m1, m2⟩ := N0.on E0
  have hz := B0.size
  have hz0 : b < w0.heap.size := by omega
  have hz1 : b + 1 < w0.heap.size := by omega
  go_wp2
  exact a5q hK.out E0 B0.size B0 rfl rfl rfl
theorem c0o (ho : op = 8 ∨ op = 9) (hl : n < n') : Rest op k n k' n' s s' true false 1 1 E0 0 := by
 intro b a w0 K hfr B0 N0 hK
 obtain ⟨xf, hx⟩ := hfr.lit
 subst hx
 conv => arg 2; whnf
 clear hfr
 replace hK : Hid _ := hK
 have E0 := Below.refl w0.heap.size w0
 obtain ⟨a0, a1, a2, b0, b1, b2, c0, c1, c2, f0, f1, f2⟩ := id B0
 rcases ho with rfl | rfl
 all_goals
  go_wp2_with (go_at_call 81; refine Hid.out ?_)
  refine Lib.hid ?_
  refine (b4f _).mono ?_
  rintro e w1 ⟨rfl, hb1⟩
  clear a0 a1 a2 b0 b1 b2 c0 c1 c2 f0 f1 f2
  have E1 := a0b E0 hb1
  have B1 := B0.on hb1
  obtain ⟨a0, a1, a2, b0, b1, b2, c0, c1, c2, f0, f1, f2⟩ := id B1
  obtain ⟨m0, m1, m2⟩ := N0.on E1
  have hz := B1.size
  have hz0 : b < w1.heap.size := by omega
  have hz1 : b + 1 < w1.heap.size := by omega
  go_wp2
  exact a5q hK.out E1 B0.size B1 rfl rfl rfl
theorem c7d (hl : decide (n < n') = false) : Rest 8 k n k' n' s s' true false 1 0 E0 0 := by
 intro b a w0 K hfr B0 N0 hK
 obtain ⟨xf, hx⟩ := hfr.lit
 subst hx
 conv => arg 2; whnf
 clear hfr
 replace hK : Hid _ := hK
 have E0 := Below.refl w0.heap.size w0
 obtain ⟨a0, a1, a2, b0, b1, b2, c0, c1, c2, f0, f1, f2⟩ := id B0
 go_wp2_with (go_at_call 81; refine Hid.out ?_)
 refine Lib.hid ?_
 refine (c0g _).mono ?_
 rintro e w1 ⟨rfl, hb1⟩
 clear a0 a1 a2 b0 b1 b2 c0 c1 c2 f0 f1 f2
 have E1 := a0b E0 hb1
 have B1 := B0.on hb1
 obtain ⟨a0, a1, a2, b0, b1, b2, c0, c1, c2, f0, f1, f2⟩ := id B1
 obtain ⟨m0, m1, m2⟩ := N0.on E1
 have hz := B1.size
 have hz0 : b < w1.heap.size := by omega
 have hz1 : b + 1 < w1.heap.size := by omega
 go_wp2
 exact a5q hK.out E1 B0.size B1 rfl rfl rfl
theorem c7e (hl : decide (n < n') = false) (r : Bool) (q23 : ∀ w, Calls Tryz.prog 23 #[val k n s, val k' n' s'] w fun e w' => e = .returned (.bool r) ∧ Below w.heap.size w w') : Rest 9 k n k' n' s s' true false 1 (bN r) E0 0 := by
 intro b a w0 K hfr B0 N0 hK
 obtain ⟨xf, hx⟩ := hfr.lit
 subst hx
 conv => arg 2; whnf
 clear hfr
 replace hK : Hid _ := hK
 have E0 := Below.refl w0.heap.size w0
 obtain ⟨a0, a1, a2, b0, b1, b2, c0, c1, c2, f0, f1, f2⟩ := id B0
 cases r
 all_goals
  go_wp2_with (go_at_call 23; refine Hid.out ?_)
  refine Lib.hid ?_
  refine (q23 _).mono ?_
  rintro e w1 ⟨rfl, hb1⟩
  clear a0 a1 a2 b0 b1 b2 c0 c1 c2 f0 f1 f2
  have E1 := a0b E0 hb1
  have B1 := B0.on hb1
  obtain ⟨a0, a1, a2, b0, b1, b2, c0, c1, c2, f0, f1, f2⟩ := id B1
  go_wp2_with (go_at_call 81; refine Hid.out ?_)
  refine Lib.hid ?_
  refine (a9t _ _).mono ?_
  rintro e w2 ⟨rfl, hb2⟩
  clear a0 a1 a2 b0 b1 b2 c0 c1 c2 f0 f1 f2
  have E2 := a0b E1 hb2
  have B2 := B1.on hb2
  obtain ⟨a0, a1, a2, b0, b1, b2, c0, c1, c2, f0, f1, f2⟩ := id B2
  obtain ⟨m0, m1, m2⟩ := N0.on E2
  have hz := B2.size
  have hz0 : b < w2.heap.size := by omega
  have hz1 : b + 1 < w2.heap.size := by omega
  go_wp2
  exact a5q hK.out E2 B0.size B2 rfl rfl rfl
theorem b4h (x : Bool) (q83 : ∀ w, Calls Tryz.prog 83 #[.string s, .string s'] w fun e w' => e = .returned (.bool x) ∧ Below w.heap.size w w') : Rest 8 k n k' n' s s' false true 1 (bN x) E0 0 := by
 intro b a w0 K hfr B0 N0 hK
 obtain ⟨xf, hx⟩ := hfr.lit
 subst hx
 conv => arg 2; whnf
 clear hfr
 replace hK : Hid _ := hK
 have E0 := Below.refl w0.heap.size w0
 obtain ⟨a0, a1, a2, b0, b1, b2, c0, c1, c2, f0, f1, f2⟩ := id B0
 cases x
 all_goals
  go_wp2_with (go_at_call 83; refine Hid.out ?_)
  refine Lib.hid ?_
  refine (q83 _).mono ?_
  rintro e w1 ⟨rfl, hb1⟩
  clear a0 a1 a2 b0 b1 b2 c0 c1 c2 f0 f1 f2
  have E1 := a0b E0 hb1
  have B1 := B0.on hb1
  obtain ⟨a0, a1, a2, b0, b1, b2, c0, c1, c2, f0, f1, f2⟩ := id B1
  go_wp2_with (go_at_call 81; refine Hid.out ?_)
  refine Lib.hid ?_
  refine (a9t _ _).mono ?_
  rintro e w2 ⟨rfl, hb2⟩
  clear a0 a1 a2 b0 b1 b2 c0 c1 c2 f0 f1 f2
  have E2 := a0b E1 hb2
  have B2 := B1.on hb2
  obtain ⟨a0, a1, a2, b0, b1, b2, c0, c1, c2, f0, f1, f2⟩ := id B2
  obtain ⟨m0, m1, m2⟩ := N0.on E2
  have hz := B2.size
  have hz0 : b < w2.heap.size := by omega
  have hz1 : b + 1 < w2.heap.size := by omega
  go_wp2
  exact a5q hK.out E2 B0.size B2 rfl rfl rfl
theorem c9j (q83 : ∀ w, Calls Tryz.prog 83 #[.string s, .string s'] w fun e w' => e = .returned (.bool true) ∧ Below w.heap.size w w') : Rest 9 k n k' n' s s' false true 1 1 E0 0 := by
 intro b a w0 K hfr B0 N0 hK
 obtain ⟨xf, hx⟩ := hfr.lit
 subst hx
 conv => arg 2; whnf
 clear hfr
 replace hK : Hid _ := hK
 have E0 := Below.refl w0.heap.size w0
 obtain ⟨a0, a1, a2, b0, b1, b2, c0, c1, c2, f0, f1, f2⟩ := id B0
 go_wp2_with (go_at_call 83; refine Hid.out ?_)
 refine Lib.hid ?_
 refine (q83 _).mono ?_
 rintro e w1 ⟨rfl, hb1⟩
 clear a0 a1 a2 b0 b1 b2 c0 c1 c2 f0 f1 f2
 have E1 := a0b E0 hb1
 have B1 := B0.on hb1
 obtain ⟨a0, a1, a2, b0, b1, b2, c0, c1, c2, f0, f1, f2⟩ := id B1
 go_wp2_with (go_at_call 81; refine Hid.out ?_)
 refine Lib.hid ?_
 refine (b4f _).mono ?_
 rintro e w2 ⟨rfl, hb2⟩
 clear a0 a1 a2 b0 b1 b2 c0 c1 c2 f0 f1 f2
 have E2 := a0b E1 hb2
 have B2 := B1.on hb2
 obtain ⟨a0, a1, a2, b0, b1, b2, c0, c1, c2, f0, f1, f2⟩ := id B2
 obtain ⟨m0, m1, m2⟩ := N0.on E2
 have hz := B2.size
 have hz0 : b < w2.heap.size := by omega
 have hz1 : b + 1 < w2.heap.size := by omega
 go_wp2
 exact a5q hK.out E2 B0.size B2 rfl rfl rfl
theorem b5v (q83 : ∀ w, Calls Tryz.prog 83 #[.string s, .string s'] w fun e w' => e = .returned (.bool false) ∧ Below w.heap.size w w') (r : Bool) (q23 : ∀ w, Calls Tryz.prog 23 #[val k n s, val k' n' s'] w fun e w' => e = .returned (.bool r) ∧ Below w.heap.size w w') : Rest 9 k n k' n' s s' false true 1 (bN r) E0 0 := by
 intro b a w0 K hfr B0 N0 hK
 obtain ⟨xf, hx⟩ := hfr.lit
 subst hx
 conv => arg 2; whnf
 clear hfr
 replace hK : Hid _ := hK
 have E0 := Below.refl w0.heap.size w0
 obtain ⟨a0, a1, a2, b0, b1, b2, c0, c1, c2, f0, f1, f2⟩ := id B0
 cases r
 all_goals
  go_wp2_with (go_at_call 83; refine Hid.out ?_)
  refine Lib.hid ?_
  refine (q83 _).mono ?_
  rintro e w1 ⟨rfl, hb1⟩
  clear a0 a1 a2 b0 b1 b2 c0 c1 c2 f0 f1 f2
  have E1 := a0b E0 hb1
  have B1 := B0.on hb1
  obtain ⟨a0, a1, a2, b0, b1, b2, c0, c1, c2, f0, f1, f2⟩ := id B1
  go_wp2_with (go_at_call 23; refine Hid.out ?_)
  refine Lib.hid ?_
  refine (q23 _).mono ?_
  rintro e w2 ⟨rfl, hb2⟩
  clear a0 a1 a2 b0 b1 b2 c0 c1 c2 f0 f1 f2
  have E2 := a0b E1 hb2
  have B2 := B1.on hb2
  obtain ⟨a0, a1, a2, b0, b1, b2, c0, c1, c2, f0, f1, f2⟩ := id B2
  go_wp2_with (go_at_call 81; refine Hid.out ?_)
  refine Lib.hid ?_
  refine (a9t _ _).mono ?_
  rintro e w3 ⟨rfl, hb3⟩
  clear a0 a1 a2 b0 b1 b2 c0 c1 c2 f0 f1 f2
  have E3 := a0b E2 hb3
  have B3 := B2.on hb3
  obtain ⟨a0, a1, a2, b0, b1, b2, c0, c1, c2, f0, f1, f2⟩ := id B3
  obtain ⟨m0, m1, m2⟩ := N0.on E3
  have hz := B3.size
  have hz0 : b < w3.heap.size := by omega
  have hz1 : b + 1 < w3.heap.size := by omega
  go_wp2
  exact a5q hK.out E3 B0.size B3 rfl rfl rfl
theorem c9k {x y : Bool} (qta : ∀ w, Calls Tryz.prog 84 #[val k n s] w fun e w' => e = .returned (.tuple #[.string ta, .bool x]) ∧ Below w.heap.size w w') (qtb : ∀ w, Calls Tryz.prog 84 #[val k' n' s'] w fun e w' => e = .returned (.tuple #[.string tb, .bool y]) ∧ Below w.heap.size w w') (hxy : (x && y) = false) : Rest 6 k n k' n' s s' i t 0 0 E0 3 := by
 intro b a w0 K hfr B0 N0 hK
 obtain ⟨xf, hx⟩ := hfr.lit
 subst hx
 conv => arg 2; whnf
 clear hfr
 replace hK : Hid _ := hK
 have E0 := Below.refl w0.heap.size w0
 obtain ⟨a0, a1, a2, b0, b1, b2, c0, c1, c2, f0, f1, f2⟩ := id B0
 cases x <;> cases y <;> first | cases hxy | skip
 all_goals
  go_wp2_with (go_at_call 84; refine Hid.out ?_)
  refine Lib.hid ?_
  refine (qta _).mono ?_
  rintro e w1 ⟨rfl, hb1⟩
  clear a0 a1 a2 b0 b1 b2 c0 c1 c2 f0 f1 f2
  have E1 := a0b E0 hb1
  have B1 := B0.on hb1
  obtain ⟨a0, a1, a2, b0, b1, b2, c0, c1, c2, f0, f1, f2⟩ := id B1
  go_wp2_with (go_at_call 84; refine Hid.out ?_)
  refine Lib.hid ?_
  refine (qtb _).mono ?_
  rintro e w2 ⟨rfl, hb2⟩
  clear a0 a1 a2 b0 b1 b2 c0 c1 c2 f0 f1 f2
  have E2 := a0b E1 hb2
  have B2 := B1.on hb2
  obtain ⟨a0, a1, a2, b0, b1, b2, c0, c1, c2, f0, f1, f2⟩ := id B2
  obtain ⟨m0, m1, m2⟩ := N0.on E2
  have hz := B2.size
  have hz0 : b < w2.heap.size := by omega
  have hz1 : b + 1 < w2.heap.size := by omega
  go_wp2
  exact a5q hK.out E2 B0.size B2 rfl rfl rfl
theorem rq6 (qta : ∀ w, Calls Tryz.prog 84 #[val k n s] w fun e w' => e = .returned (.tuple #[.string ta, .bool true]) ∧ Below w.heap.size w w') (qtb : ∀ w, Calls Tryz.prog 84 #[val k' n' s'] w fun e w' => e = .returned (.tuple #[.string tb, .bool true]) ∧ Below w.heap.size w w') (hs : ta.size + tb.size ≤ 300) : Rest 6 k n k' n' s s' i t 3 0 (ta ++ tb) 0 := by
 intro b a w0 K hfr B0 N0 hK
 obtain ⟨xf, hx⟩ := hfr.lit
 subst hx
 conv => arg 2; whnf
 clear hfr
 replace hK : Hid _ := hK
 have E0 := Below.refl w0.heap.size w0
 obtain ⟨a0, a1, a2, b0, b1, b2, c0, c1, c2, f0, f1, f2⟩ := id B0
 go_wp2_with (go_at_call 84; refine Hid.out ?_)
 refine Lib.hid ?_
 refine (qta _).mono ?_
 rintro e w1 ⟨rfl, hb1⟩
 clear a0 a1 a2 b0 b1 b2 c0 c1 c2 f0 f1 f2
 have E1 := a0b E0 hb1
 have B1 := B0.on hb1
 obtain ⟨a0, a1, a2, b0, b1, b2, c0, c1, c2, f0, f1, f2⟩ := id B1
 go_wp2_with (go_at_call 84; refine Hid.out ?_)
 refine Lib.hid ?_
 refine (qtb _).mono ?_
 rintro e w2 ⟨rfl, hb2⟩
 clear a0 a1 a2 b0 b1 b2 c0 c1 c2 f0 f1 f2
 have E2 := a0b E1 hb2
 have B2 := B1.on hb2
 obtain ⟨a0, a1, a2, b0, b1, b2, c0, c1, c2, f0, f1, f2⟩ := id B2
 obtain ⟨m0, m1, m2⟩ := N0.on E2
 have hz := B2.size
 have hz0 : b < w2.heap.size := by omega
 have hz1 : b + 1 < w2.heap.size := by omega
 go_wp2
 exact a5q hK.out E2 B0.size B2 rfl rfl rfl
theorem c9l (qta : ∀ w, Calls Tryz.prog 84 #[val k n s] w fun e w' => e = .returned (.tuple #[.string ta, .bool true]) ∧ Below w.heap.size w w') (qtb : ∀ w, Calls Tryz.prog 84 #[val k' n' s'] w fun e w' => e = .returned (.tuple #[.string tb, .bool true]) ∧ Below w.heap.size w w') (la : ta.size ≤ 300) (lb : tb.size ≤ 300) (hs : 300 < ta.size + tb.size) : Rest 6 k n k' n' s s' i t 0 0 E0 1 := by
 intro b a w0 K hfr B0 N0 hK
 obtain ⟨xf, hx⟩ := hfr.lit
 subst hx
 conv => arg 2; whnf
 clear hfr
 replace hK : Hid _ := hK
 have E0 := Below.refl w0.heap.size w0
 obtain ⟨a0, a1, a2, b0, b1, b2, c0, c1, c2, f0, f1, f2⟩ := id B0
 go_wp2_with (go_at_call 84; refine Hid.out ?_)
 refine Lib.hid ?_
 refine (qta _).mono ?_
 rintro e w1 ⟨rfl, hb1⟩
 clear a0 a1 a2 b0 b1 b2 c0 c1 c2 f0 f1 f2
 have E1 := a0b E0 hb1
 have B1 := B0.on hb1
 obtain ⟨a0, a1, a2, b0, b1, b2, c0, c1, c2, f0, f1, f2⟩ := id B1
 go_wp2_with (go_at_call 84; refine Hid.out ?_)
 refine Lib.hid ?_
 refine (qtb _).mono ?_
 rintro e w2 ⟨rfl, hb2⟩
 clear a0 a1 a2 b0 b1 b2 c0 c1 c2 f0 f1 f2
 have E2 := a0b E1 hb2
 have B2 := B1.on hb2
 obtain ⟨a0, a1, a2, b0, b1, b2, c0, c1, c2, f0, f1, f2⟩ := id B2
 obtain ⟨m0, m1, m2⟩ := N0.on E2
 have hz := B2.size
 have hz0 : b < w2.heap.size := by omega
 have hz1 : b + 1 < w2.heap.size := by omega
 go_wp2
 exact a5q hK.out E2 B0.size B2 rfl rfl rfl
theorem c9m (op k n k' n' : Int) (s s' : ByteArray) (w : World) (h : op < 1) :
  Calls Tryz.prog 55 #[.int .i64 op, val k n s, val k' n' s'] w fun e w' => e = .returned (.tuple #[val 0 0 ⟨#[]⟩, .int .i64 2]) ∧ Below w.heap.size w w' := by
 go_enter Tryz.func55, Tryz.ntmps55
 go_wp2
 refine bodyPost_ret (v := .tuple #[val 0 0 ⟨#[]⟩, .int .i64 2]) (by simp [results, Tryz.results55, go_sem]) rfl ⟨rfl, ?_⟩
 exact b2y _ _ _ _ _
theorem c4v (op k n k' n' : Int) (s s' : ByteArray) (w : World) (h : 11 < op) :
  Calls Tryz.prog 55 #[.int .i64 op, val k n s, val k' n' s'] w fun e w' => e = .returned (.tuple #[val 0 0 ⟨#[]⟩, .int .i64 2]) ∧ Below w.heap.size w w' := by
 go_enter Tryz.func55, Tryz.ntmps55
 go_wp2
 refine bodyPost_ret (v := .tuple #[val 0 0 ⟨#[]⟩, .int .i64 2]) (by simp [results, Tryz.results55, go_sem]) rfl ⟨rfl, ?_⟩
 exact b2y _ _ _ _ _
theorem d3k (op k n k' n' : Int) (s s' : ByteArray) (w : World) (hna : In64 n) (h1 : 1 ≤ op) (h2 : op ≤ 11) (ha : mayB k n s = false) :
  Calls Tryz.prog 55 #[.int .i64 op, val k n s, val k' n' s'] w fun e w' => e = .returned (.tuple #[val 0 0 ⟨#[]⟩, .int .i64 2]) ∧ Below w.heap.size w w' := by
 have B0 := (a3u w k n k' n' 0 0 s s' ⟨#[]⟩).alloc' (box 0 0 ⟨#[]⟩)
 have N0 := c9i w (box k n s) (box k' n' s') (box 0 0 ⟨#[]⟩)
 go_enter Tryz.func55, Tryz.ntmps55
 go_wp2_with (go_at_call 47; refine (c0k _ _ _ _ hna ha).mono ?_; rintro e w1 ⟨rfl, hb1⟩; have B1 := B0.on hb1; have N1 := N0.on hb1; obtain ⟨a0, a1, a2, b0, b1, b2, c0, c1, c2, f0, f1, f2⟩ := id B1; refine Hid.out ?_)
 refine Lib.hid ?_
 obtain ⟨m0, m1, m2⟩ := id N1
 have hz := B1.size
 have E1 := a0b (b2y w _ _ _ _) hb1
 go_wp2
 refine bodyPost_ret (v := .tuple #[val 0 0 ⟨#[]⟩, .int .i64 2]) (by simp [results, Tryz.results55, go_sem, c0, c1, c2]) rfl ⟨rfl, ?_⟩
 exact ((E1.setCell (by simp; omega) _).setCell (by simp; omega) _).setCell (by simp; omega) _
theorem d3l (op k n k' n' : Int) (s s' : ByteArray) (w : World) (hna : In64 n) (hnb : In64 n') (h1 : 1 ≤ op) (h2 : op ≤ 11) (ha : mayB k n s = true) (hb : mayB k' n' s' = false) :
  Calls Tryz.prog 55 #[.int .i64 op, val k n s, val k' n' s'] w fun e w' => e = .returned (.tuple #[val 0 0 ⟨#[]⟩, .int .i64 2]) ∧ Below w.heap.size w w' := by
 have B0 := (a3u w k n k' n' 0 0 s s' ⟨#[]⟩).alloc' (box 0 0 ⟨#[]⟩)
 have N0 := c9i w (box k n s) (box k' n' s') (box 0 0 ⟨#[]⟩)
 go_enter Tryz.func55, Tryz.ntmps55
 go_wp2_with (go_at_call 47; refine (b4g _ _ _ _ hna ha).mono ?_; rintro e w1 ⟨rfl, hb1⟩; have B1 := B0.on hb1; have N1 := N0.on hb1; obtain ⟨a0, a1, a2, b0, b1, b2, c0, c1, c2, f0, f1, f2⟩ := id B1; refine Hid.out ?_)
 refine Lib.hid ?_
 go_wp2_with (go_at_call 47; refine (c0k _ _ _ _ hnb hb).mono ?_; rintro e w2 ⟨rfl, hb2⟩; clear a0 a1 a2 b0 b1 b2 c0 c1 c2 f0 f1 f2; have B2 := B1.on hb2; have N2 := N1.on hb2; obtain ⟨a0, a1, a2, b0, b1, b2, c0, c1, c2, f0, f1, f2⟩ := id B2; refine Hid.out ?_)
 refine Lib.hid ?_
 obtain ⟨m0, m1, m2⟩ := id N2
 have hz := B2.size
 have E2 := a0b (b2y w _ _ _ _) (a0b hb1 hb2)
 go_wp2
 refine bodyPost_ret (v := .tuple #[val 0 0 ⟨#[]⟩, .int .i64 2]) (by simp [results, Tryz.results55, go_sem, c0, c1, c2]) rfl ⟨rfl, ?_⟩
 exact ((E2.setCell (by simp; omega) _).setCell (by simp; omega) _).setCell (by simp; omega) _
end Go.Proofs.YthpgbienakcbeaaGreatDoor
