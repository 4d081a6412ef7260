/- The document's own order of texts. -/
import Derived.Test.YtcfkkmelenjjoaaDoorRefA
namespace Go.Proofs.YtcfkkmelenjjoaaDoor
open Go.RowKit
open Go

theorem less_take : ∀ (j : Nat) (l m : List UInt8), l.take j = m.take j → j ≤ l.length → j ≤ m.length → Op.bytesLess l m = Op.bytesLess (l.drop j) (m.drop j)
  | 0, _, _, _, _, _ => rfl
  | j + 1, [], _, _, h, _ => by simp at h
  | j + 1, _ :: _, [], _, _, h => by simp at h
  | j + 1, x :: l, y :: m, h, h1, h2 => by
    simp only [List.take_succ_cons, List.cons.injEq] at h
    obtain ⟨rfl, h⟩ := h
    rw [Op.bytesLess, less_take j l m h (by simpa using h1) (by simpa using h2)]
    simp
theorem less_at {a b : ByteArray} {j : Nat} (h : a.data.toList.take j = b.data.toList.take j) (ja : j < a.size) (jb : j < b.size) (hne : ((a[j].toNat : Int) != (b[j].toNat : Int)) = true) :
    decide (a[j].toNat < b[j].toNat) = Op.bytesLess a.toList b.toList := by
  have la : j < a.data.toList.length := ja
  have lb : j < b.data.toList.length := jb
  rw [ByteArray.toList_eq, ByteArray.toList_eq, less_take j _ _ h (by omega) (by omega), List.drop_eq_getElem_cons la, List.drop_eq_getElem_cons lb, Op.bytesLess]
  have ea : a.data.toList[j] = a[j] := rfl
  have eb : b.data.toList[j] = b[j] := rfl
  rw [ea, eb]
  have hne' : ¬ a[j] = b[j] := by
    intro e
    rw [e] at hne
    simp at hne
  rw [Bool.eq_iff_iff]
  simp [hne', UInt8.lt_iff_toNat_lt]
theorem less_end {a b : ByteArray} {j : Nat} (h : a.data.toList.take j = b.data.toList.take j) (j1 : j ≤ a.size) (j2 : j ≤ b.size) (hj : j = a.size ∨ j = b.size) :
    decide (a.size < b.size) = Op.bytesLess a.toList b.toList := by
  have la : a.data.toList.length = a.size := rfl
  have lb : b.data.toList.length = b.size := rfl
  rw [ByteArray.toList_eq, ByteArray.toList_eq, less_take j _ _ h (by omega) (by omega)]
  rcases hj with e | e
  · rw [List.drop_eq_nil_of_le (by omega : a.data.toList.length ≤ j)]
    cases hd : b.data.toList.drop j with
    | nil =>
      have := congrArg List.length hd
      simp only [List.length_drop, List.length_nil] at this
      simp [Op.bytesLess]; omega
    | cons x r =>
      have := congrArg List.length hd
      simp only [List.length_drop, List.length_cons] at this
      simp [Op.bytesLess]; omega
  · rw [List.drop_eq_nil_of_le (by omega : b.data.toList.length ≤ j)]
    have : Op.bytesLess (a.data.toList.drop j) [] = false := by cases a.data.toList.drop j <;> rfl
    rw [this]
    simp; omega
theorem take_next {a b : ByteArray} {j : Nat} (h : a.data.toList.take j = b.data.toList.take j) (ja : j < a.size) (jb : j < b.size) (he : ((a[j].toNat : Int) != (b[j].toNat : Int)) = false) :
    a.data.toList.take (j + 1) = b.data.toList.take (j + 1) := by
  have la : j < a.data.toList.length := ja
  have lb : j < b.data.toList.length := jb
  rw [List.take_succ_eq_append_getElem la, List.take_succ_eq_append_getElem lb, h]
  have ea : a.data.toList[j] = a[j] := rfl
  have eb : b.data.toList[j] = b[j] := rfl
  have e : a[j] = b[j] := by
    have : (a[j].toNat : Int) = (b[j].toNat : Int) := by simpa using he
    exact UInt8.toNat_inj.1 (by omega)
  rw [ea, eb, e]
theorem ext_drewN {a w : World} (h : Below a.heap.size a w) (n : Nat) : Below a.heap.size a (w.drewN n) := ⟨h.os, h.tape, h.output, h.size, h.block⟩

set_option maxHeartbeats 1600000 in
theorem before_any (a b : ByteArray) (w : World) (ha : a.size ≤ 300) :
    Calls Tryd.prog 27 #[.string a, .string b] w fun e w' => e = .returned (.bool (Op.bytesLess a.toList b.toList)) ∧ Below w.heap.size w w' := by
  go_enter Tryd.func27, Tryd.ntmps27
  go_wp2
  go_loopw [5] (fun i wr => ∃ j : Nat, j ≤ a.size ∧ j ≤ b.size ∧ i = .int .i64 j ∧ Hid (a.data.toList.take j = b.data.toList.take j) ∧ Below w.heap.size w wr) (fun i _ => a.size - (intOf i).toNat)
  case atStart => exact ⟨0, Nat.zero_le _, Nat.zero_le _, rfl, by simp [Hid], Below.refl _ _⟩
  case round =>
    obtain ⟨j, j1, j2, rfl, H, hbw⟩ := hrel
    by_cases ja : j < a.size
    · by_cases jb : j < b.size
      · have ja' : (j : Int) < (a.size : Int) := by omega
        have jb' : (j : Int) < (b.size : Int) := by omega
        have j0 : (0 : Int) ≤ (j : Int) := by omega
        go_wp2
        go_quiet (fail)
        go_wp2
        · go_quiet (fail)
          go_wp2
          go_ret
          exact ⟨ret_bool (less_at H.out ja jb (by assumption)), ext_drewN (ext_drewN hbw _) _⟩
        · rename_i heq
          go_roundw
          case rel => exact ⟨j + 1, by omega, by omega, by go_num, Lib.hid (take_next H.out ja jb heq), ext_drewN hbw _⟩
          case measure => simp [intOf]; omega
      · go_wp2
        go_ret
        exact ⟨ret_bool (less_end H.out j1 j2 (Or.inr (by omega))), hbw⟩
    · go_wp2
      go_ret
      exact ⟨ret_bool (less_end H.out j1 j2 (Or.inl (by omega))), hbw⟩
end Go.Proofs.YtcfkkmelenjjoaaDoor
