/- Walks of the document's own answers: small functions of chapter 1. -/
import Derived.Test.YtcfkkmelenjjoaaDoorText
import Derived.Test.YtcfkkmelenjjoaaDoorOrders
import Derived.BigQuiet
import Derived.Deep.QuietTactic
namespace Go.Proofs.YtcfkkmelenjjoaaDoor
open Go.RowKit
open Go

theorem rint_any (n : Int) (w : World) :
    Calls Tryd.prog 29 #[.int .i64 n] w fun e w' => e = .returned (val 2 n E0) ∧ w' = w.alloc (box 2 n E0) := by
  go_enter Tryd.func29, Tryd.ntmps29
  go_wp2
  exact bodyPost_ret (v := val 2 n E0) (by simp [results, Tryd.results29, go_sem]) rfl ⟨rfl, rfl⟩

theorem rbool_t (w : World) : Calls Tryd.prog 26 #[.bool true] w fun e w' => e = .returned (val 1 1 E0) ∧ Below w.heap.size w w' := by
  go_enter Tryd.func26, Tryd.ntmps26
  go_wp2
  exact bodyPost_ret (v := val 1 1 E0) (by simp [results, Tryd.results26, go_sem]) rfl ⟨rfl, ext_alloc (ext_alloc (Below.refl _ _) _) _⟩
theorem rbool_f (w : World) : Calls Tryd.prog 26 #[.bool false] w fun e w' => e = .returned (val 1 0 E0) ∧ Below w.heap.size w w' := by
  go_enter Tryd.func26, Tryd.ntmps26
  go_wp2
  exact bodyPost_ret (v := val 1 0 E0) (by simp [results, Tryd.results26, go_sem]) rfl ⟨rfl, ext_alloc (ext_alloc (Below.refl _ _) _) _⟩

theorem rsame_t (k n : Int) (s : ByteArray) (w : World) :
    Calls Tryd.prog 15 #[val k n s, val k n s] w fun e w' => e = .returned (.bool true) ∧ w' = (w.alloc (box k n s)).alloc (box k n s) := by
  go_enter Tryd.func15, Tryd.ntmps15
  go_wp2
  go_ret
  exact ⟨rfl, rfl⟩
theorem rsame_k (k n k' n' : Int) (s s' : ByteArray) (w : World) (h : (k == k') = false) :
    Calls Tryd.prog 15 #[val k n s, val k' n' s'] w fun e w' => e = .returned (.bool false) ∧ w' = (w.alloc (box k n s)).alloc (box k' n' s') := by
  go_enter Tryd.func15, Tryd.ntmps15
  go_wp2
  go_ret
  exact ⟨rfl, rfl⟩
theorem rsame_n (k n n' : Int) (s s' : ByteArray) (w : World) (h : (n == n') = false) :
    Calls Tryd.prog 15 #[val k n s, val k n' s'] w fun e w' => e = .returned (.bool false) ∧ w' = (w.alloc (box k n s)).alloc (box k n' s') := by
  go_enter Tryd.func15, Tryd.ntmps15
  go_wp2
  go_ret
  exact ⟨rfl, rfl⟩
theorem rsame_s (k n : Int) (s s' : ByteArray) (w : World) (h : (s.toList == s'.toList) = false) :
    Calls Tryd.prog 15 #[val k n s, val k n s'] w fun e w' => e = .returned (.bool false) ∧ w' = (w.alloc (box k n s)).alloc (box k n s') := by
  go_enter Tryd.func15, Tryd.ntmps15
  go_wp2
  go_ret
  exact ⟨by simp_all, rfl⟩
theorem rsame_f (k n k' n' : Int) (s s' : ByteArray) (w : World) (h : ¬ (k = k' ∧ n = n' ∧ s.toList = s'.toList)) :
    Calls Tryd.prog 15 #[val k n s, val k' n' s'] w fun e w' => e = .returned (.bool false) ∧ w' = (w.alloc (box k n s)).alloc (box k' n' s') := by
  by_cases hk : k = k'
  · subst hk
    by_cases hn : n = n'
    · subst hn
      exact rsame_s k n s s' w (by simpa using fun hs => h ⟨rfl, rfl, hs⟩)
    · exact rsame_n k n n' s s' w (by simpa using hn)
  · exact rsame_k k n k' n' s s' w (by simpa using hk)

theorem div_m1 (a : Int) : divV a (-1) = wrap64 (0 - a) := by
  unfold divV
  have : a.fdiv (-1) = -a := ((Int.fdiv_fmod_unique' (a := a) (b := -1) (r := 0) (q := -a) (by decide)).2 ⟨by omega, by omega, by omega⟩).1
  rw [this]; congr 1; omega

theorem rdiv_any (a b : Int) (w : World) (ha : -9223372036854775808 ≤ a ∧ a ≤ 9223372036854775807) (hb : -9223372036854775808 ≤ b ∧ b ≤ 9223372036854775807) (hz : (b == 0) = false) :
    Calls Tryd.prog 30 #[.int .i64 a, .int .i64 b] w fun e w' => e = .returned (.int .i64 (divV a b)) ∧ w' = w := by
  have hb0 : b ≠ 0 := by simpa using hz
  by_cases m1 : b = -1
  · subst m1
    go_enter Tryd.func30, Tryd.ntmps30
    go_wp2
    go_ret
    exact ⟨ret_int (by rw [div_m1, Int.zero_sub]), rfl⟩
  · have e := Int.tmod_add_mul_tdiv a b
    obtain ⟨t1, t2⟩ := tmod_bounds a hb0
    obtain ⟨q, hq⟩ : ∃ q, a.tdiv b = q := ⟨_, rfl⟩
    obtain ⟨m, hm⟩ : ∃ m, a.tmod b = m := ⟨_, rfl⟩
    rw [hm] at t1 t2
    rw [hm, hq] at e
    have hqn : q.natAbs ≤ a.natAbs := by rw [← hq, Int.natAbs_tdiv]; exact Nat.div_le_self _ _
    have hqr : -9223372036854775808 ≤ q ∧ q ≤ 9223372036854775807 := by
      by_cases b1 : b = 1
      · rw [b1, Int.tdiv_one] at hq; omega
      by_cases h : a = -9223372036854775808
      · have : q.natAbs ≤ a.natAbs / 2 := by
          rw [← hq, Int.natAbs_tdiv]
          exact Nat.div_le_div_left (by omega) (by decide)
        omega
      · omega
    have hp : wrap64 (q * b) = a - m := by
      have e2 : q * b = a - m := by rw [Int.mul_comm]; omega
      rw [e2]; exact wrap_id (by omega) (by omega)
    obtain ⟨q1, q2⟩ := hqr
    have hneg : ¬ (b == -1) = true := by simpa using m1
    have hneg' : (b == -1) = false := by simpa using m1
    have HM := Lib.hid hm
    have HQ := Lib.hid hq
    have HE := Lib.hid e
    clear e t1 t2 hqn hm hneg m1
    rcases Bool.eq_false_or_eq_true (m == 0) with m0 | m0
    · have m0' : m = 0 := by simpa using m0
      subst m0'
      have hp' : wrap64 (q * b) = a := by rw [hp]; omega
      clear hp
      go_enter Tryd.func30, Tryd.ntmps30
      go_wp2
      go_ret
      exact ⟨ret_int (by unfold divV; rw [← fdiv_zero (by simpa using hz) HM.out, HQ.out]; exact (wrap_id q1 q2).symm), rfl⟩
    · have m1 : ¬ m = 0 := by simpa using m0
      have hne : (wrap64 (q * b) != a) = true := by rw [hp]; simp; omega
      clear hp
      by_cases sa : a < 0
      · by_cases sb : b < 0
        · go_enter Tryd.func30, Tryd.ntmps30
          go_wp2
          go_ret
          exact ⟨ret_int (by unfold divV; rw [← fdiv_same hb0 (by simp [sa, sb]), HQ.out]; exact (wrap_id q1 q2).symm), rfl⟩
        · go_enter Tryd.func30, Tryd.ntmps30
          go_wp2
          go_ret
          exact ⟨ret_int (by unfold divV; rw [← fdiv_less hb0 (by rw [HM.out]; exact m1) (by simp [sa]; omega), HQ.out]), rfl⟩
      · by_cases sb : b < 0
        · go_enter Tryd.func30, Tryd.ntmps30
          go_wp2
          go_ret
          exact ⟨ret_int (by unfold divV; rw [← fdiv_less hb0 (by rw [HM.out]; exact m1) (by simp [sb]; omega), HQ.out]), rfl⟩
        · go_enter Tryd.func30, Tryd.ntmps30
          go_wp2
          go_ret
          exact ⟨ret_int (by unfold divV; rw [← fdiv_same hb0 (by omega), HQ.out]; exact (wrap_id q1 q2).symm), rfl⟩
end Go.Proofs.YtcfkkmelenjjoaaDoor
