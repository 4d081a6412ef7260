/- The document's own answers, put together: which values may be, what counts as true; and the program's. -/
import Derived.Test.YtcfkkmelenjjoaaDoorRefMay
import Derived.Test.YtcfkkmelenjjoaaDoorTruthC
import Derived.Test.YtcfkkmelenjjoaaDoorTruthD
import Derived.Test.YtcfkkmelenjjoaaDoorTruthE
namespace Go.Proofs.YtcfkkmelenjjoaaDoor
open Go.RowKit
open Go

theorem rmay_any (k n : Int) (s : ByteArray) (w : World) (hn : -9223372036854775808 ≤ n) (hn' : n ≤ 9223372036854775807) :
    Calls Tryd.prog 10 #[val k n s] w fun e w' => e = .returned (.bool (mayB k n s)) ∧ w' = w.alloc (box k n s) := by
  have key : ∀ b : Bool, mayB k n s = b → (Calls Tryd.prog 10 #[val k n s] w fun e w' => e = .returned (.bool b) ∧ w' = w.alloc (box k n s)) → Calls Tryd.prog 10 #[val k n s] w fun e w' => e = .returned (.bool (mayB k n s)) ∧ w' = w.alloc (box k n s) := by
    intro b hb h; rw [hb]; exact h
  have he : s.toList.isEmpty = true ∨ s.toList.isEmpty = false := (Bool.eq_false_or_eq_true _)
  by_cases k0 : k = 0
  · subst k0
    by_cases a : n < 0
    · exact key false (by unfold mayB; rcases he with e | e <;> simp [e]; omega) (rmay_nil_lo 0 n s w rfl a)
    · by_cases b : 0 < n
      · exact key false (by unfold mayB; rcases he with e | e <;> simp [e]; omega) (rmay_nil_hi 0 n s w rfl b)
      · exact key _ (by unfold mayB; rcases he with e | e <;> simp [e]; omega) (rmay_nil 0 n s w rfl (by omega) (by omega))
  have k0' : (k == 0) = false := by simpa using k0
  by_cases k1 : k = 1
  · subst k1
    by_cases a : n < 0
    · exact key false (by unfold mayB; rcases he with e | e <;> simp [e]; omega) (rmay_bool_lo 1 n s w rfl rfl a)
    · by_cases b : 1 < n
      · exact key false (by unfold mayB; rcases he with e | e <;> simp [e]; omega) (rmay_bool_hi 1 n s w rfl rfl b)
      · exact key _ (by unfold mayB; rcases he with e | e <;> simp [e]; omega) (rmay_bool 1 n s w rfl rfl (by omega) (by omega))
  have k1' : (k == 1) = false := by simpa using k1
  by_cases k2 : k = 2
  · subst k2
    exact key _ (by unfold mayB; rcases he with e | e <;> simp [e]) (rmay_int 2 n s w rfl rfl rfl hn hn')
  have k2' : (k == 2) = false := by simpa using k2
  by_cases k3 : k = 3
  · subst k3
    by_cases a : n < 0
    · exact key false (by unfold mayB; simp; omega) (rmay_txt_lo 3 n s w rfl rfl rfl rfl a)
    · by_cases b : 0 < n
      · exact key false (by unfold mayB; simp; omega) (rmay_txt_hi 3 n s w rfl rfl rfl rfl b)
      · obtain rfl : n = 0 := by omega
        exact key _ (by unfold mayB; simp) (rmay_txt 3 0 s w rfl rfl rfl rfl (by omega) (by omega))
  have k3' : (k == 3) = false := by simpa using k3
  by_cases k4 : k = 4
  · subst k4
    by_cases a : n < 0
    · exact key false (by unfold mayB; rcases he with e | e <;> simp [e]; omega) (rmay_tab_lo 4 n s w rfl rfl rfl rfl rfl a)
    · by_cases b : 2147483647 < n
      · exact key false (by unfold mayB; rcases he with e | e <;> simp [e]; omega) (rmay_tab_hi 4 n s w rfl rfl rfl rfl rfl b)
      · exact key _ (by unfold mayB; rcases he with e | e <;> simp [e]; omega) (rmay_tab 4 n s w rfl rfl rfl rfl rfl (by omega) (by omega))
  have k4' : (k == 4) = false := by simpa using k4
  by_cases k5 : k = 5
  · subst k5
    by_cases a : n < 0
    · exact key false (by unfold mayB; rcases he with e | e <;> simp [e]; omega) (rmay_fun_lo 5 n s w rfl rfl rfl rfl rfl rfl a)
    · by_cases b : 2147483647 < n
      · exact key false (by unfold mayB; rcases he with e | e <;> simp [e]; omega) (rmay_fun_hi 5 n s w rfl rfl rfl rfl rfl rfl b)
      · exact key _ (by unfold mayB; rcases he with e | e <;> simp [e]; omega) (rmay_fun 5 n s w rfl rfl rfl rfl rfl rfl (by omega) (by omega))
  have k5' : (k == 5) = false := by simpa using k5
  exact key false (by unfold mayB; rcases he with e | e <;> simp [e, k0, k1, k2, k3, k4, k5]) (rmay_none k n s w k0' k1' k2' k3' k4' k5')

theorem rmay_t (k n : Int) (s : ByteArray) (w : World) (hn : -9223372036854775808 ≤ n) (hn' : n ≤ 9223372036854775807) (h : mayB k n s = true) :
    Calls Tryd.prog 10 #[val k n s] w fun e w' => e = .returned (.bool true) ∧ w' = w.alloc (box k n s) := h ▸ rmay_any k n s w hn hn'
theorem rmay_f (k n : Int) (s : ByteArray) (w : World) (hn : -9223372036854775808 ≤ n) (hn' : n ≤ 9223372036854775807) (h : mayB k n s = false) :
    Calls Tryd.prog 10 #[val k n s] w fun e w' => e = .returned (.bool false) ∧ w' = w.alloc (box k n s) := h ▸ rmay_any k n s w hn hn'

/-- A2: what counts as true. -/
def truthB (k n : Int) (s : ByteArray) : Bool := mayB k n s && !(k == 0) && !(k == 1 && n == 0)

theorem truth_any (k n : Int) (s : ByteArray) (w : World) : Calls Tryd.prog 11 #[val k n s] w fun e w' => e = .returned (.bool (truthB k n s)) ∧ Below w.heap.size w w' := by
  unfold truthB
  rcases Bool.eq_false_or_eq_true (mayB k n s) with h | h
  · rcases Bool.eq_false_or_eq_true (k == 0) with k0 | k0
    · rw [h, k0]; exact truth_nil k n s w h k0
    · by_cases k1 : k = 1
      · subst k1
        by_cases n0 : n = 0
        · subst n0
          have he : s.toList = [] := by
            unfold mayB at h
            rw [if_neg (by decide)] at h
            rcases Bool.eq_false_or_eq_true s.toList.isEmpty with e | e
            · simpa using e
            · rw [if_pos e] at h; cases h
          rw [h]; exact truth_e s w h rfl he
        · have e : (n == 0) = false := by simpa using n0
          rw [h, e]; exact truth_n n s w h rfl n0
      · have e : (k == 1) = false := by simpa using k1
        rw [h, k0, e]; exact truth_k k n s w h k0 k1
  · rw [h]; exact truth_f k n s w h

set_option maxHeartbeats 800000 in
theorem rtruth_f (k n : Int) (s : ByteArray) (w : World) (hn : -9223372036854775808 ≤ n) (hn' : n ≤ 9223372036854775807) (h : mayB k n s = false) :
    Calls Tryd.prog 12 #[val k n s] w fun e w' => e = .returned (.bool false) ∧ Below w.heap.size w w' := by
  go_enter Tryd.func12, Tryd.ntmps12
  go_wp2_with (go_at_call 10; refine (rmay_f k n s _ hn hn' h).mono ?_; rintro e w1 ⟨rfl, rfl⟩)
  go_ret
  exact ⟨rfl, ext_alloc (ext_alloc (Below.refl _ _) _) _⟩
set_option maxHeartbeats 800000 in
theorem rtruth_nil (k n : Int) (s : ByteArray) (w : World) (hn : -9223372036854775808 ≤ n) (hn' : n ≤ 9223372036854775807) (h : mayB k n s = true) (k0 : (k == 0) = true) :
    Calls Tryd.prog 12 #[val k n s] w fun e w' => e = .returned (.bool false) ∧ Below w.heap.size w w' := by
  go_enter Tryd.func12, Tryd.ntmps12
  go_wp2_with (go_at_call 10; refine (rmay_t k n s _ hn hn' h).mono ?_; rintro e w1 ⟨rfl, rfl⟩)
  go_ret
  exact ⟨rfl, ext_alloc (ext_alloc (Below.refl _ _) _) _⟩
set_option maxHeartbeats 800000 in
theorem rtruth_k (k n : Int) (s : ByteArray) (w : World) (hn : -9223372036854775808 ≤ n) (hn' : n ≤ 9223372036854775807) (h : mayB k n s = true) (k0 : (k == 0) = false) (k1 : ¬ k = 1) :
    Calls Tryd.prog 12 #[val k n s] w fun e w' => e = .returned (.bool true) ∧ Below w.heap.size w w' := by
  go_enter Tryd.func12, Tryd.ntmps12
  go_wp2_with (go_at_call 10; refine (rmay_t k n s _ hn hn' h).mono ?_; rintro e w1 ⟨rfl, rfl⟩)
  go_ret
  exact ⟨rfl, ext_alloc (ext_alloc (Below.refl _ _) _) _⟩
set_option maxHeartbeats 800000 in
theorem rtruth_b (n : Int) (s : ByteArray) (w : World) (hn : -9223372036854775808 ≤ n) (hn' : n ≤ 9223372036854775807) (h : mayB 1 n s = true) :
    Calls Tryd.prog 12 #[val 1 n s] w fun e w' => e = .returned (.bool (n == 1)) ∧ Below w.heap.size w w' := by
  go_enter Tryd.func12, Tryd.ntmps12
  go_wp2_with (go_at_call 10; refine (rmay_t 1 n s _ hn hn' h).mono ?_; rintro e w1 ⟨rfl, rfl⟩)
  go_ret
  exact ⟨rfl, ext_alloc (ext_alloc (Below.refl _ _) _) _⟩

theorem rtruth_any (k n : Int) (s : ByteArray) (w : World) (hn : -9223372036854775808 ≤ n) (hn' : n ≤ 9223372036854775807) : Calls Tryd.prog 12 #[val k n s] w fun e w' => e = .returned (.bool (truthB k n s)) ∧ Below w.heap.size w w' := by
  unfold truthB
  rcases Bool.eq_false_or_eq_true (mayB k n s) with h | h
  · rcases Bool.eq_false_or_eq_true (k == 0) with k0 | k0
    · rw [h, k0]; exact rtruth_nil k n s w hn hn' h k0
    · rcases Bool.eq_false_or_eq_true (k == 1) with k1 | k1
      · have e : (true && !false && !(true && n == 0)) = (n == 1) := by
          obtain rfl : k = 1 := by simpa using k1
          unfold mayB at h
          rw [if_neg (by decide)] at h
          rcases Bool.eq_false_or_eq_true s.toList.isEmpty with e | e
          · simp [e] at h
            rcases h with rfl | rfl <;> rfl
          · rw [if_pos e] at h; cases h
        obtain rfl : k = 1 := by simpa using k1
        rw [h, k0, k1, e]; exact rtruth_b n s w hn hn' h
      · rw [h, k0, k1]; exact rtruth_k k n s w hn hn' h k0 (by simpa using k1)
  · rw [h]; exact rtruth_f k n s w hn hn' h
end Go.Proofs.YtcfkkmelenjjoaaDoor
