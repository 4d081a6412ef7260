/- Walks of the document's own answers: which values may be, what counts as true. -/
import Derived.Test.YtklgjfpgclelbaaMayAny
namespace Go.Proofs.Ytklgjfpgclelbaa
open Go.RowKit
open Go

set_option maxHeartbeats 800000 in
theorem rmay_nil_lo (k n : Int) (s : ByteArray) (w : World)  (k0 : (k == 0) = true) (hn : n < 0) :
    Calls Try.prog 14 #[val k n s] w fun e w' => e = .returned (.bool false) ∧ w' = w.alloc (box k n s) := by
  go_enter Try.func14, Try.ntmps14
  go_wp2
  go_ret
  exact ⟨by simp_all, rfl⟩

set_option maxHeartbeats 800000 in
theorem rmay_nil_hi (k n : Int) (s : ByteArray) (w : World)  (k0 : (k == 0) = true) (hn : 0 < n) :
    Calls Try.prog 14 #[val k n s] w fun e w' => e = .returned (.bool false) ∧ w' = w.alloc (box k n s) := by
  go_enter Try.func14, Try.ntmps14
  go_wp2
  go_ret
  exact ⟨by simp_all, rfl⟩

set_option maxHeartbeats 800000 in
theorem rmay_nil (k n : Int) (s : ByteArray) (w : World)  (k0 : (k == 0) = true) (hn : 0 ≤ n) (hn' : n ≤ 0) :
    Calls Try.prog 14 #[val k n s] w fun e w' => e = .returned (.bool s.toList.isEmpty) ∧ w' = w.alloc (box k n s) := by
  go_enter Try.func14, Try.ntmps14
  go_wp2
  go_ret
  exact ⟨by simp_all, rfl⟩

set_option maxHeartbeats 800000 in
theorem rmay_bool_lo (k n : Int) (s : ByteArray) (w : World) (k0 : (k == 0) = false) (k1 : (k == 1) = true) (hn : n < 0) :
    Calls Try.prog 14 #[val k n s] w fun e w' => e = .returned (.bool false) ∧ w' = w.alloc (box k n s) := by
  go_enter Try.func14, Try.ntmps14
  go_wp2
  go_ret
  exact ⟨by simp_all, rfl⟩

set_option maxHeartbeats 800000 in
theorem rmay_bool_hi (k n : Int) (s : ByteArray) (w : World) (k0 : (k == 0) = false) (k1 : (k == 1) = true) (hn : 1 < n) :
    Calls Try.prog 14 #[val k n s] w fun e w' => e = .returned (.bool false) ∧ w' = w.alloc (box k n s) := by
  go_enter Try.func14, Try.ntmps14
  go_wp2
  go_ret
  exact ⟨by simp_all, rfl⟩

set_option maxHeartbeats 800000 in
theorem rmay_bool (k n : Int) (s : ByteArray) (w : World) (k0 : (k == 0) = false) (k1 : (k == 1) = true) (hn : 0 ≤ n) (hn' : n ≤ 1) :
    Calls Try.prog 14 #[val k n s] w fun e w' => e = .returned (.bool s.toList.isEmpty) ∧ w' = w.alloc (box k n s) := by
  go_enter Try.func14, Try.ntmps14
  go_wp2
  go_ret
  exact ⟨by simp_all, rfl⟩

set_option maxHeartbeats 800000 in
theorem rmay_int (k n : Int) (s : ByteArray) (w : World) (k0 : (k == 0) = false) (k1 : (k == 1) = false) (k2 : (k == 2) = true) (hn : -9223372036854775808 ≤ n) (hn' : n ≤ 9223372036854775807) :
    Calls Try.prog 14 #[val k n s] w fun e w' => e = .returned (.bool s.toList.isEmpty) ∧ w' = w.alloc (box k n s) := by
  go_enter Try.func14, Try.ntmps14
  go_wp2
  go_ret
  exact ⟨by simp_all, rfl⟩

set_option maxHeartbeats 800000 in
theorem rmay_txt_lo (k n : Int) (s : ByteArray) (w : World) (k0 : (k == 0) = false) (k1 : (k == 1) = false) (k2 : (k == 2) = false) (k3 : (k == 3) = true) (hn : n < 0) :
    Calls Try.prog 14 #[val k n s] w fun e w' => e = .returned (.bool false) ∧ w' = w.alloc (box k n s) := by
  go_enter Try.func14, Try.ntmps14
  go_wp2
  go_ret
  exact ⟨by simp_all, rfl⟩

set_option maxHeartbeats 800000 in
theorem rmay_txt_hi (k n : Int) (s : ByteArray) (w : World) (k0 : (k == 0) = false) (k1 : (k == 1) = false) (k2 : (k == 2) = false) (k3 : (k == 3) = true) (hn : 0 < n) :
    Calls Try.prog 14 #[val k n s] w fun e w' => e = .returned (.bool false) ∧ w' = w.alloc (box k n s) := by
  go_enter Try.func14, Try.ntmps14
  go_wp2
  go_ret
  exact ⟨by simp_all, rfl⟩

set_option maxHeartbeats 800000 in
theorem rmay_txt (k n : Int) (s : ByteArray) (w : World) (k0 : (k == 0) = false) (k1 : (k == 1) = false) (k2 : (k == 2) = false) (k3 : (k == 3) = true) (hn : 0 ≤ n) (hn' : n ≤ 0) :
    Calls Try.prog 14 #[val k n s] w fun e w' => e = .returned (.bool (decide ((s.size : Int) ≤ 300))) ∧ w' = w.alloc (box k n s) := by
  go_enter Try.func14, Try.ntmps14
  go_wp2
  go_ret
  exact ⟨by simp_all, rfl⟩

set_option maxHeartbeats 800000 in
theorem rmay_tab_lo (k n : Int) (s : ByteArray) (w : World) (k0 : (k == 0) = false) (k1 : (k == 1) = false) (k2 : (k == 2) = false) (k3 : (k == 3) = false) (k4 : (k == 4) = true) (hn : n < 0) :
    Calls Try.prog 14 #[val k n s] w fun e w' => e = .returned (.bool false) ∧ w' = w.alloc (box k n s) := by
  go_enter Try.func14, Try.ntmps14
  go_wp2
  go_ret
  exact ⟨by simp_all, rfl⟩

set_option maxHeartbeats 800000 in
theorem rmay_tab_hi (k n : Int) (s : ByteArray) (w : World) (k0 : (k == 0) = false) (k1 : (k == 1) = false) (k2 : (k == 2) = false) (k3 : (k == 3) = false) (k4 : (k == 4) = true) (hn : 2147483647 < n) :
    Calls Try.prog 14 #[val k n s] w fun e w' => e = .returned (.bool false) ∧ w' = w.alloc (box k n s) := by
  go_enter Try.func14, Try.ntmps14
  go_wp2
  go_ret
  exact ⟨by simp_all, rfl⟩

set_option maxHeartbeats 800000 in
theorem rmay_tab (k n : Int) (s : ByteArray) (w : World) (k0 : (k == 0) = false) (k1 : (k == 1) = false) (k2 : (k == 2) = false) (k3 : (k == 3) = false) (k4 : (k == 4) = true) (hn : 0 ≤ n) (hn' : n ≤ 2147483647) :
    Calls Try.prog 14 #[val k n s] w fun e w' => e = .returned (.bool s.toList.isEmpty) ∧ w' = w.alloc (box k n s) := by
  go_enter Try.func14, Try.ntmps14
  go_wp2
  go_ret
  exact ⟨by simp_all, rfl⟩

set_option maxHeartbeats 800000 in
theorem rmay_fun_lo (k n : Int) (s : ByteArray) (w : World) (k0 : (k == 0) = false) (k1 : (k == 1) = false) (k2 : (k == 2) = false) (k3 : (k == 3) = false) (k4 : (k == 4) = false) (k5 : (k == 5) = true) (hn : n < 0) :
    Calls Try.prog 14 #[val k n s] w fun e w' => e = .returned (.bool false) ∧ w' = w.alloc (box k n s) := by
  go_enter Try.func14, Try.ntmps14
  go_wp2
  go_ret
  exact ⟨by simp_all, rfl⟩

set_option maxHeartbeats 800000 in
theorem rmay_fun_hi (k n : Int) (s : ByteArray) (w : World) (k0 : (k == 0) = false) (k1 : (k == 1) = false) (k2 : (k == 2) = false) (k3 : (k == 3) = false) (k4 : (k == 4) = false) (k5 : (k == 5) = true) (hn : 2147483647 < n) :
    Calls Try.prog 14 #[val k n s] w fun e w' => e = .returned (.bool false) ∧ w' = w.alloc (box k n s) := by
  go_enter Try.func14, Try.ntmps14
  go_wp2
  go_ret
  exact ⟨by simp_all, rfl⟩

set_option maxHeartbeats 800000 in
theorem rmay_fun (k n : Int) (s : ByteArray) (w : World) (k0 : (k == 0) = false) (k1 : (k == 1) = false) (k2 : (k == 2) = false) (k3 : (k == 3) = false) (k4 : (k == 4) = false) (k5 : (k == 5) = true) (hn : 0 ≤ n) (hn' : n ≤ 2147483647) :
    Calls Try.prog 14 #[val k n s] w fun e w' => e = .returned (.bool s.toList.isEmpty) ∧ w' = w.alloc (box k n s) := by
  go_enter Try.func14, Try.ntmps14
  go_wp2
  go_ret
  exact ⟨by simp_all, rfl⟩

set_option maxHeartbeats 800000 in
theorem rmay_none (k n : Int) (s : ByteArray) (w : World) (k0 : (k == 0) = false) (k1 : (k == 1) = false) (k2 : (k == 2) = false) (k3 : (k == 3) = false) (k4 : (k == 4) = false) (k5 : (k == 5) = false)  :
    Calls Try.prog 14 #[val k n s] w fun e w' => e = .returned (.bool false) ∧ w' = w.alloc (box k n s) := by
  go_enter Try.func14, Try.ntmps14
  go_wp2
  go_ret
  exact ⟨by simp_all, rfl⟩

end Go.Proofs.Ytklgjfpgclelbaa
