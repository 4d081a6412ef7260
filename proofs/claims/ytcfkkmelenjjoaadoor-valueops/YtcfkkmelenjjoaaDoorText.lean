/- Walks of the value package: what is told of a value; and the document's own. -/
import Derived.Test.YtcfkkmelenjjoaaDoorRefTruth
import Derived.Test.YtcfkkmelenjjoaaDoorDigits
import Derived.Test.YtcfkkmelenjjoaaDoorShelf
import Derived.Lib.AppendIntMem
namespace Go.Proofs.YtcfkkmelenjjoaaDoor
open Go.RowKit
open Go

abbrev Tab (w : World) : Prop := Lib.TabIs Tryd.prog w "internal/strconv.uint64pow10" .u64 Lib.pow10Tab
theorem Tab.on {w w' : World} (h : Tab w) (hb : Below w.heap.size w w') : Tab w' := Lib.tabBelow_of_tabIs h w' hb

theorem fmt_int (n : Int) (w : World) (hn : -9223372036854775808 ≤ n) (hn' : n ≤ 9223372036854775807) (ht : Tab w) :
    Calls Tryd.prog 17 #[.int .i64 n, .int .i64 10] w fun e w' => e = .returned (.string ⟨(Lib.itoa n).toArray⟩) ∧ Below w.heap.size w w' := by
  refine (Tryd.strconv_FormatInt_10 n hn hn' w ht).mono ?_
  rintro e w' ⟨rfl, k, os, rfl⟩
  refine ⟨rfl, rfl, rfl, rfl, ?_, ?_⟩
  · show w.heap.size ≤ (w.heap ++ os).size
    simp
  · intro i hi
    show (w.heap ++ os)[i]? = w.heap[i]?
    rw [Array.getElem?_append_left hi]

abbrev sNil : ByteArray := ⟨#[110, 105, 108]⟩
abbrev sTrue : ByteArray := ⟨#[116, 114, 117, 101]⟩
abbrev sFalse : ByteArray := ⟨#[102, 97, 108, 115, 101]⟩
abbrev sTable : ByteArray := ⟨#[116, 97, 98, 108, 101]⟩
abbrev sFun : ByteArray := ⟨#[102, 117, 110, 99, 116, 105, 111, 110]⟩

theorem fmt_true (w : World) : Calls Tryd.prog 16 #[.bool true] w fun e w' => e = .returned (.string sTrue) ∧ w' = w := Tryd.strconv_FormatBool true w
theorem fmt_false (w : World) : Calls Tryd.prog 16 #[.bool false] w fun e w' => e = .returned (.string sFalse) ∧ w' = w := Tryd.strconv_FormatBool false w

/-- A2: what is told of a value. -/
def textB (k n : Int) (s : ByteArray) : ByteArray :=
  if mayB k n s = false then ⟨#[]⟩ else if k = 0 then sNil else if k = 1 then (if n = 1 then sTrue else sFalse) else if k = 2 then ⟨(Lib.itoa n).toArray⟩ else if k = 3 then s else if k = 4 then sTable else sFun
set_option maxHeartbeats 800000 in
theorem text_f (k n : Int) (s : ByteArray) (w : World) (h : mayB k n s = false) :
    Calls Tryd.prog 7 #[val k n s] w fun e w' => e = .returned (.string ⟨#[]⟩) ∧ Below w.heap.size w w' := by
  have X0 := box1_0 w k n s
  have E0 : Below w.heap.size w (w.alloc (box k n s)) := ext_alloc (Below.refl _ _) _
  go_enter Tryd.func7, Tryd.ntmps7
  go_wp2_with (go_at_call 9; refine (may_f _ _ _ _ h).mono ?_; rintro e w1 ⟨rfl, hb1⟩; obtain ⟨c0, c1, c2⟩ := X0.on hb1; refine Hid.out ?_)
  refine Lib.hid ?_
  have E1 := ext_trans E0 hb1
  go_wp2
  go_ret
  exact ⟨rfl, E1⟩

set_option maxHeartbeats 800000 in
theorem text_nil (k n : Int) (s : ByteArray) (w : World) (h : mayB k n s = true) (k0 : (k == 0) = true) :
    Calls Tryd.prog 7 #[val k n s] w fun e w' => e = .returned (.string sNil) ∧ Below w.heap.size w w' := by
  have X0 := box1_0 w k n s
  have E0 : Below w.heap.size w (w.alloc (box k n s)) := ext_alloc (Below.refl _ _) _
  go_enter Tryd.func7, Tryd.ntmps7
  go_wp2_with (go_at_call 9; refine (may_t _ _ _ _ h).mono ?_; rintro e w1 ⟨rfl, hb1⟩; obtain ⟨c0, c1, c2⟩ := X0.on hb1; refine Hid.out ?_)
  refine Lib.hid ?_
  have E1 := ext_trans E0 hb1
  go_wp2
  go_ret
  exact ⟨rfl, E1⟩

set_option maxHeartbeats 800000 in
theorem text_true (k n : Int) (s : ByteArray) (w : World) (h : mayB k n s = true) (k0 : (k == 0) = false) (k1 : (k == 1) = true) (n1 : (n == 1) = true) :
    Calls Tryd.prog 7 #[val k n s] w fun e w' => e = .returned (.string sTrue) ∧ Below w.heap.size w w' := by
  have X0 := box1_0 w k n s
  have E0 : Below w.heap.size w (w.alloc (box k n s)) := ext_alloc (Below.refl _ _) _
  go_enter Tryd.func7, Tryd.ntmps7
  go_wp2_with (go_at_call 9; refine (may_t _ _ _ _ h).mono ?_; rintro e w1 ⟨rfl, hb1⟩; obtain ⟨c0, c1, c2⟩ := X0.on hb1; refine Hid.out ?_)
  refine Lib.hid ?_
  have E1 := ext_trans E0 hb1
  go_wp2_with (go_at_call 16; refine (fmt_true _).mono ?_; rintro e w2 ⟨rfl, rfl⟩)
  go_ret
  exact ⟨rfl, E1⟩

set_option maxHeartbeats 800000 in
theorem text_false (k n : Int) (s : ByteArray) (w : World) (h : mayB k n s = true) (k0 : (k == 0) = false) (k1 : (k == 1) = true) (n1 : (n == 1) = false) :
    Calls Tryd.prog 7 #[val k n s] w fun e w' => e = .returned (.string sFalse) ∧ Below w.heap.size w w' := by
  have X0 := box1_0 w k n s
  have E0 : Below w.heap.size w (w.alloc (box k n s)) := ext_alloc (Below.refl _ _) _
  go_enter Tryd.func7, Tryd.ntmps7
  go_wp2_with (go_at_call 9; refine (may_t _ _ _ _ h).mono ?_; rintro e w1 ⟨rfl, hb1⟩; obtain ⟨c0, c1, c2⟩ := X0.on hb1; refine Hid.out ?_)
  refine Lib.hid ?_
  have E1 := ext_trans E0 hb1
  go_wp2_with (go_at_call 16; refine (fmt_false _).mono ?_; rintro e w2 ⟨rfl, rfl⟩)
  go_ret
  exact ⟨rfl, E1⟩

set_option maxHeartbeats 800000 in
theorem text_int (k n : Int) (s : ByteArray) (w : World) (h : mayB k n s = true) (k0 : (k == 0) = false) (k1 : (k == 1) = false) (k2 : (k == 2) = true) (hn : -9223372036854775808 ≤ n) (hn' : n ≤ 9223372036854775807) (ht : Tab w) :
    Calls Tryd.prog 7 #[val k n s] w fun e w' => e = .returned (.string ⟨(Lib.itoa n).toArray⟩) ∧ Below w.heap.size w w' := by
  have X0 := box1_0 w k n s
  have E0 : Below w.heap.size w (w.alloc (box k n s)) := ext_alloc (Below.refl _ _) _
  go_enter Tryd.func7, Tryd.ntmps7
  go_wp2_with (go_at_call 9; refine (may_t _ _ _ _ h).mono ?_; rintro e w1 ⟨rfl, hb1⟩; obtain ⟨c0, c1, c2⟩ := X0.on hb1; refine Hid.out ?_)
  refine Lib.hid ?_
  have E1 := ext_trans E0 hb1
  have ht1 := ht.on E1
  go_wp2_with (go_at_call 17; refine (fmt_int _ _ hn hn' ht1).mono ?_; rintro e w2 ⟨rfl, hb2⟩)
  go_ret
  exact ⟨rfl, ext_trans E1 hb2⟩

set_option maxHeartbeats 800000 in
theorem text_tab (k n : Int) (s : ByteArray) (w : World) (h : mayB k n s = true) (k0 : (k == 0) = false) (k1 : (k == 1) = false) (k2 : (k == 2) = false) (k4 : (k == 4) = true) :
    Calls Tryd.prog 7 #[val k n s] w fun e w' => e = .returned (.string sTable) ∧ Below w.heap.size w w' := by
  have X0 := box1_0 w k n s
  have E0 : Below w.heap.size w (w.alloc (box k n s)) := ext_alloc (Below.refl _ _) _
  go_enter Tryd.func7, Tryd.ntmps7
  go_wp2_with (go_at_call 9; refine (may_t _ _ _ _ h).mono ?_; rintro e w1 ⟨rfl, hb1⟩; obtain ⟨c0, c1, c2⟩ := X0.on hb1; refine Hid.out ?_)
  refine Lib.hid ?_
  have E1 := ext_trans E0 hb1
  go_wp2
  go_ret
  exact ⟨rfl, E1⟩

set_option maxHeartbeats 800000 in
theorem text_fun (k n : Int) (s : ByteArray) (w : World) (h : mayB k n s = true) (k0 : (k == 0) = false) (k1 : (k == 1) = false) (k2 : (k == 2) = false) (k4 : (k == 4) = false) (k5 : (k == 5) = true) :
    Calls Tryd.prog 7 #[val k n s] w fun e w' => e = .returned (.string sFun) ∧ Below w.heap.size w w' := by
  have X0 := box1_0 w k n s
  have E0 : Below w.heap.size w (w.alloc (box k n s)) := ext_alloc (Below.refl _ _) _
  go_enter Tryd.func7, Tryd.ntmps7
  go_wp2_with (go_at_call 9; refine (may_t _ _ _ _ h).mono ?_; rintro e w1 ⟨rfl, hb1⟩; obtain ⟨c0, c1, c2⟩ := X0.on hb1; refine Hid.out ?_)
  refine Lib.hid ?_
  have E1 := ext_trans E0 hb1
  go_wp2
  go_ret
  exact ⟨rfl, E1⟩

set_option maxHeartbeats 800000 in
theorem text_txt (k n : Int) (s : ByteArray) (w : World) (h : mayB k n s = true) (k0 : (k == 0) = false) (k1 : (k == 1) = false) (k2 : (k == 2) = false) (k4 : (k == 4) = false) (k5 : (k == 5) = false) :
    Calls Tryd.prog 7 #[val k n s] w fun e w' => e = .returned (.string s) ∧ Below w.heap.size w w' := by
  have X0 := box1_0 w k n s
  have E0 : Below w.heap.size w (w.alloc (box k n s)) := ext_alloc (Below.refl _ _) _
  go_enter Tryd.func7, Tryd.ntmps7
  go_wp2_with (go_at_call 9; refine (may_t _ _ _ _ h).mono ?_; rintro e w1 ⟨rfl, hb1⟩; obtain ⟨c0, c1, c2⟩ := X0.on hb1; refine Hid.out ?_)
  refine Lib.hid ?_
  have E1 := ext_trans E0 hb1
  go_wp2
  go_ret
  exact ⟨rfl, E1⟩

set_option maxHeartbeats 800000 in
theorem rtext_f (k n : Int) (s : ByteArray) (w : World) (hn : -9223372036854775808 ≤ n) (hn' : n ≤ 9223372036854775807) (h : mayB k n s = false) :
    Calls Tryd.prog 8 #[val k n s] w fun e w' => e = .returned (.string ⟨#[]⟩) ∧ Below w.heap.size w w' := by
  have E1 : Below w.heap.size w ((w.alloc (box k n s)).alloc (box k n s)) := ext_alloc (ext_alloc (Below.refl _ _) _) _
  go_enter Tryd.func8, Tryd.ntmps8
  go_wp2_with (first | (go_at_call 10; refine (rmay_f k n s _ hn hn' h).mono ?_; rintro e w1 ⟨rfl, rfl⟩))
  go_ret
  exact ⟨rfl, E1⟩

set_option maxHeartbeats 800000 in
theorem rtext_nil (k n : Int) (s : ByteArray) (w : World) (hn : -9223372036854775808 ≤ n) (hn' : n ≤ 9223372036854775807) (h : mayB k n s = true) (k0 : (k == 0) = true) :
    Calls Tryd.prog 8 #[val k n s] w fun e w' => e = .returned (.string sNil) ∧ Below w.heap.size w w' := by
  have E1 : Below w.heap.size w ((w.alloc (box k n s)).alloc (box k n s)) := ext_alloc (ext_alloc (Below.refl _ _) _) _
  go_enter Tryd.func8, Tryd.ntmps8
  go_wp2_with (first | (go_at_call 10; refine (rmay_t k n s _ hn hn' h).mono ?_; rintro e w1 ⟨rfl, rfl⟩))
  go_ret
  exact ⟨rfl, E1⟩

set_option maxHeartbeats 800000 in
theorem rtext_true (k n : Int) (s : ByteArray) (w : World) (hn : -9223372036854775808 ≤ n) (hn' : n ≤ 9223372036854775807) (h : mayB k n s = true) (k0 : (k == 0) = false) (k1 : (k == 1) = true) (n1 : (n == 1) = true) :
    Calls Tryd.prog 8 #[val k n s] w fun e w' => e = .returned (.string sTrue) ∧ Below w.heap.size w w' := by
  have E1 : Below w.heap.size w ((w.alloc (box k n s)).alloc (box k n s)) := ext_alloc (ext_alloc (Below.refl _ _) _) _
  go_enter Tryd.func8, Tryd.ntmps8
  go_wp2_with (first | (go_at_call 10; refine (rmay_t k n s _ hn hn' h).mono ?_; rintro e w1 ⟨rfl, rfl⟩))
  go_ret
  exact ⟨rfl, E1⟩

set_option maxHeartbeats 800000 in
theorem rtext_false (k n : Int) (s : ByteArray) (w : World) (hn : -9223372036854775808 ≤ n) (hn' : n ≤ 9223372036854775807) (h : mayB k n s = true) (k0 : (k == 0) = false) (k1 : (k == 1) = true) (n1 : (n == 1) = false) :
    Calls Tryd.prog 8 #[val k n s] w fun e w' => e = .returned (.string sFalse) ∧ Below w.heap.size w w' := by
  have E1 : Below w.heap.size w ((w.alloc (box k n s)).alloc (box k n s)) := ext_alloc (ext_alloc (Below.refl _ _) _) _
  go_enter Tryd.func8, Tryd.ntmps8
  go_wp2_with (first | (go_at_call 10; refine (rmay_t k n s _ hn hn' h).mono ?_; rintro e w1 ⟨rfl, rfl⟩))
  go_ret
  exact ⟨rfl, E1⟩

set_option maxHeartbeats 800000 in
theorem rtext_int (k n : Int) (s : ByteArray) (w : World) (hn : -9223372036854775808 ≤ n) (hn' : n ≤ 9223372036854775807) (h : mayB k n s = true) (k0 : (k == 0) = false) (k1 : (k == 1) = false) (k2 : (k == 2) = true) :
    Calls Tryd.prog 8 #[val k n s] w fun e w' => e = .returned (.string ⟨(Lib.itoa n).toArray⟩) ∧ Below w.heap.size w w' := by
  have E1 : Below w.heap.size w ((w.alloc (box k n s)).alloc (box k n s)) := ext_alloc (ext_alloc (Below.refl _ _) _) _
  go_enter Tryd.func8, Tryd.ntmps8
  go_wp2_with (first | (go_at_call 10; refine (rmay_t k n s _ hn hn' h).mono ?_; rintro e w1 ⟨rfl, rfl⟩) | (go_at_call 18; refine (digits_any _ _ hn hn').mono ?_; rintro e w2 ⟨rfl, hb2⟩))
  go_ret
  exact ⟨rfl, ext_trans E1 hb2⟩

set_option maxHeartbeats 800000 in
theorem rtext_txt (k n : Int) (s : ByteArray) (w : World) (hn : -9223372036854775808 ≤ n) (hn' : n ≤ 9223372036854775807) (h : mayB k n s = true) (k0 : (k == 0) = false) (k1 : (k == 1) = false) (k2 : (k == 2) = false) (k3 : (k == 3) = true) :
    Calls Tryd.prog 8 #[val k n s] w fun e w' => e = .returned (.string s) ∧ Below w.heap.size w w' := by
  have E1 : Below w.heap.size w ((w.alloc (box k n s)).alloc (box k n s)) := ext_alloc (ext_alloc (Below.refl _ _) _) _
  go_enter Tryd.func8, Tryd.ntmps8
  go_wp2_with (first | (go_at_call 10; refine (rmay_t k n s _ hn hn' h).mono ?_; rintro e w1 ⟨rfl, rfl⟩))
  go_ret
  exact ⟨rfl, E1⟩

set_option maxHeartbeats 800000 in
theorem rtext_tab (k n : Int) (s : ByteArray) (w : World) (hn : -9223372036854775808 ≤ n) (hn' : n ≤ 9223372036854775807) (h : mayB k n s = true) (k0 : (k == 0) = false) (k1 : (k == 1) = false) (k2 : (k == 2) = false) (k3 : (k == 3) = false) (k4 : (k == 4) = true) :
    Calls Tryd.prog 8 #[val k n s] w fun e w' => e = .returned (.string sTable) ∧ Below w.heap.size w w' := by
  have E1 : Below w.heap.size w ((w.alloc (box k n s)).alloc (box k n s)) := ext_alloc (ext_alloc (Below.refl _ _) _) _
  go_enter Tryd.func8, Tryd.ntmps8
  go_wp2_with (first | (go_at_call 10; refine (rmay_t k n s _ hn hn' h).mono ?_; rintro e w1 ⟨rfl, rfl⟩))
  go_ret
  exact ⟨rfl, E1⟩

set_option maxHeartbeats 800000 in
theorem rtext_fun (k n : Int) (s : ByteArray) (w : World) (hn : -9223372036854775808 ≤ n) (hn' : n ≤ 9223372036854775807) (h : mayB k n s = true) (k0 : (k == 0) = false) (k1 : (k == 1) = false) (k2 : (k == 2) = false) (k3 : (k == 3) = false) (k4 : (k == 4) = false) :
    Calls Tryd.prog 8 #[val k n s] w fun e w' => e = .returned (.string sFun) ∧ Below w.heap.size w w' := by
  have E1 : Below w.heap.size w ((w.alloc (box k n s)).alloc (box k n s)) := ext_alloc (ext_alloc (Below.refl _ _) _) _
  go_enter Tryd.func8, Tryd.ntmps8
  go_wp2_with (first | (go_at_call 10; refine (rmay_t k n s _ hn hn' h).mono ?_; rintro e w1 ⟨rfl, rfl⟩))
  go_ret
  exact ⟨rfl, E1⟩

theorem kinds_may {k n : Int} {s : ByteArray} (h : mayB k n s = true) (k0 : ¬ k = 0) (k1 : ¬ k = 1) (k2 : ¬ k = 2) (k3 : ¬ k = 3) (k4 : ¬ k = 4) : k = 5 := by
  unfold mayB at h
  rw [if_neg k3] at h
  rcases Bool.eq_false_or_eq_true s.toList.isEmpty with e | e
  · simp [e, k0, k1, k2, k4] at h
    exact h.1
  · rw [if_pos e] at h; cases h
theorem text_any (k n : Int) (s : ByteArray) (w : World) (hn : -9223372036854775808 ≤ n) (hn' : n ≤ 9223372036854775807) (ht : Tab w) :
    Calls Tryd.prog 7 #[val k n s] w fun e w' => e = .returned (.string (textB k n s)) ∧ Below w.heap.size w w' := by
  unfold textB
  rcases Bool.eq_false_or_eq_true (mayB k n s) with h | h
  · rw [if_neg (by rw [h]; decide)]
    by_cases k0 : k = 0
    · rw [if_pos k0]; exact text_nil k n s w h (by simpa using k0)
    have k0' : (k == 0) = false := by simpa using k0
    by_cases k1 : k = 1
    · rw [if_neg k0, if_pos k1]
      by_cases n1 : n = 1
      · rw [if_pos n1]; exact text_true k n s w h k0' (by simpa using k1) (by simpa using n1)
      · rw [if_neg n1]; exact text_false k n s w h k0' (by simpa using k1) (by simpa using n1)
    have k1' : (k == 1) = false := by simpa using k1
    by_cases k2 : k = 2
    · rw [if_neg k0, if_neg k1, if_pos k2]; exact text_int k n s w h k0' k1' (by simpa using k2) hn hn' ht
    have k2' : (k == 2) = false := by simpa using k2
    by_cases k3 : k = 3
    · rw [if_neg k0, if_neg k1, if_neg k2, if_pos k3]; exact text_txt k n s w h k0' k1' k2' (by simp [k3]) (by simp [k3])
    by_cases k4 : k = 4
    · rw [if_neg k0, if_neg k1, if_neg k2, if_neg k3, if_pos k4]; exact text_tab k n s w h k0' k1' k2' (by simpa using k4)
    · rw [if_neg k0, if_neg k1, if_neg k2, if_neg k3, if_neg k4]
      exact text_fun k n s w h k0' k1' k2' (by simpa using k4) (by simpa using kinds_may h k0 k1 k2 k3 k4)
  · rw [if_pos h]; exact text_f k n s w h
theorem rtext_any (k n : Int) (s : ByteArray) (w : World) (hn : -9223372036854775808 ≤ n) (hn' : n ≤ 9223372036854775807) :
    Calls Tryd.prog 8 #[val k n s] w fun e w' => e = .returned (.string (textB k n s)) ∧ Below w.heap.size w w' := by
  unfold textB
  rcases Bool.eq_false_or_eq_true (mayB k n s) with h | h
  · rw [if_neg (by rw [h]; decide)]
    by_cases k0 : k = 0
    · rw [if_pos k0]; exact rtext_nil k n s w hn hn' h (by simpa using k0)
    have k0' : (k == 0) = false := by simpa using k0
    by_cases k1 : k = 1
    · rw [if_neg k0, if_pos k1]
      by_cases n1 : n = 1
      · rw [if_pos n1]; exact rtext_true k n s w hn hn' h k0' (by simpa using k1) (by simpa using n1)
      · rw [if_neg n1]; exact rtext_false k n s w hn hn' h k0' (by simpa using k1) (by simpa using n1)
    have k1' : (k == 1) = false := by simpa using k1
    by_cases k2 : k = 2
    · rw [if_neg k0, if_neg k1, if_pos k2]; exact rtext_int k n s w hn hn' h k0' k1' (by simpa using k2)
    have k2' : (k == 2) = false := by simpa using k2
    by_cases k3 : k = 3
    · rw [if_neg k0, if_neg k1, if_neg k2, if_pos k3]; exact rtext_txt k n s w hn hn' h k0' k1' k2' (by simpa using k3)
    have k3' : (k == 3) = false := by simpa using k3
    by_cases k4 : k = 4
    · rw [if_neg k0, if_neg k1, if_neg k2, if_neg k3, if_pos k4]; exact rtext_tab k n s w hn hn' h k0' k1' k2' k3' (by simpa using k4)
    · rw [if_neg k0, if_neg k1, if_neg k2, if_neg k3, if_neg k4]
      exact rtext_fun k n s w hn hn' h k0' k1' k2' k3' (by simpa using k4)
  · rw [if_pos h]; exact rtext_f k n s w hn hn' h
end Go.Proofs.YtcfkkmelenjjoaaDoor
