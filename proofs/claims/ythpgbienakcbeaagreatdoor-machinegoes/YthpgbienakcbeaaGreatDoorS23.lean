/- Walks of the value package: what is told of a value; and the document's own. -/
import Derived.Test.YthpgbienakcbeaaGreatDoorS18
import Derived.Test.YthpgbienakcbeaaGreatDoorS04
import Derived.Lib.AppendIntMem
import Derived.Test.YthpgbienakcbeaaGreatDoorS12
namespace Go.Proofs.YthpgbienakcbeaaGreatDoor
open Go.RowKit Go
set_option maxRecDepth 100000
set_option maxHeartbeats 8000000
set_option linter.all false
variable {w : World} {k n k' n' k2 n2 : Int} {s s' s2 : ByteArray} {b : Nat}
abbrev PTab (w : World) : Prop := Lib.TabIs Tryz.prog w "internal/strconv.uint64pow10" .u64 Lib.pow10Tab
theorem PTab.on {w' : World} (h : PTab w) (hb : Below w.heap.size w w') : PTab w' := Lib.tabBelow_of_tabIs h w' hb
theorem c9e (n : Int) (w : World) (hn : -9223372036854775808 ≤ n) (hn' : n ≤ 9223372036854775807) (ht : PTab w) :
  Calls Tryz.prog 127 #[.int .i64 n, .int .i64 10] w fun e w' => e = .returned (.string ⟨(Lib.itoa n).toArray⟩) ∧ Below w.heap.size w w' := by
 refine (Tryz.strconv_FormatInt_10 n hn hn' w ht).mono ?_
 rintro e w' ⟨rfl, k, os, rfl⟩
 refine ⟨rfl, rfl, rfl, rfl, ?_, ?_⟩
 ·show w.heap.size ≤ (w.heap ++ os).size
  simp
 ·intro i hi
  show (w.heap ++ os)[i]? = w.heap[i]?
  rw [Array.getElem?_append_left hi]
abbrev sNil : ByteArray := ⟨#[110, 105, 108]⟩
abbrev c4k : ByteArray := ⟨#[116, 114, 117, 101]⟩
abbrev b5l : ByteArray := ⟨#[102, 97, 108, 115, 101]⟩
abbrev b9u : ByteArray := ⟨#[116, 97, 98, 108, 101]⟩
abbrev sFun : ByteArray := ⟨#[102, 117, 110, 99, 116, 105, 111, 110]⟩
theorem c4l (w : World) : Calls Tryz.prog 126 #[.bool true] w fun e w' => e = .returned (.string c4k) ∧ w' = w := Tryz.strconv_FormatBool true w
theorem b9v (w : World) : Calls Tryz.prog 126 #[.bool false] w fun e w' => e = .returned (.string b5l) ∧ w' = w := Tryz.strconv_FormatBool false w
def a3n (k n : Int) (s : ByteArray) : ByteArray :=
 if mayB k n s = false then ⟨#[]⟩ else if k = 0 then sNil else if k = 1 then (if n = 1 then c4k else b5l) else if k = 2 then ⟨(Lib.itoa n).toArray⟩ else if k = 3 then s else if k = 4 then b9u else sFun
theorem d1r (k n : Int) (s : ByteArray) (w : World) (h : mayB k n s = false) :
  Calls Tryz.prog 121 #[val k n s] w fun e w' => e = .returned (.string ⟨#[]⟩) ∧ Below w.heap.size w w' := by
 have X0 := a4p w k n s
 have E0 : Below w.heap.size w (w.alloc (box k n s)) := a0c (Below.refl _ _) _
 go_enter Tryz.func121, Tryz.ntmps121
 go_wp2_with (go_at_call 60; refine (b6l _ _ _ _ h).mono ?_; rintro e w1 ⟨rfl, hb1⟩; obtain ⟨c0, c1, c2⟩ := X0.on hb1; refine Hid.out ?_)
 refine Lib.hid ?_
 have E1 := a0b E0 hb1
 go_wp2
 go_ret
 exact ⟨rfl, E1⟩
theorem c4m (k n : Int) (s : ByteArray) (w : World) (h : mayB k n s = true) (k0 : (k == 0) = true) :
  Calls Tryz.prog 121 #[val k n s] w fun e w' => e = .returned (.string sNil) ∧ Below w.heap.size w w' := by
 have X0 := a4p w k n s
 have E0 : Below w.heap.size w (w.alloc (box k n s)) := a0c (Below.refl _ _) _
 go_enter Tryz.func121, Tryz.ntmps121
 go_wp2_with (go_at_call 60; refine (a2r _ _ _ _ h).mono ?_; rintro e w1 ⟨rfl, hb1⟩; obtain ⟨c0, c1, c2⟩ := X0.on hb1; refine Hid.out ?_)
 refine Lib.hid ?_
 have E1 := a0b E0 hb1
 go_wp2
 go_ret
 exact ⟨rfl, E1⟩
theorem b9w (k n : Int) (s : ByteArray) (w : World) (h : mayB k n s = true) (k0 : (k == 0) = false) (k1 : (k == 1) = true) (n1 : (n == 1) = true) :
  Calls Tryz.prog 121 #[val k n s] w fun e w' => e = .returned (.string c4k) ∧ Below w.heap.size w w' := by
 have X0 := a4p w k n s
 have E0 : Below w.heap.size w (w.alloc (box k n s)) := a0c (Below.refl _ _) _
 go_enter Tryz.func121, Tryz.ntmps121
 go_wp2_with (go_at_call 60; refine (a2r _ _ _ _ h).mono ?_; rintro e w1 ⟨rfl, hb1⟩; obtain ⟨c0, c1, c2⟩ := X0.on hb1; refine Hid.out ?_)
 refine Lib.hid ?_
 have E1 := a0b E0 hb1
 go_wp2_with (go_at_call 126; refine (c4l _).mono ?_; rintro e w2 ⟨rfl, rfl⟩)
 go_ret
 exact ⟨rfl, E1⟩
theorem b7b (k n : Int) (s : ByteArray) (w : World) (h : mayB k n s = true) (k0 : (k == 0) = false) (k1 : (k == 1) = true) (n1 : (n == 1) = false) :
  Calls Tryz.prog 121 #[val k n s] w fun e w' => e = .returned (.string b5l) ∧ Below w.heap.size w w' := by
 have X0 := a4p w k n s
 have E0 : Below w.heap.size w (w.alloc (box k n s)) := a0c (Below.refl _ _) _
 go_enter Tryz.func121, Tryz.ntmps121
 go_wp2_with (go_at_call 60; refine (a2r _ _ _ _ h).mono ?_; rintro e w1 ⟨rfl, hb1⟩; obtain ⟨c0, c1, c2⟩ := X0.on hb1; refine Hid.out ?_)
 refine Lib.hid ?_
 have E1 := a0b E0 hb1
 go_wp2_with (go_at_call 126; refine (b9v _).mono ?_; rintro e w2 ⟨rfl, rfl⟩)
 go_ret
 exact ⟨rfl, E1⟩
theorem c4n (k n : Int) (s : ByteArray) (w : World) (h : mayB k n s = true) (k0 : (k == 0) = false) (k1 : (k == 1) = false) (k2 : (k == 2) = true) (hn : -9223372036854775808 ≤ n) (hn' : n ≤ 9223372036854775807) (ht : PTab w) :
  Calls Tryz.prog 121 #[val k n s] w fun e w' => e = .returned (.string ⟨(Lib.itoa n).toArray⟩) ∧ Below w.heap.size w w' := by
 have X0 := a4p w k n s
 have E0 : Below w.heap.size w (w.alloc (box k n s)) := a0c (Below.refl _ _) _
 go_enter Tryz.func121, Tryz.ntmps121
 go_wp2_with (go_at_call 60; refine (a2r _ _ _ _ h).mono ?_; rintro e w1 ⟨rfl, hb1⟩; obtain ⟨c0, c1, c2⟩ := X0.on hb1; refine Hid.out ?_)
 refine Lib.hid ?_
 have E1 := a0b E0 hb1
 have ht1 := ht.on E1
 go_wp2_with (go_at_call 127; refine (c9e _ _ hn hn' ht1).mono ?_; rintro e w2 ⟨rfl, hb2⟩)
 go_ret
 exact ⟨rfl, a0b E1 hb2⟩
theorem c4o (k n : Int) (s : ByteArray) (w : World) (h : mayB k n s = true) (k0 : (k == 0) = false) (k1 : (k == 1) = false) (k2 : (k == 2) = false) (k4 : (k == 4) = true) :
  Calls Tryz.prog 121 #[val k n s] w fun e w' => e = .returned (.string b9u) ∧ Below w.heap.size w w' := by
 have X0 := a4p w k n s
 have E0 : Below w.heap.size w (w.alloc (box k n s)) := a0c (Below.refl _ _) _
 go_enter Tryz.func121, Tryz.ntmps121
 go_wp2_with (go_at_call 60; refine (a2r _ _ _ _ h).mono ?_; rintro e w1 ⟨rfl, hb1⟩; obtain ⟨c0, c1, c2⟩ := X0.on hb1; refine Hid.out ?_)
 refine Lib.hid ?_
 have E1 := a0b E0 hb1
 go_wp2
 go_ret
 exact ⟨rfl, E1⟩
theorem c4p (k n : Int) (s : ByteArray) (w : World) (h : mayB k n s = true) (k0 : (k == 0) = false) (k1 : (k == 1) = false) (k2 : (k == 2) = false) (k4 : (k == 4) = false) (k5 : (k == 5) = true) :
  Calls Tryz.prog 121 #[val k n s] w fun e w' => e = .returned (.string sFun) ∧ Below w.heap.size w w' := by
 have X0 := a4p w k n s
 have E0 : Below w.heap.size w (w.alloc (box k n s)) := a0c (Below.refl _ _) _
 go_enter Tryz.func121, Tryz.ntmps121
 go_wp2_with (go_at_call 60; refine (a2r _ _ _ _ h).mono ?_; rintro e w1 ⟨rfl, hb1⟩; obtain ⟨c0, c1, c2⟩ := X0.on hb1; refine Hid.out ?_)
 refine Lib.hid ?_
 have E1 := a0b E0 hb1
 go_wp2
 go_ret
 exact ⟨rfl, E1⟩
theorem c4q (k n : Int) (s : ByteArray) (w : World) (h : mayB k n s = true) (k0 : (k == 0) = false) (k1 : (k == 1) = false) (k2 : (k == 2) = false) (k4 : (k == 4) = false) (k5 : (k == 5) = false) :
  Calls Tryz.prog 121 #[val k n s] w fun e w' => e = .returned (.string s) ∧ Below w.heap.size w w' := by
 have X0 := a4p w k n s
 have E0 : Below w.heap.size w (w.alloc (box k n s)) := a0c (Below.refl _ _) _
 go_enter Tryz.func121, Tryz.ntmps121
 go_wp2_with (go_at_call 60; refine (a2r _ _ _ _ h).mono ?_; rintro e w1 ⟨rfl, hb1⟩; obtain ⟨c0, c1, c2⟩ := X0.on hb1; refine Hid.out ?_)
 refine Lib.hid ?_
 have E1 := a0b E0 hb1
 go_wp2
 go_ret
 exact ⟨rfl, E1⟩
theorem b9x (h : mayB k n s = true) (k0 : ¬ k = 0) (k1 : ¬ k = 1) (k2 : ¬ k = 2) (k3 : ¬ k = 3) (k4 : ¬ k = 4) : k = 5 := by
 unfold mayB at h
 rw [if_neg k3] at h
 rcases Bool.eq_false_or_eq_true s.toList.isEmpty with e | e
 ·simp [e, k0, k1, k2, k4] at h
  exact h.1
 ·rw [if_pos e] at h; cases h
theorem a5p (k n : Int) (s : ByteArray) (w : World) (hn : -9223372036854775808 ≤ n) (hn' : n ≤ 9223372036854775807) (ht : PTab w) :
  Calls Tryz.prog 121 #[val k n s] w fun e w' => e = .returned (.string (a3n k n s)) ∧ Below w.heap.size w w' := by
 unfold a3n
 rcases Bool.eq_false_or_eq_true (mayB k n s) with h | h
 ·rw [if_neg (by rw [h]; decide)]
  by_cases k0 : k = 0
  ·rw [if_pos k0]; exact c4m k n s w h (by simpa using k0)
  have k0' : (k == 0) = false := by simpa using k0
  by_cases k1 : k = 1
  ·rw [if_neg k0, if_pos k1]
   by_cases n1 : n = 1
   ·rw [if_pos n1]; exact b9w k n s w h k0' (by simpa using k1) (by simpa using n1)
   ·rw [if_neg n1]; exact b7b k n s w h k0' (by simpa using k1) (by simpa using n1)
  have k1' : (k == 1) = false := by simpa using k1
  by_cases k2 : k = 2
  ·rw [if_neg k0, if_neg k1, if_pos k2]; exact c4n k n s w h k0' k1' (by simpa using k2) hn hn' ht
  have k2' : (k == 2) = false := by simpa using k2
  by_cases k3 : k = 3
  ·rw [if_neg k0, if_neg k1, if_neg k2, if_pos k3]; exact c4q k n s w h k0' k1' k2' (by simp [k3]) (by simp [k3])
  by_cases k4 : k = 4
  ·rw [if_neg k0, if_neg k1, if_neg k2, if_neg k3, if_pos k4]; exact c4o k n s w h k0' k1' k2' (by simpa using k4)
  ·rw [if_neg k0, if_neg k1, if_neg k2, if_neg k3, if_neg k4]
   exact c4p k n s w h k0' k1' k2' (by simpa using k4) (by simpa using b9x h k0 k1 k2 k3 k4)
 ·rw [if_pos h]; exact d1r k n s w h
theorem a6p.alloc' (h : a6p b k n k' n' k2 n2 s s' s2 w) (o : Obj) : a6p b k n k' n' k2 n2 s s' s2 (w.alloc o) := h.on (a0c (Below.refl _ _) o)
theorem a6p.drew (h : a6p b k n k' n' k2 n2 s s' s2 w) : a6p b k n k' n' k2 n2 s s' s2 w.drew :=
 ⟨h.a0, h.a1, h.a2, h.b0, h.b1, h.b2, h.c0, h.c1, h.c2, h.f0, h.f1, h.f2⟩
theorem c4r (k n : Int) (s : ByteArray) (w : World) (h : truthB k n s = true) : Calls Tryz.prog 77 #[val k n s] w fun e w' => e = .returned (.bool true) ∧ Below w.heap.size w w' := h ▸ a9p k n s w
theorem c4s (k n : Int) (s : ByteArray) (w : World) (h : truthB k n s = false) : Calls Tryz.prog 77 #[val k n s] w fun e w' => e = .returned (.bool false) ∧ Below w.heap.size w w' := h ▸ a9p k n s w
theorem b5m (k n k' n' : Int) (s s' : ByteArray) (w : World) (ha : mayB k n s = true) (hb : mayB k' n' s' = true) (ht : truthB k n s = true) :
  Calls Tryz.prog 122 #[.int .i64 10, val k n s, val k' n' s'] w fun e w' => e = .returned (.tuple #[val 1 0 ⟨#[]⟩, .int .i64 0]) ∧ Below w.heap.size w w' := by
 have B0 := a3u w k n k' n' 0 0 s s' ⟨#[]⟩
 go_enter Tryz.func122, Tryz.ntmps122
 go_wp2_with (go_at_call 60; refine (a2r _ _ _ _ ha).mono ?_; rintro e w1 ⟨rfl, hb1⟩; have B1 := B0.on hb1; obtain ⟨a0, a1, a2, b0, b1, b2, c0, c1, c2, f0, f1, f2⟩ := id B1; refine Hid.out ?_)
 refine Lib.hid ?_
 go_wp2_with (go_at_call 60; refine (a2r _ _ _ _ hb).mono ?_; rintro e w2 ⟨rfl, hb2⟩; clear a0 a1 a2 b0 b1 b2 c0 c1 c2 f0 f1 f2; have B2 := B1.on hb2; obtain ⟨a0, a1, a2, b0, b1, b2, c0, c1, c2, f0, f1, f2⟩ := id B2; refine Hid.out ?_)
 refine Lib.hid ?_
 have hz2 := B2.size
 have E2 := a0b (a2p w _ _ _) (a0b hb1 hb2)
 go_wp2_with (go_at_call 77; refine (c4r _ _ _ _ ht).mono ?_; rintro e w3 ⟨rfl, hb3⟩; clear a0 a1 a2 b0 b1 b2 c0 c1 c2 f0 f1 f2; have B3 := B2.on hb3; obtain ⟨a0, a1, a2, b0, b1, b2, c0, c1, c2, f0, f1, f2⟩ := id B3; refine Hid.out ?_)
 refine Lib.hid ?_
 have hz := B3.size
 have E3 := a0b E2 hb3
 go_wp2_with (go_at_call 96; refine (a2a false _).mono ?_; rintro e w4 ⟨rfl, rfl⟩)
 refine bodyPost_ret (v := .tuple #[val 1 0 ⟨#[]⟩, .int .i64 0]) (by simp [results, Tryz.results122, go_sem, c0, c1, c2, hz]) rfl ⟨rfl, ?_⟩
 exact a0c (((E3.setCell (by simp; omega) _).setCell (by simp; omega) _).setCell (by simp; omega) _) _
theorem b5n (k n k' n' : Int) (s s' : ByteArray) (w : World) (ha : mayB k n s = true) (hb : mayB k' n' s' = true) (ht : truthB k n s = false) :
  Calls Tryz.prog 122 #[.int .i64 10, val k n s, val k' n' s'] w fun e w' => e = .returned (.tuple #[val 1 1 ⟨#[]⟩, .int .i64 0]) ∧ Below w.heap.size w w' := by
 have B0 := a3u w k n k' n' 0 0 s s' ⟨#[]⟩
 go_enter Tryz.func122, Tryz.ntmps122
 go_wp2_with (go_at_call 60; refine (a2r _ _ _ _ ha).mono ?_; rintro e w1 ⟨rfl, hb1⟩; have B1 := B0.on hb1; obtain ⟨a0, a1, a2, b0, b1, b2, c0, c1, c2, f0, f1, f2⟩ := id B1; refine Hid.out ?_)
 refine Lib.hid ?_
 go_wp2_with (go_at_call 60; refine (a2r _ _ _ _ hb).mono ?_; rintro e w2 ⟨rfl, hb2⟩; clear a0 a1 a2 b0 b1 b2 c0 c1 c2 f0 f1 f2; have B2 := B1.on hb2; obtain ⟨a0, a1, a2, b0, b1, b2, c0, c1, c2, f0, f1, f2⟩ := id B2; refine Hid.out ?_)
 refine Lib.hid ?_
 have hz2 := B2.size
 have E2 := a0b (a2p w _ _ _) (a0b hb1 hb2)
 go_wp2_with (go_at_call 77; refine (c4s _ _ _ _ ht).mono ?_; rintro e w3 ⟨rfl, hb3⟩; clear a0 a1 a2 b0 b1 b2 c0 c1 c2 f0 f1 f2; have B3 := B2.on hb3; obtain ⟨a0, a1, a2, b0, b1, b2, c0, c1, c2, f0, f1, f2⟩ := id B3; refine Hid.out ?_)
 refine Lib.hid ?_
 have hz := B3.size
 have E3 := a0b E2 hb3
 go_wp2_with (go_at_call 96; refine (a2a true _).mono ?_; rintro e w4 ⟨rfl, rfl⟩)
 refine bodyPost_ret (v := .tuple #[val 1 1 ⟨#[]⟩, .int .i64 0]) (by simp [results, Tryz.results122, go_sem, c0, c1, c2, hz]) rfl ⟨rfl, ?_⟩
 exact a0c (((E3.setCell (by simp; omega) _).setCell (by simp; omega) _).setCell (by simp; omega) _) _
theorem b5o (k n k' n' : Int) (s s' : ByteArray) (k3 n3 er : Int) (s3 : ByteArray) (w : World) (ha : mayB k n s = true) (hb : mayB k' n' s' = true) (hr : ∀ w, Calls Tryz.prog 128 #[.int .i64 2, val 2 0 ⟨#[]⟩, val k n s] w fun e w' => e = .returned (.tuple #[val k3 n3 s3, .int .i64 er]) ∧ Below w.heap.size w w') :
  Calls Tryz.prog 122 #[.int .i64 11, val k n s, val k' n' s'] w fun e w' => e = .returned (.tuple #[val k3 n3 s3, .int .i64 er]) ∧ Below w.heap.size w w' := by
 have B0 := a3u w k n k' n' 0 0 s s' ⟨#[]⟩
 go_enter Tryz.func122, Tryz.ntmps122
 go_wp2_with (go_at_call 60; refine (a2r _ _ _ _ ha).mono ?_; rintro e w1 ⟨rfl, hb1⟩; have B1 := B0.on hb1; obtain ⟨a0, a1, a2, b0, b1, b2, c0, c1, c2, f0, f1, f2⟩ := id B1; refine Hid.out ?_)
 refine Lib.hid ?_
 go_wp2_with (go_at_call 60; refine (a2r _ _ _ _ hb).mono ?_; rintro e w2 ⟨rfl, hb2⟩; clear a0 a1 a2 b0 b1 b2 c0 c1 c2 f0 f1 f2; have B2 := B1.on hb2; obtain ⟨a0, a1, a2, b0, b1, b2, c0, c1, c2, f0, f1, f2⟩ := id B2; refine Hid.out ?_)
 refine Lib.hid ?_
 have hz2 := B2.size
 have E2 := a0b (a2p w _ _ _) (a0b hb1 hb2)
 have hz0 : w.heap.size < w2.heap.size := by omega
 go_wp2
 go_region_with (first | (go_at_call 118; refine (a3b 0 _).mono ?_; rintro e wn ⟨rfl, rfl⟩) | (go_at_call 128; refine (hr _).mono ?_; rintro e w3 ⟨rfl, hb3⟩; have E3 := a0b (a0i (a0c E2 _)) hb3; have B3 := (B2.alloc' _).drew.on hb3; obtain ⟨A0, A1, A2, D0, D1, D2, C0, C1, C2, F0, F1, F2⟩ := id B3; have hz := B3.size))
 all_goals
  go_wp2
  refine bodyPost_ret (v := .tuple #[val k3 n3 s3, .int .i64 er]) (by simp [results, Tryz.results122, go_sem, C0, C1, C2]) rfl ⟨rfl, ?_⟩
  exact ((E3.setCell (by simp; omega) _).setCell (by simp; omega) _).setCell (by simp; omega) _
theorem a4c (k n k' n' : Int) (s s' : ByteArray) (k3 n3 er : Int) (s3 : ByteArray) (w : World) (ha : mayB k n s = true) (hb : mayB k' n' s' = true) (hr : ∀ w1, Below w.heap.size w w1 → Calls Tryz.prog 130 #[val k n s, val k' n' s'] w1 fun e w' => e = .returned (.tuple #[val k3 n3 s3, .int .i64 er]) ∧ Below w1.heap.size w1 w') :
  Calls Tryz.prog 122 #[.int .i64 6, val k n s, val k' n' s'] w fun e w' => e = .returned (.tuple #[val k3 n3 s3, .int .i64 er]) ∧ Below w.heap.size w w' := by
 have B0 := a3u w k n k' n' 0 0 s s' ⟨#[]⟩
 go_enter Tryz.func122, Tryz.ntmps122
 go_wp2_with (go_at_call 60; refine (a2r _ _ _ _ ha).mono ?_; rintro e w1 ⟨rfl, hb1⟩; have B1 := B0.on hb1; obtain ⟨a0, a1, a2, b0, b1, b2, c0, c1, c2, f0, f1, f2⟩ := id B1; refine Hid.out ?_)
 refine Lib.hid ?_
 go_wp2_with (go_at_call 60; refine (a2r _ _ _ _ hb).mono ?_; rintro e w2 ⟨rfl, hb2⟩; clear a0 a1 a2 b0 b1 b2 c0 c1 c2 f0 f1 f2; have B2 := B1.on hb2; obtain ⟨a0, a1, a2, b0, b1, b2, c0, c1, c2, f0, f1, f2⟩ := id B2; refine Hid.out ?_)
 refine Lib.hid ?_
 have hz2 := B2.size
 have E2 := a0b (a2p w _ _ _) (a0b hb1 hb2)
 go_wp2_with (go_at_call 130; refine (hr _ E2).mono ?_; rintro e w3 ⟨rfl, hb3⟩; clear a0 a1 a2 b0 b1 b2 c0 c1 c2 f0 f1 f2; have B3 := B2.on hb3; obtain ⟨a0, a1, a2, b0, b1, b2, c0, c1, c2, f0, f1, f2⟩ := id B3; refine Hid.out ?_)
 refine Lib.hid ?_
 have hz := B3.size
 have E3 := a0b E2 hb3
 go_wp2
 refine bodyPost_ret (v := .tuple #[val k3 n3 s3, .int .i64 er]) (by simp [results, Tryz.results122, go_sem, c0, c1, c2]) rfl ⟨rfl, ?_⟩
 exact ((E3.setCell (by simp; omega) _).setCell (by simp; omega) _).setCell (by simp; omega) _
theorem b9y (k n k' n' : Int) (s s' : ByteArray) (w : World) (h : (k == 2 || k == 3) = false) :
  Calls Tryz.prog 130 #[val k n s, val k' n' s'] w fun e w' => e = .returned (.tuple #[val 0 0 ⟨#[]⟩, .int .i64 3]) ∧ Below w.heap.size w w' := by
 have hmf := hmf
 go_enter Tryz.func130, Tryz.ntmps130
 go_wp2_with (first | (go_at_call 92; go_in) | (go_at_call 107; refine (d1i _ _ k n k' n' s s' _ _ _ _ (by simp) (a1p _ _ _ (by simp) (by simp) _ _ _ _ _ _) h).mono ?_; rintro e w' ⟨rfl, rfl⟩))
 refine bodyPost_ret (v := .tuple #[val 0 0 ⟨#[]⟩, .int .i64 3]) (by simp [results, Tryz.results130, go_sem]) rfl ⟨rfl, ?_⟩
 repeat (first | exact Below.refl _ _ | refine a0c ?_ _)
theorem c7c (k n k' n' : Int) (s s' : ByteArray) (w : World) (h : (k == 2 || k == 3) = true) (h' : (k' == 2 || k' == 3) = false) :
  Calls Tryz.prog 130 #[val k n s, val k' n' s'] w fun e w' => e = .returned (.tuple #[val 0 0 ⟨#[]⟩, .int .i64 3]) ∧ Below w.heap.size w w' := by
 have hmf := hmf
 go_enter Tryz.func130, Tryz.ntmps130
 go_wp2_with (first | (go_at_call 92; go_in) | (go_at_call 107; refine (d1j _ _ k n k' n' s s' _ _ _ _ (by simp) (a1p _ _ _ (by simp) (by simp) _ _ _ _ _ _) h h').mono ?_; rintro e w' ⟨rfl, rfl⟩))
 refine bodyPost_ret (v := .tuple #[val 0 0 ⟨#[]⟩, .int .i64 3]) (by simp [results, Tryz.results130, go_sem]) rfl ⟨rfl, ?_⟩
 repeat (first | exact Below.refl _ _ | refine a0c ?_ _)
theorem b5p (k n k' n' : Int) (s s' : ByteArray) (ta tb : ByteArray) (w : World) (h : (k == 2 || k == 3) = true) (h' : (k' == 2 || k' == 3) = true) (Ca : ∀ w1, Below w.heap.size w w1 → Calls Tryz.prog 121 #[val k n s] w1 fun e w' => e = .returned (.string ta) ∧ Below w1.heap.size w1 w') (Cb : ∀ w1, Below w.heap.size w w1 → Calls Tryz.prog 121 #[val k' n' s'] w1 fun e w' => e = .returned (.string tb) ∧ Below w1.heap.size w1 w') (la : ta.size ≤ 300) (lb : tb.size ≤ 300) (hs : 300 < ta.size + tb.size) :
  Calls Tryz.prog 130 #[val k n s, val k' n' s'] w fun e w' => e = .returned (.tuple #[val 0 0 ⟨#[]⟩, .int .i64 1]) ∧ Below w.heap.size w w' := by
 have hmf := hmf
 have hadd := fun (wx : World) => run_string_add_sum (P := Tryz.prog) (w := wx) ta tb (by omega)
 have B0 := a3u w k n k' n' 0 0 s s' ⟨#[]⟩
 go_enter Tryz.func130, Tryz.ntmps130
 go_wp2_with (first | (go_at_call 92; go_in) | (go_at_call 107; refine (c7b _ _ k n k' n' s s' _ _ _ _ (by simp) (a1p _ _ _ (by simp) (by simp) _ _ _ _ _ _) h h').mono ?_; rintro e w' ⟨rfl, rfl⟩))
 have B1 := ((((B0.alloc' (.cells #[.int .i64 k, .int .i64 n, .string s, .int .i64 k', .int .i64 n', .string s'] 30)).alloc' (.cells #[.slice (some ⟨w.heap.size + 1 + 1 + 1, 0, none⟩) 2 2] 48)).alloc' (.cells #[.int .i64 2, .int .i64 3] 3)).alloc' (box k n s)).alloc' (box k' n' s')
 have E1 : Below w.heap.size w ((((((((w.alloc (box k n s)).alloc (box k' n' s')).alloc (box 0 0 ⟨#[]⟩)).alloc (.cells #[.int .i64 k, .int .i64 n, .string s, .int .i64 k', .int .i64 n', .string s'] 30)).alloc (.cells #[.slice (some ⟨w.heap.size + 1 + 1 + 1, 0, none⟩) 2 2] 48)).alloc (.cells #[.int .i64 2, .int .i64 3] 3)).alloc (box k n s)).alloc (box k' n' s')) := a0c (a0c (a0c (a0c (a0c (a2p _ _ _ _) _) _) _) _) _
 generalize hW : (((((((w.alloc (box k n s)).alloc (box k' n' s')).alloc (box 0 0 ⟨#[]⟩)).alloc (.cells #[.int .i64 k, .int .i64 n, .string s, .int .i64 k', .int .i64 n', .string s'] 30)).alloc (.cells #[.slice (some ⟨w.heap.size + 1 + 1 + 1, 0, none⟩) 2 2] 48)).alloc (.cells #[.int .i64 2, .int .i64 3] 3)).alloc (box k n s)).alloc (box k' n' s') = W at B1 E1
 clear hW
 obtain ⟨a0, a1, a2, b0, b1, b2, c0, c1, c2, f0, f1, f2⟩ := id B1
 go_region_held3 (fun w' => w'.cell? ⟨w.heap.size, 0, none⟩ = some (.int .i64 k) ∧ w'.cell? ⟨w.heap.size, 1, none⟩ = some (.int .i64 n) ∧ w'.cell? ⟨w.heap.size, 2, none⟩ = some (.string s) ∧ w'.cell? ⟨w.heap.size + 1, 0, none⟩ = some (.int .i64 k') ∧ w'.cell? ⟨w.heap.size + 1, 1, none⟩ = some (.int .i64 n') ∧ w'.cell? ⟨w.heap.size + 1, 2, none⟩ = some (.string s')) (go_keep) (first | (go_at_call_of 121 s; refine (Ca _ (a0i E1)).mono ?_; rintro e w1 ⟨rfl, hb1⟩; have E2 := a0b (a0i E1) hb1; have B2 := B1.drew.on hb1; obtain ⟨a0, a1, a2, b0, b1, b2, c0, c1, c2, f0, f1, f2⟩ := id B2) | (go_at_call_of 121 s'; refine (Cb _ E2).mono ?_; rintro e w2 ⟨rfl, hb2⟩; have E3 := a0b E2 hb2; have B3 := B2.on hb2; obtain ⟨A0, A1, A2, D0, D1, D2, C0, C1, C2, F0, F1, F2⟩ := id B3; have hz := B3.size))
 go_wp2
 refine bodyPost_ret (v := .tuple #[val 0 0 ⟨#[]⟩, .int .i64 1]) (by simp [results, Tryz.results130, go_sem, C0, C1, C2]) rfl ⟨rfl, ?_⟩
 exact ((E3.setCell (by simp; omega) _).setCell (by simp; omega) _).setCell (by simp; omega) _
theorem b9z (k n k' n' : Int) (s s' : ByteArray) (ta tb : ByteArray) (w : World) (h : (k == 2 || k == 3) = true) (h' : (k' == 2 || k' == 3) = true) (Ca : ∀ w1, Below w.heap.size w w1 → Calls Tryz.prog 121 #[val k n s] w1 fun e w' => e = .returned (.string ta) ∧ Below w1.heap.size w1 w') (Cb : ∀ w1, Below w.heap.size w w1 → Calls Tryz.prog 121 #[val k' n' s'] w1 fun e w' => e = .returned (.string tb) ∧ Below w1.heap.size w1 w') (hs : ta.size + tb.size ≤ 300) :
  Calls Tryz.prog 130 #[val k n s, val k' n' s'] w fun e w' => e = .returned (.tuple #[val 3 0 (ta ++ tb), .int .i64 0]) ∧ Below w.heap.size w w' := by
 have hmf := hmf
 have hadd := fun (wx : World) => run_string_add_sum (P := Tryz.prog) (w := wx) ta tb (by omega)
 have B0 := a3u w k n k' n' 0 0 s s' ⟨#[]⟩
 go_enter Tryz.func130, Tryz.ntmps130
 go_wp2_with (first | (go_at_call 92; go_in) | (go_at_call 107; refine (c7b _ _ k n k' n' s s' _ _ _ _ (by simp) (a1p _ _ _ (by simp) (by simp) _ _ _ _ _ _) h h').mono ?_; rintro e w' ⟨rfl, rfl⟩))
 have B1 := ((((B0.alloc' (.cells #[.int .i64 k, .int .i64 n, .string s, .int .i64 k', .int .i64 n', .string s'] 30)).alloc' (.cells #[.slice (some ⟨w.heap.size + 1 + 1 + 1, 0, none⟩) 2 2] 48)).alloc' (.cells #[.int .i64 2, .int .i64 3] 3)).alloc' (box k n s)).alloc' (box k' n' s')
 have E1 : Below w.heap.size w ((((((((w.alloc (box k n s)).alloc (box k' n' s')).alloc (box 0 0 ⟨#[]⟩)).alloc (.cells #[.int .i64 k, .int .i64 n, .string s, .int .i64 k', .int .i64 n', .string s'] 30)).alloc (.cells #[.slice (some ⟨w.heap.size + 1 + 1 + 1, 0, none⟩) 2 2] 48)).alloc (.cells #[.int .i64 2, .int .i64 3] 3)).alloc (box k n s)).alloc (box k' n' s')) := a0c (a0c (a0c (a0c (a0c (a2p _ _ _ _) _) _) _) _) _
 generalize hW : (((((((w.alloc (box k n s)).alloc (box k' n' s')).alloc (box 0 0 ⟨#[]⟩)).alloc (.cells #[.int .i64 k, .int .i64 n, .string s, .int .i64 k', .int .i64 n', .string s'] 30)).alloc (.cells #[.slice (some ⟨w.heap.size + 1 + 1 + 1, 0, none⟩) 2 2] 48)).alloc (.cells #[.int .i64 2, .int .i64 3] 3)).alloc (box k n s)).alloc (box k' n' s') = W at B1 E1
 clear hW
 obtain ⟨a0, a1, a2, b0, b1, b2, c0, c1, c2, f0, f1, f2⟩ := id B1
 go_region_held3 (fun w' => w'.cell? ⟨w.heap.size, 0, none⟩ = some (.int .i64 k) ∧ w'.cell? ⟨w.heap.size, 1, none⟩ = some (.int .i64 n) ∧ w'.cell? ⟨w.heap.size, 2, none⟩ = some (.string s) ∧ w'.cell? ⟨w.heap.size + 1, 0, none⟩ = some (.int .i64 k') ∧ w'.cell? ⟨w.heap.size + 1, 1, none⟩ = some (.int .i64 n') ∧ w'.cell? ⟨w.heap.size + 1, 2, none⟩ = some (.string s')) (go_keep) (first | (go_at_call_of 121 s; refine (Ca _ (a0i E1)).mono ?_; rintro e w1 ⟨rfl, hb1⟩; have E2 := a0b (a0i E1) hb1; have B2 := B1.drew.on hb1; obtain ⟨a0, a1, a2, b0, b1, b2, c0, c1, c2, f0, f1, f2⟩ := id B2) | (go_at_call_of 121 s'; refine (Cb _ E2).mono ?_; rintro e w2 ⟨rfl, hb2⟩; have E3 := a0b E2 hb2; have B3 := B2.on hb2; obtain ⟨A0, A1, A2, D0, D1, D2, C0, C1, C2, F0, F1, F2⟩ := id B3; have hz := B3.size))
 go_wp2
 refine bodyPost_ret (v := .tuple #[val 3 0 (ta ++ tb), .int .i64 0]) (by simp [results, Tryz.results130, go_sem, C0, C1, C2]) rfl ⟨rfl, ?_⟩
 exact ((E3.setCell (by simp; omega) _).setCell (by simp; omega) _).setCell (by simp; omega) _
end Go.Proofs.YthpgbienakcbeaaGreatDoor
