/- Walks of package lex: what stands between tokens; a token that is made. -/
import Derived.Test.YtkcieeckndimpaaDoorLA
import Derived.Test.YtkcieeckndimpaaDoorLN
import Derived.Test.YtkcieeckndimpaaDoorLShelf
import Derived.Deep.AppendLies
namespace Go.Proofs.YtkcieeckndimpaaDoor
open Go.RowKit
open Go

theorem set_block {W : World} {B i : Nat} {c : Array Value} {t : TypeId} {z : Nat × Nat} (v : Value) (h : W.heap[B]? = some (.cells c t z)) : (W.setCell ⟨B, i, none⟩ v).heap[B]? = some (.cells (c.setIfInBounds i v) t z) := by
  obtain ⟨hlt, hk⟩ := Array.getElem?_eq_some_iff.1 h
  show (W.heap.modify B _)[B]? = _
  rw [Array.getElem?_eq_getElem (by rw [Array.size_modify]; exact hlt), Array.getElem_modify_self, hk]
  rfl
theorem cell_block {W : World} {B i : Nat} {c : Array Value} {t : TypeId} {z : Nat × Nat} {v : Value} (h : W.heap[B]? = some (.cells c t z)) (hv : c[i]? = some v) : W.cell? ⟨B, i, none⟩ = some v := by
  simp [World.cell?, h, hv]
theorem frozen_block {W : World} {B i : Nat} {c : Array Value} {t : TypeId} (h : W.heap[B]? = some (.cells c t)) : W.frozen? ⟨B, i, none⟩ = false := by
  simp [World.frozen?, h]
theorem block_alloc {W : World} {B : Nat} {o : Obj} (o' : Obj) (h : W.heap[B]? = some o) : (W.alloc o').heap[B]? = some o := (Below.heap_alloc _ _ _ (Array.getElem?_eq_some_iff.1 h).1).trans h
theorem block_below {W W' : World} {B : Nat} {o : Obj} (hb : Below W.heap.size W W') (h : W.heap[B]? = some o) : W'.heap[B]? = some o := (hb.block B (Array.getElem?_eq_some_iff.1 h).1).trans h
theorem block_lt {W : World} {B : Nat} {o : Obj} (h : W.heap[B]? = some o) : B < W.heap.size := (Array.getElem?_eq_some_iff.1 h).1
theorem set1_other (W : World) {B i C : Nat} (v : Value) (h : C ≠ B) : (W.setCell ⟨B, i, none⟩ v).heap[C]? = W.heap[C]? := Below.heap_setCell _ ⟨B, i, none⟩ _ C h

theorem alloc_new (w : World) (o : Obj) : (w.alloc o).heap[w.heap.size]? = some o := by
  show (w.heap.push o)[w.heap.size]? = some o
  simp

abbrev tokv (k : Int) (t : ByteArray) (a : Int) : Value := .agg #[.int .i64 k, .string t, .int .i64 a]
abbrev tbx (k : Int) (t : ByteArray) (a : Int) : Obj := .cells #[.int .i64 k, .string t, .int .i64 a] 39
abbrev zeroTok : Obj := tbx 0 ⟨#[]⟩ 0

/-- What a token's box says, for the walk. -/
structure In3 (W : World) (B : Nat) (k : Int) (t : ByteArray) (a : Int) : Prop where
  c0 : W.cell? ⟨B, 0, none⟩ = some (.int .i64 k)
  c1 : W.cell? ⟨B, 1, none⟩ = some (.string t)
  c2 : W.cell? ⟨B, 2, none⟩ = some (.int .i64 a)
  f0 : W.frozen? ⟨B, 0, none⟩ = false
  f1 : W.frozen? ⟨B, 1, none⟩ = false
  f2 : W.frozen? ⟨B, 2, none⟩ = false
theorem in3 {W : World} {B : Nat} {k : Int} {t : ByteArray} {a : Int} (h : W.heap[B]? = some (tbx k t a)) : In3 W B k t a := ⟨cell_block h rfl, cell_block h rfl, cell_block h rfl, frozen_block h, frozen_block h, frozen_block h⟩
abbrev put3 (W : World) (B : Nat) (k : Int) (t : ByteArray) (a : Int) : World := ((W.setCell ⟨B, 0, none⟩ (.int .i64 k)).setCell ⟨B, 1, none⟩ (.string t)).setCell ⟨B, 2, none⟩ (.int .i64 a)
theorem put3_same {W : World} {B : Nat} {k : Int} {t : ByteArray} {a : Int} (k' : Int) (t' : ByteArray) (a' : Int) (h : W.heap[B]? = some (tbx k t a)) : (put3 W B k' t' a').heap[B]? = some (tbx k' t' a') := set_block _ (set_block _ (set_block _ h))
theorem put3_below {m : Nat} {w W : World} {B : Nat} (k : Int) (t : ByteArray) (a : Int) (h : Below m w W) (hB : m ≤ B) : Below m w (put3 W B k t a) := ((h.setCell (p := ⟨B, 0, none⟩) hB _).setCell (p := ⟨B, 1, none⟩) hB _).setCell (p := ⟨B, 2, none⟩) hB _

theorem res68 {tm : Array Value} {W : World} {B : Nat} {k : Int} {t : ByteArray} {a : Int} (h : tm[4]?.getD undef = .pointer (some ⟨B, 0, none⟩)) (hx : W.heap[B]? = some (tbx k t a)) : (results Tryd.f68 tm).run Tryd.prog W = .ok (tokv k t a) W := by
  obtain ⟨c0, c1, c2, _, _, _⟩ := in3 hx
  simp [results, Tryd.results68, go_sem, h, c0, c1, c2]

set_option maxRecDepth 20000 in
set_option maxHeartbeats 1000000 in
theorem made_any (k : Int) (s : ByteArray) (hs : s.size ≤ 4000) (w : World) :
    Calls Tryd.prog 68 #[.int .i64 k, .string s] w fun e w' => e = .returned (tokv k s 0) ∧ Below w.heap.size w w' := by
  have hC := fun u => Tryd.stringslite_Clone s u (by omega)
  have hr := alloc_new w zeroTok
  have hb0 : Below w.heap.size w (w.alloc zeroTok) := (Below.refl _ _).alloc (Nat.le_refl _) _
  go_enter Tryd.func68, Tryd.ntmps68
  go_wp2_with (first | (go_at_call 76; go_in) | (go_at_call 82; refine (hC _).mono ?_; rintro e w1 ⟨rfl, hb⟩; have hr1 := block_below hb hr; obtain ⟨c0, c1, c2, f0, f1, f2⟩ := in3 hr1))
  exact bodyPost_ret (res68 rfl (put3_same k s 0 hr1)) rfl ⟨rfl, put3_below _ _ _ (hb0.trans (hb.mono hb0.size)) (Nat.le_refl _)⟩

theorem drop_list (s : ByteArray) (k : Nat) : (s.extract k s.size).data.toList = s.data.toList.drop k := by
  simp only [ByteArray.data_extract, Array.toList_extract]
  rw [List.extract_eq_take_drop, List.take_of_length_le (by simp)]
theorem take_list (s : ByteArray) (k : Nat) : (s.extract 0 k).data.toList = s.data.toList.take k := by
  simp [ByteArray.data_extract]
theorem piece_list (s : ByteArray) (a b : Nat) : (s.extract a b).data.toList = (s.data.toList.drop a).take (b - a) := by
  simp [ByteArray.data_extract]

theorem pre1 (l : List UInt8) (c : UInt8) : Lib.hasPrefix l [c] = decide (l.head? = some c) := by
  cases l with
  | nil => rfl
  | cons d r =>
    by_cases h : c = d
    · subst h; simp [Lib.hasPrefix, List.isPrefixOf]
    · have h' : ¬ d = c := fun e => h e.symm
      simp [Lib.hasPrefix, List.isPrefixOf, h, h']
theorem pre2 (l : List UInt8) (c d : UInt8) : Lib.hasPrefix l [c, d] = decide (l.take 2 = [c, d]) := by
  match l with
  | [] => rfl
  | [x] => simp [Lib.hasPrefix, List.isPrefixOf]
  | x :: y :: r =>
    by_cases h : c = x
    · subst h
      by_cases k : d = y
      · subst k; simp [Lib.hasPrefix, List.isPrefixOf]
      · have k' : ¬ y = d := fun e => k e.symm
        simp [Lib.hasPrefix, List.isPrefixOf, k, k']
    · have h' : ¬ x = c := fun e => h e.symm
      simp [Lib.hasPrefix, List.isPrefixOf, h, h']

theorem outside_any (w : World) : Calls Tryd.prog 45 #[.int .u8 10] w fun e w' => e = .returned (.func (.func 65) #[] #[.pointer (some ⟨w.heap.size, 0, none⟩)]) ∧ w' = w.alloc (.cells #[.int .u8 10] 5) := by
  have hmf := hmf
  go_enter Tryd.func45, Tryd.ntmps45
  go_wp2
  go_ret
  exact ⟨rfl, rfl⟩
theorem within_any (v : Value) (w : World) (hv : ∃ a n c, v = .slice a n c) : Calls Tryd.prog 48 #[v] w fun e w' => e = .returned (.func (.func 67) #[] #[.pointer (some ⟨w.heap.size, 0, none⟩)]) ∧ w' = w.alloc (.cells #[v] 85) := by
  have hmf := hmf
  obtain ⟨a, n, c, rfl⟩ := hv
  go_enter Tryd.func48, Tryd.ntmps48
  go_wp2
  go_ret
  exact ⟨rfl, rfl⟩

/-- What a round of gap meets. -/
theorem gap_cases (l : List UInt8) :
    (Lib.hasPrefix l [32] = true ∧ gap1 l = 1) ∨ (Lib.hasPrefix l [32] = false ∧ Lib.hasPrefix l [10] = true ∧ gap1 l = 1) ∨
    (Lib.hasPrefix l [32] = false ∧ Lib.hasPrefix l [10] = false ∧ Lib.hasPrefix l [45, 45] = true ∧ gap1 l = runN noteB l ∧ 0 < gap1 l) ∨
    (Lib.hasPrefix l [32] = false ∧ Lib.hasPrefix l [10] = false ∧ Lib.hasPrefix l [45, 45] = false ∧ gap1 l = 0) := by
  rw [pre1, pre1, pre2]
  match l with
  | [] => simp [gap1]
  | c :: r =>
    by_cases h1 : c = 32
    · subst h1; simp [gap1]
    by_cases h2 : c = 10
    · subst h2; simp [gap1]
    have h1' : ¬ c.toNat = 32 := fun k => h1 (UInt8.toNat_inj.1 k)
    have h2' : ¬ c.toNat = 10 := fun k => h2 (UInt8.toNat_inj.1 k)
    by_cases h3 : (c :: r).take 2 = [45, 45]
    · have h4 : c = 45 ∧ r.head? = some 45 := by
        cases r with
        | nil => simp at h3
        | cons d r => simpa using h3
      have h5 : gap1 (c :: r) = runN noteB (c :: r) := by
        unfold gap1
        simp only
        rw [if_neg (by omega), if_pos ⟨by rw [h4.1]; rfl, h4.2⟩]
      have h6 : 0 < runN noteB (c :: r) := by simp [runN, noteB, h2']
      right; right; left
      exact ⟨by simp [h1], by simp [h2], by simp only [h3, decide_true], h5, by rw [h5]; exact h6⟩
    · right; right; right
      refine ⟨by simp [h1], by simp [h2], by simp only [h3, decide_false], ?_⟩
      unfold gap1
      simp only
      rw [if_neg (by omega), if_neg]
      rintro ⟨h4, h5⟩
      have : c = 45 := UInt8.toNat_inj.1 h4
      cases r with
      | nil => simp at h5
      | cons d r => simp at h5; simp [this, h5] at h3

set_option maxRecDepth 20000 in
set_option maxHeartbeats 1000000 in
theorem gap_any (s : ByteArray) (hs : s.size ≤ 4000) (w : World) :
    Calls Tryd.prog 35 #[.string s] w fun e w' => e = .returned (.int .i64 (gapN s.data.toList : Nat)) ∧ Below w.heap.size w w' := by
  have hmf := hmf
  have hr := alloc_new w (.cells #[.int .u8 10] 5)
  have hb0 : Below w.heap.size w (w.alloc (.cells #[.int .u8 10] 5)) := (Below.refl _ _).alloc (Nat.le_refl _) _
  have hl : s.data.toList.length = s.size := by simp
  replace hl : Hid _ := hl
  go_enter Tryd.func35, Tryd.ntmps35
  go_wp2_with (go_at_call 45; refine (outside_any _).mono ?_; rintro e w' ⟨rfl, rfl⟩)
  go_loopw [4] (fun i wr => ∃ k : Nat, k ≤ s.size ∧ i = .int .i64 k ∧ Below w.heap.size w wr ∧ wr.heap[w.heap.size]? = some (.cells #[.int .u8 10] 5) ∧ gapN s.data.toList = k + gapN (s.data.toList.drop k)) (fun i _ => s.size - (intOf i).toNat)
  case atStart => exact ⟨0, Nat.zero_le _, rfl, hb0, hr, by simp⟩
  case round =>
    clear hr hb0
    obtain ⟨k, hk, rfl, hb, hr, hg⟩ := hrel
    have hz : (s.extract k s.size).size ≤ 4000 := by simp; omega
    have hd := drop_list s k
    have hS : Says wr 65 (.pointer (some ⟨w.heap.size, 0, none⟩)) noteB := fun x w1 h1 => outside1_any _ x w1 (cell_block (block_below h1 hr) rfl)
    have hR := run_65 (s.extract k s.size) hz _ noteB wr hS
    have hd' := piece_list s k s.size
    have h0 := gap_cases (s.extract k s.size).data.toList
    rw [hd'] at h0
    have hq : (s.data.toList.drop k).take (s.size - k) = s.data.toList.drop k := by rw [← hd', hd]
    have hle : gap1 (s.data.toList.drop k) ≤ s.size - k := by
      have := gap1_le (s.data.toList.drop k)
      simp at this
      omega
    rw [hd] at hR
    have hsu := fun h => gapN_succ (l := s.data.toList.drop k) h
    have hze := fun h => gapN_zero (l := s.data.toList.drop k) h
    rw [List.drop_drop] at hsu
    have hg' : Hid ((gap1 (s.data.toList.drop k) ≠ 0 → gapN s.data.toList = (k + gap1 (s.data.toList.drop k)) + gapN (s.data.toList.drop (k + gap1 (s.data.toList.drop k)))) ∧ (gap1 (s.data.toList.drop k) = 0 → gapN s.data.toList = k)) :=
      ⟨fun h => by rw [hg, hsu h]; omega, fun h => by rw [hg, hze h]; omega⟩
    clear hg hsu hze hd hd' hS
    have hq' : Hid _ := hq
    have hle' : Hid _ := hle
    clear hq hle
    rcases h0 with ⟨e1, e2⟩ | ⟨e1, e2, e3⟩ | ⟨e1, e2, e3, e4, e5⟩ | ⟨e1, e2, e3, e4⟩
    · rw [hq'.out] at e2
      replace e2 : Hid _ := e2
      go_wp2_with (go_at_call 46; refine (Tryd.strings_HasPrefix _ _ _).mono ?_; rintro e w' ⟨rfl, rfl⟩)
      have h1 := e2.out
      have h2 := hle'.out
      have h3 := hg'.out.1 (by omega)
      rw [h1] at h3
      go_roundw
      case rel => exact ⟨k + 1, by omega, by go_num, hb, hr, h3⟩
      case measure => simp [intOf]; omega
    · rw [hq'.out] at e3
      replace e3 : Hid _ := e3
      go_wp2_with (go_at_call 46; refine (Tryd.strings_HasPrefix _ _ _).mono ?_; rintro e w' ⟨rfl, rfl⟩)
      have h1 := e3.out
      have h2 := hle'.out
      have h3 := hg'.out.1 (by omega)
      rw [h1] at h3
      go_roundw
      case rel => exact ⟨k + 1, by omega, by go_num, hb, hr, h3⟩
      case measure => simp [intOf]; omega
    · rw [hq'.out] at e4 e5
      have h1 := hle'.out
      have h2 := hg'.out.1 (by omega)
      rw [e4] at h1 h2 e5
      replace h2 : Hid _ := h2
      replace hg' : Hid _ := hg'
      clear e4
      obtain ⟨n, hn⟩ : ∃ n, runN noteB (s.data.toList.drop k) = n := ⟨_, rfl⟩
      rw [hn] at h1 h2 e5 hR
      clear hn
      go_wp2_with (first | (go_at_call 46; refine (Tryd.strings_HasPrefix _ _ _).mono ?_; rintro e w' ⟨rfl, rfl⟩) | (go_at_call 47; refine hR.mono ?_; rintro e w2 ⟨rfl, hb2⟩))
      go_roundw
      case rel => exact ⟨k + n, by omega, by go_num, ext_trans hb hb2, block_below hb2 hr, h2.out⟩
      case measure => simp [intOf]; omega
    · rw [hq'.out] at e4
      replace e4 : Hid _ := e4
      go_wp2_with (go_at_call 46; refine (Tryd.strings_HasPrefix _ _ _).mono ?_; rintro e w' ⟨rfl, rfl⟩)
      go_ret
      exact ⟨ret_int (by rw [hg'.out.2 e4.out]), hb⟩
end Go.Proofs.YtkcieeckndimpaaDoor
