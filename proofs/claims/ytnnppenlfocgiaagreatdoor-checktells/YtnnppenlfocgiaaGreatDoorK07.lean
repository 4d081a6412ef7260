/- Walks of package lex: what stands between tokens; a token that is made. The program's reader in memory; its token, its word. The program's reader: it gives up; it wants a word, a name. -/
import Derived.Test.YtnnppenlfocgiaaGreatDoorK01
import Derived.Test.YtnnppenlfocgiaaGreatDoorK04
import Derived.Test.YtnnppenlfocgiaaGreatDoorK02
import Derived.Deep.AppendLies
import Derived.Test.YtnnppenlfocgiaaGreatDoorK05
import Derived.Test.YtnnppenlfocgiaaGreatDoorK03
import Derived.BigQuiet
import Derived.Shelf.RegionOpen
import Derived.Lib.Hide
import Derived.Deep.RegionHeld3
namespace Go.Proofs.YtnnppenlfocgiaaGreatDoor
open Go.RowKit
open Go

theorem set_block {W : World} {B i : Nat} {c : Array Value} {t : TypeId} {z : Nat × Nat} (v : Value) (h : W.heap[B]? = some (.cells c t z)) : (W.setCell ⟨B, i, none⟩ v).heap[B]? = some (.cells (c.setIfInBounds i v) t z) := by
  obtain ⟨hlt, hk⟩ := Array.getElem?_eq_some_iff.1 h
  show (W.heap.modify B _)[B]? = _
  rw [Array.getElem?_eq_getElem (by rw [Array.size_modify]; exact hlt), Array.getElem_modify_self, hk]
  rfl
theorem cell_block {W : World} {B i : Nat} {c : Array Value} {t : TypeId} {z : Nat × Nat} {v : Value} (h : W.heap[B]? = some (.cells c t z)) (hv : c[i]? = some v) : W.cell? ⟨B, i, none⟩ = some v := by
  simp [World.cell?, h, hv]
theorem frozen_block {W : World} {B i : Nat} {c : Array Value} {t : TypeId} (h : W.heap[B]? = some (.cells c t)) : W.frozen? ⟨B, i, none⟩ = false := by
  simp [World.frozen?, h]
theorem block_alloc {W : World} {B : Nat} {o : Obj} (o' : Obj) (h : W.heap[B]? = some o) : (W.alloc o').heap[B]? = some o := (Below.heap_alloc _ _ _ (Array.getElem?_eq_some_iff.1 h).1).trans h
theorem block_below {W W' : World} {B : Nat} {o : Obj} (hb : Below W.heap.size W W') (h : W.heap[B]? = some o) : W'.heap[B]? = some o := (hb.block B (Array.getElem?_eq_some_iff.1 h).1).trans h
theorem block_lt {W : World} {B : Nat} {o : Obj} (h : W.heap[B]? = some o) : B < W.heap.size := (Array.getElem?_eq_some_iff.1 h).1
theorem set1_other (W : World) {B i C : Nat} (v : Value) (h : C ≠ B) : (W.setCell ⟨B, i, none⟩ v).heap[C]? = W.heap[C]? := Below.heap_setCell _ ⟨B, i, none⟩ _ C h

theorem alloc_new (w : World) (o : Obj) : (w.alloc o).heap[w.heap.size]? = some o := by
  show (w.heap.push o)[w.heap.size]? = some o
  simp

abbrev tokv (k : Int) (t : ByteArray) (a : Int) : Value := .agg #[.int .i64 k, .string t, .int .i64 a]
abbrev tbx (k : Int) (t : ByteArray) (a : Int) : Obj := .cells #[.int .i64 k, .string t, .int .i64 a] 55
abbrev zeroTok : Obj := tbx 0 ⟨#[]⟩ 0

/-- What a token's box says, for the walk. -/
structure In3 (W : World) (B : Nat) (k : Int) (t : ByteArray) (a : Int) : Prop where
  c0 : W.cell? ⟨B, 0, none⟩ = some (.int .i64 k)
  c1 : W.cell? ⟨B, 1, none⟩ = some (.string t)
  c2 : W.cell? ⟨B, 2, none⟩ = some (.int .i64 a)
  f0 : W.frozen? ⟨B, 0, none⟩ = false
  f1 : W.frozen? ⟨B, 1, none⟩ = false
  f2 : W.frozen? ⟨B, 2, none⟩ = false
theorem in3 {W : World} {B : Nat} {k : Int} {t : ByteArray} {a : Int} (h : W.heap[B]? = some (tbx k t a)) : In3 W B k t a := ⟨cell_block h rfl, cell_block h rfl, cell_block h rfl, frozen_block h, frozen_block h, frozen_block h⟩
abbrev put3 (W : World) (B : Nat) (k : Int) (t : ByteArray) (a : Int) : World := ((W.setCell ⟨B, 0, none⟩ (.int .i64 k)).setCell ⟨B, 1, none⟩ (.string t)).setCell ⟨B, 2, none⟩ (.int .i64 a)
theorem put3_same {W : World} {B : Nat} {k : Int} {t : ByteArray} {a : Int} (k' : Int) (t' : ByteArray) (a' : Int) (h : W.heap[B]? = some (tbx k t a)) : (put3 W B k' t' a').heap[B]? = some (tbx k' t' a') := set_block _ (set_block _ (set_block _ h))
theorem put3_below {m : Nat} {w W : World} {B : Nat} (k : Int) (t : ByteArray) (a : Int) (h : Below m w W) (hB : m ≤ B) : Below m w (put3 W B k t a) := ((h.setCell (p := ⟨B, 0, none⟩) hB _).setCell (p := ⟨B, 1, none⟩) hB _).setCell (p := ⟨B, 2, none⟩) hB _

theorem res68 {tm : Array Value} {W : World} {B : Nat} {k : Int} {t : ByteArray} {a : Int} (h : tm[4]?.getD undef = .pointer (some ⟨B, 0, none⟩)) (hx : W.heap[B]? = some (tbx k t a)) : (results Tryz.f77 tm).run Tryz.prog W = .ok (tokv k t a) W := by
  obtain ⟨c0, c1, c2, _, _, _⟩ := in3 hx
  simp [results, Tryz.results77, go_sem, h, c0, c1, c2]

set_option maxRecDepth 20000 in
set_option maxHeartbeats 1000000 in
theorem made_any (k : Int) (s : ByteArray) (hs : s.size ≤ 4000) (w : World) :
    Calls Tryz.prog 77 #[.int .i64 k, .string s] w fun e w' => e = .returned (tokv k s 0) ∧ Below w.heap.size w w' := by
  have hC := fun u => Tryz.stringslite_Clone s u (by omega)
  have hr := alloc_new w zeroTok
  have hb0 : Below w.heap.size w (w.alloc zeroTok) := (Below.refl _ _).alloc (Nat.le_refl _) _
  go_enter Tryz.func77, Tryz.ntmps77
  go_wp2_with (first | (go_at_call 90; go_in) | (go_at_call 106; refine (hC _).mono ?_; rintro e w1 ⟨rfl, hb⟩; have hr1 := block_below hb hr; obtain ⟨c0, c1, c2, f0, f1, f2⟩ := in3 hr1))
  exact bodyPost_ret (res68 rfl (put3_same k s 0 hr1)) rfl ⟨rfl, put3_below _ _ _ (hb0.trans (hb.mono hb0.size)) (Nat.le_refl _)⟩

theorem drop_list (s : ByteArray) (k : Nat) : (s.extract k s.size).data.toList = s.data.toList.drop k := by
  simp only [ByteArray.data_extract, Array.toList_extract]
  rw [List.extract_eq_take_drop, List.take_of_length_le (by simp)]
theorem take_list (s : ByteArray) (k : Nat) : (s.extract 0 k).data.toList = s.data.toList.take k := by
  simp [ByteArray.data_extract]
theorem piece_list (s : ByteArray) (a b : Nat) : (s.extract a b).data.toList = (s.data.toList.drop a).take (b - a) := by
  simp [ByteArray.data_extract]

theorem pre1 (l : List UInt8) (c : UInt8) : Lib.hasPrefix l [c] = decide (l.head? = some c) := by
  cases l with
  | nil => rfl
  | cons d r =>
    by_cases h : c = d
    · subst h; simp [Lib.hasPrefix, List.isPrefixOf]
    · have h' : ¬ d = c := fun e => h e.symm
      simp [Lib.hasPrefix, List.isPrefixOf, h, h']
theorem pre2 (l : List UInt8) (c d : UInt8) : Lib.hasPrefix l [c, d] = decide (l.take 2 = [c, d]) := by
  match l with
  | [] => rfl
  | [x] => simp [Lib.hasPrefix, List.isPrefixOf]
  | x :: y :: r =>
    by_cases h : c = x
    · subst h
      by_cases k : d = y
      · subst k; simp [Lib.hasPrefix, List.isPrefixOf]
      · have k' : ¬ y = d := fun e => k e.symm
        simp [Lib.hasPrefix, List.isPrefixOf, k, k']
    · have h' : ¬ x = c := fun e => h e.symm
      simp [Lib.hasPrefix, List.isPrefixOf, h, h']

theorem outside_any (w : World) : Calls Tryz.prog 55 #[.int .u8 10] w fun e w' => e = .returned (.func (.func 74) #[] #[.pointer (some ⟨w.heap.size, 0, none⟩)]) ∧ w' = w.alloc (.cells #[.int .u8 10] 5) := by
  have hmf := hmf
  go_enter Tryz.func55, Tryz.ntmps55
  go_wp2
  go_ret
  exact ⟨rfl, rfl⟩
theorem within_any (v : Value) (w : World) (hv : ∃ a n c, v = .slice a n c) : Calls Tryz.prog 58 #[v] w fun e w' => e = .returned (.func (.func 76) #[] #[.pointer (some ⟨w.heap.size, 0, none⟩)]) ∧ w' = w.alloc (.cells #[v] 112) := by
  have hmf := hmf
  obtain ⟨a, n, c, rfl⟩ := hv
  go_enter Tryz.func58, Tryz.ntmps58
  go_wp2
  go_ret
  exact ⟨rfl, rfl⟩

/-- What a round of gap meets. -/
theorem gap_cases (l : List UInt8) :
    (Lib.hasPrefix l [32] = true ∧ gap1 l = 1) ∨ (Lib.hasPrefix l [32] = false ∧ Lib.hasPrefix l [10] = true ∧ gap1 l = 1) ∨
    (Lib.hasPrefix l [32] = false ∧ Lib.hasPrefix l [10] = false ∧ Lib.hasPrefix l [45, 45] = true ∧ gap1 l = runN noteB l ∧ 0 < gap1 l) ∨
    (Lib.hasPrefix l [32] = false ∧ Lib.hasPrefix l [10] = false ∧ Lib.hasPrefix l [45, 45] = false ∧ gap1 l = 0) := by
  rw [pre1, pre1, pre2]
  match l with
  | [] => simp [gap1]
  | c :: r =>
    by_cases h1 : c = 32
    · subst h1; simp [gap1]
    by_cases h2 : c = 10
    · subst h2; simp [gap1]
    have h1' : ¬ c.toNat = 32 := fun k => h1 (UInt8.toNat_inj.1 k)
    have h2' : ¬ c.toNat = 10 := fun k => h2 (UInt8.toNat_inj.1 k)
    by_cases h3 : (c :: r).take 2 = [45, 45]
    · have h4 : c = 45 ∧ r.head? = some 45 := by
        cases r with
        | nil => simp at h3
        | cons d r => simpa using h3
      have h5 : gap1 (c :: r) = runN noteB (c :: r) := by
        unfold gap1
        simp only
        rw [if_neg (by omega), if_pos ⟨by rw [h4.1]; rfl, h4.2⟩]
      have h6 : 0 < runN noteB (c :: r) := by simp [runN, noteB, h2']
      right; right; left
      exact ⟨by simp [h1], by simp [h2], by simp only [h3, decide_true], h5, by rw [h5]; exact h6⟩
    · right; right; right
      refine ⟨by simp [h1], by simp [h2], by simp only [h3, decide_false], ?_⟩
      unfold gap1
      simp only
      rw [if_neg (by omega), if_neg]
      rintro ⟨h4, h5⟩
      have : c = 45 := UInt8.toNat_inj.1 h4
      cases r with
      | nil => simp at h5
      | cons d r => simp at h5; simp [this, h5] at h3

set_option maxRecDepth 20000 in
set_option maxHeartbeats 1000000 in
theorem gap_any (s : ByteArray) (hs : s.size ≤ 4000) (w : World) :
    Calls Tryz.prog 36 #[.string s] w fun e w' => e = .returned (.int .i64 (gapN s.data.toList : Nat)) ∧ Below w.heap.size w w' := by
  have hmf := hmf
  have hr := alloc_new w (.cells #[.int .u8 10] 5)
  have hb0 : Below w.heap.size w (w.alloc (.cells #[.int .u8 10] 5)) := (Below.refl _ _).alloc (Nat.le_refl _) _
  have hl : s.data.toList.length = s.size := by simp
  replace hl : Hid _ := hl
  go_enter Tryz.func36, Tryz.ntmps36
  go_wp2_with (go_at_call 55; refine (outside_any _).mono ?_; rintro e w' ⟨rfl, rfl⟩)
  go_loopw [4] (fun i wr => ∃ k : Nat, k ≤ s.size ∧ i = .int .i64 k ∧ Below w.heap.size w wr ∧ wr.heap[w.heap.size]? = some (.cells #[.int .u8 10] 5) ∧ gapN s.data.toList = k + gapN (s.data.toList.drop k)) (fun i _ => s.size - (intOf i).toNat)
  case atStart => exact ⟨0, Nat.zero_le _, rfl, hb0, hr, by simp⟩
  case round =>
    clear hr hb0
    obtain ⟨k, hk, rfl, hb, hr, hg⟩ := hrel
    have hz : (s.extract k s.size).size ≤ 4000 := by simp; omega
    have hd := drop_list s k
    have hS : Says wr 74 (.pointer (some ⟨w.heap.size, 0, none⟩)) noteB := fun x w1 h1 => outside1_any _ x w1 (cell_block (block_below h1 hr) rfl)
    have hR := run_65 (s.extract k s.size) hz _ noteB wr hS
    have hd' := piece_list s k s.size
    have h0 := gap_cases (s.extract k s.size).data.toList
    rw [hd'] at h0
    have hq : (s.data.toList.drop k).take (s.size - k) = s.data.toList.drop k := by rw [← hd', hd]
    have hle : gap1 (s.data.toList.drop k) ≤ s.size - k := by
      have := gap1_le (s.data.toList.drop k)
      simp at this
      omega
    rw [hd] at hR
    have hsu := fun h => gapN_succ (l := s.data.toList.drop k) h
    have hze := fun h => gapN_zero (l := s.data.toList.drop k) h
    rw [List.drop_drop] at hsu
    have hg' : Hid ((gap1 (s.data.toList.drop k) ≠ 0 → gapN s.data.toList = (k + gap1 (s.data.toList.drop k)) + gapN (s.data.toList.drop (k + gap1 (s.data.toList.drop k)))) ∧ (gap1 (s.data.toList.drop k) = 0 → gapN s.data.toList = k)) :=
      ⟨fun h => by rw [hg, hsu h]; omega, fun h => by rw [hg, hze h]; omega⟩
    clear hg hsu hze hd hd' hS
    have hq' : Hid _ := hq
    have hle' : Hid _ := hle
    clear hq hle
    rcases h0 with ⟨e1, e2⟩ | ⟨e1, e2, e3⟩ | ⟨e1, e2, e3, e4, e5⟩ | ⟨e1, e2, e3, e4⟩
    · rw [hq'.out] at e2
      replace e2 : Hid _ := e2
      go_wp2_with (go_at_call 56; refine (Tryz.strings_HasPrefix _ _ _).mono ?_; rintro e w' ⟨rfl, rfl⟩)
      have h1 := e2.out
      have h2 := hle'.out
      have h3 := hg'.out.1 (by omega)
      rw [h1] at h3
      go_roundw
      case rel => exact ⟨k + 1, by omega, by go_num, hb, hr, h3⟩
      case measure => simp [intOf]; omega
    · rw [hq'.out] at e3
      replace e3 : Hid _ := e3
      go_wp2_with (go_at_call 56; refine (Tryz.strings_HasPrefix _ _ _).mono ?_; rintro e w' ⟨rfl, rfl⟩)
      have h1 := e3.out
      have h2 := hle'.out
      have h3 := hg'.out.1 (by omega)
      rw [h1] at h3
      go_roundw
      case rel => exact ⟨k + 1, by omega, by go_num, hb, hr, h3⟩
      case measure => simp [intOf]; omega
    · rw [hq'.out] at e4 e5
      have h1 := hle'.out
      have h2 := hg'.out.1 (by omega)
      rw [e4] at h1 h2 e5
      replace h2 : Hid _ := h2
      replace hg' : Hid _ := hg'
      clear e4
      obtain ⟨n, hn⟩ : ∃ n, runN noteB (s.data.toList.drop k) = n := ⟨_, rfl⟩
      rw [hn] at h1 h2 e5 hR
      clear hn
      go_wp2_with (first | (go_at_call 56; refine (Tryz.strings_HasPrefix _ _ _).mono ?_; rintro e w' ⟨rfl, rfl⟩) | (go_at_call 57; refine hR.mono ?_; rintro e w2 ⟨rfl, hb2⟩))
      go_roundw
      case rel => exact ⟨k + n, by omega, by go_num, ext_trans hb hb2, block_below hb2 hr, h2.out⟩
      case measure => simp [intOf]; omega
    · rw [hq'.out] at e4
      replace e4 : Hid _ := e4
      go_wp2_with (go_at_call 56; refine (Tryz.strings_HasPrefix _ _ _).mono ?_; rintro e w' ⟨rfl, rfl⟩)
      go_ret
      exact ⟨ret_int (by rw [hg'.out.2 e4.out]), hb⟩
end Go.Proofs.YtnnppenlfocgiaaGreatDoor
namespace Go.Proofs.YtnnppenlfocgiaaGreatDoor
open Go.RowKit
open Go

abbrev pt (x : Tok) : PT := (x.k, x.t)
def rest (ts : List Tok) (i : Nat) : List PT := (ts.drop i).map pt
theorem rest_end {ts : List Tok} {i : Nat} (h : ts.length ≤ i) : rest ts i = [] := by unfold rest; rw [List.drop_eq_nil_of_le h]; rfl
theorem rest_cons {ts : List Tok} {i : Nat} {x : Tok} (h : ts[i]? = some x) : rest ts i = pt x :: rest ts (i + 1) := by
  obtain ⟨hi, rfl⟩ := List.getElem?_eq_some_iff.1 h
  unfold rest
  rw [List.drop_eq_getElem_cons hi]
  rfl
theorem rest_len (ts : List Tok) (i : Nat) : (rest ts i).length = ts.length - i := by unfold rest; simp
/-- A token's three cells. -/
abbrev trio (x : Tok) : List Value := [.int .i64 x.k, .string ⟨x.t.toArray⟩, .int .i64 (x.a : Nat)]
/-- Tokens in memory, in a block below. -/
def TokAt (W : World) (b : Option Addr) (ts : List Tok) (lim : Nat) : Prop := ts = [] ∨ ∃ g, b = some ⟨g, 0, none⟩ ∧ g < lim ∧ g < W.heap.size ∧ ∀ j x, ts[j]? = some x → ∀ i u, (trio x)[i]? = some u → W.cell? ⟨g, j * 3 + i, none⟩ = some u
theorem TokAt.keep {W W' : World} {b : Option Addr} {ts : List Tok} {lim : Nat} {S : Nat → Prop} (h : TokAt W b ts lim) (hk : Keeps S W W') (hs : ∀ g, g < lim → ¬ S g) : TokAt W' b ts lim := by
  rcases h with h | ⟨g, e, h1, h2, h3⟩
  · exact .inl h
  · exact .inr ⟨g, e, h1, Nat.lt_of_lt_of_le h2 hk.size, fun j x hx i u hu => hk.cell (h3 j x hx i u hu) (hs g h1)⟩

abbrev sk (s : List UInt8) : Value := .string ⟨s.toArray⟩
abbrev ik (n : Int) : Value := .int .i64 n
/-- The words of the language, in their maps. -/
def reservedKV : List (List UInt8 × Value) := reserved.map fun s => (s, .agg #[])
def operatorsKV : List (List UInt8 × Value) := opsL.map fun p => (p.1, .agg #[.int .i64 p.2.1, .int .i64 ((p.2.2 + 1 : Nat) : Int)])
def signsKV : List (List UInt8 × Value) := [(S.mi, ik 24), (W.not_, ik 23), (S.hs, ik 25)]
def atomsKV : List (List UInt8 × Value) := [(W.nil_, ik 15), (W.true_, ik 16), (W.false_, ik 17)]
def spellOK (kv : List (Int × Value)) : Prop := (kv.map (·.1)).Nodup ∧ ∀ o, kv.lookup o = (opOf o).map fun p => .agg #[.string ⟨p.1.toArray⟩, .int .i64 ((p.2 + 1 : Nat) : Int)]
structure Wd (W : World) (lim m1 m2 m3 m4 m5 : Nat) : Prop where
  l1 : m1 < lim
  l2 : m2 < lim
  l3 : m3 < lim
  l4 : m4 < lim
  l5 : m5 < lim
  h1 : W.heap[m1]? = some (mapObj sk reservedKV)
  h2 : W.heap[m2]? = some (mapObj sk operatorsKV)
  h3 : ∃ kv, spellOK kv ∧ W.heap[m3]? = some (mapObj ik kv)
  h4 : W.heap[m4]? = some (mapObj sk signsKV)
  h5 : W.heap[m5]? = some (mapObj sk atomsKV)
theorem Wd.keep {W W' : World} {lim m1 m2 m3 m4 m5 : Nat} {S : Nat → Prop} (h : Wd W lim m1 m2 m3 m4 m5) (hk : Keeps S W W') (hs : ∀ g, g < lim → ¬ S g) : Wd W' lim m1 m2 m3 m4 m5 := by
  have go : ∀ {m o}, m < lim → W.heap[m]? = some o → W'.heap[m]? = some o := fun hm hx => (hk.block _ (block_lt hx) (hs _ hm)).trans hx
  obtain ⟨kv, hkv, h3⟩ := h.h3
  exact ⟨h.l1, h.l2, h.l3, h.l4, h.l5, go h.l1 h.h1, go h.l2 h.h2, ⟨kv, hkv, go h.l3 h3⟩, go h.l4 h.h4, go h.l5 h.h5⟩

/-- The reader: where it is. -/
abbrev rbx (m1 m2 m3 m4 m5 : Nat) (b : Option Addr) (n cap : Nat) (i : Int) : Obj := .cells #[.map (some m1), .map (some m2), .map (some m3), .map (some m4), .map (some m5), .slice b n cap, .int .i64 i] 84
structure Rd (W : World) (B : Nat) (ts : List Tok) (i : Nat) : Prop where
  box : ∃ m1 m2 m3 m4 m5 b cap, W.heap[B]? = some (rbx m1 m2 m3 m4 m5 b ts.length cap (i : Nat)) ∧ TokAt W b ts B ∧ Wd W B m1 m2 m3 m4 m5 ∧ ts.length ≤ cap
  le : i ≤ ts.length
  short : ts.length ≤ 4000
theorem Rd.keep {W W' : World} {B : Nat} {ts : List Tok} {i : Nat} {S : Nat → Prop} (h : Rd W B ts i) (hk : Keeps S W W') (hs : ∀ g, g ≤ B → ¬ S g) : Rd W' B ts i := by
  obtain ⟨m1, m2, m3, m4, m5, b, cap, h1, h2, h3, h4⟩ := h.box
  exact ⟨⟨m1, m2, m3, m4, m5, b, cap, (hk.block _ (block_lt h1) (hs _ (Nat.le_refl _))).trans h1, h2.keep hk (fun g hg => hs g (by omega)), h3.keep hk (fun g hg => hs g (by omega)), h4⟩, h.le, h.short⟩
theorem Rd.below {W W' : World} {B : Nat} {ts : List Tok} {i : Nat} (h : Rd W B ts i) (hb : Below W.heap.size W W') : Rd W' B ts i := h.keep (Keeps.of_below (S := fun _ => False) hb) (fun _ _ => id)
theorem Rd.lt {W : World} {B : Nat} {ts : List Tok} {i : Nat} (h : Rd W B ts i) : B < W.heap.size := by
  obtain ⟨m1, m2, m3, m4, m5, b, cap, h1, _⟩ := h.box
  exact block_lt h1
theorem Rd.go {W : World} {B : Nat} {ts : List Tok} {i j : Nat} (h : Rd W B ts i) (hj : j ≤ ts.length) : Rd (W.setCell ⟨B, 6, none⟩ (.int .i64 (j : Nat))) B ts j := by
  obtain ⟨m1, m2, m3, m4, m5, b, cap, h1, h2, h3, h4⟩ := h.box
  have hk : Keeps (fun k => k = B) W (W.setCell ⟨B, 6, none⟩ (.int .i64 (j : Nat))) := (Keeps.refl _ W).set B 6 _ (fun _ => rfl)
  exact ⟨⟨m1, m2, m3, m4, m5, b, cap, set_block _ h1, h2.keep hk (fun g hg e => by omega), h3.keep hk (fun g hg e => by omega), h4⟩, hj, h.short⟩

/-- What the walk asks of the reader's cells. -/
structure RdC (W : World) (B : Nat) (m1 m2 m3 m4 m5 : Nat) (b : Option Addr) (n cap : Nat) (i : Int) : Prop where
  c0 : W.cell? ⟨B, 0, none⟩ = some (.map (some m1))
  c1 : W.cell? ⟨B, 1, none⟩ = some (.map (some m2))
  c2 : W.cell? ⟨B, 2, none⟩ = some (.map (some m3))
  c3 : W.cell? ⟨B, 3, none⟩ = some (.map (some m4))
  c4 : W.cell? ⟨B, 4, none⟩ = some (.map (some m5))
  c5 : W.cell? ⟨B, 5, none⟩ = some (.slice b n cap)
  c6 : W.cell? ⟨B, 6, none⟩ = some (.int .i64 i)
  f6 : W.frozen? ⟨B, 6, none⟩ = false
theorem rdC {W : World} {B m1 m2 m3 m4 m5 : Nat} {b : Option Addr} {n cap : Nat} {i : Int} (h : W.heap[B]? = some (rbx m1 m2 m3 m4 m5 b n cap i)) : RdC W B m1 m2 m3 m4 m5 b n cap i :=
  ⟨cell_block h rfl, cell_block h rfl, cell_block h rfl, cell_block h rfl, cell_block h rfl, cell_block h rfl, cell_block h rfl, frozen_block h⟩

theorem drewN_heap {W : World} {B n : Nat} {o : Obj} (h : W.heap[B]? = some o) : (W.drewN n).heap[B]? = some o := h
theorem drewN_below {m n : Nat} {w W : World} (h : Below m w W) : Below m w (W.drewN n) := ⟨h.os, h.tape, h.output, h.size, h.block⟩
/-- The token here. -/
def tokH (ts : List Tok) (i : Nat) : Value := match ts[i]? with
  | some x => tokv x.k ⟨x.t.toArray⟩ (x.a : Nat)
  | none => tokv 0 ⟨#[]⟩ 0
theorem res112 {tm : Array Value} {W : World} {B : Nat} {k : Int} {t : ByteArray} {a : Int} (h : tm[2]?.getD undef = .pointer (some ⟨B, 0, none⟩)) (hx : W.heap[B]? = some (tbx k t a)) : (results Tryz.f96 tm).run Tryz.prog W = .ok (tokv k t a) W := by
  obtain ⟨c0, c1, c2, _, _, _⟩ := in3 hx
  simp [results, Tryz.results96, go_sem, h, c0, c1, c2]

set_option maxRecDepth 20000 in
set_option maxHeartbeats 1000000 in
theorem token_end (B : Nat) (ts : List Tok) (w : World) (hR : Rd w B ts ts.length) : Calls Tryz.prog 96 #[.pointer (some ⟨B, 0, none⟩)] w fun e w' => e = .returned (tokv 0 ⟨#[]⟩ 0) ∧ Below w.heap.size w w' := by
  have hr := alloc_new w zeroTok
  have hb0 : Below w.heap.size w (w.alloc zeroTok) := (Below.refl _ _).alloc (Nat.le_refl _) _
  obtain ⟨m1, m2, m3, m4, m5, b, cap, h1, _⟩ := hR.box
  have hlt := block_lt h1
  obtain ⟨c0, c1, c2, c3, c4, c5, c6, f6⟩ := rdC h1
  clear h1 hR
  go_enter Tryz.func96, Tryz.ntmps96
  go_wp2
  go_quiet (fail)
  go_wp2
  exact bodyPost_ret (res112 rfl (put3_same 0 _ 0 (drewN_heap hr))) rfl ⟨rfl, put3_below _ _ _ (drewN_below hb0) (Nat.le_refl _)⟩
set_option maxRecDepth 20000 in
set_option maxHeartbeats 1000000 in
theorem token_some (B : Nat) (ts : List Tok) (i : Nat) (x : Tok) (hx : ts[i]? = some x) (w : World) (hR : Rd w B ts i) : Calls Tryz.prog 96 #[.pointer (some ⟨B, 0, none⟩)] w fun e w' => e = .returned (tokv x.k ⟨x.t.toArray⟩ (x.a : Nat)) ∧ Below w.heap.size w w' := by
  have hr := alloc_new w zeroTok
  have hb0 : Below w.heap.size w (w.alloc zeroTok) := (Below.refl _ _).alloc (Nat.le_refl _) _
  obtain ⟨m1, m2, m3, m4, m5, b, cap, h1, ht, _, hcap⟩ := hR.box
  have hlt := block_lt h1
  obtain ⟨hi, _⟩ := List.getElem?_eq_some_iff.1 hx
  have hs := hR.short
  obtain ⟨c0, c1, c2, c3, c4, c5, c6, f6⟩ := rdC h1
  rcases ht with rfl | ⟨g, rfl, hg, hgw, hcells⟩
  · simp at hx
  have d0 : w.cell? ⟨g, i * 3, none⟩ = some (.int .i64 x.k) := hcells i x hx 0 _ rfl
  have d1 := hcells i x hx 1 _ rfl
  have d2 := hcells i x hx 2 _ rfl
  have hii : ¬ (i : Int) = (ts.length : Int) := by omega
  have hi' : (i : Int) < (ts.length : Int) := by omega
  obtain ⟨n, hn⟩ : ∃ n, ts.length = n := ⟨_, rfl⟩
  rw [hn] at c5 hii hi' hi hs hcap
  clear h1 hR hcells hx hn
  have n1 : ¬ B = w.heap.size := by omega
  have n2 : ¬ g = w.heap.size := by omega
  have n3 : ¬ w.heap.size = B := by omega
  have n4 : ¬ w.heap.size = g := by omega
  go_enter Tryz.func96, Tryz.ntmps96
  go_wp2
  go_quiet (fail)
  go_wp2
  go_region_held3 (fun u => u.cell? ⟨B, 5, none⟩ = some (.slice (some ⟨g, 0, none⟩) n cap) ∧ u.cell? ⟨B, 6, none⟩ = some (.int .i64 (i : Nat)) ∧ u.cell? ⟨g, i * 3, none⟩ = some (.int .i64 x.k) ∧ u.cell? ⟨g, i * 3 + 1, none⟩ = some (.string ⟨x.t.toArray⟩) ∧ u.cell? ⟨g, i * 3 + 2, none⟩ = some (.int .i64 (x.a : Nat))) (go_keep) (fail)
  go_wp2
  exact bodyPost_ret (res112 rfl (put3_same x.k _ _ (drewN_heap hr))) rfl ⟨rfl, put3_below _ _ _ (drewN_below hb0) (Nat.le_refl _)⟩
theorem token_any (B : Nat) (ts : List Tok) (i : Nat) (w : World) (hR : Rd w B ts i) : Calls Tryz.prog 96 #[.pointer (some ⟨B, 0, none⟩)] w fun e w' => e = .returned (tokH ts i) ∧ Below w.heap.size w w' := by
  have hi := hR.le
  unfold tokH
  cases h : ts[i]? with
  | some x => exact token_some B ts i x h w hR
  | none =>
    have : i = ts.length := by
      have := List.getElem?_eq_none_iff.1 h
      omega
    subst this
    exact token_end B ts w hR

/-- What the token here says. -/
def wd (ts : List Tok) (i : Nat) : List UInt8 := match ts[i]? with
  | some x => if x.k = 3 then [] else x.t
  | none => []
theorem box44 {W : World} {B : Nat} {k : Int} {t : ByteArray} {a : Int} (h : W.heap[B]? = some (tbx k t a)) : W.cell? ⟨B, 0, none⟩ = some (.int .i64 k) ∧ W.cell? ⟨B, 1, none⟩ = some (.string t) := ⟨cell_block h rfl, cell_block h rfl⟩
set_option maxRecDepth 20000 in
set_option maxHeartbeats 1000000 in
theorem word_any (B : Nat) (ts : List Tok) (i : Nat) (w : World) (hR : Rd w B ts i) : Calls Tryz.prog 98 #[.pointer (some ⟨B, 0, none⟩)] w fun e w' => e = .returned (sk (wd ts i)) ∧ Below w.heap.size w w' := by
  have hT := token_any B ts i w hR
  unfold tokH at hT
  unfold wd
  cases h : ts[i]? with
  | some x =>
    rw [h] at hT
    simp only at hT ⊢
    clear h hR
    by_cases hk : x.k = 3
    · rw [if_pos hk]
      rw [hk] at hT
      go_enter Tryz.func98, Tryz.ntmps98
      go_wp2_with (go_at_call 96; refine hT.mono ?_; rintro e w1 ⟨rfl, hb⟩)
      go_ret
      exact ⟨rfl, ext_alloc hb _⟩
    · rw [if_neg hk]
      go_enter Tryz.func98, Tryz.ntmps98
      go_wp2_with (go_at_call 96; refine hT.mono ?_; rintro e w1 ⟨rfl, hb⟩)
      go_ret
      exact ⟨rfl, ext_alloc hb _⟩
  | none =>
    rw [h] at hT
    simp only at hT ⊢
    clear h hR
    go_enter Tryz.func98, Tryz.ntmps98
    go_wp2_with (go_at_call 96; refine hT.mono ?_; rintro e w1 ⟨rfl, hb⟩)
    go_ret
    exact ⟨rfl, ext_alloc hb _⟩

/-- The strings of a row. -/
def StrAt (W : World) (c : Nat) (zs : List ByteArray) : Prop := W.heap[c]? = some (.cells (zs.map Value.string).toArray 9)
theorem StrAt.cells {W : World} {c : Nat} {zs : List ByteArray} (h : StrAt W c zs) : ∀ j, j < zs.length → W.cell? ⟨c, 0 + j, none⟩ = some (.string (zs.getD j ByteArray.empty)) := fun j hj => by
  refine cell_block h ?_
  simp [hj]
set_option maxRecDepth 20000 in
set_option maxHeartbeats 1000000 in
theorem sees_any (B : Nat) (ts : List Tok) (i : Nat) (c : Nat) (zs : List ByteArray) (hz : zs.length ≤ 4) (cap : Nat) (w : World) (hR : Rd w B ts i) (hS : StrAt w c zs) : Calls Tryz.prog 84 #[.pointer (some ⟨B, 0, none⟩), .slice (some ⟨c, 0, none⟩) zs.length cap] w fun e w' => e = .returned (.bool (Lib.containsS zs ⟨(wd ts i).toArray⟩)) ∧ Below w.heap.size w w' := by
  have hT := word_any B ts i w hR
  have hC := fun (u : World) (hb : Below w.heap.size w u) => Tryz.slices_Contains_string c 0 zs.length cap zs ⟨(wd ts i).toArray⟩ u (Nat.le_refl _) (by omega) (StrAt.cells (block_below hb hS))
  rw [List.take_length] at hC
  obtain ⟨V, hV⟩ : ∃ V, Lib.containsS zs ⟨(wd ts i).toArray⟩ = V := ⟨_, rfl⟩
  rw [hV] at hC ⊢
  go_enter Tryz.func84, Tryz.ntmps84
  go_wp2_with (first | (go_at_call 98; refine hT.mono ?_; rintro e w1 ⟨rfl, hb⟩) | (go_at_call 97; refine (hC _ hb).mono ?_; rintro e w2 ⟨rfl, rfl⟩))
  go_ret
  exact ⟨rfl, hb⟩

theorem contains1 (a : List UInt8) (s : List UInt8) : Lib.containsS [⟨a.toArray⟩] ⟨s.toArray⟩ = decide (s = a) := by
  have := Lib.containsS_iff [⟨a.toArray⟩] ⟨s.toArray⟩
  by_cases h : s = a
  · subst h; simp at this; simp [this]
  · rw [decide_eq_false h]
    rw [← Bool.not_eq_true, this]
    simp [h]
theorem contains2 (a b : List UInt8) (s : List UInt8) : Lib.containsS [⟨a.toArray⟩, ⟨b.toArray⟩] ⟨s.toArray⟩ = decide (s = a ∨ s = b) := by
  have := Lib.containsS_iff [⟨a.toArray⟩, ⟨b.toArray⟩] ⟨s.toArray⟩
  by_cases h : s = a ∨ s = b
  · rw [decide_eq_true h, this]; simpa using h
  · rw [decide_eq_false h, ← Bool.not_eq_true, this]
    simpa using h

set_option maxRecDepth 20000 in
set_option maxHeartbeats 1000000 in
theorem takes_no (B : Nat) (ts : List Tok) (i : Nat) (s : List UInt8) (h : ¬ wd ts i = s) (w : World) (hR : Rd w B ts i) : Calls Tryz.prog 85 #[.pointer (some ⟨B, 0, none⟩), sk s] w fun e w' => e = .returned (.bool false) ∧ Below w.heap.size w w' := by
  have hb0 : Below w.heap.size w (w.alloc (.cells #[sk s] 9)) := (Below.refl _ _).alloc (Nat.le_refl _) _
  have hC := sees_any B ts i w.heap.size [⟨s.toArray⟩] (by simp) 1 _ (hR.below hb0) (alloc_new w _)
  rw [contains1, decide_eq_false h] at hC
  go_enter Tryz.func85, Tryz.ntmps85
  go_wp2_with (go_at_call 84; refine hC.mono ?_; rintro e w1 ⟨rfl, hb⟩)
  go_ret
  exact ⟨rfl, ext_trans hb0 hb⟩
set_option maxRecDepth 20000 in
set_option maxHeartbeats 1000000 in
theorem takes_yes (B : Nat) (ts : List Tok) (i : Nat) (s : List UInt8) (h : wd ts i = s) (hi : i < ts.length) (w : World) (hR : Rd w B ts i) : Calls Tryz.prog 85 #[.pointer (some ⟨B, 0, none⟩), sk s] w fun e w' => e = .returned (.bool true) ∧ Rd w' B ts (i + 1) ∧ Keeps (fun k => k = B) w w' := by
  have hb0 : Below w.heap.size w (w.alloc (.cells #[sk s] 9)) := (Below.refl _ _).alloc (Nat.le_refl _) _
  have hC := sees_any B ts i w.heap.size [⟨s.toArray⟩] (by simp) 1 _ (hR.below hb0) (alloc_new w _)
  rw [contains1, decide_eq_true h] at hC
  have hs := hR.short
  go_enter Tryz.func85, Tryz.ntmps85
  go_wp2_with (go_at_call 84; refine hC.mono ?_; rintro e w1 ⟨rfl, hb⟩; have hR1 := hR.below (ext_trans hb0 hb); obtain ⟨m1, m2, m3, m4, m5, b, cap, h1, _⟩ := hR1.box; obtain ⟨c0, c1, c2, c3, c4, c5, c6, f6⟩ := rdC h1)
  go_ret
  exact ⟨rfl, hR1.go (j := i + 1) hi, (Keeps.of_below (ext_trans hb0 hb)).set B 6 _ (fun _ => rfl)⟩
end Go.Proofs.YtnnppenlfocgiaaGreatDoor
namespace Go.Proofs.YtnnppenlfocgiaaGreatDoor
open Go.RowKit
open Go

/-- What is thrown there. -/
def gv (ts : List Tok) (i : Nat) : Value := match ts[i]? with
  | some x => .iface 74 (.agg #[.int .i64 (x.a : Nat)])
  | none => .iface 76 (.agg #[])
theorem fieldTok (a b c : Value) (w : World) : (Instr.field 55 (.agg #[a, b, c]) 2).run Tryz.prog w = .ok c w := by
  simp [Instr.field, run_underlying Tryz.underlying55, go_sem, asAgg]
abbrev pan (v : Value) : List PanicEntry := [{ v := v, recovered := false }]
set_option maxRecDepth 20000 in
set_option maxHeartbeats 1000000 in
theorem giveUp_any (B : Nat) (ts : List Tok) (i : Nat) (w : World) (hR : Rd w B ts i) : Calls Tryz.prog 95 #[.pointer (some ⟨B, 0, none⟩)] w fun e w' => e = .panicked (pan (gv ts i)) ∧ Below w.heap.size w w' := by
  have hT := fun u (hb : Below w.heap.size w u) => token_any B ts i u (hR.below hb)
  unfold tokH at hT
  unfold gv
  obtain ⟨m1, m2, m3, m4, m5, b, cap, h1, ht, _, hcap⟩ := hR.box
  obtain ⟨c0, c1, c2, c3, c4, c5, c6, f6⟩ := rdC h1
  have hi := hR.le
  have hs := hR.short
  cases h : ts[i]? with
  | some x =>
    rw [h] at hT
    simp only at hT ⊢
    have hlt := (List.getElem?_eq_some_iff.1 h).1
    have hii : ¬ (i : Int) = (ts.length : Int) := by omega
    obtain ⟨n, hn⟩ : ∃ n, ts.length = n := ⟨_, rfl⟩
    rw [hn] at c5 hii
    clear h hR h1 ht hn
    have hF := fun v1 v2 v3 u => fieldTok v1 v2 v3 u
    go_enter Tryz.func95, Tryz.ntmps95
    go_wp2
    go_quiet (fail)
    go_wp2_with (go_at_call 96; refine (hT _ (drewN_below (Below.refl _ _))).mono ?_; rintro e w1 ⟨rfl, hb⟩)
    exact ⟨rfl, rfl, ext_trans (drewN_below (Below.refl _ _)) hb⟩
  | none =>
    rw [h] at hT
    simp only at hT ⊢
    have hlt : i = ts.length := by
      have := List.getElem?_eq_none_iff.1 h
      omega
    subst hlt
    obtain ⟨n, hn⟩ : ∃ n, ts.length = n := ⟨_, rfl⟩
    rw [hn] at c5 c6
    clear h hR h1 ht hn
    go_enter Tryz.func95, Tryz.ntmps95
    go_wp2
    go_quiet (fail)
    go_wp2
    exact ⟨rfl, rfl, drewN_below (Below.refl _ _)⟩

set_option maxRecDepth 20000 in
set_option maxHeartbeats 1000000 in
theorem wants_yes (B : Nat) (ts : List Tok) (i : Nat) (s : List UInt8) (h : wd ts i = s) (hi : i < ts.length) (c cap : Nat) (w : World) (hR : Rd w B ts i) (hS : w.heap[c]? = some (.cells #[sk s] 9)) : Calls Tryz.prog 82 #[.pointer (some ⟨B, 0, none⟩), .slice (some ⟨c, 0, none⟩) 1 cap] w fun e w' => e = .returned (.tuple #[]) ∧ Rd w' B ts (i + 1) ∧ Keeps (fun k => k = B) w w' := by
  have hT := takes_yes B ts i s h hi w hR
  have hc : w.cell? ⟨c, 0, none⟩ = some (sk s) := cell_block hS rfl
  clear hS
  go_enter Tryz.func82, Tryz.ntmps82
  go_wp2
  refine wp_loop_rounds 2 ?_
  rw [rounds_succ]
  go_wp2_with (go_at_call 85; refine hT.mono ?_; rintro e w1 ⟨rfl, hR1, hk1⟩)
  rw [rounds_succ]
  go_wp2
  go_end0
  exact ⟨rfl, hR1, hk1⟩
set_option maxRecDepth 20000 in
set_option maxHeartbeats 1000000 in
theorem wants_no (B : Nat) (ts : List Tok) (i : Nat) (s : List UInt8) (h : ¬ wd ts i = s) (c cap : Nat) (w : World) (hR : Rd w B ts i) (hS : w.heap[c]? = some (.cells #[sk s] 9)) : Calls Tryz.prog 82 #[.pointer (some ⟨B, 0, none⟩), .slice (some ⟨c, 0, none⟩) 1 cap] w fun e w' => e = .panicked (pan (gv ts i)) ∧ Below w.heap.size w w' := by
  have hT := takes_no B ts i s h w hR
  have hG := fun u (hb : Below w.heap.size w u) => giveUp_any B ts i u (hR.below hb)
  have hc : w.cell? ⟨c, 0, none⟩ = some (sk s) := cell_block hS rfl
  clear hS
  go_enter Tryz.func82, Tryz.ntmps82
  go_wp2
  refine wp_loop_rounds 2 ?_
  rw [rounds_succ]
  go_wp2_with (first | (go_at_call 85; refine hT.mono ?_; rintro e w1 ⟨rfl, hb⟩) | (go_at_call 95; refine (hG _ hb).mono ?_; rintro e w2 ⟨rfl, hb2⟩))
  exact ⟨rfl, rfl, ext_trans hb hb2⟩

theorem look_res {W : World} {m : Nat} (h : W.heap[m]? = some (mapObj sk reservedKV)) (s : List UInt8) : (Instr.lookup 77 (.map (some m)) (sk s) true).run Tryz.prog W = .ok (.tuple #[.agg #[], .bool (reserved.contains s)]) W := by
  have := run_look (P := Tryz.prog) (w := W) (T := 77) (K := 9) (E := 75) (kf := sk) (kv := reservedKV) (B := m) Tryz.underlying77 Tryz.underlying9 key_str h (by decide) (z := .agg #[]) (by kernel_rfl) s true
  rw [if_pos rfl] at this
  rw [this]
  have e : ∀ l : List (List UInt8), ((l.map fun s => (s, Value.agg #[])).lookup s).getD (.agg #[]) = .agg #[] ∧ ((l.map fun s => (s, Value.agg #[])).lookup s).isSome = l.contains s := fun l => by
    induction l with
    | nil => exact ⟨rfl, rfl⟩
    | cons a l ih =>
      simp only [List.map_cons, List.lookup_cons, List.contains_cons]
      by_cases hs : s = a
      · subst hs; simp
      · have : (s == a) = false := by simpa using hs
        rw [this]; simpa using ih
  rw [reservedKV, (e reserved).1, (e reserved).2]
theorem cellB {W W' : World} (hb : Below W.heap.size W W') {g o : Nat} {v : Value} (h : W.cell? ⟨g, o, none⟩ = some v) : W'.cell? ⟨g, o, none⟩ = some v := (hb.cell (p := ⟨g, o, none⟩) (World.block_lt_of_cell? _ _ h)).trans h
def LkR (m : Nat) (u : World) : Prop := u.heap[m]? = some (mapObj sk reservedKV)
theorem LkR.alloc {m : Nat} (u : World) (o : Obj) (h : LkR m u) : LkR m (u.alloc o) := block_alloc o h
theorem LkR.drew {m : Nat} (u : World) (h : LkR m u) : LkR m u.drew := h
theorem LkR.drewN {m : Nat} (u : World) (n : Nat) (h : LkR m u) : LkR m (u.drewN n) := h
theorem look_lk {m : Nat} {u : World} {s : List UInt8} (h : LkR m u) : (Instr.lookup 77 (.map (some m)) (sk s) true).run Tryz.prog u = .ok (.tuple #[.agg #[], .bool (reserved.contains s)]) u := look_res h s
/-- A name. -/
theorem tokH_some {ts : List Tok} {i : Nat} {x : Tok} (h : ts[i]? = some x) : tokH ts i = tokv x.k ⟨x.t.toArray⟩ (x.a : Nat) := by unfold tokH; rw [h]
theorem tokH_none {ts : List Tok} {i : Nat} (h : ts[i]? = none) : tokH ts i = tokv 0 ⟨#[]⟩ 0 := by unfold tokH; rw [h]
set_option maxRecDepth 20000 in
set_option maxHeartbeats 2000000 in
theorem nmR_no (B : Nat) (ts : List Tok) (i : Nat) (k : Int) (t : List UInt8) (a : Int) (hV : tokH ts i = tokv k ⟨t.toArray⟩ a) (h : reserved.contains t = true ∨ ¬ k = 1) (w : World) (hR : Rd w B ts i) : Calls Tryz.prog 83 #[.pointer (some ⟨B, 0, none⟩)] w fun e w' => e = .panicked (pan (gv ts i)) ∧ Below w.heap.size w w' := by
  have hT := token_any B ts i w hR
  rw [hV] at hT
  have hG := fun u (hb : Below w.heap.size w u) => giveUp_any B ts i u (hR.below hb)
  obtain ⟨V, hV2⟩ : ∃ V, gv ts i = V := ⟨_, rfl⟩
  rw [hV2] at hG ⊢
  clear hV hV2
  by_cases hr : reserved.contains t = true
  · skip
    go_enter Tryz.func83, Tryz.ntmps83
    go_wp2_with (go_at_call 96; refine hT.mono ?_; rintro e w1 ⟨rfl, hb⟩)
    have hR1 := (hR.below hb).below (ext_alloc (Below.refl _ _) (tbx k ⟨t.toArray⟩ a))
    obtain ⟨m1, m2, m3, m4, m5, b, cap, h1, _, hW, _⟩ := hR1.box
    obtain ⟨c0, c1, c2, c3, c4, c5, c6, f6⟩ := rdC h1
    obtain ⟨t0, t1⟩ := box44 (alloc_new w1 (tbx k ⟨t.toArray⟩ a))
    have hb1 := ext_alloc hb (tbx k ⟨t.toArray⟩ a)
    have hL := fun u h => look_lk (m := m1) (u := u) (s := t) h
    rw [hr] at hL
    have q1 := LkR.alloc (m := m1)
    have q2 := LkR.drew (m := m1)
    have q3 := LkR.drewN (m := m1)
    have q0 : LkR m1 (w1.alloc (tbx k ⟨t.toArray⟩ a)) := hW.h1
    have hz1 : ¬ w1.heap.size = (w1.alloc (tbx k ⟨t.toArray⟩ a)).heap.size := by simp
    have hz2 : ¬ B = (w1.alloc (tbx k ⟨t.toArray⟩ a)).heap.size := by have := hb.size; have := hR.lt; simp; omega
    obtain ⟨W1, hW1⟩ : ∃ W1, w1.alloc (tbx k ⟨t.toArray⟩ a) = W1 := ⟨_, rfl⟩
    simp only [tbx] at hW1 hz1 hz2 q0 t0 t1 c0 c1 c2 c3 c4 c5 c6 f6 hb1 hR1
    rw [hW1] at hz1 hz2 q0 t0 t1 c0 c6 f6 hb1 hR1 ⊢
    clear hW1 hW h1 hT hb hR c1 c2 c3 c4 c5
    go_region_held3 (fun u => u.cell? ⟨B, 0, none⟩ = some (.map (some m1)) ∧ u.cell? ⟨w1.heap.size, 1, none⟩ = some (sk t) ∧ LkR m1 u) (go_keep) (fail)
    all_goals
      have hb2 : Below W1.heap.size W1 (W1.alloc (Obj.cells #[] 75)).drew := (ext_alloc (Below.refl _ _) _).drew
      obtain ⟨W2, hW2⟩ : ∃ W2, (W1.alloc (Obj.cells #[] 75)).drew = W2 := ⟨_, rfl⟩
      rw [hW2] at hb2 ⊢
      have u0 := cellB hb2 t0
      have u1 := cellB hb2 t1
      clear hW2 t0 t1 c0 c6 f6 q0 q1 q2 q3 hL
      refine Lib.hid ?_
      go_wp2_with (go_at_call 95; refine (hG _ (ext_trans hb1 hb2)).mono ?_; rintro e w2 ⟨rfl, hb3⟩)
      exact ⟨rfl, rfl, ext_trans (ext_trans hb1 hb2) hb3⟩
  · rw [Bool.not_eq_true] at hr
    have hk : ¬ k = 1 := h.resolve_left (by rw [hr]; decide)
    go_enter Tryz.func83, Tryz.ntmps83
    go_wp2_with (go_at_call 96; refine hT.mono ?_; rintro e w1 ⟨rfl, hb⟩)
    have hR1 := (hR.below hb).below (ext_alloc (Below.refl _ _) (tbx k ⟨t.toArray⟩ a))
    obtain ⟨m1, m2, m3, m4, m5, b, cap, h1, _, hW, _⟩ := hR1.box
    obtain ⟨c0, c1, c2, c3, c4, c5, c6, f6⟩ := rdC h1
    obtain ⟨t0, t1⟩ := box44 (alloc_new w1 (tbx k ⟨t.toArray⟩ a))
    have hb1 := ext_alloc hb (tbx k ⟨t.toArray⟩ a)
    have hL := fun u h => look_lk (m := m1) (u := u) (s := t) h
    rw [hr] at hL
    have q1 := LkR.alloc (m := m1)
    have q2 := LkR.drew (m := m1)
    have q3 := LkR.drewN (m := m1)
    have q0 : LkR m1 (w1.alloc (tbx k ⟨t.toArray⟩ a)) := hW.h1
    have hz1 : ¬ w1.heap.size = (w1.alloc (tbx k ⟨t.toArray⟩ a)).heap.size := by simp
    have hz2 : ¬ B = (w1.alloc (tbx k ⟨t.toArray⟩ a)).heap.size := by have := hb.size; have := hR.lt; simp; omega
    obtain ⟨W1, hW1⟩ : ∃ W1, w1.alloc (tbx k ⟨t.toArray⟩ a) = W1 := ⟨_, rfl⟩
    simp only [tbx] at hW1 hz1 hz2 q0 t0 t1 c0 c1 c2 c3 c4 c5 c6 f6 hb1 hR1
    rw [hW1] at hz1 hz2 q0 t0 t1 c0 c6 f6 hb1 hR1 ⊢
    clear hW1 hW h1 hT hb hR c1 c2 c3 c4 c5
    go_region_held3 (fun u => u.cell? ⟨B, 0, none⟩ = some (.map (some m1)) ∧ u.cell? ⟨w1.heap.size, 1, none⟩ = some (sk t) ∧ LkR m1 u) (go_keep) (fail)
    all_goals
      have hb2 : Below W1.heap.size W1 (W1.alloc (Obj.cells #[] 75)).drew := (ext_alloc (Below.refl _ _) _).drew
      obtain ⟨W2, hW2⟩ : ∃ W2, (W1.alloc (Obj.cells #[] 75)).drew = W2 := ⟨_, rfl⟩
      rw [hW2] at hb2 ⊢
      have u0 := cellB hb2 t0
      have u1 := cellB hb2 t1
      clear hW2 t0 t1 c0 c6 f6 q0 q1 q2 q3 hL
      refine Lib.hid ?_
      go_wp2_with (go_at_call 95; refine (hG _ (ext_trans hb1 hb2)).mono ?_; rintro e w2 ⟨rfl, hb3⟩)
      exact ⟨rfl, rfl, ext_trans (ext_trans hb1 hb2) hb3⟩
set_option maxRecDepth 20000 in
set_option maxHeartbeats 2000000 in
theorem nmR_yes (B : Nat) (ts : List Tok) (i : Nat) (t : List UInt8) (a : Int) (hV : tokH ts i = tokv 1 ⟨t.toArray⟩ a) (hr : reserved.contains t = false) (hi : i < ts.length) (w : World) (hR : Rd w B ts i) : Calls Tryz.prog 83 #[.pointer (some ⟨B, 0, none⟩)] w fun e w' => e = .returned (sk t) ∧ Rd w' B ts (i + 1) ∧ Keeps (fun k => k = B) w w' := by
  have hT := token_any B ts i w hR
  rw [hV] at hT
  have hs := hR.short
  have hBw := hR.lt
  clear hV
  have hgo : True := trivial
  · skip
    go_enter Tryz.func83, Tryz.ntmps83
    go_wp2_with (go_at_call 96; refine hT.mono ?_; rintro e w1 ⟨rfl, hb⟩)
    have hR1 := (hR.below hb).below (ext_alloc (Below.refl _ _) (tbx 1 ⟨t.toArray⟩ a))
    obtain ⟨m1, m2, m3, m4, m5, b, cap, h1, _, hW, _⟩ := hR1.box
    obtain ⟨c0, c1, c2, c3, c4, c5, c6, f6⟩ := rdC h1
    obtain ⟨t0, t1⟩ := box44 (alloc_new w1 (tbx 1 ⟨t.toArray⟩ a))
    have hb1 := ext_alloc hb (tbx 1 ⟨t.toArray⟩ a)
    have hL := fun u h => look_lk (m := m1) (u := u) (s := t) h
    rw [hr] at hL
    have q1 := LkR.alloc (m := m1)
    have q2 := LkR.drew (m := m1)
    have q3 := LkR.drewN (m := m1)
    have q0 : LkR m1 (w1.alloc (tbx 1 ⟨t.toArray⟩ a)) := hW.h1
    have hz1 : ¬ w1.heap.size = (w1.alloc (tbx 1 ⟨t.toArray⟩ a)).heap.size := by simp
    have hz2 : ¬ B = (w1.alloc (tbx 1 ⟨t.toArray⟩ a)).heap.size := by have := hb.size; have := hR.lt; simp; omega
    obtain ⟨W1, hW1⟩ : ∃ W1, w1.alloc (tbx 1 ⟨t.toArray⟩ a) = W1 := ⟨_, rfl⟩
    simp only [tbx] at hW1 hz1 hz2 q0 t0 t1 c0 c1 c2 c3 c4 c5 c6 f6 hb1 hR1
    rw [hW1] at hz1 hz2 q0 t0 t1 c0 c6 f6 hb1 hR1 ⊢
    clear hW1 hW h1 hT hb hR c1 c2 c3 c4 c5
    go_region_held3 (fun u => u.cell? ⟨B, 0, none⟩ = some (.map (some m1)) ∧ u.cell? ⟨w1.heap.size, 1, none⟩ = some (sk t) ∧ LkR m1 u) (go_keep) (fail)
    all_goals
      have hb2 : Below W1.heap.size W1 (W1.alloc (Obj.cells #[] 75)).drew := (ext_alloc (Below.refl _ _) _).drew
      obtain ⟨W2, hW2⟩ : ∃ W2, (W1.alloc (Obj.cells #[] 75)).drew = W2 := ⟨_, rfl⟩
      rw [hW2] at hb2 ⊢
      have u0 := cellB hb2 t0
      have u1 := cellB hb2 t1
      clear hW2 t0 t1 c0 c6 f6 q0 q1 q2 q3 hL
      have hR2 := hR1.below hb2
      obtain ⟨n1, n2, n3, n4, n5, b', cap', h2, _⟩ := hR2.box
      obtain ⟨_, _, _, _, _, _, d6, e6⟩ := rdC h2
      clear h2
      refine Lib.hid ?_
      go_wp2
      go_ret
      exact ⟨rfl, hR2.go (j := i + 1) hi, (Keeps.of_below (ext_trans hb1 hb2)).set B 6 _ (fun _ => rfl)⟩
end Go.Proofs.YtnnppenlfocgiaaGreatDoor
