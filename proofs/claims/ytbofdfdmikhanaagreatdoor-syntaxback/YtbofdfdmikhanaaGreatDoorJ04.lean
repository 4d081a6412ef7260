/- Walks of package lex: what stands between tokens; a token that is made. Of programs, in plain words: how tokens are read as nodes. Lists alone. -/
import Derived.Test.YtbofdfdmikhanaaGreatDoorJ01
import Derived.Test.YtbofdfdmikhanaaGreatDoorJ02
import Derived.Test.YtbofdfdmikhanaaGreatDoorJ03
import Derived.Deep.AppendLies
namespace Go.Proofs.YtbofdfdmikhanaaGreatDoor
open Go.RowKit
open Go

theorem set_block {W : World} {B i : Nat} {c : Array Value} {t : TypeId} {z : Nat × Nat} (v : Value) (h : W.heap[B]? = some (.cells c t z)) : (W.setCell ⟨B, i, none⟩ v).heap[B]? = some (.cells (c.setIfInBounds i v) t z) := by
  obtain ⟨hlt, hk⟩ := Array.getElem?_eq_some_iff.1 h
  show (W.heap.modify B _)[B]? = _
  rw [Array.getElem?_eq_getElem (by rw [Array.size_modify]; exact hlt), Array.getElem_modify_self, hk]
  rfl
theorem cell_block {W : World} {B i : Nat} {c : Array Value} {t : TypeId} {z : Nat × Nat} {v : Value} (h : W.heap[B]? = some (.cells c t z)) (hv : c[i]? = some v) : W.cell? ⟨B, i, none⟩ = some v := by
  simp [World.cell?, h, hv]
theorem frozen_block {W : World} {B i : Nat} {c : Array Value} {t : TypeId} (h : W.heap[B]? = some (.cells c t)) : W.frozen? ⟨B, i, none⟩ = false := by
  simp [World.frozen?, h]
theorem block_alloc {W : World} {B : Nat} {o : Obj} (o' : Obj) (h : W.heap[B]? = some o) : (W.alloc o').heap[B]? = some o := (Below.heap_alloc _ _ _ (Array.getElem?_eq_some_iff.1 h).1).trans h
theorem block_below {W W' : World} {B : Nat} {o : Obj} (hb : Below W.heap.size W W') (h : W.heap[B]? = some o) : W'.heap[B]? = some o := (hb.block B (Array.getElem?_eq_some_iff.1 h).1).trans h
theorem block_lt {W : World} {B : Nat} {o : Obj} (h : W.heap[B]? = some o) : B < W.heap.size := (Array.getElem?_eq_some_iff.1 h).1
theorem set1_other (W : World) {B i C : Nat} (v : Value) (h : C ≠ B) : (W.setCell ⟨B, i, none⟩ v).heap[C]? = W.heap[C]? := Below.heap_setCell _ ⟨B, i, none⟩ _ C h

theorem alloc_new (w : World) (o : Obj) : (w.alloc o).heap[w.heap.size]? = some o := by
  show (w.heap.push o)[w.heap.size]? = some o
  simp

abbrev tokv (k : Int) (t : ByteArray) (a : Int) : Value := .agg #[.int .i64 k, .string t, .int .i64 a]
abbrev tbx (k : Int) (t : ByteArray) (a : Int) : Obj := .cells #[.int .i64 k, .string t, .int .i64 a] 44
abbrev zeroTok : Obj := tbx 0 ⟨#[]⟩ 0

/-- What a token's box says, for the walk. -/
structure In3 (W : World) (B : Nat) (k : Int) (t : ByteArray) (a : Int) : Prop where
  c0 : W.cell? ⟨B, 0, none⟩ = some (.int .i64 k)
  c1 : W.cell? ⟨B, 1, none⟩ = some (.string t)
  c2 : W.cell? ⟨B, 2, none⟩ = some (.int .i64 a)
  f0 : W.frozen? ⟨B, 0, none⟩ = false
  f1 : W.frozen? ⟨B, 1, none⟩ = false
  f2 : W.frozen? ⟨B, 2, none⟩ = false
theorem in3 {W : World} {B : Nat} {k : Int} {t : ByteArray} {a : Int} (h : W.heap[B]? = some (tbx k t a)) : In3 W B k t a := ⟨cell_block h rfl, cell_block h rfl, cell_block h rfl, frozen_block h, frozen_block h, frozen_block h⟩
abbrev put3 (W : World) (B : Nat) (k : Int) (t : ByteArray) (a : Int) : World := ((W.setCell ⟨B, 0, none⟩ (.int .i64 k)).setCell ⟨B, 1, none⟩ (.string t)).setCell ⟨B, 2, none⟩ (.int .i64 a)
theorem put3_same {W : World} {B : Nat} {k : Int} {t : ByteArray} {a : Int} (k' : Int) (t' : ByteArray) (a' : Int) (h : W.heap[B]? = some (tbx k t a)) : (put3 W B k' t' a').heap[B]? = some (tbx k' t' a') := set_block _ (set_block _ (set_block _ h))
theorem put3_below {m : Nat} {w W : World} {B : Nat} (k : Int) (t : ByteArray) (a : Int) (h : Below m w W) (hB : m ≤ B) : Below m w (put3 W B k t a) := ((h.setCell (p := ⟨B, 0, none⟩) hB _).setCell (p := ⟨B, 1, none⟩) hB _).setCell (p := ⟨B, 2, none⟩) hB _

theorem res68 {tm : Array Value} {W : World} {B : Nat} {k : Int} {t : ByteArray} {a : Int} (h : tm[4]?.getD undef = .pointer (some ⟨B, 0, none⟩)) (hx : W.heap[B]? = some (tbx k t a)) : (results Tryz.f90 tm).run Tryz.prog W = .ok (tokv k t a) W := by
  obtain ⟨c0, c1, c2, _, _, _⟩ := in3 hx
  simp [results, Tryz.results90, go_sem, h, c0, c1, c2]

set_option maxRecDepth 20000 in
set_option maxHeartbeats 1000000 in
theorem made_any (k : Int) (s : ByteArray) (hs : s.size ≤ 4000) (w : World) :
    Calls Tryz.prog 90 #[.int .i64 k, .string s] w fun e w' => e = .returned (tokv k s 0) ∧ Below w.heap.size w w' := by
  have hC := fun u => Tryz.stringslite_Clone s u (by omega)
  have hr := alloc_new w zeroTok
  have hb0 : Below w.heap.size w (w.alloc zeroTok) := (Below.refl _ _).alloc (Nat.le_refl _) _
  go_enter Tryz.func90, Tryz.ntmps90
  go_wp2_with (first | (go_at_call 107; go_in) | (go_at_call 129; refine (hC _).mono ?_; rintro e w1 ⟨rfl, hb⟩; have hr1 := block_below hb hr; obtain ⟨c0, c1, c2, f0, f1, f2⟩ := in3 hr1))
  exact bodyPost_ret (res68 rfl (put3_same k s 0 hr1)) rfl ⟨rfl, put3_below _ _ _ (hb0.trans (hb.mono hb0.size)) (Nat.le_refl _)⟩

theorem drop_list (s : ByteArray) (k : Nat) : (s.extract k s.size).data.toList = s.data.toList.drop k := by
  simp only [ByteArray.data_extract, Array.toList_extract]
  rw [List.extract_eq_take_drop, List.take_of_length_le (by simp)]
theorem take_list (s : ByteArray) (k : Nat) : (s.extract 0 k).data.toList = s.data.toList.take k := by
  simp [ByteArray.data_extract]
theorem piece_list (s : ByteArray) (a b : Nat) : (s.extract a b).data.toList = (s.data.toList.drop a).take (b - a) := by
  simp [ByteArray.data_extract]

theorem pre1 (l : List UInt8) (c : UInt8) : Lib.hasPrefix l [c] = decide (l.head? = some c) := by
  cases l with
  | nil => rfl
  | cons d r =>
    by_cases h : c = d
    · subst h; simp [Lib.hasPrefix, List.isPrefixOf]
    · have h' : ¬ d = c := fun e => h e.symm
      simp [Lib.hasPrefix, List.isPrefixOf, h, h']
theorem pre2 (l : List UInt8) (c d : UInt8) : Lib.hasPrefix l [c, d] = decide (l.take 2 = [c, d]) := by
  match l with
  | [] => rfl
  | [x] => simp [Lib.hasPrefix, List.isPrefixOf]
  | x :: y :: r =>
    by_cases h : c = x
    · subst h
      by_cases k : d = y
      · subst k; simp [Lib.hasPrefix, List.isPrefixOf]
      · have k' : ¬ y = d := fun e => k e.symm
        simp [Lib.hasPrefix, List.isPrefixOf, k, k']
    · have h' : ¬ x = c := fun e => h e.symm
      simp [Lib.hasPrefix, List.isPrefixOf, h, h']

theorem outside_any (w : World) : Calls Tryz.prog 57 #[.int .u8 10] w fun e w' => e = .returned (.func (.func 87) #[] #[.pointer (some ⟨w.heap.size, 0, none⟩)]) ∧ w' = w.alloc (.cells #[.int .u8 10] 5) := by
  have hmf := hmf
  go_enter Tryz.func57, Tryz.ntmps57
  go_wp2
  go_ret
  exact ⟨rfl, rfl⟩
theorem within_any (v : Value) (w : World) (hv : ∃ a n c, v = .slice a n c) : Calls Tryz.prog 60 #[v] w fun e w' => e = .returned (.func (.func 89) #[] #[.pointer (some ⟨w.heap.size, 0, none⟩)]) ∧ w' = w.alloc (.cells #[v] 124) := by
  have hmf := hmf
  obtain ⟨a, n, c, rfl⟩ := hv
  go_enter Tryz.func60, Tryz.ntmps60
  go_wp2
  go_ret
  exact ⟨rfl, rfl⟩

/-- What a round of gap meets. -/
theorem gap_cases (l : List UInt8) :
    (Lib.hasPrefix l [32] = true ∧ gap1 l = 1) ∨ (Lib.hasPrefix l [32] = false ∧ Lib.hasPrefix l [10] = true ∧ gap1 l = 1) ∨
    (Lib.hasPrefix l [32] = false ∧ Lib.hasPrefix l [10] = false ∧ Lib.hasPrefix l [45, 45] = true ∧ gap1 l = runN noteB l ∧ 0 < gap1 l) ∨
    (Lib.hasPrefix l [32] = false ∧ Lib.hasPrefix l [10] = false ∧ Lib.hasPrefix l [45, 45] = false ∧ gap1 l = 0) := by
  rw [pre1, pre1, pre2]
  match l with
  | [] => simp [gap1]
  | c :: r =>
    by_cases h1 : c = 32
    · subst h1; simp [gap1]
    by_cases h2 : c = 10
    · subst h2; simp [gap1]
    have h1' : ¬ c.toNat = 32 := fun k => h1 (UInt8.toNat_inj.1 k)
    have h2' : ¬ c.toNat = 10 := fun k => h2 (UInt8.toNat_inj.1 k)
    by_cases h3 : (c :: r).take 2 = [45, 45]
    · have h4 : c = 45 ∧ r.head? = some 45 := by
        cases r with
        | nil => simp at h3
        | cons d r => simpa using h3
      have h5 : gap1 (c :: r) = runN noteB (c :: r) := by
        unfold gap1
        simp only
        rw [if_neg (by omega), if_pos ⟨by rw [h4.1]; rfl, h4.2⟩]
      have h6 : 0 < runN noteB (c :: r) := by simp [runN, noteB, h2']
      right; right; left
      exact ⟨by simp [h1], by simp [h2], by simp only [h3, decide_true], h5, by rw [h5]; exact h6⟩
    · right; right; right
      refine ⟨by simp [h1], by simp [h2], by simp only [h3, decide_false], ?_⟩
      unfold gap1
      simp only
      rw [if_neg (by omega), if_neg]
      rintro ⟨h4, h5⟩
      have : c = 45 := UInt8.toNat_inj.1 h4
      cases r with
      | nil => simp at h5
      | cons d r => simp at h5; simp [this, h5] at h3

set_option maxRecDepth 20000 in
set_option maxHeartbeats 1000000 in
theorem gap_any (s : ByteArray) (hs : s.size ≤ 4000) (w : World) :
    Calls Tryz.prog 24 #[.string s] w fun e w' => e = .returned (.int .i64 (gapN s.data.toList : Nat)) ∧ Below w.heap.size w w' := by
  have hmf := hmf
  have hr := alloc_new w (.cells #[.int .u8 10] 5)
  have hb0 : Below w.heap.size w (w.alloc (.cells #[.int .u8 10] 5)) := (Below.refl _ _).alloc (Nat.le_refl _) _
  have hl : s.data.toList.length = s.size := by simp
  replace hl : Hid _ := hl
  go_enter Tryz.func24, Tryz.ntmps24
  go_wp2_with (go_at_call 57; refine (outside_any _).mono ?_; rintro e w' ⟨rfl, rfl⟩)
  go_loopw [4] (fun i wr => ∃ k : Nat, k ≤ s.size ∧ i = .int .i64 k ∧ Below w.heap.size w wr ∧ wr.heap[w.heap.size]? = some (.cells #[.int .u8 10] 5) ∧ gapN s.data.toList = k + gapN (s.data.toList.drop k)) (fun i _ => s.size - (intOf i).toNat)
  case atStart => exact ⟨0, Nat.zero_le _, rfl, hb0, hr, by simp⟩
  case round =>
    clear hr hb0
    obtain ⟨k, hk, rfl, hb, hr, hg⟩ := hrel
    have hz : (s.extract k s.size).size ≤ 4000 := by simp; omega
    have hd := drop_list s k
    have hS : Says wr 87 (.pointer (some ⟨w.heap.size, 0, none⟩)) noteB := fun x w1 h1 => outside1_any _ x w1 (cell_block (block_below h1 hr) rfl)
    have hR := run_65 (s.extract k s.size) hz _ noteB wr hS
    have hd' := piece_list s k s.size
    have h0 := gap_cases (s.extract k s.size).data.toList
    rw [hd'] at h0
    have hq : (s.data.toList.drop k).take (s.size - k) = s.data.toList.drop k := by rw [← hd', hd]
    have hle : gap1 (s.data.toList.drop k) ≤ s.size - k := by
      have := gap1_le (s.data.toList.drop k)
      simp at this
      omega
    rw [hd] at hR
    have hsu := fun h => gapN_succ (l := s.data.toList.drop k) h
    have hze := fun h => gapN_zero (l := s.data.toList.drop k) h
    rw [List.drop_drop] at hsu
    have hg' : Hid ((gap1 (s.data.toList.drop k) ≠ 0 → gapN s.data.toList = (k + gap1 (s.data.toList.drop k)) + gapN (s.data.toList.drop (k + gap1 (s.data.toList.drop k)))) ∧ (gap1 (s.data.toList.drop k) = 0 → gapN s.data.toList = k)) :=
      ⟨fun h => by rw [hg, hsu h]; omega, fun h => by rw [hg, hze h]; omega⟩
    clear hg hsu hze hd hd' hS
    have hq' : Hid _ := hq
    have hle' : Hid _ := hle
    clear hq hle
    rcases h0 with ⟨e1, e2⟩ | ⟨e1, e2, e3⟩ | ⟨e1, e2, e3, e4, e5⟩ | ⟨e1, e2, e3, e4⟩
    · rw [hq'.out] at e2
      replace e2 : Hid _ := e2
      go_wp2_with (go_at_call 58; refine (Tryz.strings_HasPrefix _ _ _).mono ?_; rintro e w' ⟨rfl, rfl⟩)
      have h1 := e2.out
      have h2 := hle'.out
      have h3 := hg'.out.1 (by omega)
      rw [h1] at h3
      go_roundw
      case rel => exact ⟨k + 1, by omega, by go_num, hb, hr, h3⟩
      case measure => simp [intOf]; omega
    · rw [hq'.out] at e3
      replace e3 : Hid _ := e3
      go_wp2_with (go_at_call 58; refine (Tryz.strings_HasPrefix _ _ _).mono ?_; rintro e w' ⟨rfl, rfl⟩)
      have h1 := e3.out
      have h2 := hle'.out
      have h3 := hg'.out.1 (by omega)
      rw [h1] at h3
      go_roundw
      case rel => exact ⟨k + 1, by omega, by go_num, hb, hr, h3⟩
      case measure => simp [intOf]; omega
    · rw [hq'.out] at e4 e5
      have h1 := hle'.out
      have h2 := hg'.out.1 (by omega)
      rw [e4] at h1 h2 e5
      replace h2 : Hid _ := h2
      replace hg' : Hid _ := hg'
      clear e4
      obtain ⟨n, hn⟩ : ∃ n, runN noteB (s.data.toList.drop k) = n := ⟨_, rfl⟩
      rw [hn] at h1 h2 e5 hR
      clear hn
      go_wp2_with (first | (go_at_call 58; refine (Tryz.strings_HasPrefix _ _ _).mono ?_; rintro e w' ⟨rfl, rfl⟩) | (go_at_call 59; refine hR.mono ?_; rintro e w2 ⟨rfl, hb2⟩))
      go_roundw
      case rel => exact ⟨k + n, by omega, by go_num, ext_trans hb hb2, block_below hb2 hr, h2.out⟩
      case measure => simp [intOf]; omega
    · rw [hq'.out] at e4
      replace e4 : Hid _ := e4
      go_wp2_with (go_at_call 58; refine (Tryz.strings_HasPrefix _ _ _).mono ?_; rintro e w' ⟨rfl, rfl⟩)
      go_ret
      exact ⟨ret_int (by rw [hg'.out.2 e4.out]), hb⟩
end Go.Proofs.YtbofdfdmikhanaaGreatDoor
namespace Go.Proofs.YtbofdfdmikhanaaGreatDoor
open Go

/-- A node. -/
structure Nd where
  k : Int
  t : List UInt8
  n : Int
  kids : List Nd

abbrev W.and_ : List UInt8 := [97, 110, 100]
abbrev W.do_ : List UInt8 := [100, 111]
abbrev W.else_ : List UInt8 := [101, 108, 115, 101]
abbrev W.emit_ : List UInt8 := [101, 109, 105, 116]
abbrev W.end_ : List UInt8 := [101, 110, 100]
abbrev W.false_ : List UInt8 := [102, 97, 108, 115, 101]
abbrev W.for_ : List UInt8 := [102, 111, 114]
abbrev W.function_ : List UInt8 := [102, 117, 110, 99, 116, 105, 111, 110]
abbrev W.if_ : List UInt8 := [105, 102]
abbrev W.local_ : List UInt8 := [108, 111, 99, 97, 108]
abbrev W.next_ : List UInt8 := [110, 101, 120, 116]
abbrev W.nil_ : List UInt8 := [110, 105, 108]
abbrev W.not_ : List UInt8 := [110, 111, 116]
abbrev W.or_ : List UInt8 := [111, 114]
abbrev W.return_ : List UInt8 := [114, 101, 116, 117, 114, 110]
abbrev W.then_ : List UInt8 := [116, 104, 101, 110]
abbrev W.true_ : List UInt8 := [116, 114, 117, 101]
abbrev W.while_ : List UInt8 := [119, 104, 105, 108, 101]
abbrev S.lp : List UInt8 := [40]
abbrev S.rp : List UInt8 := [41]
abbrev S.lb : List UInt8 := [91]
abbrev S.rb : List UInt8 := [93]
abbrev S.lc : List UInt8 := [123]
abbrev S.rc : List UInt8 := [125]
abbrev S.cm : List UInt8 := [44]
abbrev S.sc : List UInt8 := [59]
abbrev S.eq : List UInt8 := [61]
abbrev S.ee : List UInt8 := [61, 61]
abbrev S.lt : List UInt8 := [60]
abbrev S.le : List UInt8 := [60, 61]
abbrev S.pl : List UInt8 := [43]
abbrev S.mi : List UInt8 := [45]
abbrev S.mu : List UInt8 := [42]
abbrev S.dv : List UInt8 := [47]
abbrev S.md : List UInt8 := [37]
abbrev S.ct : List UInt8 := [46, 46]
abbrev S.hs : List UInt8 := [35]

def reserved : List (List UInt8) := [W.and_, W.do_, W.else_, W.emit_, W.end_, W.false_, W.for_, W.function_, W.if_, W.local_, W.next_, W.nil_, W.not_, W.or_, W.return_, W.then_, W.true_, W.while_]
/-- May it be a name? -/
def nameB (s : List UInt8) : Bool := decide (1 ≤ s.length) && decide (s.length ≤ 16) && (s.head?.map letB).getD false && s.all rowB && !reserved.contains s

/-- A token, wherever it stands: its kind, its text. -/
abbrev PT : Type := Int × List UInt8
/-- The word or sign here. -/
def tx : List PT → List UInt8
  | [] => []
  | t :: _ => if t.1 = 2 ∨ t.1 = 3 then [] else t.2

/-- An operation's number, and how closely it binds. -/
def opsL : List (List UInt8 × Int × Nat) := [(W.or_, 21, 0), (W.and_, 20, 1), (S.ee, 7, 2), (S.lt, 8, 2), (S.le, 9, 2), (S.ct, 6, 3), (S.pl, 1, 4), (S.mi, 2, 4), (S.mu, 3, 5), (S.dv, 4, 5), (S.md, 5, 5)]
def opAt (s : List UInt8) : Option (Int × Nat) := (opsL.find? (fun p => p.1 == s)).map (fun p => p.2)
def opOf (o : Int) : Option (List UInt8 × Nat) := (opsL.find? (fun p => p.2.1 == o)).map (fun p => (p.1, p.2.2))

abbrev PR : Type := Option (List PT ⊕ (Nd × List PT))
/-- It gives up there. -/
abbrev PR.no (l : List PT) : PR := some (.inl l)
abbrev PR.ok (n : Nd) (l : List PT) : PR := some (.inr (n, l))
def PR.on (x : PR) (g : Nd → List PT → PR) : PR :=
  match x with
  | none => none
  | some (.inl l) => some (.inl l)
  | some (.inr (n, l)) => g n l
def need (s : List UInt8) (l : List PT) (g : List PT → PR) : PR := if tx l = s then g l.tail else .no l
def needName (l : List PT) (g : List UInt8 → List PT → PR) : PR := if nameB (tx l) = true then g (tx l) l.tail else .no l

def nd (k : Int) (kids : List Nd) : Nd := ⟨k, [], 0, kids⟩
def numOf (s : List UInt8) : Int := numV s

/-- What is read: by tag: 0 how closely (a), 1 ahead signs, 2 the row's rest (x, a), 3 what stands first, 4 what stands behind (x), 5 one of these (x), 6 arguments (x's kids), 7 a block (x's kids), 8 a statement, 9 a place or a call (x, a calls), 10 a function, 11 parameters (x), 12 functions (x's kids). -/
def P : Nat → Nat → Nd → Nat → List PT → PR
  | 0, _, _, _, _ => none
  | f + 1, 0, _, a, l => if 5 < a then P f 1 (nd 0 []) 0 l else (P f 0 (nd 0 []) (a + 1) l).on fun n l => P f 2 n a l
  | f + 1, 1, _, _, l =>
    if tx l = S.mi then (P f 1 (nd 0 []) 0 l.tail).on fun x l => .ok (nd 24 [x]) l
    else if tx l = W.not_ then (P f 1 (nd 0 []) 0 l.tail).on fun x l => .ok (nd 23 [x]) l
    else if tx l = S.hs then (P f 1 (nd 0 []) 0 l.tail).on fun x l => .ok (nd 25 [x]) l
    else (P f 3 (nd 0 []) 0 l).on fun n l => P f 4 n 0 l
  | f + 1, 2, x, a, l =>
    match opAt (tx l) with
    | none => .ok x l
    | some (o, k) =>
      if k = a then (P f 0 (nd 0 []) (a + 1) l.tail).on fun y l => if a = 2 then .ok ⟨22, [], o, [x, y]⟩ l else P f 2 ⟨22, [], o, [x, y]⟩ a l
      else .ok x l
  | f + 1, 3, _, _, l =>
    match l with
    | [] => .no l
    | t :: r =>
      if t.1 = 2 then .ok ⟨13, [], numOf t.2, []⟩ r
      else if t.1 = 3 then .ok ⟨14, t.2, 0, []⟩ r
      else if tx l = S.lp then (P f 0 (nd 0 []) 0 r).on fun n l => need S.rp l fun l => .ok n l
      else if tx l = W.nil_ then .ok (nd 15 []) r
      else if tx l = W.true_ then .ok (nd 16 []) r
      else if tx l = W.false_ then .ok (nd 17 []) r
      else if tx l = S.lc then need S.rc r fun l => .ok (nd 19 []) l
      else if tx l = W.next_ then need S.lp r fun l => (P f 0 (nd 0 []) 0 l).on fun x l => need S.cm l fun l => (P f 0 (nd 0 []) 0 l).on fun y l => need S.rp l fun l => .ok (nd 26 [x, y]) l
      else needName l fun s l => .ok ⟨18, s, 0, []⟩ l
  | f + 1, 4, x, _, l => if tx l = S.lb ∨ tx l = S.lp then (P f 5 x 0 l).on fun n l => P f 4 n 0 l else .ok x l
  | f + 1, 5, x, _, l =>
    if tx l = S.lb then (P f 0 (nd 0 []) 0 l.tail).on fun y l => need S.rb l fun l => .ok (nd 20 [x, y]) l
    else need S.lp l fun l => if tx l = S.rp then .ok (nd 21 [x]) l.tail else P f 6 (nd 21 [x]) 0 l
  | f + 1, 6, x, _, l => (P f 0 (nd 0 []) 0 l).on fun y l => if tx l = S.cm then P f 6 (nd 21 (x.kids ++ [y])) 0 l.tail else need S.rp l fun l => .ok (nd 21 (x.kids ++ [y])) l
  | f + 1, 7, x, _, l => if tx l = W.end_ ∨ tx l = W.else_ then .ok x l else (P f 8 (nd 0 []) 0 l).on fun s l => P f 7 (nd 4 (x.kids ++ [s])) 0 l
  | f + 1, 8, _, _, l =>
    if tx l = W.local_ then needName l.tail fun s l => need S.eq l fun l => (P f 0 (nd 0 []) 0 l).on fun x l => need S.sc l fun l => .ok ⟨5, s, 0, [x]⟩ l
    else if tx l = W.if_ then (P f 0 (nd 0 []) 0 l.tail).on fun x l => need W.then_ l fun l => (P f 7 (nd 4 []) 0 l).on fun b l =>
      if tx l = W.else_ then (P f 7 (nd 4 []) 0 l.tail).on fun c l => need W.end_ l fun l => .ok (nd 8 [x, b, c]) l else need W.end_ l fun l => .ok (nd 8 [x, b]) l
    else if tx l = W.while_ then (P f 0 (nd 0 []) 0 l.tail).on fun x l => need W.do_ l fun l => (P f 7 (nd 4 []) 0 l).on fun b l => need W.end_ l fun l => .ok (nd 9 [x, b]) l
    else if tx l = W.for_ then needName l.tail fun s l => need S.eq l fun l => (P f 0 (nd 0 []) 0 l).on fun x l => need S.cm l fun l => (P f 0 (nd 0 []) 0 l).on fun y l => need W.do_ l fun l => (P f 7 (nd 4 []) 0 l).on fun b l => need W.end_ l fun l => .ok ⟨10, s, 0, [x, y, b]⟩ l
    else if tx l = W.return_ then (P f 0 (nd 0 []) 0 l.tail).on fun x l => need S.sc l fun l => .ok (nd 11 [x]) l
    else if tx l = W.emit_ then (P f 0 (nd 0 []) 0 l.tail).on fun x l => need S.sc l fun l => .ok (nd 12 [x]) l
    else needName l fun s l => (P f 9 ⟨18, s, 0, []⟩ 0 l).on fun n l => need S.sc l fun l => .ok n l
  | f + 1, 9, x, a, l =>
    if tx l = S.lb then (P f 5 x 0 l).on fun n l => P f 9 n a l
    else if tx l = S.lp then (P f 5 x 0 l).on fun n l => P f 9 n (a + 1) l
    else if a = 0 then need S.eq l fun l => (P f 0 (nd 0 []) 0 l).on fun y l => .ok (nd 6 [x, y]) l
    else if x.k = 21 then .ok (nd 7 [x]) l else .no l
  | f + 1, 10, _, _, l => need W.function_ l fun l => needName l fun s l => need S.lp l fun l =>
      if tx l = S.rp then (P f 7 (nd 4 []) 0 l.tail).on fun b l => need W.end_ l fun l => .ok ⟨2, s, 0, [b]⟩ l
      else (P f 11 ⟨2, s, 0, []⟩ 0 l).on fun n l => need S.rp l fun l => (P f 7 (nd 4 []) 0 l).on fun b l => need W.end_ l fun l => .ok ⟨2, s, 0, n.kids ++ [b]⟩ l
  | f + 1, 11, x, _, l => needName l fun s l => if tx l = S.cm then P f 11 ⟨2, x.t, 0, x.kids ++ [⟨3, s, 0, []⟩]⟩ 0 l.tail else .ok ⟨2, x.t, 0, x.kids ++ [⟨3, s, 0, []⟩]⟩ l
  | f + 1, 12, x, _, l => if l = [] then .ok x l else (P f 10 (nd 0 []) 0 l).on fun g l => P f 12 (nd 1 (x.kids ++ [g])) 0 l
  | _ + 1, _, _, _, _ => none

theorem PR.on_mono {x y : PR} {g h : Nd → List PT → PR} {r : List PT ⊕ (Nd × List PT)} (hx : ∀ r, x = some r → y = some r) (hg : ∀ n l r, g n l = some r → h n l = some r) (e : x.on g = some r) : y.on h = some r := by
  unfold PR.on at e ⊢
  match x, e, hx with
  | none, e, _ => cases e
  | some (.inl l), e, hx => rw [hx _ rfl]; exact e
  | some (.inr (n, l)), e, hx => rw [hx _ rfl]; exact hg n l r e
theorem need_mono {s : List UInt8} {l : List PT} {g h : List PT → PR} {r : List PT ⊕ (Nd × List PT)} (hg : ∀ l r, g l = some r → h l = some r) (e : need s l g = some r) : need s l h = some r := by
  unfold need at e ⊢
  split at e
  · rename_i c; rw [if_pos c]; exact hg _ _ e
  · rename_i c; rw [if_neg c]; exact e
theorem needName_mono {l : List PT} {g h : List UInt8 → List PT → PR} {r : List PT ⊕ (Nd × List PT)} (hg : ∀ s l r, g s l = some r → h s l = some r) (e : needName l g = some r) : needName l h = some r := by
  unfold needName at e ⊢
  split at e
  · rename_i c; rw [if_pos c]; exact hg _ _ _ e
  · rename_i c; rw [if_neg c]; exact e
theorem ite_mono {c : Prop} [Decidable c] {x x' y y' : PR} {r : List PT ⊕ (Nd × List PT)} (h1 : x = some r → x' = some r) (h2 : y = some r → y' = some r) (e : (if c then x else y) = some r) : (if c then x' else y') = some r := by
  split at e
  · rename_i h; rw [if_pos h]; exact h1 e
  · rename_i h; rw [if_neg h]; exact h2 e

theorem P_succ : ∀ (f tag : Nat) (x : Nd) (a : Nat) (l : List PT) (r : List PT ⊕ (Nd × List PT)), P f tag x a l = some r → P (f + 1) tag x a l = some r := by
  intro f
  induction f with
  | zero => intro tag x a l r h; cases h
  | succ f ih =>
    intro tag x a l r h
    revert h
    match tag with
    | 0 | 1 | 4 | 5 | 6 | 7 | 8 | 9 | 10 | 11 | 12 =>
      rw [P, P]
      repeat' first
        | exact ih _ _ _ _ _
        | exact fun h => h
        | refine ite_mono ?_ ?_
        | refine PR.on_mono (ih _ _ _ _) ?_
        | refine need_mono ?_
        | refine needName_mono ?_
        | intro _ _ _
        | intro _ _
    | 2 =>
      rw [P, P]
      cases opAt (tx l) with
      | none => exact fun h => h
      | some p =>
        obtain ⟨o, k⟩ := p
        repeat' first
          | exact ih _ _ _ _ _
          | exact fun h => h
          | refine ite_mono ?_ ?_
          | refine PR.on_mono (ih _ _ _ _) ?_
          | intro _ _ _
    | 3 =>
      cases l with
      | nil => rw [P, P]; exact fun h => h
      | cons t q =>
        rw [P, P]
        repeat' first
          | exact ih _ _ _ _ _
          | exact fun h => h
          | refine ite_mono ?_ ?_
          | refine PR.on_mono (ih _ _ _ _) ?_
          | refine need_mono ?_
          | refine needName_mono ?_
          | intro _ _ _
          | intro _ _
    | n + 13 =>
      intro h
      rw [P] at h
      · cases h
      all_goals (intro e; omega)
theorem P_mono {f g tag : Nat} {x : Nd} {a : Nat} {l : List PT} {r : List PT ⊕ (Nd × List PT)} (h : f ≤ g) (e : P f tag x a l = some r) : P g tag x a l = some r := by
  induction h with
  | refl => exact e
  | step _ ih => exact P_succ _ _ _ _ _ _ ih

end Go.Proofs.YtbofdfdmikhanaaGreatDoor
