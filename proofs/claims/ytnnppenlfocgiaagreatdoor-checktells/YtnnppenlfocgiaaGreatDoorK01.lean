/- Of tokens, in plain words: lists of bytes alone. Walks of package lex: its closures, and how far bytes go on. -/
import Derived.Lib.ParseIntB
import Derived.Test.YtnnppenlfocgiaaGreatDoorProg
import Derived.WalkKit
import Derived.WalkSpells
import Derived.WalkLawsBesides
import Derived.Outline
import Derived.FnLit
import Derived.LoopTactic
import Derived.LoopN
import Derived.Below
import Derived.Handy
import Derived.Lib.Hide
namespace Go.Proofs.YtnnppenlfocgiaaGreatDoor
open Go

/-- Bytes. -/
def letB (c : UInt8) : Bool := decide (c.toNat = 95) || (decide (97 ≤ c.toNat) && decide (c.toNat ≤ 122)) || (decide (65 ≤ c.toNat) && decide (c.toNat ≤ 90))
def digB (c : UInt8) : Bool := decide (48 ≤ c.toNat) && decide (c.toNat ≤ 57)
def rowB (c : UInt8) : Bool := letB c || digB c
def txtB (c : UInt8) : Bool := decide (32 ≤ c.toNat) && decide (c.toNat ≤ 126) && !decide (c.toNat = 34)
def noteB (c : UInt8) : Bool := !decide (c.toNat = 10)

/-- How many bytes go on. -/
def runN (p : UInt8 → Bool) : List UInt8 → Nat
  | [] => 0
  | c :: r => if p c then runN p r + 1 else 0

theorem runN_le (p : UInt8 → Bool) : ∀ l, runN p l ≤ l.length
  | [] => by simp [runN]
  | c :: r => by
    have := runN_le p r
    simp only [runN, List.length_cons]
    split <;> omega
theorem runN_all (p : UInt8 → Bool) : ∀ l, ∀ i, i < runN p l → ∀ c, l[i]? = some c → p c = true
  | [], i, h, c, e => by simp at e
  | d :: r, i, h, c, e => by
    simp only [runN] at h
    split at h
    · cases i with
      | zero => simp at e; subst e; assumption
      | succ i => exact runN_all p r i (by omega) c (by simpa using e)
    · omega
/-- The count is what it is by its ends. -/
theorem runN_eq (p : UInt8 → Bool) : ∀ (l : List UInt8) (n : Nat), n ≤ l.length → (∀ i c, i < n → l[i]? = some c → p c = true) → (∀ c, l[n]? = some c → p c = false) → runN p l = n
  | [], n, h, _, _ => by simp at h; simp [runN, h]
  | d :: r, 0, _, _, h => by simp [runN, h d (by simp)]
  | d :: r, n + 1, h0, h1, h2 => by
    have e := h1 0 d (by omega) (by simp)
    simp only [runN, e, if_true]
    rw [runN_eq p r n (by simpa using h0) (fun i c hi hc => h1 (i + 1) c (by omega) (by simpa using hc)) (fun c hc => h2 c (by simpa using hc))]

/-- What the digits spell. -/
def numV (l : List UInt8) : Nat := l.foldl (fun a c => a * 10 + (c.toNat - 48)) 0
/-- What is wrong with a row that begins with a digit. -/
def numE (l : List UInt8) : Int :=
  if l.all digB = false then 2 else if 1 < l.length ∧ l.head? = some 48 then 2 else if 9223372036854775807 < numV l then 6 else 0

def signs1 : List UInt8 := [40, 41, 123, 125, 91, 93, 44, 59, 61, 60, 43, 45, 42, 47, 37, 35]
def sign2 (l : List UInt8) : Bool := decide (l.take 2 = [61, 61]) || decide (l.take 2 = [60, 61]) || decide (l.take 2 = [46, 46])
def signN : List UInt8 → Nat
  | [] => 0
  | c :: r => if sign2 (c :: r) then 2 else if signs1.contains c then 1 else 0

/-- What begins at a place: what is wrong, or its kind, its text, its bytes. -/
abbrev TokR : Type := Int ⊕ (Int × List UInt8 × Nat)
abbrev TokR.bad (e : Int) : TokR := Sum.inl e
abbrev TokR.tok (k : Int) (t : List UInt8) (n : Nat) : TokR := Sum.inr (k, t, n)
theorem TokR.byCases {motive : TokR → Prop} (bad : ∀ e, motive (TokR.bad e)) (tok : ∀ k t n, motive (TokR.tok k t n)) (r : TokR) : motive r := by
  rcases r with e | ⟨k, t, n⟩
  · exact bad e
  · exact tok k t n
theorem TokR.inj {k k' : Int} {t t' : List UInt8} {n n' : Nat} (h : TokR.tok k t n = TokR.tok k' t' n') : k = k' ∧ t = t' ∧ n = n' := by
  cases h
  exact ⟨rfl, rfl, rfl⟩

def tokR (l : List UInt8) : TokR :=
  match l with
  | [] => .bad 2
  | c :: r =>
    if letB c then (if 16 < runN rowB l then .bad 1 else .tok 1 (l.take (runN rowB l)) (runN rowB l))
    else if digB c then (if numE (l.take (runN rowB l)) = 0 then .tok 2 (l.take (runN rowB l)) (runN rowB l) else .bad (numE (l.take (runN rowB l))))
    else if c.toNat = 34 then (if r[runN txtB r]? = some 34 then (if 300 < runN txtB r then .bad 1 else .tok 3 (r.take (runN txtB r)) (runN txtB r + 2)) else .bad 2)
    else if signN l = 0 then .bad 2 else .tok 4 (l.take (signN l)) (signN l)

structure Tok where
  k : Int
  t : List UInt8
  a : Nat

/-- All of a text: the tokens, or the first fault. -/
abbrev ScanR : Type := (Int × Nat) ⊕ List Tok
abbrev ScanR.bad (e : Int) (a : Nat) : ScanR := Sum.inl (e, a)
abbrev ScanR.toks (l : List Tok) : ScanR := Sum.inr l
theorem ScanR.byCases {motive : ScanR → Prop} (bad : ∀ e a, motive (ScanR.bad e a)) (toks : ∀ l, motive (ScanR.toks l)) (r : ScanR) : motive r := by
  rcases r with ⟨e, a⟩ | l
  · exact bad e a
  · exact toks l

def ScanR.pre (p : List Tok) : ScanR → ScanR
  | .inl x => .inl x
  | .inr l => .inr (p ++ l)

theorem ScanR.pre_nil (r : ScanR) : ScanR.pre [] r = r := by cases r <;> rfl
theorem ScanR.pre_pre (p q : List Tok) (r : ScanR) : ScanR.pre p (ScanR.pre q r) = ScanR.pre (p ++ q) r := by cases r <;> simp [ScanR.pre]

/-- How many bytes stand between tokens at a text's beginning, one piece. -/
def gap1 : List UInt8 → Nat
  | [] => 0
  | c :: r => if c.toNat = 32 ∨ c.toNat = 10 then 1 else if c.toNat = 45 ∧ r.head? = some 45 then runN noteB (c :: r) else 0

theorem gap1_le (l : List UInt8) : gap1 l ≤ l.length := by
  cases l with
  | nil => simp [gap1]
  | cons c r =>
    have := runN_le noteB (c :: r)
    simp only [gap1]
    split
    · simp
    · split <;> simp_all

def scanF : Nat → Nat → List UInt8 → ScanR
  | 0, _, _ => .toks []
  | f + 1, a, l =>
    if l = [] then .toks []
    else if gap1 l = 0 then
      match tokR l with
      | .inl e => .bad e a
      | .inr (k, t, n) => ScanR.pre [⟨k, t, a⟩] (scanF f (a + n) (l.drop n))
    else scanF f (a + gap1 l) (l.drop (gap1 l))

theorem signN_le : ∀ l : List UInt8, signN l ≤ l.length
  | [] => by simp [signN]
  | [c] => by
    have : sign2 [c] = false := by simp [sign2]
    simp only [signN, this]
    simp
    split <;> omega
  | c :: d :: r => by
    simp only [signN]
    split
    · simp
    · split <;> simp

/-- A token takes a byte or more, and no more than there are. -/
theorem tok_size {l : List UInt8} {k : Int} {t : List UInt8} {n : Nat} (h : tokR l = .tok k t n) : 0 < n ∧ n ≤ l.length := by
  cases l with
  | nil => simp [tokR] at h
  | cons c r =>
    have h1 := runN_le rowB (c :: r)
    have h2 := runN_le txtB r
    unfold tokR at h
    simp only at h
    split at h
    · rename_i hc
      have : 0 < runN rowB (c :: r) := by simp [runN, rowB, hc]
      split at h <;> cases h
      exact ⟨this, h1⟩
    split at h
    · rename_i hc
      have : 0 < runN rowB (c :: r) := by simp [runN, rowB, hc]
      split at h <;> cases h
      exact ⟨this, h1⟩
    split at h
    · split at h
      · rename_i hq
        have : runN txtB r < r.length := by
          by_cases hh : runN txtB r < r.length
          · exact hh
          · rw [List.getElem?_eq_none (by omega)] at hq; cases hq
        split at h <;> cases h
        simp; omega
      · cases h
    split at h
    · cases h
    · cases h
      rename_i hs
      exact ⟨by omega, signN_le _⟩

theorem scanF_more : ∀ (f g a : Nat) (l : List UInt8), l.length ≤ f → l.length ≤ g → scanF f a l = scanF g a l
  | 0, g, a, l, h, _ => by
    obtain rfl : l = [] := List.eq_nil_of_length_eq_zero (by omega)
    cases g <;> simp [scanF]
  | f + 1, 0, a, l, _, h => by
    obtain rfl : l = [] := List.eq_nil_of_length_eq_zero (by omega)
    simp [scanF]
  | f + 1, g + 1, a, l, hf, hg => by
    simp only [scanF]
    by_cases h0 : l = []
    · simp [h0]
    · have hl : 0 < l.length := List.length_pos_iff.2 h0
      simp only [h0, if_false]
      by_cases h1 : gap1 l = 0
      · simp only [h1, if_true]
        cases ht : tokR l using TokR.byCases with
        | bad e => rfl
        | tok k t n =>
          have := tok_size ht
          simp only
          rw [scanF_more f g (a + n) (l.drop n) (by simp; omega) (by simp; omega)]
      · simp only [h1, if_false]
        exact scanF_more f g _ _ (by simp; omega) (by simp; omega)

/-- All of a text, from a place on. -/
def scanR (a : Nat) (l : List UInt8) : ScanR := scanF l.length a l

theorem scanR_nil (a : Nat) : scanR a [] = .toks [] := rfl
theorem scanR_gap {l : List UInt8} (h : gap1 l ≠ 0) (a : Nat) : scanR a l = scanR (a + gap1 l) (l.drop (gap1 l)) := by
  have h0 : l ≠ [] := by rintro rfl; simp [gap1] at h
  have hl : 0 < l.length := List.length_pos_iff.2 h0
  unfold scanR
  rw [scanF_more l.length (l.length - 1 + 1) a l (Nat.le_refl _) (by omega)]
  simp only [scanF, h0, h, if_false]
  exact scanF_more _ _ _ _ (by simp; omega) (by simp)
theorem scanR_bad {l : List UInt8} (h0 : l ≠ []) (h : gap1 l = 0) {e : Int} (ht : tokR l = .bad e) (a : Nat) : scanR a l = .bad e a := by
  have hl : 0 < l.length := List.length_pos_iff.2 h0
  unfold scanR
  rw [scanF_more l.length (l.length - 1 + 1) a l (Nat.le_refl _) (by omega)]
  simp [scanF, h0, h, ht]
theorem scanR_tok {l : List UInt8} (h0 : l ≠ []) (h : gap1 l = 0) {k : Int} {t : List UInt8} {n : Nat} (ht : tokR l = .tok k t n) (a : Nat) : scanR a l = ScanR.pre [⟨k, t, a⟩] (scanR (a + n) (l.drop n)) := by
  have hl : 0 < l.length := List.length_pos_iff.2 h0
  have hn := tok_size ht
  unfold scanR
  rw [scanF_more l.length (l.length - 1 + 1) a l (Nat.le_refl _) (by omega)]
  simp only [scanF, h0, h, ht, if_false, if_true]
  rw [scanF_more _ (l.drop n).length _ _ (by simp; omega) (Nat.le_refl _)]

/-- All that stands between tokens at a text's beginning. -/
def gapF : Nat → List UInt8 → Nat
  | 0, _ => 0
  | f + 1, l => if gap1 l = 0 then 0 else gap1 l + gapF f (l.drop (gap1 l))
theorem gapF_more : ∀ (f g : Nat) (l : List UInt8), l.length ≤ f → l.length ≤ g → gapF f l = gapF g l
  | 0, g, l, h, _ => by
    obtain rfl : l = [] := List.eq_nil_of_length_eq_zero (by omega)
    cases g <;> simp [gapF, gap1]
  | f + 1, 0, l, _, h => by
    obtain rfl : l = [] := List.eq_nil_of_length_eq_zero (by omega)
    simp [gapF, gap1]
  | f + 1, g + 1, l, hf, hg => by
    simp only [gapF]
    by_cases h1 : gap1 l = 0
    · simp [h1]
    · have := gap1_le l
      simp only [h1, if_false]
      rw [gapF_more f g _ (by simp; omega) (by simp; omega)]
def gapN (l : List UInt8) : Nat := gapF l.length l
theorem gapN_zero {l : List UInt8} (h : gap1 l = 0) : gapN l = 0 := by
  unfold gapN
  cases l with
  | nil => rfl
  | cons c r => simp [gapF, h]
theorem gapN_succ {l : List UInt8} (h : gap1 l ≠ 0) : gapN l = gap1 l + gapN (l.drop (gap1 l)) := by
  have h0 : l ≠ [] := by rintro rfl; simp [gap1] at h
  have hl : 0 < l.length := List.length_pos_iff.2 h0
  unfold gapN
  rw [gapF_more l.length (l.length - 1 + 1) l (Nat.le_refl _) (by omega)]
  simp only [gapF, h, if_false]
  rw [gapF_more _ (l.drop (gap1 l)).length _ (by simp; omega) (Nat.le_refl _)]
theorem gapN_le : ∀ (m : Nat) (l : List UInt8), l.length ≤ m → gapN l ≤ l.length ∧ gap1 (l.drop (gapN l)) = 0
  | 0, l, h => by
    obtain rfl : l = [] := List.eq_nil_of_length_eq_zero (by omega)
    simp [gapN, gapF, gap1]
  | m + 1, l, h => by
    by_cases h1 : gap1 l = 0
    · rw [gapN_zero h1]; simp [h1]
    · have h2 := gap1_le l
      have h3 := gapN_le m (l.drop (gap1 l)) (by simp; omega)
      rw [gapN_succ h1]
      rw [List.drop_drop] at h3
      refine ⟨?_, h3.2⟩
      have := h3.1
      simp at this
      omega
theorem scanR_gapN : ∀ (m : Nat) (l : List UInt8) (a : Nat), l.length ≤ m → scanR a l = scanR (a + gapN l) (l.drop (gapN l))
  | 0, l, a, h => by
    obtain rfl : l = [] := List.eq_nil_of_length_eq_zero (by omega)
    simp [scanR, scanF]
  | m + 1, l, a, h => by
    by_cases h1 : gap1 l = 0
    · rw [gapN_zero h1]; simp
    · have h2 := gap1_le l
      rw [gapN_succ h1, scanR_gap h1, scanR_gapN m (l.drop (gap1 l)) _ (by simp; omega), List.drop_drop]
      congr 1
      omega

end Go.Proofs.YtnnppenlfocgiaaGreatDoor
namespace Go.Proofs.YtnnppenlfocgiaaGreatDoor
open Go.RowKit
open Go

theorem ret_int {k : IntKind} {a b : Int} (h : a = b) : Ending.returned (.int k a) = .returned (.int k b) := by rw [h]
theorem ret_bool {a b : Bool} (h : a = b) : Ending.returned (.bool a) = .returned (.bool b) := by rw [h]
theorem hmf : ∀ (fn : Fn) (first cap : Array Value) (w : World), (Instr.makeFunc fn first cap).run Tryz.prog w = .ok (.func fn first cap) w := fun _ _ _ _ => rfl
theorem ext_alloc {a w : World} (h : Below a.heap.size a w) (o : Obj) : Below a.heap.size a (w.alloc o) := h.alloc h.size o
theorem ext_trans {a b c : World} (h : Below a.heap.size a b) (k : Below b.heap.size b c) : Below a.heap.size a c := h.trans (k.mono h.size)

/-- The spans that a closure asks of, in memory. -/
def Spans (c : Nat) (sp : List (Nat × Nat)) (w : World) : Prop :=
  ∃ v, w.cell? ⟨c, 0, none⟩ = some (.slice (some ⟨v, 0, none⟩) sp.length sp.length) ∧ ∀ i p, sp[i]? = some p → w.cell? ⟨v, i * 2, none⟩ = some (.int .u8 (p.1 : Nat)) ∧ w.cell? ⟨v, i * 2 + 1, none⟩ = some (.int .u8 (p.2 : Nat))
theorem Spans.below {c : Nat} {sp : List (Nat × Nat)} {w w' : World} (h : Spans c sp w) {n : Nat} (hb : Below n w w') (hn : w.heap.size ≤ n) : Spans c sp w' := by
  obtain ⟨v, h1, h2⟩ := h
  have e := World.block_lt_of_cell? _ _ h1
  refine ⟨v, (hb.cell (p := ⟨c, 0, none⟩) (Nat.lt_of_lt_of_le e hn)).trans h1, fun i p hp => ?_⟩
  obtain ⟨h3, h4⟩ := h2 i p hp
  have e3 := World.block_lt_of_cell? _ _ h3
  exact ⟨(hb.cell (p := ⟨v, i * 2, none⟩) (Nat.lt_of_lt_of_le e3 hn)).trans h3, (hb.cell (p := ⟨v, i * 2 + 1, none⟩) (Nat.lt_of_lt_of_le e3 hn)).trans h4⟩
def inSp (sp : List (Nat × Nat)) (x : UInt8) : Bool := sp.any fun p => decide (p.1 ≤ x.toNat) && decide (x.toNat ≤ p.2)

theorem inSp_take (sp : List (Nat × Nat)) (x : UInt8) (k : Nat) (p : Nat × Nat) (hp : sp[k]? = some p) : inSp (sp.take (k + 1)) x = (inSp (sp.take k) x || (decide (p.1 ≤ x.toNat) && decide (x.toNat ≤ p.2))) := by
  simp [inSp, List.take_add_one, hp]
theorem inSp_mem (sp : List (Nat × Nat)) (x : UInt8) (k : Nat) (p : Nat × Nat) (hp : sp[k]? = some p) (h1 : p.1 ≤ x.toNat) (h2 : x.toNat ≤ p.2) : inSp sp x = true := by
  simp only [inSp, List.any_eq_true]
  exact ⟨p, List.mem_of_getElem? hp, by simp [h1, h2]⟩

set_option maxHeartbeats 1000000 in
theorem within1_any (c : Nat) (sp : List (Nat × Nat)) (x : UInt8) (w : World) (hs : Spans c sp w) (hl : sp.length ≤ 4) :
    Calls Tryz.prog 76 #[.int .u8 (x.toNat : Int), .pointer (some ⟨c, 0, none⟩)] w fun e w' => e = .returned (.bool (inSp sp x)) ∧ Below w.heap.size w w' := by
  obtain ⟨v, h1, h2⟩ := id hs
  go_enter Tryz.func76, Tryz.ntmps76
  go_wp2
  go_loopw [8] (fun i wr => ∃ k : Nat, k ≤ sp.length ∧ i = .int .i64 k ∧ Below w.heap.size w wr ∧ inSp (sp.take k) x = false) (fun i _ => sp.length - (intOf i).toNat)
  case atStart => exact ⟨0, Nat.zero_le _, rfl, Below.refl _ _, by simp [inSp]⟩
  case round =>
    obtain ⟨k, hk, rfl, hb, hno⟩ := hrel
    by_cases hlt : k < sp.length
    · obtain ⟨⟨a, b⟩, hp⟩ : ∃ p, sp[k]? = some p := ⟨sp[k], by simp [hlt]⟩
      obtain ⟨g1, g2⟩ := h2 k _ hp
      have l1 := World.block_lt_of_cell? _ _ g1
      have g1' : wr.cell? ⟨v, k * 2, none⟩ = some (.int .u8 (a : Nat)) := (hb.cell (p := ⟨v, k * 2, none⟩) l1).trans g1
      have g2' : wr.cell? ⟨v, k * 2 + 1, none⟩ = some (.int .u8 (b : Nat)) := (hb.cell (p := ⟨v, k * 2 + 1, none⟩) l1).trans g2
      have ht := inSp_take sp x k _ hp
      have hm := inSp_mem sp x k _ hp
      simp only at ht hm
      replace ht : Hid _ := ht
      replace hm : Hid _ := hm
      replace hno : Hid _ := hno
      clear h1 h2 g1 g2
      by_cases c1 : (a : Int) ≤ (x.toNat : Int)
      · by_cases c2 : (x.toNat : Int) ≤ (b : Int)
        · go_wp2
          go_ret
          exact ⟨ret_bool (hm.out (by omega) (by omega)).symm, ext_alloc hb _⟩
        · go_wp2
          go_roundw
          case rel => exact ⟨k + 1, by omega, by go_num, ext_alloc hb _, by rw [ht.out, hno.out]; simp; omega⟩
          case measure => simp [intOf]; omega
      · go_wp2
        go_roundw
        case rel => exact ⟨k + 1, by omega, by go_num, ext_alloc hb _, by rw [ht.out, hno.out]; simp; omega⟩
        case measure => simp [intOf]; omega
    · go_wp2
      go_ret
      rw [List.take_of_length_le (by omega)] at hno
      exact ⟨ret_bool hno.symm, hb⟩

theorem outside1_any (c : Nat) (x : UInt8) (w : World) (h : w.cell? ⟨c, 0, none⟩ = some (.int .u8 10)) :
    Calls Tryz.prog 74 #[.int .u8 (x.toNat : Int), .pointer (some ⟨c, 0, none⟩)] w fun e w' => e = .returned (.bool (noteB x)) ∧ Below w.heap.size w w' := by
  by_cases hx : x.toNat = 10
  · have h10 : (x.toNat : Int) = 10 := by omega
    rw [h10]
    go_enter Tryz.func74, Tryz.ntmps74
    go_wp2
    go_ret
    exact ⟨ret_bool (by simp [noteB, hx]), Below.refl _ _⟩
  · have h10 : ((x.toNat : Int) == 10) = false := by simp; omega
    go_enter Tryz.func74, Tryz.ntmps74
    go_wp2
    go_ret
    exact ⟨ret_bool (by simp [noteB, hx]; omega), Below.refl _ _⟩

/-- What a closure answers, whatever is made besides. -/
def Says (w : World) (k : Nat) (cap : Value) (p : UInt8 → Bool) : Prop :=
  ∀ (x : UInt8) (w1 : World), Below w.heap.size w w1 → Calls Tryz.prog k #[.int .u8 (x.toNat : Int), cap] w1 fun e w' => e = .returned (.bool (p x)) ∧ Below w1.heap.size w1 w'
theorem Says.on {w w1 : World} {k : Nat} {cap : Value} {p : UInt8 → Bool} (h : Says w k cap p) (hb : Below w.heap.size w w1) : Says w1 k cap p :=
  fun x w2 h2 => h x w2 (ext_trans hb h2)

theorem take_run (p : UInt8 → Bool) (l : List UInt8) (k : Nat) (c : UInt8) (hc : l[k]? = some c) (h : ∀ i d, i < k → l[i]? = some d → p d = true) :
    (p c = true → ∀ i d, i < k + 1 → l[i]? = some d → p d = true) ∧ (p c = false → runN p l = k) := by
  refine ⟨fun hp i d hi hd => ?_, fun hp => ?_⟩
  · by_cases e : i = k
    · subst e; rw [hc] at hd; cases hd; exact hp
    · exact h i d (by omega) hd
  · have hk : k < l.length := by
      by_cases hh : k < l.length
      · exact hh
      · rw [List.getElem?_eq_none (by omega)] at hc; cases hc
    exact runN_eq p l k (by omega) h (fun d hd => by rw [hc] at hd; cases hd; exact hp)

set_option maxRecDepth 20000 in
set_option maxHeartbeats 1000000 in
theorem run_65 (s : ByteArray) (hs : s.size ≤ 4000) (cap : Value) (p : UInt8 → Bool) (w : World) (hS : Says w 74 cap p) :
    Calls Tryz.prog 57 #[.string s, .func (.func 74) #[] #[cap]] w fun e w' => e = .returned (.int .i64 (runN p s.data.toList : Nat)) ∧ Below w.heap.size w w' := by
  go_enter Tryz.func57, Tryz.ntmps57
  go_wp2
  go_loopw [5] (fun i wr => ∃ k : Nat, k ≤ s.size ∧ i = .int .i64 k ∧ Below w.heap.size w wr ∧ ∀ i d, i < k → s.data.toList[i]? = some d → p d = true) (fun i _ => s.size - (intOf i).toNat)
  case atStart => exact ⟨0, Nat.zero_le _, rfl, Below.refl _ _, fun i d h => by omega⟩
  case round =>
    obtain ⟨k, hk, rfl, hb, hno⟩ := hrel
    by_cases hlt : k < s.size
    · have hc : s.data.toList[k]? = some s[k] := by
        rw [List.getElem?_eq_getElem (by simpa using hlt)]; rfl
      have hT := take_run p s.data.toList k s[k] hc hno
      have hC := hS s[k] wr hb
      clear hc
      replace hT : Hid _ := hT
      replace hno : Hid _ := hno
      cases hp : p s[k]
      · rw [hp] at hC
        replace hp : Hid _ := hp
        go_wp2_with (go_at_call 74; refine hC.mono ?_; rintro e w' ⟨rfl, hb'⟩)
        go_ret
        exact ⟨ret_int (by rw [hT.out.2 hp.out]), ext_trans hb hb'⟩
      · rw [hp] at hC
        replace hp : Hid _ := hp
        go_wp2_with (go_at_call 74; refine hC.mono ?_; rintro e w' ⟨rfl, hb'⟩)
        go_roundw
        case rel => exact ⟨k + 1, by omega, by go_num, ext_trans hb hb', hT.out.1 hp.out⟩
        case measure => simp [intOf]; omega
    · go_wp2_with fail
      go_ret
      obtain rfl : k = s.size := by omega
      refine ⟨ret_int (by rw [runN_eq p s.data.toList s.size (by simp) (fun i d hi hd => hno i d hi hd) (fun c hc => by rw [List.getElem?_eq_none (by simp)] at hc; cases hc)]), hb⟩

set_option maxRecDepth 20000 in
set_option maxHeartbeats 1000000 in
theorem run_67 (s : ByteArray) (hs : s.size ≤ 4000) (cap : Value) (p : UInt8 → Bool) (w : World) (hS : Says w 76 cap p) :
    Calls Tryz.prog 57 #[.string s, .func (.func 76) #[] #[cap]] w fun e w' => e = .returned (.int .i64 (runN p s.data.toList : Nat)) ∧ Below w.heap.size w w' := by
  go_enter Tryz.func57, Tryz.ntmps57
  go_wp2
  go_loopw [5] (fun i wr => ∃ k : Nat, k ≤ s.size ∧ i = .int .i64 k ∧ Below w.heap.size w wr ∧ ∀ i d, i < k → s.data.toList[i]? = some d → p d = true) (fun i _ => s.size - (intOf i).toNat)
  case atStart => exact ⟨0, Nat.zero_le _, rfl, Below.refl _ _, fun i d h => by omega⟩
  case round =>
    obtain ⟨k, hk, rfl, hb, hno⟩ := hrel
    by_cases hlt : k < s.size
    · have hc : s.data.toList[k]? = some s[k] := by
        rw [List.getElem?_eq_getElem (by simpa using hlt)]; rfl
      have hT := take_run p s.data.toList k s[k] hc hno
      have hC := hS s[k] wr hb
      clear hc
      replace hT : Hid _ := hT
      replace hno : Hid _ := hno
      cases hp : p s[k]
      · rw [hp] at hC
        replace hp : Hid _ := hp
        go_wp2_with (go_at_call 76; refine hC.mono ?_; rintro e w' ⟨rfl, hb'⟩)
        go_ret
        exact ⟨ret_int (by rw [hT.out.2 hp.out]), ext_trans hb hb'⟩
      · rw [hp] at hC
        replace hp : Hid _ := hp
        go_wp2_with (go_at_call 76; refine hC.mono ?_; rintro e w' ⟨rfl, hb'⟩)
        go_roundw
        case rel => exact ⟨k + 1, by omega, by go_num, ext_trans hb hb', hT.out.1 hp.out⟩
        case measure => simp [intOf]; omega
    · go_wp2_with fail
      go_ret
      obtain rfl : k = s.size := by omega
      refine ⟨ret_int (by rw [runN_eq p s.data.toList s.size (by simp) (fun i d hi hd => hno i d hi hd) (fun c hc => by rw [List.getElem?_eq_none (by simp)] at hc; cases hc)]), hb⟩
end Go.Proofs.YtnnppenlfocgiaaGreatDoor
