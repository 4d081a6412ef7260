/- Of programs, in plain words: what is written of an expression is read as the same. Of programs, in plain words: every expression. Of programs, in plain words: what is written of a program is read as the same. Of programs, in plain words: statements, blocks, functions, programs. Of programs, in plain words: functions, and programs. Of programs, in plain words: what is written has just the tokens that were to be written. Of programs, in plain words: what is read is a node of a program, and is written no longer than it was. Of programs, in plain words: what is read is a node of a program, and is written no longer than it was: the readings. -/
import Derived.Test.YtnnppenlfocgiaaGreatDoorK05
import Derived.Test.YtnnppenlfocgiaaGreatDoorK04
namespace Go.Proofs.YtnnppenlfocgiaaGreatDoor
open Go

theorem numV_snoc (l : List UInt8) (c : UInt8) : numV (l ++ [c]) = numV l * 10 + (c.toNat - 48) := by simp [numV]
theorem op_mem {o : Int} {s : List UInt8} {k : Nat} (h : opOf o = some (s, k)) : (s, o, k) ∈ opsL := by
  unfold opOf at h
  cases hf : opsL.find? (fun p => p.2.1 == o) with
  | none => rw [hf] at h; cases h
  | some p =>
    rw [hf] at h
    obtain ⟨s', o', k'⟩ := p
    have h1 := List.mem_of_find?_eq_some hf
    have h2 := List.find?_some hf
    simp at h h2
    obtain ⟨rfl, rfl⟩ := h
    subst h2
    exact h1
theorem op_facts {s : List UInt8} {o : Int} {k : Nat} (h : (s, o, k) ∈ opsL) : opAt s = some (o, k) ∧ s ≠ S.lb ∧ s ≠ S.lp ∧ k ≤ 5 := by
  have : ∀ p ∈ opsL, opAt p.1 = some p.2 ∧ p.1 ≠ S.lb ∧ p.1 ≠ S.lp ∧ p.2.2 ≤ 5 := by decide
  exact this _ h
theorem binds_le (x : Nd) : bindsN x ≤ 7 := by
  unfold bindsN
  split
  · cases h : opOf x.n with
    | none => simp
    | some p => have := (op_facts (op_mem (s := p.1) (k := p.2) h)).2.2.2; simp; omega
  · split <;> omega

/-- From what binds most on down. -/
theorem Qdown {y : Nd} {l rest : List PT} (h : Q 1 nil0 0 l (yes y rest)) : ∀ (d a : Nat), a + d = 6 → lvB a rest → Q 0 nil0 a l (yes y rest)
  | 0, a, ha, _ => Q0u (by omega) h
  | d + 1, a, ha, hl => Q0 (by omega) (Qdown h d (a + 1) (by omega) (fun o k e => by have := hl o k e; omega)) (Q2stop (fun o k e => by have := hl o k e; omega))

/-- What is to be shown of an expression. -/
structure Re (x : Nd) : Prop where
  h : ∀ rest, tx (showT x ++ rest) ≠ S.rp
  c : bindsN x = 7 → ∀ rest r, Q 4 x 0 rest r → Q 1 nil0 0 (showT x ++ rest) r
  b : 6 ≤ bindsN x → ∀ rest, stops rest → Q 1 nil0 0 (showT x ++ rest) (yes x rest)
  a2 : ∀ a, a ≤ 6 → a ≤ bindsN x → ∀ rest, stops rest → lvB a rest → Q 0 nil0 a (showT x ++ rest) (yes x rest)
  a1 : ∀ a, a ≤ 5 → a ≠ 2 → a ≤ bindsN x → ∀ rest r, stops rest → lvB (a + 1) rest → Q 2 x a rest r → Q 0 nil0 a (showT x ++ rest) r

theorem stops_s {s : List UInt8} {l : List PT} (h1 : s ≠ S.lb) (h2 : s ≠ S.lp) : stops (st s :: l) := by unfold stops; rw [tx_s]; exact ⟨h1, h2⟩
theorem lvB_s {s : List UInt8} {l : List PT} (a : Nat) (h : opAt s = none) : lvB a (st s :: l) := fun o k e => by rw [tx_s, h] at e; cases e
theorem Re.whole {y : Nd} (h : Re y) {rest : List PT} (h1 : stops rest) (h2 : lvB 0 rest) : Q 0 nil0 0 (showT y ++ rest) (yes y rest) := h.a2 0 (by omega) (Nat.zero_le _) rest h1 h2
theorem Re.par {y : Nd} (h : Re y) {rest : List PT} {r : List PT ⊕ (Nd × List PT)} (h4 : Q 4 y 0 rest r) : Q 1 nil0 0 (parT (showT y) ++ rest) r := by
  have e : parT (showT y) ++ rest = st S.lp :: (showT y ++ (st S.rp :: rest)) := by simp [parT]
  rw [e]
  refine Q1first (by rw [tx_s]; decide) (by rw [tx_s]; decide) (by rw [tx_s]; decide) (Q3par (h.whole (stops_s (by decide) (by decide)) (lvB_s 0 (by decide)))) h4
theorem Re.t7 {y : Nd} (h : Re y) {rest : List PT} {r : List PT ⊕ (Nd × List PT)} (h4 : Q 4 y 0 rest r) : Q 1 nil0 0 (atT 7 (info y) ++ rest) r := by
  unfold atT info
  simp only
  by_cases c : bindsN y < 7
  · rw [if_pos c]; exact h.par h4
  · rw [if_neg c]; exact h.c (by have := binds_le y; omega) rest r h4
theorem Re.t6 {y : Nd} (h : Re y) {rest : List PT} (h1 : stops rest) : Q 1 nil0 0 (atT 6 (info y) ++ rest) (yes y rest) := by
  unfold atT info
  simp only
  by_cases c : bindsN y < 6
  · rw [if_pos c]; exact h.par (Q4stop h1)
  · rw [if_neg c]; exact h.b (by omega) rest h1
theorem Re.t2 {y : Nd} (h : Re y) {a least : Nat} (ha : a ≤ 6) (hl : a ≤ least) {rest : List PT} (h1 : stops rest) (h2 : lvB a rest) : Q 0 nil0 a (atT least (info y) ++ rest) (yes y rest) := by
  unfold atT info
  simp only
  by_cases c : bindsN y < least
  · rw [if_pos c]; exact Qdown (h.par (Q4stop h1)) (6 - a) a (by omega) h2
  · rw [if_neg c]; exact h.a2 a ha (by omega) rest h1 h2
theorem Re.t1 {y : Nd} (h : Re y) {a least : Nat} (ha : a ≤ 5) (ha2 : a ≠ 2) (hl : a ≤ least) {rest : List PT} {r : List PT ⊕ (Nd × List PT)} (h1 : stops rest) (h2 : lvB (a + 1) rest) (h3 : Q 2 y a rest r) : Q 0 nil0 a (atT least (info y) ++ rest) r := by
  unfold atT info
  simp only
  by_cases c : bindsN y < least
  · rw [if_pos c]; exact Q0 (by omega) (Qdown (h.par (Q4stop h1)) (6 - (a + 1)) (a + 1) (by omega) h2) h3
  · rw [if_neg c]; exact h.a1 a ha ha2 (by omega) rest r h1 h2 h3

theorem Re.make {x : Nd} (hh : ∀ rest, tx (showT x ++ rest) ≠ S.rp) (hc : bindsN x = 7 → ∀ rest r, Q 4 x 0 rest r → Q 1 nil0 0 (showT x ++ rest) r)
    (hb : bindsN x = 6 → ∀ rest, stops rest → Q 1 nil0 0 (showT x ++ rest) (yes x rest))
    (h2 : bindsN x = 2 → ∀ rest, stops rest → lvB 2 rest → Q 0 nil0 2 (showT x ++ rest) (yes x rest))
    (h1 : bindsN x ≤ 5 → bindsN x ≠ 2 → ∀ rest r, stops rest → lvB (bindsN x + 1) rest → Q 2 x (bindsN x) rest r → Q 0 nil0 (bindsN x) (showT x ++ rest) r) : Re x := by
  have b : 6 ≤ bindsN x → ∀ rest, stops rest → Q 1 nil0 0 (showT x ++ rest) (yes x rest) := fun h rest hs => by
    by_cases e : bindsN x = 6
    · exact hb e rest hs
    · exact hc (by have := binds_le x; omega) rest _ (Q4stop hs)
  have low : bindsN x ≤ 5 → ∀ d a, a + d = bindsN x → ∀ rest, stops rest → lvB a rest → Q 0 nil0 a (showT x ++ rest) (yes x rest) := fun h d => by
    induction d with
    | zero =>
      intro a ha rest hs hl
      obtain rfl : a = bindsN x := by omega
      by_cases e : bindsN x = 2
      · have := h2 e rest hs (by rw [← e]; exact hl)
        rw [e]; exact this
      · exact h1 h e rest _ hs (fun o k q => by have := hl o k q; omega) (Q2stop (fun o k q => by have := hl o k q; omega))
    | succ d ih =>
      intro a ha rest hs hl
      exact Q0 (by omega) (ih (a + 1) (by omega) rest hs (fun o k q => by have := hl o k q; omega)) (Q2stop (fun o k q => by have := hl o k q; omega))
  have a2 : ∀ a, a ≤ 6 → a ≤ bindsN x → ∀ rest, stops rest → lvB a rest → Q 0 nil0 a (showT x ++ rest) (yes x rest) := fun a ha hx rest hs hl => by
    by_cases c : 6 ≤ bindsN x
    · exact Qdown (b c rest hs) (6 - a) a (by omega) hl
    · exact low (by omega) (bindsN x - a) a (by omega) rest hs hl
  refine ⟨hh, hc, b, a2, fun a ha hne hx rest r hs hl hr => ?_⟩
  by_cases e : a = bindsN x
  · subst e; exact h1 ha hne rest r hs hl hr
  · exact Q0 (by omega) (a2 (a + 1) (by omega) (by omega) rest hs hl) hr

/-- Of one token alone. -/
theorem Re.atom {x : Nd} (p : PT) (hx : showT x = [p]) (hb : bindsN x = 7) (h1 : ∀ l, tx (p :: l) ≠ S.mi ∧ tx (p :: l) ≠ W.not_ ∧ tx (p :: l) ≠ S.hs ∧ tx (p :: l) ≠ S.rp) (h3 : ∀ rest, Q 3 nil0 0 (p :: rest) (yes x rest)) : Re x := by
  refine Re.make (fun rest => ?_) (fun _ rest r hr => ?_) (fun h => by omega) (fun h => by omega) (fun h => by omega)
  · rw [hx]; exact (h1 _).2.2.2
  · rw [hx]
    exact Q1first (h1 _).1 (h1 _).2.1 (h1 _).2.2.1 (h3 rest) hr

theorem binds7 {k : Int} (t : List UInt8) (n : Int) (kids : List Nd) (h1 : k ≠ 22) (h2 : k ≠ 23) (h3 : k ≠ 24) (h4 : k ≠ 25) : bindsN ⟨k, t, n, kids⟩ = 7 := by
  unfold bindsN
  simp only
  rw [if_neg h1, if_neg (by omega)]
end Go.Proofs.YtnnppenlfocgiaaGreatDoor
namespace Go.Proofs.YtnnppenlfocgiaaGreatDoor
open Go

theorem show_call (t : List UInt8) (n : Int) (y : Nd) (l : List Nd) : showT ⟨21, t, n, y :: l⟩ = atT 7 (info y) ++ roundT (l.map info) := by rw [showT_eq]; rfl
theorem show_index (t : List UInt8) (n : Int) (y z : Nd) : showT ⟨20, t, n, [y, z]⟩ = atT 7 (info y) ++ st S.lb :: (showT z ++ [st S.rb]) := by rw [showT_eq]; rfl
theorem show_op (t : List UInt8) (n : Int) (y z : Nd) : showT ⟨22, t, n, [y, z]⟩ = atT (if lvlN n = 2 then 3 else lvlN n) (info y) ++ opT n :: atT (lvlN n + 1) (info z) := by rw [showT_eq]; rfl
theorem show_next (t : List UInt8) (n : Int) (y z : Nd) : showT ⟨26, t, n, [y, z]⟩ = wt W.next_ :: st S.lp :: (showT y ++ st S.cm :: (showT z ++ [st S.rp])) := by
  rw [showT_eq]
  show wt W.next_ :: roundT [info y, info z] = _
  simp [roundT, commaT, info]
theorem show_not (t : List UInt8) (n : Int) (y : Nd) : showT ⟨23, t, n, [y]⟩ = wt W.not_ :: atT 6 (info y) := by rw [showT_eq]; rfl
theorem show_neg (t : List UInt8) (n : Int) (y : Nd) : showT ⟨24, t, n, [y]⟩ = st S.mi :: atT 6 (info y) := by rw [showT_eq]; rfl
theorem show_len (t : List UInt8) (n : Int) (y : Nd) : showT ⟨25, t, n, [y]⟩ = st S.hs :: atT 6 (info y) := by rw [showT_eq]; rfl

end Go.Proofs.YtnnppenlfocgiaaGreatDoor
namespace Go.Proofs.YtnnppenlfocgiaaGreatDoor
open Go

/-- Kinds of statements. -/
def statK (k : Int) : Prop := 5 ≤ k ∧ k ≤ 12
/-- How many calls stand behind a name; none: no name stands first. -/
def chainC : Nd → Option Nat
  | ⟨k, _, _, kids⟩ => if k = 18 then some 0 else if k = 20 then go kids else if k = 21 then (go kids).map (· + 1) else none
where go : List Nd → Option Nat
  | [] => none
  | x :: _ => chainC x

/-- May a node of a kind stand there? -/
def fitsK (k : Int) (len i : Nat) (kk : Int) : Prop :=
  if k = 1 then kk = 2
  else if k = 2 then (if i + 1 = len then kk = 4 else kk = 3)
  else if k = 4 then statK kk
  else if k = 8 ∨ k = 9 then (if 0 < i then kk = 4 else exprK kk)
  else if k = 10 then (if i = 2 then kk = 4 else exprK kk)
  else exprK kk
def kidsOK (k : Int) (len : Nat) : Prop :=
  k = 1 ∨ k = 4 ∨ (k = 2 ∧ 1 ≤ len) ∨ ((k = 3 ∨ k = 18 ∨ k = 13 ∨ k = 14 ∨ k = 15 ∨ k = 16 ∨ k = 17 ∨ k = 19) ∧ len = 0) ∨ ((k = 5 ∨ k = 7 ∨ k = 11 ∨ k = 12 ∨ k = 23 ∨ k = 24 ∨ k = 25) ∧ len = 1) ∨ (k = 10 ∧ len = 3) ∨
  ((k = 6 ∨ k = 9 ∨ k = 20 ∨ k = 22 ∨ k = 26) ∧ len = 2) ∨ (k = 8 ∧ (len = 2 ∨ len = 3)) ∨ (k = 21 ∧ 1 ≤ len)
def hasName (k : Int) : Prop := k = 2 ∨ k = 3 ∨ k = 18 ∨ k = 5 ∨ k = 10
/-- May it stand between quotes? -/
def quotB (t : List UInt8) : Bool := t.all txtB && decide (t.length ≤ 300)
/-- Is a node one of a program? -/
def isN : Nd → Prop
  | ⟨k, t, n, kids⟩ => kidsOK k kids.length ∧ (hasName k → nameB t = true) ∧ (¬ hasName k → k ≠ 14 → t = []) ∧ ((k = 22 → (opOf n).isSome = true) ∧ (k = 14 → quotB t = true)) ∧ (k = 13 → 0 ≤ n ∧ n ≤ 9223372036854775807) ∧ (k ≠ 22 → k ≠ 13 → n = 0) ∧
    (k = 6 → (kids.head?.bind chainC) = some 0) ∧ (k = 7 → (kids.head?.bind chainC).isSome = true ∧ kids.head?.map (fun x => x.k) = some 21) ∧ go k kids.length 0 kids
where go (k : Int) (len : Nat) : Nat → List Nd → Prop
  | _, [] => True
  | i, x :: l => fitsK k len i x.k ∧ isN x ∧ go k len (i + 1) l
theorem isN_go (k : Int) (len : Nat) : ∀ (l : List Nd) (i : Nat), isN.go k len i l ↔ ∀ j x, l[j]? = some x → fitsK k len (i + j) x.k ∧ isN x
  | [], i => by simp [isN.go]
  | x :: l, i => by
    rw [isN.go, isN_go k len l (i + 1)]
    constructor
    · rintro ⟨h1, h2, h3⟩ j y hy
      cases j with
      | zero => simp at hy; subst hy; exact ⟨h1, h2⟩
      | succ j => have := h3 j y (by simpa using hy); rw [show i + (j + 1) = i + 1 + j by omega]; exact this
    · intro h
      have h0 := h 0 x (by simp)
      refine ⟨h0.1, h0.2, fun j y hy => ?_⟩
      have := h (j + 1) y (by simpa using hy)
      rw [show i + 1 + j = i + (j + 1) by omega]
      exact this

end Go.Proofs.YtnnppenlfocgiaaGreatDoor
namespace Go.Proofs.YtnnppenlfocgiaaGreatDoor
open Go

/-- What is to be shown of a statement, and of a block. -/
structure Rs (x : Nd) : Prop where
  s : statK x.k → (∀ rest, Q 8 nil0 0 (showT x ++ rest) (yes x rest)) ∧ ∀ rest, tx (showT x ++ rest) ≠ W.end_ ∧ tx (showT x ++ rest) ≠ W.else_
  b : x.k = 4 → ∀ rest, (tx rest = W.end_ ∨ tx rest = W.else_) → Q 7 (nd 4 []) 0 (showT x ++ rest) (yes x rest)

theorem show_local (t : List UInt8) (n : Int) (y : Nd) : showT ⟨5, t, n, [y]⟩ = [wt W.local_, wt t, st S.eq] ++ showT y ++ [st S.sc] := by rw [showT_eq]; rfl
theorem show_set (t : List UInt8) (n : Int) (y z : Nd) : showT ⟨6, t, n, [y, z]⟩ = showT y ++ st S.eq :: (showT z ++ [st S.sc]) := by rw [showT_eq]; rfl
theorem show_do (t : List UInt8) (n : Int) (y : Nd) : showT ⟨7, t, n, [y]⟩ = showT y ++ [st S.sc] := by rw [showT_eq]; rfl
theorem show_if2 (t : List UInt8) (n : Int) (y z : Nd) : showT ⟨8, t, n, [y, z]⟩ = wt W.if_ :: (showT y ++ wt W.then_ :: (showT z ++ [wt W.end_])) := by rw [showT_eq]; rfl
theorem show_if3 (t : List UInt8) (n : Int) (y z v : Nd) : showT ⟨8, t, n, [y, z, v]⟩ = wt W.if_ :: (showT y ++ wt W.then_ :: (showT z ++ (wt W.else_ :: showT v ++ [wt W.end_]))) := by rw [showT_eq]; rfl
theorem show_while (t : List UInt8) (n : Int) (y z : Nd) : showT ⟨9, t, n, [y, z]⟩ = wt W.while_ :: (showT y ++ wt W.do_ :: (showT z ++ [wt W.end_])) := by rw [showT_eq]; rfl
theorem show_for (t : List UInt8) (n : Int) (y z v : Nd) : showT ⟨10, t, n, [y, z, v]⟩ = [wt W.for_, wt t, st S.eq] ++ showT y ++ st S.cm :: (showT z ++ wt W.do_ :: (showT v ++ [wt W.end_])) := by rw [showT_eq]; rfl
theorem show_return (t : List UInt8) (n : Int) (y : Nd) : showT ⟨11, t, n, [y]⟩ = wt W.return_ :: (showT y ++ [st S.sc]) := by rw [showT_eq]; rfl
theorem show_emit (t : List UInt8) (n : Int) (y : Nd) : showT ⟨12, t, n, [y]⟩ = wt W.emit_ :: (showT y ++ [st S.sc]) := by rw [showT_eq]; rfl

end Go.Proofs.YtnnppenlfocgiaaGreatDoor
namespace Go.Proofs.YtnnppenlfocgiaaGreatDoor
open Go

end Go.Proofs.YtnnppenlfocgiaaGreatDoor
namespace Go.Proofs.YtnnppenlfocgiaaGreatDoor
open Go

def bytesOf (p : PT) : List UInt8 := if p.1 = 3 then 34 :: (p.2 ++ [34]) else p.2
/-- Tokens, with a blank between two. -/
def textT : List PT → List UInt8
  | [] => []
  | [p] => bytesOf p
  | p :: q :: l => bytesOf p ++ 32 :: textT (q :: l)
/-- It is read as the token that it is. -/
def valid (p : PT) : Prop := tokR (bytesOf p) = .tok p.1 p.2 (bytesOf p).length ∧ gap1 (bytesOf p) = 0

def allV (ts : List PT) : Prop := ∀ p ∈ ts, valid p
theorem allV_cons {p : PT} {l : List PT} (hp : valid p) (hl : allV l) : allV (p :: l) := fun q hq => by
  simp at hq
  rcases hq with rfl | hq
  · exact hp
  · exact hl q hq
theorem allV_nil : allV [] := fun p hp => by simp at hp
end Go.Proofs.YtnnppenlfocgiaaGreatDoor
namespace Go.Proofs.YtnnppenlfocgiaaGreatDoor
open Go

/-- How many bytes tokens take, a blank behind each. -/
def cost : List PT → Nat
  | [] => 0
  | p :: l => (bytesOf p).length + 1 + cost l
theorem cost_app : ∀ a b : List PT, cost (a ++ b) = cost a + cost b
  | [], b => by simp [cost]
  | p :: a, b => by rw [List.cons_append, cost, cost, cost_app a b]; omega
theorem cost_w (s : List UInt8) (l : List PT) : cost (wt s :: l) = s.length + 1 + cost l := by
  rw [cost]; unfold bytesOf; rw [if_neg (by show ¬ (1 : Int) = 3; decide)]
theorem cost_s (s : List UInt8) (l : List PT) : cost (st s :: l) = s.length + 1 + cost l := by
  rw [cost]; unfold bytesOf; rw [if_neg (by show ¬ (4 : Int) = 3; decide)]
theorem cost_nil : cost [] = 0 := rfl
theorem text_len : ∀ ts : List PT, (textT ts).length ≤ cost ts
  | [] => by simp [textT]
  | [p] => by rw [textT, cost]; omega
  | p :: q :: l => by
    have := text_len (q :: l)
    rw [textT, cost, List.length_append, List.length_cons]
    omega

theorem on_inv {x : PR} {g : Nd → List PT → PR} {n : Nd} {l : List PT} (h : x.on g = some (.inr (n, l))) : ∃ m k, x = some (.inr (m, k)) ∧ g m k = some (.inr (n, l)) := by
  unfold PR.on at h
  match x, h with
  | some (.inr (m, k)), h => exact ⟨m, k, rfl, h⟩
theorem need_inv {s : List UInt8} {l : List PT} {g : List PT → PR} {n : Nd} {l1 : List PT} (h : need s l g = some (.inr (n, l1))) : tx l = s ∧ g l.tail = some (.inr (n, l1)) := by
  unfold need at h
  split at h
  · rename_i c; exact ⟨c, h⟩
  · cases h
theorem needName_inv {l : List PT} {g : List UInt8 → List PT → PR} {n : Nd} {l1 : List PT} (h : needName l g = some (.inr (n, l1))) : nameB (tx l) = true ∧ g (tx l) l.tail = some (.inr (n, l1)) := by
  unfold needName at h
  split at h
  · rename_i c; exact ⟨c, h⟩
  · cases h
/-- A word or sign that is passed. -/
theorem pass {l : List PT} (h : tx l ≠ []) : cost l = (tx l).length + 1 + cost l.tail ∧ (allV l → allV l.tail) := by
  cases l with
  | nil => exact absurd rfl h
  | cons p l =>
    have hk : ¬ (p.1 = 2 ∨ p.1 = 3) := fun c => h (by simp [tx, c])
    have e : tx (p :: l) = p.2 := by simp [tx, hk]
    rw [e, cost]
    unfold bytesOf
    rw [if_neg (fun c => hk (.inr c))]
    exact ⟨rfl, fun hv q hq => hv q (List.mem_cons_of_mem _ hq)⟩
theorem pass_of {l : List PT} {s : List UInt8} (h : tx l = s) (hs : s ≠ []) : cost l = s.length + 1 + cost l.tail ∧ (allV l → allV l.tail) := by
  subst h
  exact pass hs

theorem at_le (n : Nat) (x : Nd) : cost (showT x) ≤ cost (atT n (info x)) ∧ cost (atT n (info x)) ≤ cost (showT x) + 4 := by
  unfold atT info
  simp only
  split
  · unfold parT
    rw [cost_s, cost_app, cost_s, cost_nil]
    simp
    omega
  · omega
theorem at_mono {a b : Nat} (h : a ≤ b) (x : Nd) : cost (atT a (info x)) ≤ cost (atT b (info x)) := by
  have h1 := at_le b x
  unfold atT info at h1 ⊢
  simp only at h1 ⊢
  split
  · rw [if_pos (by omega)]; exact Nat.le_refl _
  · exact h1.1
theorem at_eq {a : Nat} {x : Nd} (h : a ≤ bindsN x) : atT a (info x) = showT x := by
  unfold atT info
  simp only
  rw [if_neg (by omega)]

def okE (y : Nd) : Prop := isN y ∧ exprK y.k
theorem fits_e {k : Int} (h : k ≠ 1 ∧ k ≠ 2 ∧ k ≠ 4 ∧ k ≠ 8 ∧ k ≠ 9 ∧ k ≠ 10) (len i : Nat) (kk : Int) (he : exprK kk) : fitsK k len i kk := by
  unfold fitsK
  rw [if_neg h.1, if_neg h.2.1, if_neg h.2.2.1, if_neg (by omega), if_neg h.2.2.2.2.2]
  exact he
/-- A node over expressions. -/
theorem mkE {k : Int} {n : Int} {kids : List Nd} (hk : kidsOK k kids.length) (he : 13 ≤ k ∧ k ≤ 26) (h18 : k ≠ 18) (h14 : k ≠ 14) (h13 : k = 13 → 0 ≤ n ∧ n ≤ 9223372036854775807) (h22 : k = 22 → (opOf n).isSome = true) (h0 : k ≠ 22 → k ≠ 13 → n = 0) (h : ∀ y ∈ kids, okE y) : okE ⟨k, [], n, kids⟩ := by
  refine ⟨?_, he⟩
  rw [isN]
  refine ⟨hk, fun c => by simp only [hasName] at c; omega, fun _ _ => rfl, ⟨h22, fun c => absurd c h14⟩, h13, h0, fun c => by omega, fun c => by omega, ?_⟩
  rw [isN_go]
  intro j y hy
  have := h y (List.mem_of_getElem? hy)
  exact ⟨fits_e (by omega) _ _ _ this.2, this.1⟩
theorem mkName {t : List UInt8} (h : nameB t = true) : okE ⟨18, t, 0, []⟩ := by
  refine ⟨?_, by show (13 : Int) ≤ 18 ∧ (18 : Int) ≤ 26; omega⟩
  rw [isN]
  refine ⟨by unfold kidsOK; simp, fun _ => h, fun c => absurd (by simp [hasName]) c, ⟨fun c => by omega, fun c => by omega⟩, fun c => by omega, fun _ _ => rfl, fun c => by omega, fun c => by omega, ?_⟩
  rw [isN_go]
  intro j y hy
  simp at hy
theorem mkText {t : List UInt8} (h : quotB t = true) : okE ⟨14, t, 0, []⟩ := by
  refine ⟨?_, by show (13 : Int) ≤ 14 ∧ (14 : Int) ≤ 26; omega⟩
  rw [isN]
  refine ⟨by unfold kidsOK; simp, fun c => by simp only [hasName] at c; omega, fun _ c => absurd rfl c, ⟨fun c => by omega, fun _ => h⟩, fun c => by omega, fun _ _ => rfl, fun c => by omega, fun c => by omega, ?_⟩
  rw [isN_go]
  intro j y hy
  simp at hy

theorem op_of_at {s : List UInt8} {o : Int} {k : Nat} (h : opAt s = some (o, k)) : opOf o = some (s, k) ∧ s ≠ [] := by
  unfold opAt at h
  cases hf : opsL.find? (fun p => p.1 == s) with
  | none => rw [hf] at h; cases h
  | some p =>
    rw [hf] at h
    obtain ⟨s', o', k'⟩ := p
    have h1 := List.mem_of_find?_eq_some hf
    have h2 := List.find?_some hf
    simp at h h2
    obtain ⟨rfl, rfl⟩ := h
    subst h2
    have : ∀ p ∈ opsL, opOf p.2.1 = some (p.1, p.2.2) ∧ p.1 ≠ [] := by decide
    exact this _ h1
theorem cost_op {o : Int} {s : List UInt8} {k : Nat} (h : opOf o = some (s, k)) (l : List PT) : cost (opT o :: l) = s.length + 1 + cost l := by
  unfold opT
  rw [h]
  simp only
  by_cases c : o = 20 ∨ o = 21
  · rw [if_pos c]; exact cost_w s l
  · rw [if_neg c]; exact cost_s s l

/-- What a numeral that is one spells is written as it was. -/
theorem dec_of : ∀ (m : Nat) (l : List UInt8), l.length ≤ m → l ≠ [] → l.all digB = true → (1 < l.length → l.head? ≠ some 48) → Lib.decDigits (numV l) = l
  | 0, l, h, h0, _, _ => absurd (List.eq_nil_of_length_eq_zero (by omega)) h0
  | m + 1, l, h, h0, ha, hz => by
    obtain ⟨q, c, rfl⟩ : ∃ q c, l = q ++ [c] := ⟨l.dropLast, l.getLast h0, (List.dropLast_concat_getLast _).symm⟩
    have hc := dig_lt (by simp only [List.all_append, List.all_cons, List.all_nil, Bool.and_true, Bool.and_eq_true] at ha; exact ha.2)
    have hq : q.all digB = true := by simp only [List.all_append, Bool.and_eq_true] at ha; exact ha.1
    have ec : UInt8.ofNat (48 + (c.toNat - 48)) = c := by
      rw [show 48 + (c.toNat - 48) = c.toNat by omega]; exact UInt8.ofNat_toNat
    rw [numV_snoc, Lib.decDigits]
    by_cases hqe : q = []
    · subst hqe
      have e0 : numV [] = 0 := rfl
      rw [e0, dif_pos (by omega)]
      simp only [Nat.zero_mul, Nat.zero_add, List.nil_append]
      rw [ec]
    · have hpos : 0 < numV q := by
        cases q with
        | nil => exact absurd rfl hqe
        | cons d r =>
          have hd := dig_lt (by simp only [List.all_cons, Bool.and_eq_true] at hq; exact hq.1)
          have hd2 : d ≠ 48 := fun e => hz (by simp) (by simp [e])
          have hd3 : d.toNat ≠ 48 := fun e => hd2 (UInt8.toNat_inj.1 e)
          have := numV_ge d r (by omega)
          have := Nat.pow_pos (n := r.length) (show 0 < 10 by omega)
          omega
      rw [dif_neg (by omega)]
      have e1 : (numV q * 10 + (c.toNat - 48)) / 10 = numV q := by omega
      have e2 : (numV q * 10 + (c.toNat - 48)) % 10 = c.toNat - 48 := by omega
      rw [e1, e2, ec, dec_of m q (by simp at h; omega) hqe hq (fun hl => by
        have := hz (by simp; omega)
        cases q with
        | nil => exact absurd rfl hqe
        | cons d r => simpa using this)]

/-- What a token of a number is. -/
theorem num_of_valid {t : List UInt8} (h : valid (2, t)) : Lib.decDigits (numV t) = t ∧ numV t ≤ 9223372036854775807 := by
  have hb : bytesOf (2, t) = t := by unfold bytesOf; rw [if_neg (by show ¬ (2 : Int) = 3; decide)]
  have h1 := h.1
  rw [hb] at h1
  cases t with
  | nil => simp [tokR] at h1
  | cons c r =>
    unfold tokR at h1
    simp only at h1
    split at h1
    · split at h1 <;> cases h1
    split at h1
    · split at h1
      · rename_i hz
        obtain ⟨_, e2, _⟩ := TokR.inj h1
        rw [e2] at hz
        unfold numE at hz
        split at hz
        · omega
        · rename_i ha
          split at hz
          · omega
          · rename_i h0
            split at hz
            · omega
            · rename_i hm
              exact ⟨dec_of _ (c :: r) (Nat.le_refl _) (by simp) (by simpa using ha) (fun hl he => h0 ⟨hl, he⟩), by omega⟩
      · cases h1
    split at h1
    · split at h1
      · split at h1
        · cases h1
        · have := (TokR.inj h1).1; omega
      · cases h1
    split at h1
    · cases h1
    · have := (TokR.inj h1).1; omega
theorem text_of_valid {t : List UInt8} (h : valid (3, t)) : quotB t = true := by
  have hb : bytesOf (3, t) = 34 :: (t ++ [34]) := by unfold bytesOf; rw [if_pos rfl]
  have h1 := h.1
  rw [hb] at h1
  unfold tokR at h1
  simp only at h1
  rw [if_neg (by decide), if_neg (by decide), if_pos (by decide)] at h1
  split at h1
  · split at h1
    · cases h1
    · rename_i h3
      obtain ⟨_, e2, e3⟩ := TokR.inj h1
      have hl : runN txtB (t ++ [34]) = t.length := by simp at e3; omega
      rw [hl] at h3
      simp only [quotB, Bool.and_eq_true, decide_eq_true_eq]
      refine ⟨?_, by omega⟩
      rw [List.all_eq_true]
      intro c hc
      obtain ⟨i, hi, hi'⟩ := List.getElem_of_mem hc
      refine runN_all txtB (t ++ [34]) i (by omega) c ?_
      rw [List.getElem?_append_left hi, List.getElem?_eq_getElem hi, hi']
  · cases h1

end Go.Proofs.YtnnppenlfocgiaaGreatDoor
namespace Go.Proofs.YtnnppenlfocgiaaGreatDoor
open Go

def sumC : List Nd → Nat
  | [] => 0
  | x :: l => cost (showT x) + 2 + sumC l
def sumS : List Nd → Nat
  | [] => 0
  | x :: l => cost (showT x) + sumS l
theorem cost_comma : ∀ us : List Nd, us ≠ [] → cost (commaT (us.map info)) + 2 = sumC us
  | [], h => absurd rfl h
  | [x], _ => by simp [commaT, sumC, info]
  | x :: y :: l, _ => by
    have ih := cost_comma (y :: l) (by simp)
    have e : commaT ((x :: y :: l).map info) = showT x ++ st S.cm :: commaT ((y :: l).map info) := by simp [commaT, info]
    rw [e, cost_app, cost_s, sumC, ← ih]
    simp
    omega
theorem cost_round (us : List Nd) (h : us ≠ []) : cost (roundT (us.map info)) = 2 + sumC us := by
  have e : roundT (us.map info) = st S.lp :: (commaT (us.map info) ++ [st S.rp]) := by
    unfold roundT
    rw [if_neg (by simpa using h)]
  rw [e, cost_s, cost_app, cost_s, cost_nil, ← cost_comma us h]
  simp <;> omega
theorem cost_round0 : cost (roundT (([] : List Nd).map info)) = 4 := by
  show cost [st S.lp, st S.rp] = 4
  rw [cost_s, cost_s, cost_nil]; rfl
theorem cost_all : ∀ us : List Nd, cost (allT (us.map info)) = sumS us
  | [] => rfl
  | x :: l => by
    have e : allT ((x :: l).map info) = showT x ++ allT (l.map info) := by simp [allT, info]
    rw [e, cost_app, cost_all l, sumS]

def Sound (tag : Nat) (x : Nd) (a : Nat) (l : List PT) (n : Nd) (l1 : List PT) : Prop :=
  match tag with
  | 0 => a ≤ 6 → okE n ∧ allV l1 ∧ cost (atT a (info n)) + cost l1 ≤ cost l
  | 1 => okE n ∧ allV l1 ∧ cost (atT 6 (info n)) + cost l1 ≤ cost l
  | 2 => a ≤ 5 → okE x → okE n ∧ allV l1 ∧ cost (atT a (info n)) + cost l1 ≤ cost (atT (if a = 2 then 3 else a) (info x)) + cost l
  | 3 => okE n ∧ allV l1 ∧ cost (atT 7 (info n)) + cost l1 ≤ cost l
  | 4 => okE x → okE n ∧ allV l1 ∧ cost (atT 7 (info n)) + cost l1 ≤ cost (atT 7 (info x)) + cost l
  | 5 => okE x → okE n ∧ allV l1 ∧ bindsN n = 7 ∧ cost (showT n) + cost l1 ≤ cost (atT 7 (info x)) + cost l ∧ (tx l = S.lb → n.k = 20 ∧ chainC n = chainC x) ∧ (tx l ≠ S.lb → n.k = 21 ∧ chainC n = (chainC x).map (· + 1))
  | 6 => ∀ ks, x = nd 21 ks → ∃ us, us ≠ [] ∧ n = nd 21 (ks ++ us) ∧ (∀ z ∈ us, okE z) ∧ allV l1 ∧ sumC us + cost l1 ≤ cost l
  | 7 => ∀ ks, x = nd 4 ks → ∃ us, n = nd 4 (ks ++ us) ∧ (∀ s ∈ us, isN s ∧ statK s.k) ∧ allV l1 ∧ sumS us + cost l1 ≤ cost l
  | 8 => isN n ∧ statK n.k ∧ allV l1 ∧ cost (showT n) + cost l1 ≤ cost l
  | 9 => okE x → bindsN x = 7 → chainC x = some a → isN n ∧ statK n.k ∧ allV l1 ∧ cost (showT n) + cost l1 ≤ cost (showT x) + cost l + 2
  | 10 => isN n ∧ n.k = 2 ∧ allV l1 ∧ cost (showT n) + cost l1 ≤ cost l
  | 11 => ∃ us, us ≠ [] ∧ n.kids = x.kids ++ us ∧ (∀ p ∈ us, ∃ s, p = ⟨3, s, 0, []⟩ ∧ nameB s = true) ∧ allV l1 ∧ sumC us + cost l1 ≤ cost l + 2
  | 12 => ∀ fs, x = nd 1 fs → ∃ us, n = nd 1 (fs ++ us) ∧ (∀ g ∈ us, isN g ∧ g.k = 2) ∧ sumS us + cost l1 ≤ cost l
  | _ => True

theorem okE_binds7 {k : Int} {t : List UInt8} {n : Int} {kids : List Nd} (h : k ≠ 22 ∧ k ≠ 23 ∧ k ≠ 24 ∧ k ≠ 25) : bindsN ⟨k, t, n, kids⟩ = 7 := binds7 _ _ _ h.1 h.2.1 h.2.2.1 h.2.2.2

theorem sound5 {x y : Nd} {l : List PT} {l1 : List PT} (hx : okE x) (hy : okE y) (hv : allV l1) (h : tx l = S.lb) (hc : cost (showT y) + 4 + cost l1 ≤ cost l) : Sound 5 x 0 l (nd 20 [x, y]) l1 := by
  intro _
  refine ⟨mkE (by unfold kidsOK; simp) (by omega) (by decide) (by decide) (fun c => by omega) (fun c => by omega) (fun _ _ => rfl) (fun z hz => by simp at hz; rcases hz with rfl | rfl <;> assumption), hv, okE_binds7 (by decide), ?_, fun _ => ⟨rfl, ?_⟩, fun c => absurd h c⟩
  · show cost (showT ⟨20, [], 0, [x, y]⟩) + cost l1 ≤ _
    rw [show_index, cost_app, cost_s, cost_app, cost_s, cost_nil]
    simp
    omega
  · show chainC ⟨20, [], 0, [x, y]⟩ = _
    rw [chainC, if_neg (by decide), if_pos rfl, chainC.go]
theorem sound5c {x : Nd} {us : List Nd} {l : List PT} {l1 : List PT} (hx : okE x) (hy : ∀ z ∈ us, okE z) (hv : allV l1) (h : tx l ≠ S.lb) (hc : cost (roundT (us.map info)) + cost l1 ≤ cost l) : Sound 5 x 0 l (nd 21 (x :: us)) l1 := by
  intro _
  refine ⟨mkE (by unfold kidsOK; simp) (by omega) (by decide) (by decide) (fun c => by omega) (fun c => by omega) (fun _ _ => rfl) (fun z hz => by simp at hz; rcases hz with rfl | hz; exact hx; exact hy z hz), hv, okE_binds7 (by decide), ?_, fun c => absurd c h, fun _ => ⟨rfl, ?_⟩⟩
  · show cost (showT ⟨21, [], 0, x :: us⟩) + cost l1 ≤ _
    rw [show_call, cost_app]
    omega
  · show chainC ⟨21, [], 0, x :: us⟩ = _
    rw [chainC, if_neg (by decide), if_neg (by decide), if_pos rfl, chainC.go]

theorem sound_expr (f : Nat) (ih : ∀ tag x a l n l1, P f tag x a l = some (.inr (n, l1)) → allV l → Sound tag x a l n l1) :
    ∀ tag x a l n l1, tag ≤ 6 → P (f + 1) tag x a l = some (.inr (n, l1)) → allV l → Sound tag x a l n l1 := by
  intro tag x a l n l1 ht h hv
  match tag, ht, h with
  | 0, _, h =>
    intro ha
    rw [P] at h
    by_cases c : 5 < a
    · rw [if_pos c] at h
      have ea : a = 6 := by omega
      rw [ea]
      exact ih 1 _ _ _ _ _ h hv
    · rw [if_neg c] at h
      obtain ⟨m, k, h1, h2⟩ := on_inv h
      obtain ⟨o1, v1, c1⟩ := ih 0 _ _ _ _ _ h1 hv (by omega)
      obtain ⟨o2, v2, c2⟩ := ih 2 _ _ _ _ _ h2 v1 (by omega) o1
      refine ⟨o2, v2, ?_⟩
      have : cost (atT (if a = 2 then 3 else a) (info m)) ≤ cost (atT (a + 1) (info m)) := at_mono (by split <;> omega) m
      omega
  | 1, _, h =>
    rw [P] at h
    have un : ∀ k : Int, (k = 23 ∨ k = 24 ∨ k = 25) → ∀ s : List UInt8, tx l = s → s ≠ [] → (P f 1 (nd 0 []) 0 l.tail).on (fun x l => .ok (nd k [x]) l) = some (.inr (n, l1)) → (∀ y, showT ⟨k, [], 0, [y]⟩ = wt s :: atT 6 (info y) ∨ showT ⟨k, [], 0, [y]⟩ = st s :: atT 6 (info y)) → Sound 1 x a l n l1 := fun k hk s hs hne h hsh => by
      obtain ⟨m, q, h1, h2⟩ := on_inv h
      cases h2
      obtain ⟨p1, p2⟩ := pass_of hs hne
      obtain ⟨o1, v1, c1⟩ := ih 1 _ _ _ _ _ h1 (p2 hv)
      refine ⟨mkE (by unfold kidsOK; simp; omega) (by omega) (by omega) (by omega) (fun c => by omega) (fun c => by omega) (fun _ _ => rfl) (fun z hz => by simp at hz; rw [hz]; exact o1), v1, ?_⟩
      have hb : bindsN (nd k [m]) = 6 := by
        unfold bindsN nd
        simp only
        rw [if_neg (by omega), if_pos hk]
      rw [at_eq (by omega)]
      show cost (showT ⟨k, [], 0, [m]⟩) + _ ≤ _
      rcases hsh m with e | e <;> rw [e]
      · rw [cost_w]; omega
      · rw [cost_s]; omega
    by_cases e1 : tx l = S.mi
    · rw [if_pos e1] at h
      exact un 24 (by omega) S.mi e1 (by decide) h (fun y => .inr (show_neg _ _ y))
    rw [if_neg e1] at h
    by_cases e2 : tx l = W.not_
    · rw [if_pos e2] at h
      exact un 23 (by omega) W.not_ e2 (by decide) h (fun y => .inl (show_not _ _ y))
    rw [if_neg e2] at h
    by_cases e3 : tx l = S.hs
    · rw [if_pos e3] at h
      exact un 25 (by omega) S.hs e3 (by decide) h (fun y => .inr (show_len _ _ y))
    rw [if_neg e3] at h
    obtain ⟨m, q, h1, h2⟩ := on_inv h
    obtain ⟨o1, v1, c1⟩ := ih 3 _ _ _ _ _ h1 hv
    obtain ⟨o2, v2, c2⟩ := ih 4 _ _ _ _ _ h2 v1 o1
    refine ⟨o2, v2, ?_⟩
    have := at_mono (show 6 ≤ 7 by omega) n
    omega
  | 2, _, h =>
    intro ha hx
    rw [P] at h
    have stop : PR.ok x l = some (.inr (n, l1)) → okE n ∧ allV l1 ∧ cost (atT a (info n)) + cost l1 ≤ cost (atT (if a = 2 then 3 else a) (info x)) + cost l := fun e => by
      cases e
      refine ⟨hx, hv, ?_⟩
      have : cost (atT a (info x)) ≤ cost (atT (if a = 2 then 3 else a) (info x)) := at_mono (by split <;> omega) x
      omega
    cases ho : opAt (tx l) with
    | none => rw [ho] at h; exact stop h
    | some p =>
      obtain ⟨o, k⟩ := p
      rw [ho] at h
      simp only at h
      by_cases c : k = a
      · subst c
        rw [if_pos rfl] at h
        obtain ⟨y, q, h1, h2⟩ := on_inv h
        obtain ⟨hof, hne⟩ := op_of_at ho
        obtain ⟨p1, p2⟩ := pass_of rfl hne
        obtain ⟨o1, v1, c1⟩ := ih 0 _ _ _ _ _ h1 (p2 hv) (by omega)
        have hlv : lvlN o = k := by unfold lvlN; rw [hof]; rfl
        have hb : bindsN ⟨22, [], o, [x, y]⟩ = k := by
          unfold bindsN
          simp only
          rw [if_pos trivial, hof]; rfl
        have hN : okE ⟨22, [], o, [x, y]⟩ := mkE (by unfold kidsOK; simp) (by omega) (by decide) (by decide) (fun c => by omega) (fun _ => by rw [hof]; rfl) (fun c => absurd rfl c) (fun z hz => by simp at hz; rcases hz with rfl | rfl <;> assumption)
        have hcost : cost (showT ⟨22, [], o, [x, y]⟩) + cost q ≤ cost (atT (if k = 2 then 3 else k) (info x)) + cost l := by
          rw [show_op, hlv, cost_app, cost_op hof]
          omega
        by_cases c2 : k = 2
        · rw [if_pos c2] at h2
          cases h2
          refine ⟨hN, v1, ?_⟩
          rw [at_eq (by omega)]
          exact hcost
        · rw [if_neg c2] at h2
          obtain ⟨o2, v2, c3⟩ := ih 2 _ _ _ _ _ h2 v1 ha hN
          refine ⟨o2, v2, ?_⟩
          rw [if_neg c2] at c3 ⊢
          rw [if_neg c2] at hcost
          rw [at_eq (x := ⟨22, [], o, [x, y]⟩) (by omega)] at c3
          omega
      · rw [if_neg c] at h
        exact stop h
  | 3, _, h =>
    cases l with
    | nil => rw [P] at h; cases h
    | cons t r =>
      rw [P] at h
      have hv0 := hv t (by simp)
      have hvr : allV r := fun q hq => hv q (by simp [hq])
      by_cases e2 : t.1 = 2
      · rw [if_pos e2] at h
        cases h
        obtain ⟨t1, t2⟩ := t
        simp only at e2
        subst e2
        obtain ⟨d1, d2⟩ := num_of_valid hv0
        refine ⟨mkE (by unfold kidsOK; simp) (by omega) (by decide) (by decide) (fun _ => by show (0 : Int) ≤ numOf t2 ∧ numOf t2 ≤ 9223372036854775807; unfold numOf; omega) (fun c => by omega) (fun _ c => absurd rfl c) (fun z hz => by simp at hz), hvr, ?_⟩
        rw [at_eq (by rw [okE_binds7 (by decide)]; omega), showT_eq]
        show cost [(2, digitsN (numOf t2).toNat)] + _ ≤ _
        have : (numOf t2).toNat = numV t2 := by unfold numOf; omega
        rw [this]
        unfold digitsN
        rw [d1]
        show cost [(2, t2)] + cost _ ≤ cost ((2, t2) :: _)
        simp only [cost]
        omega
      rw [if_neg e2] at h
      by_cases e3 : t.1 = 3
      · rw [if_pos e3] at h
        cases h
        obtain ⟨t1, t2⟩ := t
        simp only at e3
        subst e3
        refine ⟨mkText (text_of_valid hv0), hvr, ?_⟩
        rw [at_eq (by rw [okE_binds7 (by decide)]; omega), showT_eq]
        show cost [(3, t2)] + cost _ ≤ cost ((3, t2) :: _)
        simp only [cost]
        omega
      rw [if_neg e3] at h
      have word : ∀ (s : List UInt8) (k : Int), tx (t :: r) = s → s ≠ [] → (k = 15 ∨ k = 16 ∨ k = 17) → (showT ⟨k, [], 0, []⟩ = [wt s]) → PR.ok (nd k []) r = some (.inr (n, l1)) → Sound 3 x a (t :: r) n l1 := fun s k hs hne hk hsh e => by
        cases e
        obtain ⟨p1, p2⟩ := pass_of hs hne
        refine ⟨mkE (by unfold kidsOK; simp; omega) (by omega) (by omega) (by omega) (fun c => by omega) (fun c => by omega) (fun _ _ => rfl) (fun z hz => by simp at hz), hvr, ?_⟩
        rw [at_eq (by rw [show nd k [] = ⟨k, [], 0, []⟩ from rfl, okE_binds7 (by omega)]; omega)]
        show cost (showT ⟨k, [], 0, []⟩) + _ ≤ _
        rw [hsh, cost_w, cost_nil, p1]
        simp
      by_cases s1 : tx (t :: r) = S.lp
      · rw [if_pos s1] at h
        obtain ⟨m, q, h1, h2⟩ := on_inv h
        obtain ⟨n1, n2⟩ := need_inv h2
        cases n2
        obtain ⟨p1, p2⟩ := pass_of s1 (by decide)
        obtain ⟨p3, p4⟩ := pass_of n1 (by decide)
        obtain ⟨o1, v1, c1⟩ := ih 0 _ _ _ _ _ h1 hvr (by omega)
        refine ⟨o1, p4 v1, ?_⟩
        have := at_le 7 n
        have := at_le 0 n
        simp at p1 p3
        omega
      rw [if_neg s1] at h
      by_cases s2 : tx (t :: r) = W.nil_
      · rw [if_pos s2] at h; exact word _ 15 s2 (by decide) (by omega) (by rw [showT_eq]; rfl) h
      rw [if_neg s2] at h
      by_cases s3 : tx (t :: r) = W.true_
      · rw [if_pos s3] at h; exact word _ 16 s3 (by decide) (by omega) (by rw [showT_eq]; rfl) h
      rw [if_neg s3] at h
      by_cases s4 : tx (t :: r) = W.false_
      · rw [if_pos s4] at h; exact word _ 17 s4 (by decide) (by omega) (by rw [showT_eq]; rfl) h
      rw [if_neg s4] at h
      by_cases s5 : tx (t :: r) = S.lc
      · rw [if_pos s5] at h
        obtain ⟨n1, n2⟩ := need_inv h
        cases n2
        obtain ⟨p1, p2⟩ := pass_of s5 (by decide)
        obtain ⟨p3, p4⟩ := pass_of n1 (by decide)
        refine ⟨mkE (by unfold kidsOK; simp) (by omega) (by decide) (by decide) (fun c => by omega) (fun c => by omega) (fun _ _ => rfl) (fun z hz => by simp at hz), p4 hvr, ?_⟩
        rw [at_eq (by rw [show nd 19 [] = ⟨19, [], 0, []⟩ from rfl, okE_binds7 (by decide)]; omega)]
        have e : showT (nd 19 []) = [st S.lc, st S.rc] := by show showT ⟨19, [], 0, []⟩ = _; rw [showT_eq]; rfl
        rw [e, cost_s, cost_s, cost_nil]
        simp at p1 p3 ⊢
        omega
      rw [if_neg s5] at h
      by_cases s6 : tx (t :: r) = W.next_
      · rw [if_pos s6] at h
        obtain ⟨n1, n2⟩ := need_inv h
        obtain ⟨m, q, h1, h2⟩ := on_inv n2
        obtain ⟨n3, n4⟩ := need_inv h2
        obtain ⟨m2, q2, h3, h4⟩ := on_inv n4
        obtain ⟨n5, n6⟩ := need_inv h4
        cases n6
        obtain ⟨p1, p2⟩ := pass_of s6 (by decide)
        obtain ⟨p3, p4⟩ := pass_of n1 (by decide)
        obtain ⟨p5, p6⟩ := pass_of n3 (by decide)
        obtain ⟨p7, p8⟩ := pass_of n5 (by decide)
        obtain ⟨o1, v1, c1⟩ := ih 0 _ _ _ _ _ h1 (p4 hvr) (by omega)
        obtain ⟨o2, v2, c2⟩ := ih 0 _ _ _ _ _ h3 (p6 v1) (by omega)
        refine ⟨mkE (by unfold kidsOK; simp) (by omega) (by decide) (by decide) (fun c => by omega) (fun c => by omega) (fun _ _ => rfl) (fun z hz => by simp at hz; rcases hz with rfl | rfl <;> assumption), p8 v2, ?_⟩
        rw [at_eq (by rw [show nd 26 [m, m2] = ⟨26, [], 0, [m, m2]⟩ from rfl, okE_binds7 (by decide)]; omega)]
        show cost (showT ⟨26, [], 0, [m, m2]⟩) + _ ≤ _
        have := at_le 0 m
        have := at_le 0 m2
        rw [show_next, cost_w, cost_s, cost_app, cost_s, cost_app, cost_s, cost_nil]
        simp at p1 p3 p5 p7 ⊢
        omega
      rw [if_neg s6] at h
      obtain ⟨n1, n2⟩ := needName_inv h
      cases n2
      have hne : tx (t :: r) ≠ [] := fun e => by rw [e] at n1; revert n1; decide
      obtain ⟨p1, p2⟩ := pass hne
      refine ⟨mkName n1, hvr, ?_⟩
      rw [at_eq (by rw [okE_binds7 (by decide)]; omega), showT_eq]
      show cost [wt (tx (t :: r))] + _ ≤ _
      rw [cost_w, cost_nil]
      simp at p1 ⊢
      omega
  | 4, _, h =>
    intro hx
    rw [P] at h
    by_cases c : tx l = S.lb ∨ tx l = S.lp
    · rw [if_pos c] at h
      obtain ⟨m, q, h1, h2⟩ := on_inv h
      obtain ⟨o1, v1, b1, c1, _, _⟩ := ih 5 _ _ _ _ _ h1 hv hx
      obtain ⟨o2, v2, c2⟩ := ih 4 _ _ _ _ _ h2 v1 o1
      refine ⟨o2, v2, ?_⟩
      rw [at_eq (x := m) (by omega)] at c2
      omega
    · rw [if_neg c] at h
      cases h
      exact ⟨hx, hv, Nat.le_refl _⟩
  | 5, _, h =>
    intro hx
    rw [P] at h
    by_cases c : tx l = S.lb
    · rw [if_pos c] at h
      obtain ⟨m, q, h1, h2⟩ := on_inv h
      obtain ⟨n1, n2⟩ := need_inv h2
      cases n2
      obtain ⟨p1, p2⟩ := pass_of c (by decide)
      obtain ⟨p3, p4⟩ := pass_of n1 (by decide)
      obtain ⟨o1, v1, c1⟩ := ih 0 _ _ _ _ _ h1 (p2 hv) (by omega)
      have := at_le 0 m
      exact sound5 hx o1 (p4 v1) c (by simp at p1 p3; omega) hx
    · rw [if_neg c] at h
      obtain ⟨n1, n2⟩ := need_inv h
      obtain ⟨p1, p2⟩ := pass_of n1 (by decide)
      by_cases c2 : tx l.tail = S.rp
      · rw [if_pos c2] at n2
        cases n2
        obtain ⟨p3, p4⟩ := pass_of c2 (by decide)
        exact sound5c (us := []) hx (fun z hz => by simp at hz) (p4 (p2 hv)) c (by rw [cost_round0]; simp at p1 p3; omega) hx
      · rw [if_neg c2] at n2
        obtain ⟨us, u1, u2, u3, u4, u5⟩ := ih 6 _ _ _ _ _ n2 (p2 hv) [x] rfl
        subst u2
        exact sound5c (us := us) hx u3 u4 c (by rw [cost_round us u1]; simp at p1; omega) hx
  | 6, _, h =>
    intro ks hks
    subst hks
    rw [P] at h
    obtain ⟨m, q, h1, h2⟩ := on_inv h
    obtain ⟨o1, v1, c1⟩ := ih 0 _ _ _ _ _ h1 hv (by omega)
    have := at_le 0 m
    by_cases c : tx q = S.cm
    · rw [if_pos c] at h2
      obtain ⟨p1, p2⟩ := pass_of c (by decide)
      obtain ⟨us, u1, u2, u3, u4, u5⟩ := ih 6 _ _ _ _ _ h2 (p2 v1) _ rfl
      refine ⟨m :: us, by simp, by rw [u2]; simp [nd], fun z hz => ?_, u4, ?_⟩
      · simp at hz
        rcases hz with rfl | hz
        · exact o1
        · exact u3 z hz
      · rw [sumC]
        simp at p1
        omega
    · rw [if_neg c] at h2
      obtain ⟨n1, n2⟩ := need_inv h2
      cases n2
      obtain ⟨p1, p2⟩ := pass_of n1 (by decide)
      refine ⟨[m], by simp, rfl, fun z hz => by simp at hz; rw [hz]; exact o1, p2 v1, ?_⟩
      rw [sumC, sumC]
      simp at p1
      omega

end Go.Proofs.YtnnppenlfocgiaaGreatDoor
