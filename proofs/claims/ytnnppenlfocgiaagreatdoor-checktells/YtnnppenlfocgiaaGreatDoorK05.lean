/- Of programs, in plain words: how tokens are read as nodes. Lists alone. Of programs, in plain words: how nodes are written, and that what is written is read as the same. Expressions. Nodes in memory: how a node's cells stand for it, and that they stand as long as its blocks are left alone; rows of nodes that are put together. -/
import Derived.Test.YtnnppenlfocgiaaGreatDoorK01
import Derived.Lib.ItoaNum
import Derived.Below
import Derived.Deep.AppendLies
import Derived.OwnWalk
import Derived.Lib.BufferWrite
namespace Go.Proofs.YtnnppenlfocgiaaGreatDoor
open Go

/-- A node. -/
structure Nd where
  k : Int
  t : List UInt8
  n : Int
  kids : List Nd

abbrev W.and_ : List UInt8 := [97, 110, 100]
abbrev W.do_ : List UInt8 := [100, 111]
abbrev W.else_ : List UInt8 := [101, 108, 115, 101]
abbrev W.emit_ : List UInt8 := [101, 109, 105, 116]
abbrev W.end_ : List UInt8 := [101, 110, 100]
abbrev W.false_ : List UInt8 := [102, 97, 108, 115, 101]
abbrev W.for_ : List UInt8 := [102, 111, 114]
abbrev W.function_ : List UInt8 := [102, 117, 110, 99, 116, 105, 111, 110]
abbrev W.if_ : List UInt8 := [105, 102]
abbrev W.local_ : List UInt8 := [108, 111, 99, 97, 108]
abbrev W.next_ : List UInt8 := [110, 101, 120, 116]
abbrev W.nil_ : List UInt8 := [110, 105, 108]
abbrev W.not_ : List UInt8 := [110, 111, 116]
abbrev W.or_ : List UInt8 := [111, 114]
abbrev W.return_ : List UInt8 := [114, 101, 116, 117, 114, 110]
abbrev W.then_ : List UInt8 := [116, 104, 101, 110]
abbrev W.true_ : List UInt8 := [116, 114, 117, 101]
abbrev W.while_ : List UInt8 := [119, 104, 105, 108, 101]
abbrev S.lp : List UInt8 := [40]
abbrev S.rp : List UInt8 := [41]
abbrev S.lb : List UInt8 := [91]
abbrev S.rb : List UInt8 := [93]
abbrev S.lc : List UInt8 := [123]
abbrev S.rc : List UInt8 := [125]
abbrev S.cm : List UInt8 := [44]
abbrev S.sc : List UInt8 := [59]
abbrev S.eq : List UInt8 := [61]
abbrev S.ee : List UInt8 := [61, 61]
abbrev S.lt : List UInt8 := [60]
abbrev S.le : List UInt8 := [60, 61]
abbrev S.pl : List UInt8 := [43]
abbrev S.mi : List UInt8 := [45]
abbrev S.mu : List UInt8 := [42]
abbrev S.dv : List UInt8 := [47]
abbrev S.md : List UInt8 := [37]
abbrev S.ct : List UInt8 := [46, 46]
abbrev S.hs : List UInt8 := [35]

def reserved : List (List UInt8) := [W.and_, W.do_, W.else_, W.emit_, W.end_, W.false_, W.for_, W.function_, W.if_, W.local_, W.next_, W.nil_, W.not_, W.or_, W.return_, W.then_, W.true_, W.while_]
/-- May it be a name? -/
def nameB (s : List UInt8) : Bool := decide (1 ≤ s.length) && decide (s.length ≤ 16) && (s.head?.map letB).getD false && s.all rowB && !reserved.contains s

/-- A token, wherever it stands: its kind, its text. -/
abbrev PT : Type := Int × List UInt8
/-- The word or sign here. -/
def tx : List PT → List UInt8
  | [] => []
  | t :: _ => if t.1 = 2 ∨ t.1 = 3 then [] else t.2

/-- An operation's number, and how closely it binds. -/
def opsL : List (List UInt8 × Int × Nat) := [(W.or_, 21, 0), (W.and_, 20, 1), (S.ee, 7, 2), (S.lt, 8, 2), (S.le, 9, 2), (S.ct, 6, 3), (S.pl, 1, 4), (S.mi, 2, 4), (S.mu, 3, 5), (S.dv, 4, 5), (S.md, 5, 5)]
def opAt (s : List UInt8) : Option (Int × Nat) := (opsL.find? (fun p => p.1 == s)).map (fun p => p.2)
def opOf (o : Int) : Option (List UInt8 × Nat) := (opsL.find? (fun p => p.2.1 == o)).map (fun p => (p.1, p.2.2))

abbrev PR : Type := Option (List PT ⊕ (Nd × List PT))
/-- It gives up there. -/
abbrev PR.no (l : List PT) : PR := some (.inl l)
abbrev PR.ok (n : Nd) (l : List PT) : PR := some (.inr (n, l))
def PR.on (x : PR) (g : Nd → List PT → PR) : PR :=
  match x with
  | none => none
  | some (.inl l) => some (.inl l)
  | some (.inr (n, l)) => g n l
def need (s : List UInt8) (l : List PT) (g : List PT → PR) : PR := if tx l = s then g l.tail else .no l
def needName (l : List PT) (g : List UInt8 → List PT → PR) : PR := if nameB (tx l) = true then g (tx l) l.tail else .no l

def nd (k : Int) (kids : List Nd) : Nd := ⟨k, [], 0, kids⟩
def numOf (s : List UInt8) : Int := numV s

/-- What is read: by tag: 0 how closely (a), 1 ahead signs, 2 the row's rest (x, a), 3 what stands first, 4 what stands behind (x), 5 one of these (x), 6 arguments (x's kids), 7 a block (x's kids), 8 a statement, 9 a place or a call (x, a calls), 10 a function, 11 parameters (x), 12 functions (x's kids). -/
def P : Nat → Nat → Nd → Nat → List PT → PR
  | 0, _, _, _, _ => none
  | f + 1, 0, _, a, l => if 5 < a then P f 1 (nd 0 []) 0 l else (P f 0 (nd 0 []) (a + 1) l).on fun n l => P f 2 n a l
  | f + 1, 1, _, _, l =>
    if tx l = S.mi then (P f 1 (nd 0 []) 0 l.tail).on fun x l => .ok (nd 24 [x]) l
    else if tx l = W.not_ then (P f 1 (nd 0 []) 0 l.tail).on fun x l => .ok (nd 23 [x]) l
    else if tx l = S.hs then (P f 1 (nd 0 []) 0 l.tail).on fun x l => .ok (nd 25 [x]) l
    else (P f 3 (nd 0 []) 0 l).on fun n l => P f 4 n 0 l
  | f + 1, 2, x, a, l =>
    match opAt (tx l) with
    | none => .ok x l
    | some (o, k) =>
      if k = a then (P f 0 (nd 0 []) (a + 1) l.tail).on fun y l => if a = 2 then .ok ⟨22, [], o, [x, y]⟩ l else P f 2 ⟨22, [], o, [x, y]⟩ a l
      else .ok x l
  | f + 1, 3, _, _, l =>
    match l with
    | [] => .no l
    | t :: r =>
      if t.1 = 2 then .ok ⟨13, [], numOf t.2, []⟩ r
      else if t.1 = 3 then .ok ⟨14, t.2, 0, []⟩ r
      else if tx l = S.lp then (P f 0 (nd 0 []) 0 r).on fun n l => need S.rp l fun l => .ok n l
      else if tx l = W.nil_ then .ok (nd 15 []) r
      else if tx l = W.true_ then .ok (nd 16 []) r
      else if tx l = W.false_ then .ok (nd 17 []) r
      else if tx l = S.lc then need S.rc r fun l => .ok (nd 19 []) l
      else if tx l = W.next_ then need S.lp r fun l => (P f 0 (nd 0 []) 0 l).on fun x l => need S.cm l fun l => (P f 0 (nd 0 []) 0 l).on fun y l => need S.rp l fun l => .ok (nd 26 [x, y]) l
      else needName l fun s l => .ok ⟨18, s, 0, []⟩ l
  | f + 1, 4, x, _, l => if tx l = S.lb ∨ tx l = S.lp then (P f 5 x 0 l).on fun n l => P f 4 n 0 l else .ok x l
  | f + 1, 5, x, _, l =>
    if tx l = S.lb then (P f 0 (nd 0 []) 0 l.tail).on fun y l => need S.rb l fun l => .ok (nd 20 [x, y]) l
    else need S.lp l fun l => if tx l = S.rp then .ok (nd 21 [x]) l.tail else P f 6 (nd 21 [x]) 0 l
  | f + 1, 6, x, _, l => (P f 0 (nd 0 []) 0 l).on fun y l => if tx l = S.cm then P f 6 (nd 21 (x.kids ++ [y])) 0 l.tail else need S.rp l fun l => .ok (nd 21 (x.kids ++ [y])) l
  | f + 1, 7, x, _, l => if tx l = W.end_ ∨ tx l = W.else_ then .ok x l else (P f 8 (nd 0 []) 0 l).on fun s l => P f 7 (nd 4 (x.kids ++ [s])) 0 l
  | f + 1, 8, _, _, l =>
    if tx l = W.local_ then needName l.tail fun s l => need S.eq l fun l => (P f 0 (nd 0 []) 0 l).on fun x l => need S.sc l fun l => .ok ⟨5, s, 0, [x]⟩ l
    else if tx l = W.if_ then (P f 0 (nd 0 []) 0 l.tail).on fun x l => need W.then_ l fun l => (P f 7 (nd 4 []) 0 l).on fun b l =>
      if tx l = W.else_ then (P f 7 (nd 4 []) 0 l.tail).on fun c l => need W.end_ l fun l => .ok (nd 8 [x, b, c]) l else need W.end_ l fun l => .ok (nd 8 [x, b]) l
    else if tx l = W.while_ then (P f 0 (nd 0 []) 0 l.tail).on fun x l => need W.do_ l fun l => (P f 7 (nd 4 []) 0 l).on fun b l => need W.end_ l fun l => .ok (nd 9 [x, b]) l
    else if tx l = W.for_ then needName l.tail fun s l => need S.eq l fun l => (P f 0 (nd 0 []) 0 l).on fun x l => need S.cm l fun l => (P f 0 (nd 0 []) 0 l).on fun y l => need W.do_ l fun l => (P f 7 (nd 4 []) 0 l).on fun b l => need W.end_ l fun l => .ok ⟨10, s, 0, [x, y, b]⟩ l
    else if tx l = W.return_ then (P f 0 (nd 0 []) 0 l.tail).on fun x l => need S.sc l fun l => .ok (nd 11 [x]) l
    else if tx l = W.emit_ then (P f 0 (nd 0 []) 0 l.tail).on fun x l => need S.sc l fun l => .ok (nd 12 [x]) l
    else needName l fun s l => (P f 9 ⟨18, s, 0, []⟩ 0 l).on fun n l => need S.sc l fun l => .ok n l
  | f + 1, 9, x, a, l =>
    if tx l = S.lb then (P f 5 x 0 l).on fun n l => P f 9 n a l
    else if tx l = S.lp then (P f 5 x 0 l).on fun n l => P f 9 n (a + 1) l
    else if a = 0 then need S.eq l fun l => (P f 0 (nd 0 []) 0 l).on fun y l => .ok (nd 6 [x, y]) l
    else if x.k = 21 then .ok (nd 7 [x]) l else .no l
  | f + 1, 10, _, _, l => need W.function_ l fun l => needName l fun s l => need S.lp l fun l =>
      if tx l = S.rp then (P f 7 (nd 4 []) 0 l.tail).on fun b l => need W.end_ l fun l => .ok ⟨2, s, 0, [b]⟩ l
      else (P f 11 ⟨2, s, 0, []⟩ 0 l).on fun n l => need S.rp l fun l => (P f 7 (nd 4 []) 0 l).on fun b l => need W.end_ l fun l => .ok ⟨2, s, 0, n.kids ++ [b]⟩ l
  | f + 1, 11, x, _, l => needName l fun s l => if tx l = S.cm then P f 11 ⟨2, x.t, 0, x.kids ++ [⟨3, s, 0, []⟩]⟩ 0 l.tail else .ok ⟨2, x.t, 0, x.kids ++ [⟨3, s, 0, []⟩]⟩ l
  | f + 1, 12, x, _, l => if l = [] then .ok x l else (P f 10 (nd 0 []) 0 l).on fun g l => P f 12 (nd 1 (x.kids ++ [g])) 0 l
  | _ + 1, _, _, _, _ => none

theorem PR.on_mono {x y : PR} {g h : Nd → List PT → PR} {r : List PT ⊕ (Nd × List PT)} (hx : ∀ r, x = some r → y = some r) (hg : ∀ n l r, g n l = some r → h n l = some r) (e : x.on g = some r) : y.on h = some r := by
  unfold PR.on at e ⊢
  match x, e, hx with
  | none, e, _ => cases e
  | some (.inl l), e, hx => rw [hx _ rfl]; exact e
  | some (.inr (n, l)), e, hx => rw [hx _ rfl]; exact hg n l r e
theorem need_mono {s : List UInt8} {l : List PT} {g h : List PT → PR} {r : List PT ⊕ (Nd × List PT)} (hg : ∀ l r, g l = some r → h l = some r) (e : need s l g = some r) : need s l h = some r := by
  unfold need at e ⊢
  split at e
  · rename_i c; rw [if_pos c]; exact hg _ _ e
  · rename_i c; rw [if_neg c]; exact e
theorem needName_mono {l : List PT} {g h : List UInt8 → List PT → PR} {r : List PT ⊕ (Nd × List PT)} (hg : ∀ s l r, g s l = some r → h s l = some r) (e : needName l g = some r) : needName l h = some r := by
  unfold needName at e ⊢
  split at e
  · rename_i c; rw [if_pos c]; exact hg _ _ _ e
  · rename_i c; rw [if_neg c]; exact e
theorem ite_mono {c : Prop} [Decidable c] {x x' y y' : PR} {r : List PT ⊕ (Nd × List PT)} (h1 : x = some r → x' = some r) (h2 : y = some r → y' = some r) (e : (if c then x else y) = some r) : (if c then x' else y') = some r := by
  split at e
  · rename_i h; rw [if_pos h]; exact h1 e
  · rename_i h; rw [if_neg h]; exact h2 e

theorem P_succ : ∀ (f tag : Nat) (x : Nd) (a : Nat) (l : List PT) (r : List PT ⊕ (Nd × List PT)), P f tag x a l = some r → P (f + 1) tag x a l = some r := by
  intro f
  induction f with
  | zero => intro tag x a l r h; cases h
  | succ f ih =>
    intro tag x a l r h
    revert h
    match tag with
    | 0 | 1 | 4 | 5 | 6 | 7 | 8 | 9 | 10 | 11 | 12 =>
      rw [P, P]
      repeat' first
        | exact ih _ _ _ _ _
        | exact fun h => h
        | refine ite_mono ?_ ?_
        | refine PR.on_mono (ih _ _ _ _) ?_
        | refine need_mono ?_
        | refine needName_mono ?_
        | intro _ _ _
        | intro _ _
    | 2 =>
      rw [P, P]
      cases opAt (tx l) with
      | none => exact fun h => h
      | some p =>
        obtain ⟨o, k⟩ := p
        repeat' first
          | exact ih _ _ _ _ _
          | exact fun h => h
          | refine ite_mono ?_ ?_
          | refine PR.on_mono (ih _ _ _ _) ?_
          | intro _ _ _
    | 3 =>
      cases l with
      | nil => rw [P, P]; exact fun h => h
      | cons t q =>
        rw [P, P]
        repeat' first
          | exact ih _ _ _ _ _
          | exact fun h => h
          | refine ite_mono ?_ ?_
          | refine PR.on_mono (ih _ _ _ _) ?_
          | refine need_mono ?_
          | refine needName_mono ?_
          | intro _ _ _
          | intro _ _
    | n + 13 =>
      intro h
      rw [P] at h
      · cases h
      all_goals (intro e; omega)
theorem P_mono {f g tag : Nat} {x : Nd} {a : Nat} {l : List PT} {r : List PT ⊕ (Nd × List PT)} (h : f ≤ g) (e : P f tag x a l = some r) : P g tag x a l = some r := by
  induction h with
  | refl => exact e
  | step _ ih => exact P_succ _ _ _ _ _ _ ih

end Go.Proofs.YtnnppenlfocgiaaGreatDoor
namespace Go.Proofs.YtnnppenlfocgiaaGreatDoor
open Go

theorem nd_ind {m : Nd → Prop} (h : ∀ k t n kids, (∀ x ∈ kids, m x) → m ⟨k, t, n, kids⟩) (x : Nd) : m x := by
  exact Nd.rec (motive_1 := m) (motive_2 := fun l => ∀ x ∈ l, m x) (fun k t n kids ih => h k t n kids ih) (fun x hx => by simp at hx) (fun a l ha hl x hx => by
    simp at hx
    rcases hx with rfl | hx
    · exact ha
    · exact hl x hx) x

abbrev wt (s : List UInt8) : PT := (1, s)
abbrev st (s : List UInt8) : PT := (4, s)
theorem tx_s (s : List UInt8) (l : List PT) : tx (st s :: l) = s := by simp [tx]
theorem need_s (s : List UInt8) (l : List PT) (g : List PT → PR) : need s (st s :: l) g = g l := by unfold need; rw [if_pos (tx_s s l)]; rfl
theorem on_yes (n : Nd) (l : List PT) (g : Nd → List PT → PR) : PR.on (some (.inr (n, l))) g = g n l := rfl
/-- How closely a node binds. -/
def bindsN (x : Nd) : Nat := if x.k = 22 then ((opOf x.n).map (fun p => p.2)).getD 0 else if x.k = 23 ∨ x.k = 24 ∨ x.k = 25 then 6 else 7
def parT (ts : List PT) : List PT := st S.lp :: (ts ++ [st S.rp])
def atT (least : Nat) (p : Nat × List PT) : List PT := if p.1 < least then parT p.2 else p.2
def commaT : List (Nat × List PT) → List PT
  | [] => []
  | [p] => p.2
  | p :: q :: l => p.2 ++ st S.cm :: commaT (q :: l)
def roundT (l : List (Nat × List PT)) : List PT := if l = [] then [st S.lp, st S.rp] else st S.lp :: (commaT l ++ [st S.rp])
def allT (l : List (Nat × List PT)) : List PT := l.flatMap (fun p => p.2)
def opT (o : Int) : PT := match opOf o with
  | none => (4, [])
  | some (s, _) => (if o = 20 ∨ o = 21 then 1 else 4, s)
def lvlN (o : Int) : Nat := ((opOf o).map (fun p => p.2)).getD 0
/-- The digits of a number. -/
def digitsN (n : Nat) : List UInt8 := Lib.decDigits n

/-- A node's tokens, out of its kids'. -/
def comb (k : Int) (t : List UInt8) (n : Int) (ks : List (Nat × List PT)) : List PT :=
  if k = 1 ∨ k = 4 then allT ks
  else if k = 2 then [wt W.function_, wt t] ++ roundT ks.dropLast ++ (ks.getLast?.map (fun p => p.2)).getD [] ++ [wt W.end_]
  else if k = 3 ∨ k = 18 then [wt t]
  else if k = 13 then [(2, digitsN n.toNat)]
  else if k = 14 then [(3, t)]
  else if k = 15 then [wt W.nil_]
  else if k = 16 then [wt W.true_]
  else if k = 17 then [wt W.false_]
  else if k = 19 then [st S.lc, st S.rc]
  else if k = 26 then wt W.next_ :: roundT ks
  else match ks with
    | [] => []
    | p :: l =>
      if k = 21 then atT 7 p ++ roundT l
      else if k = 23 then wt W.not_ :: atT 6 p
      else if k = 24 then st S.mi :: atT 6 p
      else if k = 25 then st S.hs :: atT 6 p
      else if k = 5 then [wt W.local_, wt t, st S.eq] ++ p.2 ++ [st S.sc]
      else if k = 7 then p.2 ++ [st S.sc]
      else if k = 11 then wt W.return_ :: (p.2 ++ [st S.sc])
      else if k = 12 then wt W.emit_ :: (p.2 ++ [st S.sc])
      else match l with
        | [] => []
        | q :: m =>
          if k = 20 then atT 7 p ++ st S.lb :: (q.2 ++ [st S.rb])
          else if k = 22 then atT (if lvlN n = 2 then 3 else lvlN n) p ++ opT n :: atT (lvlN n + 1) q
          else if k = 6 then p.2 ++ st S.eq :: (q.2 ++ [st S.sc])
          else if k = 9 then wt W.while_ :: (p.2 ++ wt W.do_ :: (q.2 ++ [wt W.end_]))
          else if k = 8 then wt W.if_ :: (p.2 ++ wt W.then_ :: (q.2 ++ ((m.head?.map (fun r => wt W.else_ :: r.2)).getD [] ++ [wt W.end_])))
          else match m with
            | [] => []
            | r :: _ => [wt W.for_, wt t, st S.eq] ++ p.2 ++ st S.cm :: (q.2 ++ wt W.do_ :: (r.2 ++ [wt W.end_]))

def showT : Nd → List PT
  | ⟨k, t, n, kids⟩ => comb k t n (go kids)
where go : List Nd → List (Nat × List PT)
  | [] => []
  | x :: l => (bindsN x, showT x) :: go l

def info (x : Nd) : Nat × List PT := (bindsN x, showT x)
theorem go_map : ∀ l : List Nd, showT.go l = l.map info
  | [] => rfl
  | x :: l => by rw [showT.go, go_map l]; rfl
theorem showT_eq (k : Int) (t : List UInt8) (n : Int) (kids : List Nd) : showT ⟨k, t, n, kids⟩ = comb k t n (kids.map info) := by rw [showT, go_map]

def exprK (k : Int) : Prop := 13 ≤ k ∧ k ≤ 26
/-- It is read so. -/
def Q (tag : Nat) (x : Nd) (a : Nat) (l : List PT) (r : List PT ⊕ (Nd × List PT)) : Prop := ∃ f, P f tag x a l = some r
abbrev yes (n : Nd) (l : List PT) : List PT ⊕ (Nd × List PT) := .inr (n, l)
abbrev nil0 : Nd := nd 0 []

theorem Q0 {a : Nat} {l l1 : List PT} {n : Nd} {r : List PT ⊕ (Nd × List PT)} (ha : ¬ 5 < a) (h1 : Q 0 nil0 (a + 1) l (yes n l1)) (h2 : Q 2 n a l1 r) : Q 0 nil0 a l r := by
  obtain ⟨f1, h1⟩ := h1
  obtain ⟨f2, h2⟩ := h2
  refine ⟨f1 + f2 + 1, ?_⟩
  rw [P, if_neg ha, P_mono (by omega) h1]
  exact P_mono (by omega) h2
theorem Q0u {a : Nat} {l : List PT} {r : List PT ⊕ (Nd × List PT)} (ha : 5 < a) (h1 : Q 1 nil0 0 l r) : Q 0 nil0 a l r := by
  obtain ⟨f1, h1⟩ := h1
  refine ⟨f1 + 1, ?_⟩
  rw [P, if_pos ha]
  exact h1
/-- No sign that binds so closely comes. -/
def lvB (a : Nat) (l : List PT) : Prop := ∀ o k, opAt (tx l) = some (o, k) → k < a
theorem Q2stop {a : Nat} {x : Nd} {l : List PT} (h : ∀ o k, opAt (tx l) = some (o, k) → k ≠ a) : Q 2 x a l (yes x l) := by
  refine ⟨1, ?_⟩
  rw [P]
  cases ho : opAt (tx l) with
  | none => rfl
  | some p =>
    obtain ⟨o, k⟩ := p
    simp only
    rw [if_neg (h o k ho)]
theorem Q1first {l l1 : List PT} {x : Nd} {r : List PT ⊕ (Nd × List PT)} (h1 : tx l ≠ S.mi) (h2 : tx l ≠ W.not_) (h3 : tx l ≠ S.hs) (h : Q 3 nil0 0 l (yes x l1)) (h4 : Q 4 x 0 l1 r) : Q 1 nil0 0 l r := by
  obtain ⟨f1, h⟩ := h
  obtain ⟨f2, h4⟩ := h4
  refine ⟨f1 + f2 + 1, ?_⟩
  rw [P, if_neg h1, if_neg h2, if_neg h3, P_mono (by omega) h]
  exact P_mono (by omega) h4
def stops (l : List PT) : Prop := tx l ≠ S.lb ∧ tx l ≠ S.lp
theorem Q4stop {x : Nd} {l : List PT} (h : stops l) : Q 4 x 0 l (yes x l) := by
  refine ⟨1, ?_⟩
  rw [P, if_neg (by rintro (e | e); exact h.1 e; exact h.2 e)]
theorem Q3par {x : Nd} {l l1 : List PT} (h : Q 0 nil0 0 l (yes x (st S.rp :: l1))) : Q 3 nil0 0 (st S.lp :: l) (yes x l1) := by
  obtain ⟨f1, h⟩ := h
  refine ⟨f1 + 1, ?_⟩
  rw [P]
  simp only
  rw [tx_s, if_neg (by decide), if_neg (by decide), if_pos rfl, h, on_yes, need_s]
end Go.Proofs.YtnnppenlfocgiaaGreatDoor
namespace Go.Proofs.YtnnppenlfocgiaaGreatDoor
open Go Go.RowKit

/-- What lay there is left alone, but for some blocks. -/
structure Keeps (S : Nat → Prop) (W W' : World) : Prop where
  os : W'.os = W.os
  tape : W'.tape = W.tape
  output : W'.output = W.output
  size : W.heap.size ≤ W'.heap.size
  block : ∀ k, k < W.heap.size → ¬ S k → W'.heap[k]? = W.heap[k]?
theorem Keeps.refl (S : Nat → Prop) (W : World) : Keeps S W W := ⟨rfl, rfl, rfl, Nat.le_refl _, fun _ _ _ => rfl⟩
theorem Keeps.trans {S : Nat → Prop} {a b c : World} (h : Keeps S a b) (k : Keeps S b c) : Keeps S a c :=
  ⟨k.os.trans h.os, k.tape.trans h.tape, k.output.trans h.output, Nat.le_trans h.size k.size, fun i hi hs => (k.block i (Nat.lt_of_lt_of_le hi h.size) hs).trans (h.block i hi hs)⟩
theorem Keeps.mono {S S' : Nat → Prop} {a b : World} (h : Keeps S a b) (hs : ∀ k, k < a.heap.size → S k → S' k) : Keeps S' a b := ⟨h.os, h.tape, h.output, h.size, fun k hk hn => h.block k hk fun c => hn (hs k hk c)⟩
theorem Keeps.then {S S' : Nat → Prop} {a b c : World} (h : Keeps S a b) (k : Keeps S' b c) (hs : ∀ j, j < a.heap.size → S' j → S j) : Keeps S a c :=
  ⟨k.os.trans h.os, k.tape.trans h.tape, k.output.trans h.output, Nat.le_trans h.size k.size, fun i hi hn => (k.block i (Nat.lt_of_lt_of_le hi h.size) fun q => hn (hs i hi q)).trans (h.block i hi hn)⟩
theorem Keeps.of_below {S : Nat → Prop} {a b : World} (h : Below a.heap.size a b) : Keeps S a b := ⟨h.os, h.tape, h.output, h.size, fun k hk _ => h.block k hk⟩
theorem Keeps.grown {a b : World} {row : Option Nat} (h : a.grownBy b row) : Keeps (fun k => some k = row) a b := ⟨h.os, h.tape, h.output, h.size, fun k hk hn => h.block k hk hn⟩
theorem Keeps.alloc {S : Nat → Prop} {a b : World} (h : Keeps S a b) (o : Obj) : Keeps S a (b.alloc o) := h.trans (Keeps.of_below ((Below.refl _ _).alloc (Nat.le_refl _) _))
theorem Keeps.drew {S : Nat → Prop} {a b : World} (h : Keeps S a b) : Keeps S a b.drew := h.trans (Keeps.of_below ((Below.refl _ _).drew))
theorem Keeps.set {S : Nat → Prop} {a b : World} (h : Keeps S a b) (B i : Nat) (v : Value) (hB : B < a.heap.size → S B) : Keeps S a (b.setCell ⟨B, i, none⟩ v) :=
  h.then (Keeps.grown (Lib.grownBy_setCell b B i v)) (fun j hj e => by cases e; exact hB hj)
theorem Keeps.below {S : Nat → Prop} {a b : World} {m : Nat} (h : Keeps S a b) (hm : m ≤ a.heap.size) (hs : ∀ k, k < m → ¬ S k) : Below m a b := ⟨h.os, h.tape, h.output, h.size, fun k hk => h.block k (by omega) (hs k hk)⟩
theorem Keeps.cell {S : Nat → Prop} {a b : World} (h : Keeps S a b) {g o : Nat} {v : Value} (hc : a.cell? ⟨g, o, none⟩ = some v) (hs : ¬ S g) : b.cell? ⟨g, o, none⟩ = some v :=
  (World.cell?_of_block (a := ⟨g, o, none⟩) (h.block g (World.block_lt_of_cell? _ _ hc) hs)).trans hc

/-- Four cells are a node; its kids lie one behind the other, in a block that S holds of. -/
def NdAt (S : Nat → Prop) (W : World) : Nd → (Nat → Option Value) → Prop
  | ⟨k, t, n, kids⟩, c => c 0 = some (.int .i64 k) ∧ c 1 = some (.string ⟨t.toArray⟩) ∧ c 2 = some (.int .i64 n) ∧
      ∃ b cap, c 3 = some (.slice b kids.length cap) ∧ kids.length ≤ cap ∧ (kids = [] ∨ ∃ g off, b = some ⟨g, off, none⟩ ∧ S g ∧ go g off kids)
where go (g : Nat) : Nat → List Nd → Prop
  | _, [] => True
  | off, x :: l => NdAt S W x (fun i => W.cell? ⟨g, off + i, none⟩) ∧ go g (off + 4) l
/-- A row of nodes. -/
theorem ndAt_go (S : Nat → Prop) (W : World) (g : Nat) : ∀ (l : List Nd) (off : Nat), NdAt.go S W g off l ↔ ∀ j x, l[j]? = some x → NdAt S W x (fun i => W.cell? ⟨g, off + j * 4 + i, none⟩)
  | [], off => by simp [NdAt.go]
  | x :: l, off => by
    rw [NdAt.go, ndAt_go S W g l (off + 4)]
    constructor
    · rintro ⟨h1, h2⟩ j y hy
      cases j with
      | zero =>
        simp at hy
        subst hy
        simpa using h1
      | succ j =>
        have := h2 j y (by simpa using hy)
        have e : off + (j + 1) * 4 = off + 4 + j * 4 := by omega
        rw [e]
        exact this
    · intro h
      refine ⟨?_, fun j y hy => ?_⟩
      · have := h 0 x (by simp)
        simpa using this
      · have := h (j + 1) y (by simpa using hy)
        have e : off + (j + 1) * 4 = off + 4 + j * 4 := by omega
        rw [e] at this
        exact this
theorem NdAt.first {S : Nat → Prop} {W : World} {x : Nd} {c : Nat → Option Value} (h : NdAt S W x c) : c 0 = some (.int .i64 x.k) := by
  obtain ⟨k, t, n, kids⟩ := x
  rw [NdAt] at h
  exact h.1
theorem NdAt.on {S S' : Nat → Prop} {W W' : World} (hW : ∀ g, S g → g < W.heap.size → S' g ∧ W'.heap[g]? = W.heap[g]?) (x : Nd) : ∀ (c c' : Nat → Option Value), (∀ i v, c i = some v → c' i = some v) → NdAt S W x c → NdAt S' W' x c' := by
  refine nd_ind (m := fun x => ∀ (c c' : Nat → Option Value), (∀ i v, c i = some v → c' i = some v) → NdAt S W x c → NdAt S' W' x c') (fun k t n kids ih c c' hc h => ?_) x
  rw [NdAt] at h ⊢
  obtain ⟨h0, h1, h2, b, cap, h3, h4, h5⟩ := h
  refine ⟨hc _ _ h0, hc _ _ h1, hc _ _ h2, b, cap, hc _ _ h3, h4, ?_⟩
  rcases h5 with h5 | ⟨g, off, e, hs, h5⟩
  · exact .inl h5
  · by_cases hk : kids = []
    · exact .inl hk
    · rw [ndAt_go] at h5
      have hlt : g < W.heap.size := by
        cases kids with
        | nil => exact absurd rfl hk
        | cons y l =>
          have := (h5 0 y (by simp)).first
          exact World.block_lt_of_cell? _ _ this
      obtain ⟨hs', hg⟩ := hW g hs hlt
      refine .inr ⟨g, off, e, hs', ?_⟩
      rw [ndAt_go]
      intro j y hy
      exact ih y (List.mem_of_getElem? hy) _ _ (fun i v hv => (World.cell?_of_block (a := ⟨g, _, none⟩) hg).trans hv) (h5 j y hy)

/-- A value is a node. -/
def NdV (S : Nat → Prop) (W : World) (x : Nd) (v : Value) : Prop := ∃ a b c d, v = .agg #[a, b, c, d] ∧ NdAt S W x (fun i => #[a, b, c, d][i]?)
theorem NdV.on {S S' : Nat → Prop} {W W' : World} {x : Nd} {v : Value} (h : NdV S W x v) (hW : ∀ g, S g → g < W.heap.size → S' g ∧ W'.heap[g]? = W.heap[g]?) : NdV S' W' x v := by
  obtain ⟨a, b, c, d, e, h⟩ := h
  exact ⟨a, b, c, d, e, NdAt.on hW x _ _ (fun _ _ h => h) h⟩
theorem NdV.keep {S T : Nat → Prop} {W W' : World} {x : Nd} {v : Value} (h : NdV S W x v) (hk : Keeps T W W') (hs : ∀ g, S g → g < W.heap.size → ¬ T g) : NdV S W' x v :=
  h.on fun g hg hlt => ⟨hg, hk.block g hlt (hs g hg hlt)⟩
theorem NdV.below {S : Nat → Prop} {W W' : World} {x : Nd} {v : Value} (h : NdV S W x v) (hk : Below W.heap.size W W') : NdV S W' x v := h.on fun g hg hlt => ⟨hg, hk.block g hlt⟩
theorem NdV.weak {S S' : Nat → Prop} {W : World} {x : Nd} {v : Value} (h : NdV S W x v) (hs : ∀ g, S g → g < W.heap.size → S' g) : NdV S' W x v := h.on fun g hg hlt => ⟨hs g hg hlt, rfl⟩
theorem NdV.form {S : Nat → Prop} {W : World} {x : Nd} {v : Value} (h : NdV S W x v) : ∃ b cap, v = .agg #[.int .i64 x.k, .string ⟨x.t.toArray⟩, .int .i64 x.n, .slice b x.kids.length cap] ∧ x.kids.length ≤ cap ∧ (x.kids = [] ∨ ∃ g off, b = some ⟨g, off, none⟩ ∧ S g ∧ ∀ j y, x.kids[j]? = some y → NdAt S W y (fun i => W.cell? ⟨g, off + j * 4 + i, none⟩)) := by
  obtain ⟨a, b, c, d, rfl, h⟩ := h
  obtain ⟨k, t, n, kids⟩ := x
  rw [NdAt] at h
  obtain ⟨h0, h1, h2, b', cap, h3, h4, h5⟩ := h
  simp at h0 h1 h2 h3
  subst h0 h1 h2 h3
  refine ⟨b', cap, rfl, h4, ?_⟩
  rcases h5 with h5 | ⟨g, off, e, hs, h5⟩
  · exact .inl h5
  · exact .inr ⟨g, off, e, hs, (ndAt_go S W g kids off).1 h5⟩
theorem ndV_mk {S : Nat → Prop} {W : World} {k : Int} {t : List UInt8} {n : Int} {kids : List Nd} {b : Option Addr} {cap : Nat} (h4 : kids.length ≤ cap) (h5 : kids = [] ∨ ∃ g off, b = some ⟨g, off, none⟩ ∧ S g ∧ ∀ j y, kids[j]? = some y → NdAt S W y (fun i => W.cell? ⟨g, off + j * 4 + i, none⟩)) :
    NdV S W ⟨k, t, n, kids⟩ (.agg #[.int .i64 k, .string ⟨t.toArray⟩, .int .i64 n, .slice b kids.length cap]) := by
  refine ⟨_, _, _, _, rfl, ?_⟩
  rw [NdAt]
  refine ⟨rfl, rfl, rfl, b, cap, rfl, h4, ?_⟩
  rcases h5 with h5 | ⟨g, off, e, hs, h5⟩
  · exact .inl h5
  · exact .inr ⟨g, off, e, hs, (ndAt_go S W g kids off).2 h5⟩
/-- A node without kids. -/
theorem ndV_leaf (S : Nat → Prop) (W : World) (k : Int) (t : List UInt8) (n : Int) : NdV S W ⟨k, t, n, []⟩ (.agg #[.int .i64 k, .string ⟨t.toArray⟩, .int .i64 n, .slice none 0 0]) := ndV_mk (kids := []) (Nat.le_refl _) (.inl rfl)

/-- A row of nodes that is put together: its cells, its blocks. -/
structure Row (S : Nat → Prop) (W : World) (v : Value) (ks : List Nd) : Prop where
  own : ∃ xs : List Value, W.ownsRow 0 24 4 v ks.length xs ∧ (∀ b, v.ownBlock = some b → S b) ∧ ∀ j y, ks[j]? = some y → NdAt (fun g => S g ∧ some g ≠ v.ownBlock) W y (fun i => if i < 4 then xs[j * 4 + i]? else none)
theorem Row.nil (S : Nat → Prop) (W : World) : Row S W (.slice none 0 0) [] := ⟨[], World.ownsRow_nil _ _ _ _, fun b h => by simp [Value.ownBlock] at h, fun j y h => by simp at h⟩
theorem Row.form {S : Nat → Prop} {W : World} {v : Value} {ks : List Nd} (h : Row S W v ks) : ∃ b cap, v = .slice b ks.length cap ∧ ∀ g, v.ownBlock = some g → S g ∧ g < W.heap.size := by
  obtain ⟨xs, ho, hs, _⟩ := h.own
  rcases ho.2 with ⟨rfl, hn⟩ | ⟨g, cap, cur, rfl, hg, hh, _⟩
  · exact ⟨none, 0, by rw [hn], fun g e => by simp [Value.ownBlock] at e⟩
  · exact ⟨_, cap, rfl, fun g' e => ⟨hs g' e, by
      have : g = g' := by simpa [Value.ownBlock] using e
      subst this
      exact (Array.getElem?_eq_some_iff.1 hh).1⟩⟩
theorem Row.on {S S' : Nat → Prop} {W W' : World} {v : Value} {ks : List Nd} (h : Row S W v ks) (hW : ∀ g, S g → g < W.heap.size → S' g ∧ W'.heap[g]? = W.heap[g]?) : Row S' W' v ks := by
  obtain ⟨xs, ho, hs, hn⟩ := h.own
  rcases ho.2 with ⟨rfl, h0⟩ | ⟨g, cap, cur, rfl, hg, hh, hr⟩
  · exact ⟨xs, ⟨ho.1, .inl ⟨rfl, h0⟩⟩, fun b e => by simp [Value.ownBlock] at e, fun j y hy => NdAt.on (fun g hg hlt => ⟨⟨(hW g hg.1 hlt).1, hg.2⟩, (hW g hg.1 hlt).2⟩) y _ _ (fun _ _ h => h) (hn j y hy)⟩
  · have hlt := (Array.getElem?_eq_some_iff.1 hh).1
    have hS := hW g (hs g rfl) hlt
    exact ⟨xs, ⟨ho.1, .inr ⟨g, cap, cur, rfl, hg, hS.2.trans hh, hr⟩⟩, fun b e => by
      have : g = b := by simpa [Value.ownBlock] using e
      subst this; exact hS.1, fun j y hy => NdAt.on (fun g hg hlt => ⟨⟨(hW g hg.1 hlt).1, hg.2⟩, (hW g hg.1 hlt).2⟩) y _ _ (fun _ _ h => h) (hn j y hy)⟩
theorem Row.keep {S T : Nat → Prop} {W W' : World} {v : Value} {ks : List Nd} (h : Row S W v ks) (hk : Keeps T W W') (hs : ∀ g, S g → g < W.heap.size → ¬ T g) : Row S W' v ks := h.on fun g hg hlt => ⟨hg, hk.block g hlt (hs g hg hlt)⟩
theorem Row.below {S : Nat → Prop} {W W' : World} {v : Value} {ks : List Nd} (h : Row S W v ks) (hb : Below W.heap.size W W') : Row S W' v ks := h.on fun g hg hlt => ⟨hg, hb.block g hlt⟩
theorem Row.weak {S S' : Nat → Prop} {W : World} {v : Value} {ks : List Nd} (h : Row S W v ks) (hs : ∀ g, S g → g < W.heap.size → S' g) : Row S' W v ks := h.on fun g hg hlt => ⟨hs g hg hlt, rfl⟩
/-- A row's node. -/
theorem Row.node {S : Nat → Prop} {W : World} {v : Value} {ks : List Nd} (h : Row S W v ks) (k : Int) (t : List UInt8) (n : Int) : NdV S W ⟨k, t, n, ks⟩ (.agg #[.int .i64 k, .string ⟨t.toArray⟩, .int .i64 n, v]) := by
  obtain ⟨xs, ho, hs, hn⟩ := h.own
  rcases ho.2 with ⟨rfl, h0⟩ | ⟨g, cap, cur, rfl, hg, hh, h1, h2, h3, h4⟩
  · obtain rfl := List.length_eq_zero_iff.1 h0
    exact ndV_leaf _ _ _ _ _
  · refine ndV_mk h1 (.inr ⟨g, 0, rfl, hs g rfl, fun j y hy => ?_⟩)
    refine NdAt.on (fun g hg _ => ⟨hg.1, rfl⟩) y _ _ (fun i u hu => ?_) (hn j y hy)
    split at hu
    · rename_i hi
      have hc : cur.toList[j * 4 + i]? = some u := by
        rw [← h4] at hu
        rw [List.getElem?_take] at hu
        split at hu
        · exact hu
        · cases hu
      have hc2 : cur[j * 4 + i]? = some u := by simpa using hc
      simp [World.cell?, hh, hc2]
    · cases hu
/-- One more. -/
theorem Row.snoc {S : Nat → Prop} {W W' : World} {v : Value} {ks : List Nd} {y : Nd} {a b c d : Value} {xs : List Value} (ho : W.ownsRow 0 24 4 v ks.length xs) (hs : ∀ b, v.ownBlock = some b → S b) (hn : ∀ j y, ks[j]? = some y → NdAt (fun g => S g ∧ some g ≠ v.ownBlock) W y (fun i => if i < 4 then xs[j * 4 + i]? else none))
    (hy : NdV (fun g => S g ∧ some g ≠ v.ownBlock) W y (.agg #[a, b, c, d])) {g cap : Nat} (ho' : W'.ownsRow 0 24 4 (.slice (some ⟨g, 0, none⟩) (ks.length + 1) cap) (ks.length + 1) (xs ++ [a, b, c, d])) (hg : W.grownBy W' v.ownBlock) (hat : v.ownBlock = some g ∨ g = W.heap.size) (hS : ∀ g, W.heap.size ≤ g → S g) :
    Row S W' (.slice (some ⟨g, 0, none⟩) (ks.length + 1) cap) (ks ++ [y]) := by
  have hl : xs.length = ks.length * 4 := ho.1
  have hkeep : ∀ q, (S q ∧ some q ≠ v.ownBlock) → q < W.heap.size → (S q ∧ some q ≠ Value.ownBlock (.slice (some ⟨g, 0, none⟩) (ks.length + 1) cap)) ∧ W'.heap[q]? = W.heap[q]? := fun q hq hlt => by
    refine ⟨⟨hq.1, ?_⟩, hg.block q hlt hq.2⟩
    rcases hat with e | e
    · rw [e] at hq; exact hq.2
    · intro e2
      have e3 : q = g := by simpa [Value.ownBlock] using e2
      omega
  refine ⟨xs ++ [a, b, c, d], by rw [List.length_append]; exact ho', fun q e => ?_, fun j z hz => ?_⟩
  · have e3 : g = q := by simpa [Value.ownBlock] using e
    subst e3
    rcases hat with e | e
    · exact hs g e
    · exact hS g (by omega)
  rcases Nat.lt_or_ge j ks.length with hj | hj
  · rw [List.getElem?_append_left hj] at hz
    refine NdAt.on hkeep z _ _ (fun i u hu => ?_) (hn j z hz)
    split at hu
    · rename_i hi
      rw [if_pos hi, List.getElem?_append_left (by omega)]
      exact hu
    · cases hu
  · have hj' : j = ks.length := by
      have := (List.getElem?_eq_some_iff.1 hz).1
      simp at this
      omega
    subst hj'
    rw [List.getElem?_append_right (Nat.le_refl _)] at hz
    simp at hz
    subst hz
    obtain ⟨a', b', c', d', e, hy⟩ := hy
    simp only [Value.agg.injEq, Array.mk.injEq, List.cons.injEq, and_true] at e
    obtain ⟨rfl, rfl, rfl, rfl⟩ := e
    refine NdAt.on hkeep y _ _ (fun i u hu => ?_) hy
    have hi : i < 4 := by
      have := (Array.getElem?_eq_some_iff.1 hu).1
      simpa using this
    rw [if_pos hi, List.getElem?_append_right (by omega)]
    have : ks.length * 4 + i - xs.length = i := by omega
    rw [this]
    simpa using hu
/-- A row that was written out. -/
theorem Row.two {S : Nat → Prop} {W : World} {g : Nat} {x y : Nd} {a b c d a' b' c' d' : Value} (hm : S g) (hx : NdV (fun q => S q ∧ q ≠ g) W x (.agg #[a, b, c, d])) (hy : NdV (fun q => S q ∧ q ≠ g) W y (.agg #[a', b', c', d'])) (hg : W.heap[g]? = some (.cells #[a, b, c, d, a', b', c', d'] 24)) :
    Row S W (.slice (some ⟨g, 0, none⟩) 2 2) [x, y] := by
  refine ⟨[a, b, c, d, a', b', c', d'], ⟨rfl, .inr ⟨g, 2, _, rfl, Nat.zero_le _, hg, Nat.le_refl _, by unfold maxLen; omega, rfl, rfl⟩⟩, fun q e => by
    have e3 : g = q := by simpa [Value.ownBlock] using e
    subst e3; exact hm, fun j z hz => ?_⟩
  have hS : ∀ q, (S q ∧ q ≠ g) → q < W.heap.size → (S q ∧ some q ≠ Value.ownBlock (.slice (some ⟨g, 0, none⟩) 2 2)) ∧ W.heap[q]? = W.heap[q]? := fun q hq _ => ⟨⟨hq.1, fun e => hq.2 (by simpa [Value.ownBlock] using e)⟩, rfl⟩
  match j, hz with
  | 0, hz =>
    simp at hz; subst hz
    obtain ⟨_, _, _, _, e, hx⟩ := hx
    simp only [Value.agg.injEq, Array.mk.injEq, List.cons.injEq, and_true] at e
    obtain ⟨rfl, rfl, rfl, rfl⟩ := e
    refine NdAt.on hS _ _ _ (fun i u hu => ?_) hx
    match i, hu with
    | 0, hu | 1, hu | 2, hu | 3, hu => simpa using hu
    | n + 4, hu => simp at hu
  | 1, hz =>
    simp at hz; subst hz
    obtain ⟨_, _, _, _, e, hy⟩ := hy
    simp only [Value.agg.injEq, Array.mk.injEq, List.cons.injEq, and_true] at e
    obtain ⟨rfl, rfl, rfl, rfl⟩ := e
    refine NdAt.on hS _ _ _ (fun i u hu => ?_) hy
    match i, hu with
    | 0, hu | 1, hu | 2, hu | 3, hu => simpa using hu
    | n + 4, hu => simp at hu
  | n + 2, hz => simp at hz
theorem Row.one {S : Nat → Prop} {W : World} {g : Nat} {x : Nd} {a b c d : Value} (hm : S g) (hx : NdV (fun q => S q ∧ q ≠ g) W x (.agg #[a, b, c, d])) (hg : W.heap[g]? = some (.cells #[a, b, c, d] 24)) :
    Row S W (.slice (some ⟨g, 0, none⟩) 1 1) [x] := by
  refine ⟨[a, b, c, d], ⟨rfl, .inr ⟨g, 1, _, rfl, Nat.zero_le _, hg, Nat.le_refl _, by unfold maxLen; omega, rfl, rfl⟩⟩, fun q e => by
    have e3 : g = q := by simpa [Value.ownBlock] using e
    subst e3; exact hm, fun j z hz => ?_⟩
  have hS : ∀ q, (S q ∧ q ≠ g) → q < W.heap.size → (S q ∧ some q ≠ Value.ownBlock (.slice (some ⟨g, 0, none⟩) 1 1)) ∧ W.heap[q]? = W.heap[q]? := fun q hq _ => ⟨⟨hq.1, fun e => hq.2 (by simpa [Value.ownBlock] using e)⟩, rfl⟩
  match j, hz with
  | 0, hz =>
    simp at hz; subst hz
    obtain ⟨_, _, _, _, e, hx⟩ := hx
    simp only [Value.agg.injEq, Array.mk.injEq, List.cons.injEq, and_true] at e
    obtain ⟨rfl, rfl, rfl, rfl⟩ := e
    refine NdAt.on hS _ _ _ (fun i u hu => ?_) hx
    match i, hu with
    | 0, hu | 1, hu | 2, hu | 3, hu => simpa using hu
    | n + 4, hu => simp at hu
  | n + 1, hz => simp at hz

/-- How deep a node is, of how many. -/
def deepN : Nd → Nat
  | ⟨_, _, _, kids⟩ => go kids + 1
where go : List Nd → Nat
  | [] => 0
  | x :: l => max (deepN x) (go l)
def manyN : Nd → Nat
  | ⟨_, _, _, kids⟩ => go kids + 1
where go : List Nd → Nat
  | [] => 0
  | x :: l => manyN x + go l

end Go.Proofs.YtnnppenlfocgiaaGreatDoor
