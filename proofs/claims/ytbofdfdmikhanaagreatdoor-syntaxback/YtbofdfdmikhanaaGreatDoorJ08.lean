/- Of programs, in plain words: every expression. Of programs, in plain words: what is written of a program is read as the same. -/
import Derived.Test.YtbofdfdmikhanaaGreatDoorJ07
namespace Go.Proofs.YtbofdfdmikhanaaGreatDoor
open Go

theorem show_call (t : List UInt8) (n : Int) (y : Nd) (l : List Nd) : showT ⟨21, t, n, y :: l⟩ = atT 7 (info y) ++ roundT (l.map info) := by rw [showT_eq]; rfl
theorem show_index (t : List UInt8) (n : Int) (y z : Nd) : showT ⟨20, t, n, [y, z]⟩ = atT 7 (info y) ++ st S.lb :: (showT z ++ [st S.rb]) := by rw [showT_eq]; rfl
theorem show_op (t : List UInt8) (n : Int) (y z : Nd) : showT ⟨22, t, n, [y, z]⟩ = atT (if lvlN n = 2 then 3 else lvlN n) (info y) ++ opT n :: atT (lvlN n + 1) (info z) := by rw [showT_eq]; rfl
theorem show_next (t : List UInt8) (n : Int) (y z : Nd) : showT ⟨26, t, n, [y, z]⟩ = wt W.next_ :: st S.lp :: (showT y ++ st S.cm :: (showT z ++ [st S.rp])) := by
  rw [showT_eq]
  show wt W.next_ :: roundT [info y, info z] = _
  simp [roundT, commaT, info]
theorem show_not (t : List UInt8) (n : Int) (y : Nd) : showT ⟨23, t, n, [y]⟩ = wt W.not_ :: atT 6 (info y) := by rw [showT_eq]; rfl
theorem show_neg (t : List UInt8) (n : Int) (y : Nd) : showT ⟨24, t, n, [y]⟩ = st S.mi :: atT 6 (info y) := by rw [showT_eq]; rfl
theorem show_len (t : List UInt8) (n : Int) (y : Nd) : showT ⟨25, t, n, [y]⟩ = st S.hs :: atT 6 (info y) := by rw [showT_eq]; rfl

theorem re_call {y : Nd} {l : List Nd} (hy : Re y) (hl : ∀ z ∈ l, Re z) : Re ⟨21, [], 0, y :: l⟩ := by
  refine Re.make (fun rest => ?_) (fun _ rest r hr => ?_) (fun h => ?_) (fun h => ?_) (fun h => ?_)
  · rw [show_call, List.append_assoc]; exact at_head hy 7 _
  · rw [show_call, List.append_assoc]
    refine hy.t7 ?_
    cases l with
    | nil =>
      show Q 4 y 0 ([st S.lp, st S.rp] ++ rest) r
      exact Q4go (.inr (tx_s _ _)) Q5none hr
    | cons z l =>
      have e : roundT ((z :: l).map info) ++ rest = st S.lp :: (commaT ((z :: l).map info) ++ st S.rp :: rest) := by simp [roundT]
      rw [e]
      refine Q4go (.inr (tx_s _ _)) (Q5args ?_ (args_read (z :: l) [y] rest (by simp) hl)) hr
      have e2 : ∃ q, commaT ((z :: l).map info) ++ st S.rp :: rest = showT z ++ q := by
        cases l with
        | nil => exact ⟨st S.rp :: rest, by simp [commaT, info]⟩
        | cons z2 l => exact ⟨st S.cm :: (commaT ((z2 :: l).map info) ++ st S.rp :: rest), by simp [commaT, info]⟩
      obtain ⟨q, e2⟩ := e2
      rw [e2]
      exact (hl z (by simp)).h q
  all_goals (rw [binds7 _ _ _ (by decide) (by decide) (by decide) (by decide)] at h; omega)

theorem re_index {y z : Nd} (hy : Re y) (hz : Re z) : Re ⟨20, [], 0, [y, z]⟩ := by
  refine Re.make (fun rest => ?_) (fun _ rest r hr => ?_) (fun h => ?_) (fun h => ?_) (fun h => ?_)
  · rw [show_index, List.append_assoc]; exact at_head hy 7 _
  · have e : showT ⟨20, [], 0, [y, z]⟩ ++ rest = atT 7 (info y) ++ (st S.lb :: (showT z ++ (st S.rb :: rest))) := by rw [show_index]; simp
    rw [e]
    refine hy.t7 (Q4go (.inl (tx_s _ _)) (Q5index (hz.whole (stops_s (by decide) (by decide)) (lvB_s 0 (by decide)))) hr)
  all_goals (rw [binds7 _ _ _ (by decide) (by decide) (by decide) (by decide)] at h; omega)

theorem re_next {y z : Nd} (hy : Re y) (hz : Re z) : Re ⟨26, [], 0, [y, z]⟩ := by
  refine Re.make (fun rest => ?_) (fun _ rest r hr => ?_) (fun h => ?_) (fun h => ?_) (fun h => ?_)
  · rw [show_next, List.cons_append, tx_w]; decide
  · have e : showT ⟨26, [], 0, [y, z]⟩ ++ rest = wt W.next_ :: st S.lp :: (showT y ++ st S.cm :: (showT z ++ st S.rp :: rest)) := by rw [show_next]; simp
    rw [e]
    exact Q1first (by rw [tx_w]; decide) (by rw [tx_w]; decide) (by rw [tx_w]; decide) (Q3next (hy.whole (stops_s (by decide) (by decide)) (lvB_s 0 (by decide))) (hz.whole (stops_s (by decide) (by decide)) (lvB_s 0 (by decide)))) hr
  all_goals (rw [binds7 _ _ _ (by decide) (by decide) (by decide) (by decide)] at h; omega)

theorem re_unary {k : Int} {y : Nd} (hk : k = 23 ∨ k = 24 ∨ k = 25) (hy : Re y) : Re ⟨k, [], 0, [y]⟩ := by
  have hb : bindsN ⟨k, [], 0, [y]⟩ = 6 := by
    unfold bindsN
    simp only
    rw [if_neg (by omega), if_pos hk]
  refine Re.make (fun rest => ?_) (fun h => by omega) (fun _ rest hs => ?_) (fun h => by omega) (fun h => by omega)
  · rcases hk with rfl | rfl | rfl
    · rw [show_not, List.cons_append, tx_w]; decide
    · rw [show_neg, List.cons_append, tx_s]; decide
    · rw [show_len, List.cons_append, tx_s]; decide
  · rcases hk with rfl | rfl | rfl
    · rw [show_not, List.cons_append]
      exact Q1sign 23 (.inr (.inl ⟨tx_w _ _, rfl⟩)) (hy.t6 hs)
    · rw [show_neg, List.cons_append]
      exact Q1sign 24 (.inl ⟨tx_s _ _, rfl⟩) (hy.t6 hs)
    · rw [show_len, List.cons_append]
      exact Q1sign 25 (.inr (.inr ⟨tx_s _ _, rfl⟩)) (hy.t6 hs)

theorem re_op {n : Int} {s : List UInt8} {k : Nat} (ho : opOf n = some (s, k)) {y z : Nd} (hy : Re y) (hz : Re z) : Re ⟨22, [], n, [y, z]⟩ := by
  have hlv : lvlN n = k := by unfold lvlN; rw [ho]; rfl
  have hb : bindsN ⟨22, [], n, [y, z]⟩ = k := by
    unfold bindsN
    simp only
    rw [if_pos trivial, ho]; rfl
  obtain ⟨hat, hn1, hn2, hk5⟩ := op_facts (op_mem ho)
  have htx : ∀ l, tx (opT n :: l) = s := tx_op ho
  have hst : ∀ l, stops (opT n :: l) := fun l => by unfold stops; rw [htx]; exact ⟨hn1, hn2⟩
  have hlo : ∀ l a, k < a → lvB a (opT n :: l) := fun l a h o q e => by rw [htx, hat] at e; cases e; exact h
  refine Re.make (fun rest => ?_) (fun h => by omega) (fun h => by omega) (fun h rest hs hl => ?_) (fun h hne rest r hs hl hr => ?_)
  · rw [show_op, List.append_assoc]; exact at_head hy _ _
  · have hk2 : k = 2 := by omega
    subst hk2
    have e : showT ⟨22, [], n, [y, z]⟩ ++ rest = atT 3 (info y) ++ (opT n :: (atT 3 (info z) ++ rest)) := by rw [show_op, hlv]; simp
    rw [e]
    refine Q0 (by omega) (hy.t2 (a := 3) (by omega) (by omega) (hst _) (hlo _ 3 (by omega))) ?_
    refine Q2two (by rw [htx]; exact hat) ?_
    exact hz.t2 (a := 3) (by omega) (by omega) hs (fun o q e => by have := hl o q e; omega)
  · rw [hb] at h hne hl hr ⊢
    have e : showT ⟨22, [], n, [y, z]⟩ ++ rest = atT k (info y) ++ (opT n :: (atT (k + 1) (info z) ++ rest)) := by rw [show_op, hlv, if_neg hne]; simp
    rw [e]
    refine hy.t1 h hne (Nat.le_refl _) (hst _) (hlo _ _ (by omega)) ?_
    refine Q2go (by rw [htx]; exact hat) hne ?_ hr
    exact hz.t2 (by omega) (Nat.le_refl _) hs hl

theorem re_all (x : Nd) : isE x → Re x := by
  refine nd_ind (m := fun x => isE x → Re x) (fun k t n kids ih h => ?_) x
  rw [isE] at h
  obtain ⟨hk, hg⟩ := h
  have hkids : ∀ y ∈ kids, Re y := fun y hy => ih y hy ((isE_go kids).1 hg y hy)
  rcases hk with ⟨rfl, rfl, h0, h1, hl⟩ | ⟨rfl, rfl, hl⟩ | ⟨hk, rfl, rfl, hl⟩ | ⟨rfl, ht, rfl, hl⟩ | ⟨hk, rfl, rfl, hl⟩ | ⟨rfl, rfl, rfl, hl⟩ | ⟨rfl, rfl, ho, hl⟩ | ⟨hk, rfl, rfl, hl⟩
  · obtain rfl := List.length_eq_zero_iff.1 hl
    refine Re.atom (2, digitsN n.toNat) (by rw [showT_eq]; rfl) (binds7 _ _ _ (by decide) (by decide) (by decide) (by decide)) (fun l => by rw [tx_num]; decide) (fun rest => ⟨1, ?_⟩)
    rw [P]
    simp only
    rw [if_pos trivial]
    have : numOf (digitsN n.toNat) = n := by
      unfold numOf digitsN
      rw [numV_dec (n.toNat + 1) n.toNat (by omega)]
      omega
    rw [this]
  · obtain rfl := List.length_eq_zero_iff.1 hl
    exact Re.atom (3, t) (by rw [showT_eq]; rfl) (binds7 _ _ _ (by decide) (by decide) (by decide) (by decide)) (fun l => by rw [tx_txt]; decide) (fun rest => ⟨1, rfl⟩)
  · obtain rfl := List.length_eq_zero_iff.1 hl
    rcases hk with rfl | rfl | rfl | rfl
    · exact Re.atom (wt W.nil_) (by rw [showT_eq]; rfl) (binds7 _ _ _ (by decide) (by decide) (by decide) (by decide)) (fun l => by rw [tx_w]; decide) (fun rest => Q3word (.inl ⟨rfl, rfl⟩) rest)
    · exact Re.atom (wt W.true_) (by rw [showT_eq]; rfl) (binds7 _ _ _ (by decide) (by decide) (by decide) (by decide)) (fun l => by rw [tx_w]; decide) (fun rest => Q3word (.inr (.inl ⟨rfl, rfl⟩)) rest)
    · exact Re.atom (wt W.false_) (by rw [showT_eq]; rfl) (binds7 _ _ _ (by decide) (by decide) (by decide) (by decide)) (fun l => by rw [tx_w]; decide) (fun rest => Q3word (.inr (.inr ⟨rfl, rfl⟩)) rest)
    · have e : ∀ rest, showT ⟨19, [], 0, []⟩ ++ rest = st S.lc :: st S.rc :: rest := fun rest => by rw [showT_eq]; rfl
      refine Re.make (fun rest => ?_) (fun _ rest r hr => ?_) (fun h => ?_) (fun h => ?_) (fun h => ?_)
      · rw [e, tx_s]; decide
      · rw [e]
        exact Q1first (by rw [tx_s]; decide) (by rw [tx_s]; decide) (by rw [tx_s]; decide) ⟨1, rfl⟩ hr
      all_goals (rw [binds7 _ _ _ (by decide) (by decide) (by decide) (by decide)] at h; omega)
  · obtain rfl := List.length_eq_zero_iff.1 hl
    exact Re.atom (wt t) (by rw [showT_eq]; rfl) (binds7 _ _ _ (by decide) (by decide) (by decide) (by decide)) (fun l => by rw [tx_w]; exact ⟨name_no ht (.inr (by decide)), name_no ht (.inl (by decide)), name_no ht (.inr (by decide)), name_no ht (.inr (by decide))⟩) (fun rest => Q3name ht rest)
  · match kids, hl, hkids with
    | [y, z], _, hkids =>
      rcases hk with rfl | rfl
      · exact re_index (hkids y (by simp)) (hkids z (by simp))
      · exact re_next (hkids y (by simp)) (hkids z (by simp))
  · match kids, hl, hkids with
    | y :: l, _, hkids => exact re_call (hkids y (by simp)) (fun z hz => hkids z (by simp [hz]))
  · match kids, hl, hkids with
    | [y, z], _, hkids =>
      cases hq : opOf n with
      | none => rw [hq] at ho; cases ho
      | some p =>
        obtain ⟨s, k⟩ := p
        exact re_op hq (hkids y (by simp)) (hkids z (by simp))
  · match kids, hl, hkids with
    | [y], _, hkids => exact re_unary hk (hkids y (by simp))

end Go.Proofs.YtbofdfdmikhanaaGreatDoor
namespace Go.Proofs.YtbofdfdmikhanaaGreatDoor
open Go

/-- Kinds of statements. -/
def statK (k : Int) : Prop := 5 ≤ k ∧ k ≤ 12
/-- How many calls stand behind a name; none: no name stands first. -/
def chainC : Nd → Option Nat
  | ⟨k, _, _, kids⟩ => if k = 18 then some 0 else if k = 20 then go kids else if k = 21 then (go kids).map (· + 1) else none
where go : List Nd → Option Nat
  | [] => none
  | x :: _ => chainC x

/-- May a node of a kind stand there? -/
def fitsK (k : Int) (len i : Nat) (kk : Int) : Prop :=
  if k = 1 then kk = 2
  else if k = 2 then (if i + 1 = len then kk = 4 else kk = 3)
  else if k = 4 then statK kk
  else if k = 8 ∨ k = 9 then (if 0 < i then kk = 4 else exprK kk)
  else if k = 10 then (if i = 2 then kk = 4 else exprK kk)
  else exprK kk
def kidsOK (k : Int) (len : Nat) : Prop :=
  k = 1 ∨ k = 4 ∨ (k = 2 ∧ 1 ≤ len) ∨ ((k = 3 ∨ k = 18 ∨ k = 13 ∨ k = 14 ∨ k = 15 ∨ k = 16 ∨ k = 17 ∨ k = 19) ∧ len = 0) ∨ ((k = 5 ∨ k = 7 ∨ k = 11 ∨ k = 12 ∨ k = 23 ∨ k = 24 ∨ k = 25) ∧ len = 1) ∨ (k = 10 ∧ len = 3) ∨
  ((k = 6 ∨ k = 9 ∨ k = 20 ∨ k = 22 ∨ k = 26) ∧ len = 2) ∨ (k = 8 ∧ (len = 2 ∨ len = 3)) ∨ (k = 21 ∧ 1 ≤ len)
def hasName (k : Int) : Prop := k = 2 ∨ k = 3 ∨ k = 18 ∨ k = 5 ∨ k = 10
/-- May it stand between quotes? -/
def quotB (t : List UInt8) : Bool := t.all txtB && decide (t.length ≤ 300)
/-- Is a node one of a program? -/
def isN : Nd → Prop
  | ⟨k, t, n, kids⟩ => kidsOK k kids.length ∧ (hasName k → nameB t = true) ∧ (¬ hasName k → k ≠ 14 → t = []) ∧ ((k = 22 → (opOf n).isSome = true) ∧ (k = 14 → quotB t = true)) ∧ (k = 13 → 0 ≤ n ∧ n ≤ 9223372036854775807) ∧ (k ≠ 22 → k ≠ 13 → n = 0) ∧
    (k = 6 → (kids.head?.bind chainC) = some 0) ∧ (k = 7 → (kids.head?.bind chainC).isSome = true ∧ kids.head?.map (fun x => x.k) = some 21) ∧ go k kids.length 0 kids
where go (k : Int) (len : Nat) : Nat → List Nd → Prop
  | _, [] => True
  | i, x :: l => fitsK k len i x.k ∧ isN x ∧ go k len (i + 1) l
theorem isN_go (k : Int) (len : Nat) : ∀ (l : List Nd) (i : Nat), isN.go k len i l ↔ ∀ j x, l[j]? = some x → fitsK k len (i + j) x.k ∧ isN x
  | [], i => by simp [isN.go]
  | x :: l, i => by
    rw [isN.go, isN_go k len l (i + 1)]
    constructor
    · rintro ⟨h1, h2, h3⟩ j y hy
      cases j with
      | zero => simp at hy; subst hy; exact ⟨h1, h2⟩
      | succ j => have := h3 j y (by simpa using hy); rw [show i + (j + 1) = i + 1 + j by omega]; exact this
    · intro h
      have h0 := h 0 x (by simp)
      refine ⟨h0.1, h0.2, fun j y hy => ?_⟩
      have := h (j + 1) y (by simpa using hy)
      rw [show i + 1 + j = i + (j + 1) by omega]
      exact this

theorem isE_of (x : Nd) : isN x → exprK x.k → isE x := by
  refine nd_ind (m := fun x => isN x → exprK x.k → isE x) (fun k t n kids ih h hk => ?_) x
  rw [isN] at h
  obtain ⟨h1, h2, h3, h4, h5, h6, h7, h8, h9⟩ := h
  rw [isN_go] at h9
  simp only [exprK] at hk
  have hkid : isE.go kids := by
    rw [isE_go]
    intro y hy
    obtain ⟨j, hj, hj'⟩ := List.getElem_of_mem hy
    have := h9 j y (by rw [List.getElem?_eq_getElem hj, hj'])
    refine ih y hy this.2 ?_
    have hf := this.1
    unfold fitsK at hf
    rw [if_neg (by omega), if_neg (by omega), if_neg (by omega), if_neg (by omega), if_neg (by omega)] at hf
    exact hf
  rw [isE]
  refine ⟨?_, hkid⟩
  simp only [hasName] at h2 h3
  unfold kidsOK at h1
  rcases h1 with h1 | h1 | h1 | ⟨h1 | h1 | h1 | h1 | h1 | h1 | h1 | h1, hl⟩ | ⟨h1 | h1 | h1 | h1 | h1 | h1 | h1, hl⟩ | h1 | ⟨h1 | h1 | h1 | h1 | h1, hl⟩ | h1 | ⟨h1, hl⟩
  all_goals first | omega | skip
  · exact .inr (.inr (.inr (.inl ⟨h1, h2 (by omega), h6 (by omega) (by omega), hl⟩)))
  · exact .inl ⟨h1, h3 (by omega) (by omega), (h5 h1).1, (h5 h1).2, hl⟩
  · exact .inr (.inr (.inl ⟨by omega, h3 (by omega) (by omega), h6 (by omega) (by omega), hl⟩))
  · exact .inr (.inr (.inl ⟨by omega, h3 (by omega) (by omega), h6 (by omega) (by omega), hl⟩))
  · exact .inr (.inr (.inl ⟨by omega, h3 (by omega) (by omega), h6 (by omega) (by omega), hl⟩))
  · exact .inr (.inr (.inl ⟨by omega, h3 (by omega) (by omega), h6 (by omega) (by omega), hl⟩))
  · exact .inr (.inr (.inr (.inr (.inr (.inr (.inr ⟨by omega, h3 (by omega) (by omega), h6 (by omega) (by omega), hl⟩))))))
  · exact .inr (.inr (.inr (.inr (.inr (.inr (.inr ⟨by omega, h3 (by omega) (by omega), h6 (by omega) (by omega), hl⟩))))))
  · exact .inr (.inr (.inr (.inr (.inr (.inr (.inr ⟨by omega, h3 (by omega) (by omega), h6 (by omega) (by omega), hl⟩))))))
  · exact .inr (.inr (.inr (.inr (.inl ⟨by omega, h3 (by omega) (by omega), h6 (by omega) (by omega), hl⟩))))
  · exact .inr (.inr (.inr (.inr (.inr (.inr (.inl ⟨h1, h3 (by omega) (by omega), h4.1 h1, hl⟩))))))
  · exact .inr (.inr (.inr (.inr (.inl ⟨by omega, h3 (by omega) (by omega), h6 (by omega) (by omega), hl⟩))))
  · exact .inr (.inr (.inr (.inr (.inr (.inl ⟨h1, h3 (by omega) (by omega), h6 (by omega) (by omega), hl⟩)))))

theorem needName_w {s : List UInt8} (h : nameB s = true) (l : List PT) (g : List UInt8 → List PT → PR) : needName (wt s :: l) g = g s l := by
  unfold needName
  rw [tx_w, if_pos h]
  rfl

theorem Q7end {x : Nd} {l : List PT} (h : tx l = W.end_ ∨ tx l = W.else_) : Q 7 x 0 l (yes x l) := ⟨1, by rw [P, if_pos h]⟩
theorem Q7go {ks : List Nd} {s : Nd} {l l1 : List PT} {r : List PT ⊕ (Nd × List PT)} (h1 : tx l ≠ W.end_) (h2 : tx l ≠ W.else_) (h3 : Q 8 nil0 0 l (yes s l1)) (h4 : Q 7 (nd 4 (ks ++ [s])) 0 l1 r) : Q 7 (nd 4 ks) 0 l r := by
  obtain ⟨f1, h3⟩ := h3
  obtain ⟨f2, h4⟩ := h4
  refine ⟨f1 + f2 + 1, ?_⟩
  rw [P, if_neg (by rintro (e | e); exact h1 e; exact h2 e), P_mono (by omega) h3, on_yes]
  exact P_mono (by omega) h4
theorem Q8local {s : List UInt8} {x : Nd} {l l1 : List PT} (hs : nameB s = true) (h : Q 0 nil0 0 l (yes x (st S.sc :: l1))) : Q 8 nil0 0 (wt W.local_ :: wt s :: st S.eq :: l) (yes ⟨5, s, 0, [x]⟩ l1) := by
  obtain ⟨f1, h⟩ := h
  refine ⟨f1 + 1, ?_⟩
  rw [P, tx_w, if_pos rfl, List.tail_cons, needName_w hs, need_s, h, on_yes, need_s]
theorem Q8if {x b : Nd} {l l1 l2 : List PT} (h1 : Q 0 nil0 0 l (yes x (wt W.then_ :: l1))) (h2 : Q 7 (nd 4 []) 0 l1 (yes b (wt W.end_ :: l2))) : Q 8 nil0 0 (wt W.if_ :: l) (yes (nd 8 [x, b]) l2) := by
  obtain ⟨f1, h1⟩ := h1
  obtain ⟨f2, h2⟩ := h2
  refine ⟨f1 + f2 + 1, ?_⟩
  rw [P, tx_w, if_neg (by decide), if_pos rfl, List.tail_cons, P_mono (by omega) h1, on_yes, need_w, P_mono (by omega) h2, on_yes, tx_w, if_neg (by decide), need_w]
theorem Q8else {x b c : Nd} {l l1 l2 l3 : List PT} (h1 : Q 0 nil0 0 l (yes x (wt W.then_ :: l1))) (h2 : Q 7 (nd 4 []) 0 l1 (yes b (wt W.else_ :: l2))) (h3 : Q 7 (nd 4 []) 0 l2 (yes c (wt W.end_ :: l3))) : Q 8 nil0 0 (wt W.if_ :: l) (yes (nd 8 [x, b, c]) l3) := by
  obtain ⟨f1, h1⟩ := h1
  obtain ⟨f2, h2⟩ := h2
  obtain ⟨f3, h3⟩ := h3
  refine ⟨f1 + f2 + f3 + 1, ?_⟩
  rw [P, tx_w, if_neg (by decide), if_pos rfl, List.tail_cons, P_mono (by omega) h1, on_yes, need_w, P_mono (by omega) h2, on_yes, tx_w, if_pos rfl, List.tail_cons, P_mono (by omega) h3, on_yes, need_w]
theorem Q8while {x b : Nd} {l l1 l2 : List PT} (h1 : Q 0 nil0 0 l (yes x (wt W.do_ :: l1))) (h2 : Q 7 (nd 4 []) 0 l1 (yes b (wt W.end_ :: l2))) : Q 8 nil0 0 (wt W.while_ :: l) (yes (nd 9 [x, b]) l2) := by
  obtain ⟨f1, h1⟩ := h1
  obtain ⟨f2, h2⟩ := h2
  refine ⟨f1 + f2 + 1, ?_⟩
  rw [P, tx_w, if_neg (by decide), if_neg (by decide), if_pos rfl, List.tail_cons, P_mono (by omega) h1, on_yes, need_w, P_mono (by omega) h2, on_yes, need_w]
theorem Q8for {s : List UInt8} {x y b : Nd} {l l1 l2 l3 : List PT} (hs : nameB s = true) (h1 : Q 0 nil0 0 l (yes x (st S.cm :: l1))) (h2 : Q 0 nil0 0 l1 (yes y (wt W.do_ :: l2))) (h3 : Q 7 (nd 4 []) 0 l2 (yes b (wt W.end_ :: l3))) : Q 8 nil0 0 (wt W.for_ :: wt s :: st S.eq :: l) (yes ⟨10, s, 0, [x, y, b]⟩ l3) := by
  obtain ⟨f1, h1⟩ := h1
  obtain ⟨f2, h2⟩ := h2
  obtain ⟨f3, h3⟩ := h3
  refine ⟨f1 + f2 + f3 + 1, ?_⟩
  rw [P, tx_w, if_neg (by decide), if_neg (by decide), if_neg (by decide), if_pos rfl, List.tail_cons, needName_w hs, need_s, P_mono (by omega) h1, on_yes, need_s, P_mono (by omega) h2, on_yes, need_w, P_mono (by omega) h3, on_yes, need_w]
theorem Q8return {x : Nd} {l l1 : List PT} (h1 : Q 0 nil0 0 l (yes x (st S.sc :: l1))) : Q 8 nil0 0 (wt W.return_ :: l) (yes (nd 11 [x]) l1) := by
  obtain ⟨f1, h1⟩ := h1
  refine ⟨f1 + 1, ?_⟩
  rw [P, tx_w, if_neg (by decide), if_neg (by decide), if_neg (by decide), if_neg (by decide), if_pos rfl, List.tail_cons, h1, on_yes, need_s]
theorem Q8emit {x : Nd} {l l1 : List PT} (h1 : Q 0 nil0 0 l (yes x (st S.sc :: l1))) : Q 8 nil0 0 (wt W.emit_ :: l) (yes (nd 12 [x]) l1) := by
  obtain ⟨f1, h1⟩ := h1
  refine ⟨f1 + 1, ?_⟩
  rw [P, tx_w, if_neg (by decide), if_neg (by decide), if_neg (by decide), if_neg (by decide), if_neg (by decide), if_pos rfl, List.tail_cons, h1, on_yes, need_s]
theorem Q8simple {s : List UInt8} {x : Nd} {l l1 : List PT} (hs : nameB s = true) (h1 : Q 9 ⟨18, s, 0, []⟩ 0 l (yes x (st S.sc :: l1))) : Q 8 nil0 0 (wt s :: l) (yes x l1) := by
  obtain ⟨f1, h1⟩ := h1
  refine ⟨f1 + 1, ?_⟩
  rw [P, tx_w, if_neg (name_no hs (.inl (by decide))), if_neg (name_no hs (.inl (by decide))), if_neg (name_no hs (.inl (by decide))), if_neg (name_no hs (.inl (by decide))), if_neg (name_no hs (.inl (by decide))), if_neg (name_no hs (.inl (by decide))), needName_w hs, h1, on_yes, need_s]
theorem Q9index {x y : Nd} {a : Nat} {l l1 : List PT} {r : List PT ⊕ (Nd × List PT)} (h : tx l = S.lb) (h1 : Q 5 x 0 l (yes y l1)) (h2 : Q 9 y a l1 r) : Q 9 x a l r := by
  obtain ⟨f1, h1⟩ := h1
  obtain ⟨f2, h2⟩ := h2
  refine ⟨f1 + f2 + 1, ?_⟩
  rw [P, if_pos h, P_mono (by omega) h1, on_yes]
  exact P_mono (by omega) h2
theorem Q9call {x y : Nd} {a : Nat} {l l1 : List PT} {r : List PT ⊕ (Nd × List PT)} (h : tx l = S.lp) (h1 : Q 5 x 0 l (yes y l1)) (h2 : Q 9 y (a + 1) l1 r) : Q 9 x a l r := by
  obtain ⟨f1, h1⟩ := h1
  obtain ⟨f2, h2⟩ := h2
  refine ⟨f1 + f2 + 1, ?_⟩
  rw [P, if_neg (by rw [h]; decide), if_pos h, P_mono (by omega) h1, on_yes]
  exact P_mono (by omega) h2
theorem Q9set {x y : Nd} {l l1 : List PT} (h1 : Q 0 nil0 0 l (yes y l1)) : Q 9 x 0 (st S.eq :: l) (yes (nd 6 [x, y]) l1) := by
  obtain ⟨f1, h1⟩ := h1
  refine ⟨f1 + 1, ?_⟩
  rw [P, tx_s, if_neg (by decide), if_neg (by decide), if_pos rfl, need_s, h1, on_yes]
theorem Q9do {x : Nd} {a : Nat} {l : List PT} (h1 : tx l ≠ S.lb) (h2 : tx l ≠ S.lp) (h3 : a ≠ 0) (h4 : x.k = 21) : Q 9 x a l (yes (nd 7 [x]) l) := by
  refine ⟨1, ?_⟩
  rw [P, if_neg h1, if_neg h2, if_neg h3, if_pos h4]

end Go.Proofs.YtbofdfdmikhanaaGreatDoor
