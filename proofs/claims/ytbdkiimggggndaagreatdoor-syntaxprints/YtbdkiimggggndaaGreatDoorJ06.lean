/- Of programs, in plain words: what is written of an expression is read as the same. Of programs, in plain words: every expression. Of programs, in plain words: what is written of a program is read as the same. Of programs, in plain words: statements, blocks, functions, programs. Of programs, in plain words: functions, and programs. -/
import Derived.Test.YtbdkiimggggndaaGreatDoorJ05
namespace Go.Proofs.YtbdkiimggggndaaGreatDoor
open Go

theorem numV_snoc (l : List UInt8) (c : UInt8) : numV (l ++ [c]) = numV l * 10 + (c.toNat - 48) := by simp [numV]
theorem numV_dec : ∀ (m u : Nat), u < m → numV (Lib.decDigits u) = u
  | 0, u, h => by omega
  | m + 1, u, h => by
    rw [Lib.decDigits]
    by_cases hu : u < 10
    · rw [dif_pos hu]
      simp [numV]
      omega
    · rw [dif_neg hu, numV_snoc, numV_dec m (u / 10) (by omega)]
      have : (UInt8.ofNat (48 + u % 10)).toNat = 48 + u % 10 := UInt8.toNat_ofNat_of_lt' (by show 48 + u % 10 < 256; omega)
      rw [this]
      omega

theorem op_mem {o : Int} {s : List UInt8} {k : Nat} (h : opOf o = some (s, k)) : (s, o, k) ∈ opsL := by
  unfold opOf at h
  cases hf : opsL.find? (fun p => p.2.1 == o) with
  | none => rw [hf] at h; cases h
  | some p =>
    rw [hf] at h
    obtain ⟨s', o', k'⟩ := p
    have h1 := List.mem_of_find?_eq_some hf
    have h2 := List.find?_some hf
    simp at h h2
    obtain ⟨rfl, rfl⟩ := h
    subst h2
    exact h1
theorem op_facts {s : List UInt8} {o : Int} {k : Nat} (h : (s, o, k) ∈ opsL) : opAt s = some (o, k) ∧ s ≠ S.lb ∧ s ≠ S.lp ∧ k ≤ 5 := by
  have : ∀ p ∈ opsL, opAt p.1 = some p.2 ∧ p.1 ≠ S.lb ∧ p.1 ≠ S.lp ∧ p.2.2 ≤ 5 := by decide
  exact this _ h
theorem tx_op {o : Int} {s : List UInt8} {k : Nat} (h : opOf o = some (s, k)) (l : List PT) : tx (opT o :: l) = s := by
  unfold opT
  rw [h]
  simp only
  by_cases c : o = 20 ∨ o = 21
  · rw [if_pos c]; exact tx_w s l
  · rw [if_neg c]; exact tx_s s l
theorem binds_le (x : Nd) : bindsN x ≤ 7 := by
  unfold bindsN
  split
  · cases h : opOf x.n with
    | none => simp
    | some p => have := (op_facts (op_mem (s := p.1) (k := p.2) h)).2.2.2; simp; omega
  · split <;> omega

theorem name_no {t : List UInt8} (h : nameB t = true) {s : List UInt8} (hs : s ∈ reserved ∨ (s.head?.map letB).getD false = false) : t ≠ s := by
  rintro rfl
  simp only [nameB, Bool.and_eq_true] at h
  rcases hs with hs | hs
  · have h2 := h.2
    simp only [Bool.not_eq_true'] at h2
    rw [List.contains_eq_mem] at h2
    simp at h2
    exact h2 hs
  · have := h.1.1.2
    rw [hs] at this
    cases this

/-- From what binds most on down. -/
theorem Qdown {y : Nd} {l rest : List PT} (h : Q 1 nil0 0 l (yes y rest)) : ∀ (d a : Nat), a + d = 6 → lvB a rest → Q 0 nil0 a l (yes y rest)
  | 0, a, ha, _ => Q0u (by omega) h
  | d + 1, a, ha, hl => Q0 (by omega) (Qdown h d (a + 1) (by omega) (fun o k e => by have := hl o k e; omega)) (Q2stop (fun o k e => by have := hl o k e; omega))

/-- What is to be shown of an expression. -/
structure Re (x : Nd) : Prop where
  h : ∀ rest, tx (showT x ++ rest) ≠ S.rp
  c : bindsN x = 7 → ∀ rest r, Q 4 x 0 rest r → Q 1 nil0 0 (showT x ++ rest) r
  b : 6 ≤ bindsN x → ∀ rest, stops rest → Q 1 nil0 0 (showT x ++ rest) (yes x rest)
  a2 : ∀ a, a ≤ 6 → a ≤ bindsN x → ∀ rest, stops rest → lvB a rest → Q 0 nil0 a (showT x ++ rest) (yes x rest)
  a1 : ∀ a, a ≤ 5 → a ≠ 2 → a ≤ bindsN x → ∀ rest r, stops rest → lvB (a + 1) rest → Q 2 x a rest r → Q 0 nil0 a (showT x ++ rest) r

theorem stops_s {s : List UInt8} {l : List PT} (h1 : s ≠ S.lb) (h2 : s ≠ S.lp) : stops (st s :: l) := by unfold stops; rw [tx_s]; exact ⟨h1, h2⟩
theorem stops_w {s : List UInt8} {l : List PT} (h1 : s ≠ S.lb) (h2 : s ≠ S.lp) : stops (wt s :: l) := by unfold stops; rw [tx_w]; exact ⟨h1, h2⟩
theorem lvB_s {s : List UInt8} {l : List PT} (a : Nat) (h : opAt s = none) : lvB a (st s :: l) := fun o k e => by rw [tx_s, h] at e; cases e
theorem lvB_w {s : List UInt8} {l : List PT} (a : Nat) (h : opAt s = none) : lvB a (wt s :: l) := fun o k e => by rw [tx_w, h] at e; cases e

theorem Re.whole {y : Nd} (h : Re y) {rest : List PT} (h1 : stops rest) (h2 : lvB 0 rest) : Q 0 nil0 0 (showT y ++ rest) (yes y rest) := h.a2 0 (by omega) (Nat.zero_le _) rest h1 h2
theorem Re.par {y : Nd} (h : Re y) {rest : List PT} {r : List PT ⊕ (Nd × List PT)} (h4 : Q 4 y 0 rest r) : Q 1 nil0 0 (parT (showT y) ++ rest) r := by
  have e : parT (showT y) ++ rest = st S.lp :: (showT y ++ (st S.rp :: rest)) := by simp [parT]
  rw [e]
  refine Q1first (by rw [tx_s]; decide) (by rw [tx_s]; decide) (by rw [tx_s]; decide) (Q3par (h.whole (stops_s (by decide) (by decide)) (lvB_s 0 (by decide)))) h4
theorem Re.t7 {y : Nd} (h : Re y) {rest : List PT} {r : List PT ⊕ (Nd × List PT)} (h4 : Q 4 y 0 rest r) : Q 1 nil0 0 (atT 7 (info y) ++ rest) r := by
  unfold atT info
  simp only
  by_cases c : bindsN y < 7
  · rw [if_pos c]; exact h.par h4
  · rw [if_neg c]; exact h.c (by have := binds_le y; omega) rest r h4
theorem Re.t6 {y : Nd} (h : Re y) {rest : List PT} (h1 : stops rest) : Q 1 nil0 0 (atT 6 (info y) ++ rest) (yes y rest) := by
  unfold atT info
  simp only
  by_cases c : bindsN y < 6
  · rw [if_pos c]; exact h.par (Q4stop h1)
  · rw [if_neg c]; exact h.b (by omega) rest h1
theorem Re.t2 {y : Nd} (h : Re y) {a least : Nat} (ha : a ≤ 6) (hl : a ≤ least) {rest : List PT} (h1 : stops rest) (h2 : lvB a rest) : Q 0 nil0 a (atT least (info y) ++ rest) (yes y rest) := by
  unfold atT info
  simp only
  by_cases c : bindsN y < least
  · rw [if_pos c]; exact Qdown (h.par (Q4stop h1)) (6 - a) a (by omega) h2
  · rw [if_neg c]; exact h.a2 a ha (by omega) rest h1 h2
theorem Re.t1 {y : Nd} (h : Re y) {a least : Nat} (ha : a ≤ 5) (ha2 : a ≠ 2) (hl : a ≤ least) {rest : List PT} {r : List PT ⊕ (Nd × List PT)} (h1 : stops rest) (h2 : lvB (a + 1) rest) (h3 : Q 2 y a rest r) : Q 0 nil0 a (atT least (info y) ++ rest) r := by
  unfold atT info
  simp only
  by_cases c : bindsN y < least
  · rw [if_pos c]; exact Q0 (by omega) (Qdown (h.par (Q4stop h1)) (6 - (a + 1)) (a + 1) (by omega) h2) h3
  · rw [if_neg c]; exact h.a1 a ha ha2 (by omega) rest r h1 h2 h3

theorem head_round (ks : List Nd) (hks : ks ≠ []) : ∃ k l, ks = k :: l := by
  cases ks with
  | nil => exact absurd rfl hks
  | cons k l => exact ⟨k, l, rfl⟩

theorem args_read : ∀ (ks acc : List Nd) (rest : List PT), ks ≠ [] → (∀ y ∈ ks, Re y) → Q 6 (nd 21 acc) 0 (commaT (ks.map info) ++ st S.rp :: rest) (yes (nd 21 (acc ++ ks)) rest)
  | [], _, _, h, _ => absurd rfl h
  | [y], acc, rest, _, h => Q6last ((h y (by simp)).whole (stops_s (by decide) (by decide)) (lvB_s 0 (by decide)))
  | y :: z :: l, acc, rest, _, h => by
    have ih := args_read (z :: l) (acc ++ [y]) rest (by simp) (fun q hq => h q (by simp at hq ⊢; exact .inr hq))
    have e : commaT ((y :: z :: l).map info) ++ st S.rp :: rest = showT y ++ st S.cm :: (commaT ((z :: l).map info) ++ st S.rp :: rest) := by simp [commaT, info]
    rw [e, show acc ++ y :: z :: l = acc ++ [y] ++ z :: l by simp]
    exact Q6more ((h y (by simp)).whole (stops_s (by decide) (by decide)) (lvB_s 0 (by decide))) ih

theorem Re.make {x : Nd} (hh : ∀ rest, tx (showT x ++ rest) ≠ S.rp) (hc : bindsN x = 7 → ∀ rest r, Q 4 x 0 rest r → Q 1 nil0 0 (showT x ++ rest) r)
    (hb : bindsN x = 6 → ∀ rest, stops rest → Q 1 nil0 0 (showT x ++ rest) (yes x rest))
    (h2 : bindsN x = 2 → ∀ rest, stops rest → lvB 2 rest → Q 0 nil0 2 (showT x ++ rest) (yes x rest))
    (h1 : bindsN x ≤ 5 → bindsN x ≠ 2 → ∀ rest r, stops rest → lvB (bindsN x + 1) rest → Q 2 x (bindsN x) rest r → Q 0 nil0 (bindsN x) (showT x ++ rest) r) : Re x := by
  have b : 6 ≤ bindsN x → ∀ rest, stops rest → Q 1 nil0 0 (showT x ++ rest) (yes x rest) := fun h rest hs => by
    by_cases e : bindsN x = 6
    · exact hb e rest hs
    · exact hc (by have := binds_le x; omega) rest _ (Q4stop hs)
  have low : bindsN x ≤ 5 → ∀ d a, a + d = bindsN x → ∀ rest, stops rest → lvB a rest → Q 0 nil0 a (showT x ++ rest) (yes x rest) := fun h d => by
    induction d with
    | zero =>
      intro a ha rest hs hl
      obtain rfl : a = bindsN x := by omega
      by_cases e : bindsN x = 2
      · have := h2 e rest hs (by rw [← e]; exact hl)
        rw [e]; exact this
      · exact h1 h e rest _ hs (fun o k q => by have := hl o k q; omega) (Q2stop (fun o k q => by have := hl o k q; omega))
    | succ d ih =>
      intro a ha rest hs hl
      exact Q0 (by omega) (ih (a + 1) (by omega) rest hs (fun o k q => by have := hl o k q; omega)) (Q2stop (fun o k q => by have := hl o k q; omega))
  have a2 : ∀ a, a ≤ 6 → a ≤ bindsN x → ∀ rest, stops rest → lvB a rest → Q 0 nil0 a (showT x ++ rest) (yes x rest) := fun a ha hx rest hs hl => by
    by_cases c : 6 ≤ bindsN x
    · exact Qdown (b c rest hs) (6 - a) a (by omega) hl
    · exact low (by omega) (bindsN x - a) a (by omega) rest hs hl
  refine ⟨hh, hc, b, a2, fun a ha hne hx rest r hs hl hr => ?_⟩
  by_cases e : a = bindsN x
  · subst e; exact h1 ha hne rest r hs hl hr
  · exact Q0 (by omega) (a2 (a + 1) (by omega) (by omega) rest hs hl) hr

theorem tx_num (s : List UInt8) (l : List PT) : tx ((2, s) :: l) = [] := by simp [tx]
theorem tx_txt (s : List UInt8) (l : List PT) : tx ((3, s) :: l) = [] := by simp [tx]
theorem tx_app {a : List PT} (l m : List PT) (h : a ≠ []) : tx (a ++ l) = tx (a ++ m) := by
  cases a with
  | nil => exact absurd rfl h
  | cons p q => rfl
theorem at_head {y : Nd} (h : Re y) (least : Nat) (rest : List PT) : tx (atT least (info y) ++ rest) ≠ S.rp := by
  unfold atT info
  simp only
  split
  · simp only [parT, List.cons_append]; rw [tx_s]; decide
  · exact h.h rest

/-- Of one token alone. -/
theorem Re.atom {x : Nd} (p : PT) (hx : showT x = [p]) (hb : bindsN x = 7) (h1 : ∀ l, tx (p :: l) ≠ S.mi ∧ tx (p :: l) ≠ W.not_ ∧ tx (p :: l) ≠ S.hs ∧ tx (p :: l) ≠ S.rp) (h3 : ∀ rest, Q 3 nil0 0 (p :: rest) (yes x rest)) : Re x := by
  refine Re.make (fun rest => ?_) (fun _ rest r hr => ?_) (fun h => by omega) (fun h => by omega) (fun h => by omega)
  · rw [hx]; exact (h1 _).2.2.2
  · rw [hx]
    exact Q1first (h1 _).1 (h1 _).2.1 (h1 _).2.2.1 (h3 rest) hr

theorem binds7 {k : Int} (t : List UInt8) (n : Int) (kids : List Nd) (h1 : k ≠ 22) (h2 : k ≠ 23) (h3 : k ≠ 24) (h4 : k ≠ 25) : bindsN ⟨k, t, n, kids⟩ = 7 := by
  unfold bindsN
  simp only
  rw [if_neg h1, if_neg (by omega)]
theorem Q3word {s : List UInt8} {k : Int} (h : (s = W.nil_ ∧ k = 15) ∨ (s = W.true_ ∧ k = 16) ∨ (s = W.false_ ∧ k = 17)) (rest : List PT) : Q 3 nil0 0 (wt s :: rest) (yes (nd k []) rest) := by
  refine ⟨1, ?_⟩
  rcases h with ⟨rfl, rfl⟩ | ⟨rfl, rfl⟩ | ⟨rfl, rfl⟩ <;> rfl
theorem Q3name {t : List UInt8} (h : nameB t = true) (rest : List PT) : Q 3 nil0 0 (wt t :: rest) (yes ⟨18, t, 0, []⟩ rest) := by
  refine ⟨1, ?_⟩
  rw [P]
  simp only
  rw [tx_w, if_neg (by decide), if_neg (by decide), if_neg (name_no h (.inr (by decide))), if_neg (name_no h (.inl (by decide))), if_neg (name_no h (.inl (by decide))), if_neg (name_no h (.inl (by decide))), if_neg (name_no h (.inr (by decide))), if_neg (name_no h (.inl (by decide)))]
  unfold needName
  rw [tx_w, if_pos h]
  rfl

end Go.Proofs.YtbdkiimggggndaaGreatDoor
namespace Go.Proofs.YtbdkiimggggndaaGreatDoor
open Go

theorem show_call (t : List UInt8) (n : Int) (y : Nd) (l : List Nd) : showT ⟨21, t, n, y :: l⟩ = atT 7 (info y) ++ roundT (l.map info) := by rw [showT_eq]; rfl
theorem show_index (t : List UInt8) (n : Int) (y z : Nd) : showT ⟨20, t, n, [y, z]⟩ = atT 7 (info y) ++ st S.lb :: (showT z ++ [st S.rb]) := by rw [showT_eq]; rfl
theorem show_op (t : List UInt8) (n : Int) (y z : Nd) : showT ⟨22, t, n, [y, z]⟩ = atT (if lvlN n = 2 then 3 else lvlN n) (info y) ++ opT n :: atT (lvlN n + 1) (info z) := by rw [showT_eq]; rfl
theorem show_next (t : List UInt8) (n : Int) (y z : Nd) : showT ⟨26, t, n, [y, z]⟩ = wt W.next_ :: st S.lp :: (showT y ++ st S.cm :: (showT z ++ [st S.rp])) := by
  rw [showT_eq]
  show wt W.next_ :: roundT [info y, info z] = _
  simp [roundT, commaT, info]
theorem show_not (t : List UInt8) (n : Int) (y : Nd) : showT ⟨23, t, n, [y]⟩ = wt W.not_ :: atT 6 (info y) := by rw [showT_eq]; rfl
theorem show_neg (t : List UInt8) (n : Int) (y : Nd) : showT ⟨24, t, n, [y]⟩ = st S.mi :: atT 6 (info y) := by rw [showT_eq]; rfl
theorem show_len (t : List UInt8) (n : Int) (y : Nd) : showT ⟨25, t, n, [y]⟩ = st S.hs :: atT 6 (info y) := by rw [showT_eq]; rfl

theorem re_call {y : Nd} {l : List Nd} (hy : Re y) (hl : ∀ z ∈ l, Re z) : Re ⟨21, [], 0, y :: l⟩ := by
  refine Re.make (fun rest => ?_) (fun _ rest r hr => ?_) (fun h => ?_) (fun h => ?_) (fun h => ?_)
  · rw [show_call, List.append_assoc]; exact at_head hy 7 _
  · rw [show_call, List.append_assoc]
    refine hy.t7 ?_
    cases l with
    | nil =>
      show Q 4 y 0 ([st S.lp, st S.rp] ++ rest) r
      exact Q4go (.inr (tx_s _ _)) Q5none hr
    | cons z l =>
      have e : roundT ((z :: l).map info) ++ rest = st S.lp :: (commaT ((z :: l).map info) ++ st S.rp :: rest) := by simp [roundT]
      rw [e]
      refine Q4go (.inr (tx_s _ _)) (Q5args ?_ (args_read (z :: l) [y] rest (by simp) hl)) hr
      have e2 : ∃ q, commaT ((z :: l).map info) ++ st S.rp :: rest = showT z ++ q := by
        cases l with
        | nil => exact ⟨st S.rp :: rest, by simp [commaT, info]⟩
        | cons z2 l => exact ⟨st S.cm :: (commaT ((z2 :: l).map info) ++ st S.rp :: rest), by simp [commaT, info]⟩
      obtain ⟨q, e2⟩ := e2
      rw [e2]
      exact (hl z (by simp)).h q
  all_goals (rw [binds7 _ _ _ (by decide) (by decide) (by decide) (by decide)] at h; omega)

theorem re_index {y z : Nd} (hy : Re y) (hz : Re z) : Re ⟨20, [], 0, [y, z]⟩ := by
  refine Re.make (fun rest => ?_) (fun _ rest r hr => ?_) (fun h => ?_) (fun h => ?_) (fun h => ?_)
  · rw [show_index, List.append_assoc]; exact at_head hy 7 _
  · have e : showT ⟨20, [], 0, [y, z]⟩ ++ rest = atT 7 (info y) ++ (st S.lb :: (showT z ++ (st S.rb :: rest))) := by rw [show_index]; simp
    rw [e]
    refine hy.t7 (Q4go (.inl (tx_s _ _)) (Q5index (hz.whole (stops_s (by decide) (by decide)) (lvB_s 0 (by decide)))) hr)
  all_goals (rw [binds7 _ _ _ (by decide) (by decide) (by decide) (by decide)] at h; omega)

theorem re_next {y z : Nd} (hy : Re y) (hz : Re z) : Re ⟨26, [], 0, [y, z]⟩ := by
  refine Re.make (fun rest => ?_) (fun _ rest r hr => ?_) (fun h => ?_) (fun h => ?_) (fun h => ?_)
  · rw [show_next, List.cons_append, tx_w]; decide
  · have e : showT ⟨26, [], 0, [y, z]⟩ ++ rest = wt W.next_ :: st S.lp :: (showT y ++ st S.cm :: (showT z ++ st S.rp :: rest)) := by rw [show_next]; simp
    rw [e]
    exact Q1first (by rw [tx_w]; decide) (by rw [tx_w]; decide) (by rw [tx_w]; decide) (Q3next (hy.whole (stops_s (by decide) (by decide)) (lvB_s 0 (by decide))) (hz.whole (stops_s (by decide) (by decide)) (lvB_s 0 (by decide)))) hr
  all_goals (rw [binds7 _ _ _ (by decide) (by decide) (by decide) (by decide)] at h; omega)

theorem re_unary {k : Int} {y : Nd} (hk : k = 23 ∨ k = 24 ∨ k = 25) (hy : Re y) : Re ⟨k, [], 0, [y]⟩ := by
  have hb : bindsN ⟨k, [], 0, [y]⟩ = 6 := by
    unfold bindsN
    simp only
    rw [if_neg (by omega), if_pos hk]
  refine Re.make (fun rest => ?_) (fun h => by omega) (fun _ rest hs => ?_) (fun h => by omega) (fun h => by omega)
  · rcases hk with rfl | rfl | rfl
    · rw [show_not, List.cons_append, tx_w]; decide
    · rw [show_neg, List.cons_append, tx_s]; decide
    · rw [show_len, List.cons_append, tx_s]; decide
  · rcases hk with rfl | rfl | rfl
    · rw [show_not, List.cons_append]
      exact Q1sign 23 (.inr (.inl ⟨tx_w _ _, rfl⟩)) (hy.t6 hs)
    · rw [show_neg, List.cons_append]
      exact Q1sign 24 (.inl ⟨tx_s _ _, rfl⟩) (hy.t6 hs)
    · rw [show_len, List.cons_append]
      exact Q1sign 25 (.inr (.inr ⟨tx_s _ _, rfl⟩)) (hy.t6 hs)

theorem re_op {n : Int} {s : List UInt8} {k : Nat} (ho : opOf n = some (s, k)) {y z : Nd} (hy : Re y) (hz : Re z) : Re ⟨22, [], n, [y, z]⟩ := by
  have hlv : lvlN n = k := by unfold lvlN; rw [ho]; rfl
  have hb : bindsN ⟨22, [], n, [y, z]⟩ = k := by
    unfold bindsN
    simp only
    rw [if_pos trivial, ho]; rfl
  obtain ⟨hat, hn1, hn2, hk5⟩ := op_facts (op_mem ho)
  have htx : ∀ l, tx (opT n :: l) = s := tx_op ho
  have hst : ∀ l, stops (opT n :: l) := fun l => by unfold stops; rw [htx]; exact ⟨hn1, hn2⟩
  have hlo : ∀ l a, k < a → lvB a (opT n :: l) := fun l a h o q e => by rw [htx, hat] at e; cases e; exact h
  refine Re.make (fun rest => ?_) (fun h => by omega) (fun h => by omega) (fun h rest hs hl => ?_) (fun h hne rest r hs hl hr => ?_)
  · rw [show_op, List.append_assoc]; exact at_head hy _ _
  · have hk2 : k = 2 := by omega
    subst hk2
    have e : showT ⟨22, [], n, [y, z]⟩ ++ rest = atT 3 (info y) ++ (opT n :: (atT 3 (info z) ++ rest)) := by rw [show_op, hlv]; simp
    rw [e]
    refine Q0 (by omega) (hy.t2 (a := 3) (by omega) (by omega) (hst _) (hlo _ 3 (by omega))) ?_
    refine Q2two (by rw [htx]; exact hat) ?_
    exact hz.t2 (a := 3) (by omega) (by omega) hs (fun o q e => by have := hl o q e; omega)
  · rw [hb] at h hne hl hr ⊢
    have e : showT ⟨22, [], n, [y, z]⟩ ++ rest = atT k (info y) ++ (opT n :: (atT (k + 1) (info z) ++ rest)) := by rw [show_op, hlv, if_neg hne]; simp
    rw [e]
    refine hy.t1 h hne (Nat.le_refl _) (hst _) (hlo _ _ (by omega)) ?_
    refine Q2go (by rw [htx]; exact hat) hne ?_ hr
    exact hz.t2 (by omega) (Nat.le_refl _) hs hl

theorem re_all (x : Nd) : isE x → Re x := by
  refine nd_ind (m := fun x => isE x → Re x) (fun k t n kids ih h => ?_) x
  rw [isE] at h
  obtain ⟨hk, hg⟩ := h
  have hkids : ∀ y ∈ kids, Re y := fun y hy => ih y hy ((isE_go kids).1 hg y hy)
  rcases hk with ⟨rfl, rfl, h0, h1, hl⟩ | ⟨rfl, rfl, hl⟩ | ⟨hk, rfl, rfl, hl⟩ | ⟨rfl, ht, rfl, hl⟩ | ⟨hk, rfl, rfl, hl⟩ | ⟨rfl, rfl, rfl, hl⟩ | ⟨rfl, rfl, ho, hl⟩ | ⟨hk, rfl, rfl, hl⟩
  · obtain rfl := List.length_eq_zero_iff.1 hl
    refine Re.atom (2, digitsN n.toNat) (by rw [showT_eq]; rfl) (binds7 _ _ _ (by decide) (by decide) (by decide) (by decide)) (fun l => by rw [tx_num]; decide) (fun rest => ⟨1, ?_⟩)
    rw [P]
    simp only
    rw [if_pos trivial]
    have : numOf (digitsN n.toNat) = n := by
      unfold numOf digitsN
      rw [numV_dec (n.toNat + 1) n.toNat (by omega)]
      omega
    rw [this]
  · obtain rfl := List.length_eq_zero_iff.1 hl
    exact Re.atom (3, t) (by rw [showT_eq]; rfl) (binds7 _ _ _ (by decide) (by decide) (by decide) (by decide)) (fun l => by rw [tx_txt]; decide) (fun rest => ⟨1, rfl⟩)
  · obtain rfl := List.length_eq_zero_iff.1 hl
    rcases hk with rfl | rfl | rfl | rfl
    · exact Re.atom (wt W.nil_) (by rw [showT_eq]; rfl) (binds7 _ _ _ (by decide) (by decide) (by decide) (by decide)) (fun l => by rw [tx_w]; decide) (fun rest => Q3word (.inl ⟨rfl, rfl⟩) rest)
    · exact Re.atom (wt W.true_) (by rw [showT_eq]; rfl) (binds7 _ _ _ (by decide) (by decide) (by decide) (by decide)) (fun l => by rw [tx_w]; decide) (fun rest => Q3word (.inr (.inl ⟨rfl, rfl⟩)) rest)
    · exact Re.atom (wt W.false_) (by rw [showT_eq]; rfl) (binds7 _ _ _ (by decide) (by decide) (by decide) (by decide)) (fun l => by rw [tx_w]; decide) (fun rest => Q3word (.inr (.inr ⟨rfl, rfl⟩)) rest)
    · have e : ∀ rest, showT ⟨19, [], 0, []⟩ ++ rest = st S.lc :: st S.rc :: rest := fun rest => by rw [showT_eq]; rfl
      refine Re.make (fun rest => ?_) (fun _ rest r hr => ?_) (fun h => ?_) (fun h => ?_) (fun h => ?_)
      · rw [e, tx_s]; decide
      · rw [e]
        exact Q1first (by rw [tx_s]; decide) (by rw [tx_s]; decide) (by rw [tx_s]; decide) ⟨1, rfl⟩ hr
      all_goals (rw [binds7 _ _ _ (by decide) (by decide) (by decide) (by decide)] at h; omega)
  · obtain rfl := List.length_eq_zero_iff.1 hl
    exact Re.atom (wt t) (by rw [showT_eq]; rfl) (binds7 _ _ _ (by decide) (by decide) (by decide) (by decide)) (fun l => by rw [tx_w]; exact ⟨name_no ht (.inr (by decide)), name_no ht (.inl (by decide)), name_no ht (.inr (by decide)), name_no ht (.inr (by decide))⟩) (fun rest => Q3name ht rest)
  · match kids, hl, hkids with
    | [y, z], _, hkids =>
      rcases hk with rfl | rfl
      · exact re_index (hkids y (by simp)) (hkids z (by simp))
      · exact re_next (hkids y (by simp)) (hkids z (by simp))
  · match kids, hl, hkids with
    | y :: l, _, hkids => exact re_call (hkids y (by simp)) (fun z hz => hkids z (by simp [hz]))
  · match kids, hl, hkids with
    | [y, z], _, hkids =>
      cases hq : opOf n with
      | none => rw [hq] at ho; cases ho
      | some p =>
        obtain ⟨s, k⟩ := p
        exact re_op hq (hkids y (by simp)) (hkids z (by simp))
  · match kids, hl, hkids with
    | [y], _, hkids => exact re_unary hk (hkids y (by simp))

end Go.Proofs.YtbdkiimggggndaaGreatDoor
namespace Go.Proofs.YtbdkiimggggndaaGreatDoor
open Go

/-- Kinds of statements. -/
def statK (k : Int) : Prop := 5 ≤ k ∧ k ≤ 12
/-- How many calls stand behind a name; none: no name stands first. -/
def chainC : Nd → Option Nat
  | ⟨k, _, _, kids⟩ => if k = 18 then some 0 else if k = 20 then go kids else if k = 21 then (go kids).map (· + 1) else none
where go : List Nd → Option Nat
  | [] => none
  | x :: _ => chainC x

/-- May a node of a kind stand there? -/
def fitsK (k : Int) (len i : Nat) (kk : Int) : Prop :=
  if k = 1 then kk = 2
  else if k = 2 then (if i + 1 = len then kk = 4 else kk = 3)
  else if k = 4 then statK kk
  else if k = 8 ∨ k = 9 then (if 0 < i then kk = 4 else exprK kk)
  else if k = 10 then (if i = 2 then kk = 4 else exprK kk)
  else exprK kk
def kidsOK (k : Int) (len : Nat) : Prop :=
  k = 1 ∨ k = 4 ∨ (k = 2 ∧ 1 ≤ len) ∨ ((k = 3 ∨ k = 18 ∨ k = 13 ∨ k = 14 ∨ k = 15 ∨ k = 16 ∨ k = 17 ∨ k = 19) ∧ len = 0) ∨ ((k = 5 ∨ k = 7 ∨ k = 11 ∨ k = 12 ∨ k = 23 ∨ k = 24 ∨ k = 25) ∧ len = 1) ∨ (k = 10 ∧ len = 3) ∨
  ((k = 6 ∨ k = 9 ∨ k = 20 ∨ k = 22 ∨ k = 26) ∧ len = 2) ∨ (k = 8 ∧ (len = 2 ∨ len = 3)) ∨ (k = 21 ∧ 1 ≤ len)
def hasName (k : Int) : Prop := k = 2 ∨ k = 3 ∨ k = 18 ∨ k = 5 ∨ k = 10
/-- May it stand between quotes? -/
def quotB (t : List UInt8) : Bool := t.all txtB && decide (t.length ≤ 300)
/-- Is a node one of a program? -/
def isN : Nd → Prop
  | ⟨k, t, n, kids⟩ => kidsOK k kids.length ∧ (hasName k → nameB t = true) ∧ (¬ hasName k → k ≠ 14 → t = []) ∧ ((k = 22 → (opOf n).isSome = true) ∧ (k = 14 → quotB t = true)) ∧ (k = 13 → 0 ≤ n ∧ n ≤ 9223372036854775807) ∧ (k ≠ 22 → k ≠ 13 → n = 0) ∧
    (k = 6 → (kids.head?.bind chainC) = some 0) ∧ (k = 7 → (kids.head?.bind chainC).isSome = true ∧ kids.head?.map (fun x => x.k) = some 21) ∧ go k kids.length 0 kids
where go (k : Int) (len : Nat) : Nat → List Nd → Prop
  | _, [] => True
  | i, x :: l => fitsK k len i x.k ∧ isN x ∧ go k len (i + 1) l
theorem isN_go (k : Int) (len : Nat) : ∀ (l : List Nd) (i : Nat), isN.go k len i l ↔ ∀ j x, l[j]? = some x → fitsK k len (i + j) x.k ∧ isN x
  | [], i => by simp [isN.go]
  | x :: l, i => by
    rw [isN.go, isN_go k len l (i + 1)]
    constructor
    · rintro ⟨h1, h2, h3⟩ j y hy
      cases j with
      | zero => simp at hy; subst hy; exact ⟨h1, h2⟩
      | succ j => have := h3 j y (by simpa using hy); rw [show i + (j + 1) = i + 1 + j by omega]; exact this
    · intro h
      have h0 := h 0 x (by simp)
      refine ⟨h0.1, h0.2, fun j y hy => ?_⟩
      have := h (j + 1) y (by simpa using hy)
      rw [show i + 1 + j = i + (j + 1) by omega]
      exact this

theorem isE_of (x : Nd) : isN x → exprK x.k → isE x := by
  refine nd_ind (m := fun x => isN x → exprK x.k → isE x) (fun k t n kids ih h hk => ?_) x
  rw [isN] at h
  obtain ⟨h1, h2, h3, h4, h5, h6, h7, h8, h9⟩ := h
  rw [isN_go] at h9
  simp only [exprK] at hk
  have hkid : isE.go kids := by
    rw [isE_go]
    intro y hy
    obtain ⟨j, hj, hj'⟩ := List.getElem_of_mem hy
    have := h9 j y (by rw [List.getElem?_eq_getElem hj, hj'])
    refine ih y hy this.2 ?_
    have hf := this.1
    unfold fitsK at hf
    rw [if_neg (by omega), if_neg (by omega), if_neg (by omega), if_neg (by omega), if_neg (by omega)] at hf
    exact hf
  rw [isE]
  refine ⟨?_, hkid⟩
  simp only [hasName] at h2 h3
  unfold kidsOK at h1
  rcases h1 with h1 | h1 | h1 | ⟨h1 | h1 | h1 | h1 | h1 | h1 | h1 | h1, hl⟩ | ⟨h1 | h1 | h1 | h1 | h1 | h1 | h1, hl⟩ | h1 | ⟨h1 | h1 | h1 | h1 | h1, hl⟩ | h1 | ⟨h1, hl⟩
  all_goals first | omega | skip
  · exact .inr (.inr (.inr (.inl ⟨h1, h2 (by omega), h6 (by omega) (by omega), hl⟩)))
  · exact .inl ⟨h1, h3 (by omega) (by omega), (h5 h1).1, (h5 h1).2, hl⟩
  · exact .inr (.inr (.inl ⟨by omega, h3 (by omega) (by omega), h6 (by omega) (by omega), hl⟩))
  · exact .inr (.inr (.inl ⟨by omega, h3 (by omega) (by omega), h6 (by omega) (by omega), hl⟩))
  · exact .inr (.inr (.inl ⟨by omega, h3 (by omega) (by omega), h6 (by omega) (by omega), hl⟩))
  · exact .inr (.inr (.inl ⟨by omega, h3 (by omega) (by omega), h6 (by omega) (by omega), hl⟩))
  · exact .inr (.inr (.inr (.inr (.inr (.inr (.inr ⟨by omega, h3 (by omega) (by omega), h6 (by omega) (by omega), hl⟩))))))
  · exact .inr (.inr (.inr (.inr (.inr (.inr (.inr ⟨by omega, h3 (by omega) (by omega), h6 (by omega) (by omega), hl⟩))))))
  · exact .inr (.inr (.inr (.inr (.inr (.inr (.inr ⟨by omega, h3 (by omega) (by omega), h6 (by omega) (by omega), hl⟩))))))
  · exact .inr (.inr (.inr (.inr (.inl ⟨by omega, h3 (by omega) (by omega), h6 (by omega) (by omega), hl⟩))))
  · exact .inr (.inr (.inr (.inr (.inr (.inr (.inl ⟨h1, h3 (by omega) (by omega), h4.1 h1, hl⟩))))))
  · exact .inr (.inr (.inr (.inr (.inl ⟨by omega, h3 (by omega) (by omega), h6 (by omega) (by omega), hl⟩))))
  · exact .inr (.inr (.inr (.inr (.inr (.inl ⟨h1, h3 (by omega) (by omega), h6 (by omega) (by omega), hl⟩)))))

theorem needName_w {s : List UInt8} (h : nameB s = true) (l : List PT) (g : List UInt8 → List PT → PR) : needName (wt s :: l) g = g s l := by
  unfold needName
  rw [tx_w, if_pos h]
  rfl

theorem Q7end {x : Nd} {l : List PT} (h : tx l = W.end_ ∨ tx l = W.else_) : Q 7 x 0 l (yes x l) := ⟨1, by rw [P, if_pos h]⟩
theorem Q7go {ks : List Nd} {s : Nd} {l l1 : List PT} {r : List PT ⊕ (Nd × List PT)} (h1 : tx l ≠ W.end_) (h2 : tx l ≠ W.else_) (h3 : Q 8 nil0 0 l (yes s l1)) (h4 : Q 7 (nd 4 (ks ++ [s])) 0 l1 r) : Q 7 (nd 4 ks) 0 l r := by
  obtain ⟨f1, h3⟩ := h3
  obtain ⟨f2, h4⟩ := h4
  refine ⟨f1 + f2 + 1, ?_⟩
  rw [P, if_neg (by rintro (e | e); exact h1 e; exact h2 e), P_mono (by omega) h3, on_yes]
  exact P_mono (by omega) h4
theorem Q8local {s : List UInt8} {x : Nd} {l l1 : List PT} (hs : nameB s = true) (h : Q 0 nil0 0 l (yes x (st S.sc :: l1))) : Q 8 nil0 0 (wt W.local_ :: wt s :: st S.eq :: l) (yes ⟨5, s, 0, [x]⟩ l1) := by
  obtain ⟨f1, h⟩ := h
  refine ⟨f1 + 1, ?_⟩
  rw [P, tx_w, if_pos rfl, List.tail_cons, needName_w hs, need_s, h, on_yes, need_s]
theorem Q8if {x b : Nd} {l l1 l2 : List PT} (h1 : Q 0 nil0 0 l (yes x (wt W.then_ :: l1))) (h2 : Q 7 (nd 4 []) 0 l1 (yes b (wt W.end_ :: l2))) : Q 8 nil0 0 (wt W.if_ :: l) (yes (nd 8 [x, b]) l2) := by
  obtain ⟨f1, h1⟩ := h1
  obtain ⟨f2, h2⟩ := h2
  refine ⟨f1 + f2 + 1, ?_⟩
  rw [P, tx_w, if_neg (by decide), if_pos rfl, List.tail_cons, P_mono (by omega) h1, on_yes, need_w, P_mono (by omega) h2, on_yes, tx_w, if_neg (by decide), need_w]
theorem Q8else {x b c : Nd} {l l1 l2 l3 : List PT} (h1 : Q 0 nil0 0 l (yes x (wt W.then_ :: l1))) (h2 : Q 7 (nd 4 []) 0 l1 (yes b (wt W.else_ :: l2))) (h3 : Q 7 (nd 4 []) 0 l2 (yes c (wt W.end_ :: l3))) : Q 8 nil0 0 (wt W.if_ :: l) (yes (nd 8 [x, b, c]) l3) := by
  obtain ⟨f1, h1⟩ := h1
  obtain ⟨f2, h2⟩ := h2
  obtain ⟨f3, h3⟩ := h3
  refine ⟨f1 + f2 + f3 + 1, ?_⟩
  rw [P, tx_w, if_neg (by decide), if_pos rfl, List.tail_cons, P_mono (by omega) h1, on_yes, need_w, P_mono (by omega) h2, on_yes, tx_w, if_pos rfl, List.tail_cons, P_mono (by omega) h3, on_yes, need_w]
theorem Q8while {x b : Nd} {l l1 l2 : List PT} (h1 : Q 0 nil0 0 l (yes x (wt W.do_ :: l1))) (h2 : Q 7 (nd 4 []) 0 l1 (yes b (wt W.end_ :: l2))) : Q 8 nil0 0 (wt W.while_ :: l) (yes (nd 9 [x, b]) l2) := by
  obtain ⟨f1, h1⟩ := h1
  obtain ⟨f2, h2⟩ := h2
  refine ⟨f1 + f2 + 1, ?_⟩
  rw [P, tx_w, if_neg (by decide), if_neg (by decide), if_pos rfl, List.tail_cons, P_mono (by omega) h1, on_yes, need_w, P_mono (by omega) h2, on_yes, need_w]
theorem Q8for {s : List UInt8} {x y b : Nd} {l l1 l2 l3 : List PT} (hs : nameB s = true) (h1 : Q 0 nil0 0 l (yes x (st S.cm :: l1))) (h2 : Q 0 nil0 0 l1 (yes y (wt W.do_ :: l2))) (h3 : Q 7 (nd 4 []) 0 l2 (yes b (wt W.end_ :: l3))) : Q 8 nil0 0 (wt W.for_ :: wt s :: st S.eq :: l) (yes ⟨10, s, 0, [x, y, b]⟩ l3) := by
  obtain ⟨f1, h1⟩ := h1
  obtain ⟨f2, h2⟩ := h2
  obtain ⟨f3, h3⟩ := h3
  refine ⟨f1 + f2 + f3 + 1, ?_⟩
  rw [P, tx_w, if_neg (by decide), if_neg (by decide), if_neg (by decide), if_pos rfl, List.tail_cons, needName_w hs, need_s, P_mono (by omega) h1, on_yes, need_s, P_mono (by omega) h2, on_yes, need_w, P_mono (by omega) h3, on_yes, need_w]
theorem Q8return {x : Nd} {l l1 : List PT} (h1 : Q 0 nil0 0 l (yes x (st S.sc :: l1))) : Q 8 nil0 0 (wt W.return_ :: l) (yes (nd 11 [x]) l1) := by
  obtain ⟨f1, h1⟩ := h1
  refine ⟨f1 + 1, ?_⟩
  rw [P, tx_w, if_neg (by decide), if_neg (by decide), if_neg (by decide), if_neg (by decide), if_pos rfl, List.tail_cons, h1, on_yes, need_s]
theorem Q8emit {x : Nd} {l l1 : List PT} (h1 : Q 0 nil0 0 l (yes x (st S.sc :: l1))) : Q 8 nil0 0 (wt W.emit_ :: l) (yes (nd 12 [x]) l1) := by
  obtain ⟨f1, h1⟩ := h1
  refine ⟨f1 + 1, ?_⟩
  rw [P, tx_w, if_neg (by decide), if_neg (by decide), if_neg (by decide), if_neg (by decide), if_neg (by decide), if_pos rfl, List.tail_cons, h1, on_yes, need_s]
theorem Q8simple {s : List UInt8} {x : Nd} {l l1 : List PT} (hs : nameB s = true) (h1 : Q 9 ⟨18, s, 0, []⟩ 0 l (yes x (st S.sc :: l1))) : Q 8 nil0 0 (wt s :: l) (yes x l1) := by
  obtain ⟨f1, h1⟩ := h1
  refine ⟨f1 + 1, ?_⟩
  rw [P, tx_w, if_neg (name_no hs (.inl (by decide))), if_neg (name_no hs (.inl (by decide))), if_neg (name_no hs (.inl (by decide))), if_neg (name_no hs (.inl (by decide))), if_neg (name_no hs (.inl (by decide))), if_neg (name_no hs (.inl (by decide))), needName_w hs, h1, on_yes, need_s]
theorem Q9index {x y : Nd} {a : Nat} {l l1 : List PT} {r : List PT ⊕ (Nd × List PT)} (h : tx l = S.lb) (h1 : Q 5 x 0 l (yes y l1)) (h2 : Q 9 y a l1 r) : Q 9 x a l r := by
  obtain ⟨f1, h1⟩ := h1
  obtain ⟨f2, h2⟩ := h2
  refine ⟨f1 + f2 + 1, ?_⟩
  rw [P, if_pos h, P_mono (by omega) h1, on_yes]
  exact P_mono (by omega) h2
theorem Q9call {x y : Nd} {a : Nat} {l l1 : List PT} {r : List PT ⊕ (Nd × List PT)} (h : tx l = S.lp) (h1 : Q 5 x 0 l (yes y l1)) (h2 : Q 9 y (a + 1) l1 r) : Q 9 x a l r := by
  obtain ⟨f1, h1⟩ := h1
  obtain ⟨f2, h2⟩ := h2
  refine ⟨f1 + f2 + 1, ?_⟩
  rw [P, if_neg (by rw [h]; decide), if_pos h, P_mono (by omega) h1, on_yes]
  exact P_mono (by omega) h2
theorem Q9set {x y : Nd} {l l1 : List PT} (h1 : Q 0 nil0 0 l (yes y l1)) : Q 9 x 0 (st S.eq :: l) (yes (nd 6 [x, y]) l1) := by
  obtain ⟨f1, h1⟩ := h1
  refine ⟨f1 + 1, ?_⟩
  rw [P, tx_s, if_neg (by decide), if_neg (by decide), if_pos rfl, need_s, h1, on_yes]
theorem Q9do {x : Nd} {a : Nat} {l : List PT} (h1 : tx l ≠ S.lb) (h2 : tx l ≠ S.lp) (h3 : a ≠ 0) (h4 : x.k = 21) : Q 9 x a l (yes (nd 7 [x]) l) := by
  refine ⟨1, ?_⟩
  rw [P, if_neg h1, if_neg h2, if_neg h3, if_pos h4]

end Go.Proofs.YtbdkiimggggndaaGreatDoor
namespace Go.Proofs.YtbdkiimggggndaaGreatDoor
open Go

theorem round_read {y : Nd} {l : List Nd} (hl : ∀ z ∈ l, Re z) (rest : List PT) : (tx (roundT (l.map info) ++ rest) = S.lp) ∧ Q 5 y 0 (roundT (l.map info) ++ rest) (yes (nd 21 (y :: l)) rest) := by
  cases l with
  | nil => exact ⟨tx_s _ _, Q5none⟩
  | cons z l =>
    have e : roundT ((z :: l).map info) ++ rest = st S.lp :: (commaT ((z :: l).map info) ++ st S.rp :: rest) := by simp [roundT]
    rw [e]
    refine ⟨tx_s _ _, Q5args ?_ (args_read (z :: l) [y] rest (by simp) hl)⟩
    have e2 : ∃ q, commaT ((z :: l).map info) ++ st S.rp :: rest = showT z ++ q := by
      cases l with
      | nil => exact ⟨st S.rp :: rest, by simp [commaT, info]⟩
      | cons z2 l => exact ⟨st S.cm :: (commaT ((z2 :: l).map info) ++ st S.rp :: rest), by simp [commaT, info]⟩
    obtain ⟨q, e2⟩ := e2
    rw [e2]
    exact (hl z (by simp)).h q

theorem chain_kind {y : Nd} {c : Nat} (h : chainC y = some c) : bindsN y = 7 ∧ exprK y.k := by
  obtain ⟨k, t, n, kids⟩ := y
  rw [chainC] at h
  have hk : k = 18 ∨ k = 20 ∨ k = 21 := by
    by_cases a : k = 18
    · exact .inl a
    · rw [if_neg a] at h
      by_cases b : k = 20
      · exact .inr (.inl b)
      · rw [if_neg b] at h
        by_cases d : k = 21
        · exact .inr (.inr d)
        · rw [if_neg d] at h; cases h
  exact ⟨binds7 _ _ _ (by omega) (by omega) (by omega) (by omega), by show 13 ≤ k ∧ k ≤ 26; omega⟩

theorem at7 {y : Nd} (h : bindsN y = 7) : atT 7 (info y) = showT y := by
  unfold atT info
  simp only
  rw [if_neg (by omega)]

theorem chain_read (p : Nd) : isN p → ∀ c, chainC p = some c → ∃ s L, showT p = wt s :: L ∧ nameB s = true ∧ ∀ a rest r, Q 9 p (a + c) rest r → Q 9 ⟨18, s, 0, []⟩ a (L ++ rest) r := by
  refine nd_ind (m := fun p => isN p → ∀ c, chainC p = some c → ∃ s L, showT p = wt s :: L ∧ nameB s = true ∧ ∀ a rest r, Q 9 p (a + c) rest r → Q 9 ⟨18, s, 0, []⟩ a (L ++ rest) r) (fun k t n kids ih h c hc => ?_) p
  have hE := isE_of _ h (chain_kind hc).2
  have hg : ∀ y ∈ kids, Re y := by
    rw [isE] at hE
    exact fun y hy => re_all y ((isE_go kids).1 hE.2 y hy)
  rw [isN] at h
  obtain ⟨h1, h2, h3, h4, h5, h6, h7, h8, h9⟩ := h
  rw [isN_go] at h9
  simp only [hasName] at h2 h3
  rw [chainC] at hc
  by_cases k18 : k = 18
  · subst k18
    rw [if_pos rfl] at hc
    cases hc
    have hl : kids.length = 0 := by unfold kidsOK at h1; omega
    obtain rfl := List.length_eq_zero_iff.1 hl
    obtain rfl := h6 (by omega) (by omega)
    exact ⟨t, [], by rw [showT_eq]; rfl, h2 (by omega), fun a rest r hr => hr⟩
  rw [if_neg k18] at hc
  by_cases k20 : k = 20
  · subst k20
    rw [if_pos rfl] at hc
    have hl : kids.length = 2 := by unfold kidsOK at h1; omega
    obtain rfl := h6 (by omega) (by omega)
    obtain rfl := h3 (by omega) (by omega)
    match kids, hl, hg, ih, h9, hc with
    | [y, z], _, hg, ih, h9, hc =>
      rw [chainC.go] at hc
      obtain ⟨s, L, e1, e2, e3⟩ := ih y (by simp) (h9 0 y (by simp)).2 c hc
      refine ⟨s, L ++ st S.lb :: (showT z ++ [st S.rb]), ?_, e2, fun a rest r hr => ?_⟩
      · rw [show_index, at7 (chain_kind hc).1, e1]; rfl
      · have e : L ++ st S.lb :: (showT z ++ [st S.rb]) ++ rest = L ++ (st S.lb :: (showT z ++ st S.rb :: rest)) := by simp
        rw [e]
        refine e3 a _ r (Q9index (tx_s _ _) (Q5index ((hg z (by simp)).whole (stops_s (by decide) (by decide)) (lvB_s 0 (by decide)))) hr)
  rw [if_neg k20] at hc
  by_cases k21 : k = 21
  · subst k21
    rw [if_pos rfl] at hc
    obtain rfl := h6 (by omega) (by omega)
    obtain rfl := h3 (by omega) (by omega)
    match kids, hg, ih, h9, hc with
    | [], _, _, _, hc => rw [chainC.go] at hc; cases hc
    | y :: l, hg, ih, h9, hc =>
      rw [chainC.go] at hc
      cases hy : chainC y with
      | none => rw [hy] at hc; cases hc
      | some d =>
        rw [hy] at hc
        simp at hc
        subst hc
        obtain ⟨s, L, e1, e2, e3⟩ := ih y (by simp) (h9 0 y (by simp)).2 d hy
        refine ⟨s, L ++ roundT (l.map info), ?_, e2, fun a rest r hr => ?_⟩
        · rw [show_call, at7 (chain_kind hy).1, e1]; rfl
        · obtain ⟨q1, q2⟩ := round_read (y := y) (l := l) (fun z hz => hg z (by simp [hz])) rest
          rw [List.append_assoc]
          exact e3 a _ r (Q9call q1 q2 hr)
  · rw [if_neg k21] at hc; cases hc

/-- What is to be shown of a statement, and of a block. -/
structure Rs (x : Nd) : Prop where
  s : statK x.k → (∀ rest, Q 8 nil0 0 (showT x ++ rest) (yes x rest)) ∧ ∀ rest, tx (showT x ++ rest) ≠ W.end_ ∧ tx (showT x ++ rest) ≠ W.else_
  b : x.k = 4 → ∀ rest, (tx rest = W.end_ ∨ tx rest = W.else_) → Q 7 (nd 4 []) 0 (showT x ++ rest) (yes x rest)

theorem block_read : ∀ (ks acc : List Nd) (rest : List PT), (tx rest = W.end_ ∨ tx rest = W.else_) → (∀ s ∈ ks, Rs s ∧ statK s.k) → Q 7 (nd 4 acc) 0 (allT (ks.map info) ++ rest) (yes (nd 4 (acc ++ ks)) rest)
  | [], acc, rest, hr, _ => by rw [List.append_nil]; exact Q7end hr
  | s :: ks, acc, rest, hr, h => by
    have ih := block_read ks (acc ++ [s]) rest hr (fun q hq => h q (by simp [hq]))
    obtain ⟨h1, h2⟩ := (h s (by simp)).1.s (h s (by simp)).2
    have e : allT ((s :: ks).map info) ++ rest = showT s ++ (allT (ks.map info) ++ rest) := by simp [allT, info]
    rw [e, show acc ++ s :: ks = acc ++ [s] ++ ks by simp]
    exact Q7go (h2 _).1 (h2 _).2 (h1 _) ih

theorem show_local (t : List UInt8) (n : Int) (y : Nd) : showT ⟨5, t, n, [y]⟩ = [wt W.local_, wt t, st S.eq] ++ showT y ++ [st S.sc] := by rw [showT_eq]; rfl
theorem show_set (t : List UInt8) (n : Int) (y z : Nd) : showT ⟨6, t, n, [y, z]⟩ = showT y ++ st S.eq :: (showT z ++ [st S.sc]) := by rw [showT_eq]; rfl
theorem show_do (t : List UInt8) (n : Int) (y : Nd) : showT ⟨7, t, n, [y]⟩ = showT y ++ [st S.sc] := by rw [showT_eq]; rfl
theorem show_if2 (t : List UInt8) (n : Int) (y z : Nd) : showT ⟨8, t, n, [y, z]⟩ = wt W.if_ :: (showT y ++ wt W.then_ :: (showT z ++ [wt W.end_])) := by rw [showT_eq]; rfl
theorem show_if3 (t : List UInt8) (n : Int) (y z v : Nd) : showT ⟨8, t, n, [y, z, v]⟩ = wt W.if_ :: (showT y ++ wt W.then_ :: (showT z ++ (wt W.else_ :: showT v ++ [wt W.end_]))) := by rw [showT_eq]; rfl
theorem show_while (t : List UInt8) (n : Int) (y z : Nd) : showT ⟨9, t, n, [y, z]⟩ = wt W.while_ :: (showT y ++ wt W.do_ :: (showT z ++ [wt W.end_])) := by rw [showT_eq]; rfl
theorem show_for (t : List UInt8) (n : Int) (y z v : Nd) : showT ⟨10, t, n, [y, z, v]⟩ = [wt W.for_, wt t, st S.eq] ++ showT y ++ st S.cm :: (showT z ++ wt W.do_ :: (showT v ++ [wt W.end_])) := by rw [showT_eq]; rfl
theorem show_return (t : List UInt8) (n : Int) (y : Nd) : showT ⟨11, t, n, [y]⟩ = wt W.return_ :: (showT y ++ [st S.sc]) := by rw [showT_eq]; rfl
theorem show_emit (t : List UInt8) (n : Int) (y : Nd) : showT ⟨12, t, n, [y]⟩ = wt W.emit_ :: (showT y ++ [st S.sc]) := by rw [showT_eq]; rfl

theorem rs_all (x : Nd) : isN x → Rs x := by
  refine nd_ind (m := fun x => isN x → Rs x) (fun k t n kids ih h => ?_) x
  rw [isN] at h
  obtain ⟨h1, h2, h3, h4, h5, h6, h7, h8, h9⟩ := h
  rw [isN_go] at h9
  simp only [hasName] at h2 h3
  have hx : ∀ j y, kids[j]? = some y → exprK y.k → Re y := fun j y hy he => re_all y (isE_of y (h9 j y hy).2 he)
  have hs : ∀ j y, kids[j]? = some y → Rs y := fun j y hy => ih y (List.mem_of_getElem? hy) (h9 j y hy).2
  have ss : ∀ {l : List PT}, stops (st S.sc :: l) := stops_s (by decide) (by decide)
  have ls : ∀ {l : List PT}, lvB 0 (st S.sc :: l) := lvB_s 0 (by decide)
  refine ⟨fun hk => ?_, fun hk rest hr => ?_⟩
  · simp only [statK] at hk
    unfold kidsOK at h1
    have hk' : k = 5 ∨ k = 6 ∨ k = 7 ∨ k = 8 ∨ k = 9 ∨ k = 10 ∨ k = 11 ∨ k = 12 := by omega
    rcases hk' with rfl | rfl | rfl | rfl | rfl | rfl | rfl | rfl
    · have hl : kids.length = 1 := by omega
      obtain rfl := h6 (by omega) (by omega)
      match kids, hl, hx, h9 with
      | [y], _, hx, h9 =>
        have hy := hx 0 y rfl (h9 0 y rfl).1
        refine ⟨fun rest => ?_, fun rest => ?_⟩
        · have e : showT ⟨5, t, 0, [y]⟩ ++ rest = wt W.local_ :: wt t :: st S.eq :: (showT y ++ st S.sc :: rest) := by rw [show_local]; simp
          rw [e]
          exact Q8local (h2 (by omega)) (hy.whole ss ls)
        · rw [show_local]; simp only [List.cons_append]; rw [tx_w]; decide
    · have hl : kids.length = 2 := by omega
      obtain rfl := h6 (by omega) (by omega)
      obtain rfl := h3 (by omega) (by omega)
      match kids, hl, hx, h9, h7 with
      | [y, z], _, hx, h9, h7 =>
        have hc := h7 rfl
        simp at hc
        obtain ⟨s, L, e1, e2, e3⟩ := chain_read y (h9 0 y rfl).2 0 hc
        have hz := hx 1 z rfl (h9 1 z rfl).1
        refine ⟨fun rest => ?_, fun rest => ?_⟩
        · have e : showT ⟨6, [], 0, [y, z]⟩ ++ rest = wt s :: (L ++ (st S.eq :: (showT z ++ st S.sc :: rest))) := by rw [show_set, e1]; simp
          rw [e]
          exact Q8simple e2 (e3 0 _ _ (Q9set (hz.whole ss ls)))
        · rw [show_set, e1]; simp only [List.cons_append]; rw [tx_w]
          exact ⟨name_no e2 (.inl (by decide)), name_no e2 (.inl (by decide))⟩
    · have hl : kids.length = 1 := by omega
      obtain rfl := h6 (by omega) (by omega)
      obtain rfl := h3 (by omega) (by omega)
      match kids, hl, h9, h8 with
      | [y], _, h9, h8 =>
        obtain ⟨hc, hk21⟩ := h8 rfl
        simp at hc hk21
        cases hq : chainC y with
        | none => rw [hq] at hc; cases hc
        | some c =>
          have hc0 : c ≠ 0 := by
            obtain ⟨ky, ty, ny, kidsy⟩ := y
            simp only at hk21
            subst hk21
            rw [chainC, if_neg (by decide), if_neg (by decide), if_pos rfl] at hq
            cases hgo : chainC.go kidsy with
            | none => rw [hgo] at hq; cases hq
            | some d => rw [hgo] at hq; simp at hq; omega
          obtain ⟨s, L, e1, e2, e3⟩ := chain_read y (h9 0 y rfl).2 c hq
          refine ⟨fun rest => ?_, fun rest => ?_⟩
          · have e : showT ⟨7, [], 0, [y]⟩ ++ rest = wt s :: (L ++ (st S.sc :: rest)) := by rw [show_do, e1]; simp
            rw [e]
            exact Q8simple e2 (e3 0 _ _ (Q9do (by rw [tx_s]; decide) (by rw [tx_s]; decide) (by omega) hk21))
          · rw [show_do, e1]; simp only [List.cons_append]; rw [tx_w]
            exact ⟨name_no e2 (.inl (by decide)), name_no e2 (.inl (by decide))⟩
    · obtain rfl := h6 (by omega) (by omega)
      obtain rfl := h3 (by omega) (by omega)
      have hl : kids.length = 2 ∨ kids.length = 3 := by omega
      match kids, hl, hx, h9, hs with
      | [y, z], _, hx, h9, hs =>
        have hy := hx 0 y rfl (h9 0 y rfl).1
        have hz := (hs 1 z rfl).b (h9 1 z rfl).1
        refine ⟨fun rest => ?_, fun rest => ?_⟩
        · have e : showT ⟨8, [], 0, [y, z]⟩ ++ rest = wt W.if_ :: (showT y ++ wt W.then_ :: (showT z ++ wt W.end_ :: rest)) := by rw [show_if2]; simp
          rw [e]
          exact Q8if (hy.whole (stops_w (by decide) (by decide)) (lvB_w 0 (by decide))) (hz _ (.inl (tx_w _ _)))
        · rw [show_if2]; simp only [List.cons_append]; rw [tx_w]; decide
      | [y, z, v], _, hx, h9, hs =>
        have hy := hx 0 y rfl (h9 0 y rfl).1
        have hz := (hs 1 z rfl).b (h9 1 z rfl).1
        have hv := (hs 2 v rfl).b (h9 2 v rfl).1
        refine ⟨fun rest => ?_, fun rest => ?_⟩
        · have e : showT ⟨8, [], 0, [y, z, v]⟩ ++ rest = wt W.if_ :: (showT y ++ wt W.then_ :: (showT z ++ wt W.else_ :: (showT v ++ wt W.end_ :: rest))) := by rw [show_if3]; simp
          rw [e]
          exact Q8else (hy.whole (stops_w (by decide) (by decide)) (lvB_w 0 (by decide))) (hz _ (.inr (tx_w _ _))) (hv _ (.inl (tx_w _ _)))
        · rw [show_if3]; simp only [List.cons_append]; rw [tx_w]; decide
    · obtain rfl := h6 (by omega) (by omega)
      obtain rfl := h3 (by omega) (by omega)
      have hl : kids.length = 2 := by omega
      match kids, hl, hx, h9, hs with
      | [y, z], _, hx, h9, hs =>
        have hy := hx 0 y rfl (h9 0 y rfl).1
        have hz := (hs 1 z rfl).b (h9 1 z rfl).1
        refine ⟨fun rest => ?_, fun rest => ?_⟩
        · have e : showT ⟨9, [], 0, [y, z]⟩ ++ rest = wt W.while_ :: (showT y ++ wt W.do_ :: (showT z ++ wt W.end_ :: rest)) := by rw [show_while]; simp
          rw [e]
          exact Q8while (hy.whole (stops_w (by decide) (by decide)) (lvB_w 0 (by decide))) (hz _ (.inl (tx_w _ _)))
        · rw [show_while]; simp only [List.cons_append]; rw [tx_w]; decide
    · obtain rfl := h6 (by omega) (by omega)
      have hl : kids.length = 3 := by omega
      match kids, hl, hx, h9, hs with
      | [y, z, v], _, hx, h9, hs =>
        have hy := hx 0 y rfl (h9 0 y rfl).1
        have hz := hx 1 z rfl (h9 1 z rfl).1
        have hv := (hs 2 v rfl).b (h9 2 v rfl).1
        refine ⟨fun rest => ?_, fun rest => ?_⟩
        · have e : showT ⟨10, t, 0, [y, z, v]⟩ ++ rest = wt W.for_ :: wt t :: st S.eq :: (showT y ++ st S.cm :: (showT z ++ wt W.do_ :: (showT v ++ wt W.end_ :: rest))) := by rw [show_for]; simp
          rw [e]
          exact Q8for (h2 (by omega)) (hy.whole (stops_s (by decide) (by decide)) (lvB_s 0 (by decide))) (hz.whole (stops_w (by decide) (by decide)) (lvB_w 0 (by decide))) (hv _ (.inl (tx_w _ _)))
        · rw [show_for]; simp only [List.cons_append]; rw [tx_w]; decide
    · obtain rfl := h6 (by omega) (by omega)
      obtain rfl := h3 (by omega) (by omega)
      have hl : kids.length = 1 := by omega
      match kids, hl, hx, h9 with
      | [y], _, hx, h9 =>
        have hy := hx 0 y rfl (h9 0 y rfl).1
        refine ⟨fun rest => ?_, fun rest => ?_⟩
        · have e : showT ⟨11, [], 0, [y]⟩ ++ rest = wt W.return_ :: (showT y ++ st S.sc :: rest) := by rw [show_return]; simp
          rw [e]
          exact Q8return (hy.whole ss ls)
        · rw [show_return]; simp only [List.cons_append]; rw [tx_w]; decide
    · obtain rfl := h6 (by omega) (by omega)
      obtain rfl := h3 (by omega) (by omega)
      have hl : kids.length = 1 := by omega
      match kids, hl, hx, h9 with
      | [y], _, hx, h9 =>
        have hy := hx 0 y rfl (h9 0 y rfl).1
        refine ⟨fun rest => ?_, fun rest => ?_⟩
        · have e : showT ⟨12, [], 0, [y]⟩ ++ rest = wt W.emit_ :: (showT y ++ st S.sc :: rest) := by rw [show_emit]; simp
          rw [e]
          exact Q8emit (hy.whole ss ls)
        · rw [show_emit]; simp only [List.cons_append]; rw [tx_w]; decide
  · simp only at hk
    subst hk
    obtain rfl := h6 (by omega) (by omega)
    obtain rfl := h3 (by omega) (by omega)
    have e : showT ⟨4, [], 0, kids⟩ = allT (kids.map info) := by rw [showT_eq]; rfl
    rw [e]
    refine block_read kids [] rest hr (fun s hmem => ?_)
    obtain ⟨j, hj, hj'⟩ := List.getElem_of_mem hmem
    have hj2 : kids[j]? = some s := by rw [List.getElem?_eq_getElem hj, hj']
    exact ⟨hs j s hj2, (h9 j s hj2).1⟩

end Go.Proofs.YtbdkiimggggndaaGreatDoor
namespace Go.Proofs.YtbdkiimggggndaaGreatDoor
open Go

theorem Q11last {x : Nd} {s : List UInt8} {l : List PT} (hs : nameB s = true) (h : tx l ≠ S.cm) : Q 11 x 0 (wt s :: l) (yes ⟨2, x.t, 0, x.kids ++ [⟨3, s, 0, []⟩]⟩ l) := by
  refine ⟨1, ?_⟩
  rw [P, needName_w hs, if_neg h]
theorem Q11more {x : Nd} {s : List UInt8} {l : List PT} {r : List PT ⊕ (Nd × List PT)} (hs : nameB s = true) (h : Q 11 ⟨2, x.t, 0, x.kids ++ [⟨3, s, 0, []⟩]⟩ 0 l r) : Q 11 x 0 (wt s :: st S.cm :: l) r := by
  obtain ⟨f, h⟩ := h
  refine ⟨f + 1, ?_⟩
  rw [P, needName_w hs, tx_s, if_pos rfl]
  exact h
theorem Q10none {s : List UInt8} {b : Nd} {l l1 : List PT} (hs : nameB s = true) (h : Q 7 (nd 4 []) 0 l (yes b (wt W.end_ :: l1))) : Q 10 nil0 0 (wt W.function_ :: wt s :: st S.lp :: st S.rp :: l) (yes ⟨2, s, 0, [b]⟩ l1) := by
  obtain ⟨f, h⟩ := h
  refine ⟨f + 1, ?_⟩
  rw [P, need_w, needName_w hs, need_s, tx_s, if_pos rfl, List.tail_cons, h, on_yes, need_w]
theorem Q10some {s : List UInt8} {b n : Nd} {l l1 l2 : List PT} (hs : nameB s = true) (hr : tx l ≠ S.rp) (h : Q 11 ⟨2, s, 0, []⟩ 0 l (yes n (st S.rp :: l1))) (h2 : Q 7 (nd 4 []) 0 l1 (yes b (wt W.end_ :: l2))) : Q 10 nil0 0 (wt W.function_ :: wt s :: st S.lp :: l) (yes ⟨2, s, 0, n.kids ++ [b]⟩ l2) := by
  obtain ⟨f1, h⟩ := h
  obtain ⟨f2, h2⟩ := h2
  refine ⟨f1 + f2 + 1, ?_⟩
  rw [P, need_w, needName_w hs, need_s, if_neg hr, P_mono (by omega) h, on_yes, need_s, P_mono (by omega) h2, on_yes, need_w]
theorem Q12end {x : Nd} : Q 12 x 0 [] (yes x []) := ⟨1, by rw [P, if_pos rfl]⟩
theorem Q12go {ks : List Nd} {g : Nd} {l l1 : List PT} {r : List PT ⊕ (Nd × List PT)} (hl : l ≠ []) (h1 : Q 10 nil0 0 l (yes g l1)) (h2 : Q 12 (nd 1 (ks ++ [g])) 0 l1 r) : Q 12 (nd 1 ks) 0 l r := by
  obtain ⟨f1, h1⟩ := h1
  obtain ⟨f2, h2⟩ := h2
  refine ⟨f1 + f2 + 1, ?_⟩
  rw [P, if_neg hl, P_mono (by omega) h1, on_yes]
  exact P_mono (by omega) h2

theorem params_read : ∀ (ps acc : List Nd) (t : List UInt8) (rest : List PT), ps ≠ [] → tx rest ≠ S.cm → (∀ p ∈ ps, ∃ s, p = ⟨3, s, 0, []⟩ ∧ nameB s = true) → Q 11 ⟨2, t, 0, acc⟩ 0 (commaT (ps.map info) ++ rest) (yes ⟨2, t, 0, acc ++ ps⟩ rest)
  | [], _, _, _, h, _, _ => absurd rfl h
  | [p], acc, t, rest, _, hr, h => by
    obtain ⟨s, rfl, hs⟩ := h p (by simp)
    have e : commaT ([(⟨3, s, 0, []⟩ : Nd)].map info) ++ rest = wt s :: rest := by simp [commaT, info, showT_eq, comb]
    rw [e]
    exact Q11last hs hr
  | p :: q :: ps, acc, t, rest, _, hr, h => by
    obtain ⟨s, rfl, hs⟩ := h p (by simp)
    have ih := params_read (q :: ps) (acc ++ [⟨3, s, 0, []⟩]) t rest (by simp) hr (fun z hz => h z (by simp at hz ⊢; exact .inr hz))
    have e : commaT (((⟨3, s, 0, []⟩ : Nd) :: q :: ps).map info) ++ rest = wt s :: st S.cm :: (commaT ((q :: ps).map info) ++ rest) := by simp [commaT, info, showT_eq, comb]
    rw [e, show acc ++ ⟨3, s, 0, []⟩ :: q :: ps = acc ++ [⟨3, s, 0, []⟩] ++ q :: ps by simp]
    exact Q11more hs ih

theorem param_of {p : Nd} (h : isN p) (hk : p.k = 3) : ∃ s, p = ⟨3, s, 0, []⟩ ∧ nameB s = true := by
  obtain ⟨k, t, n, kids⟩ := p
  simp only at hk
  subst hk
  rw [isN] at h
  obtain ⟨h1, h2, h3, h4, h5, h6, h7, h8, h9⟩ := h
  have hl : kids.length = 0 := by unfold kidsOK at h1; omega
  obtain rfl := List.length_eq_zero_iff.1 hl
  obtain rfl := h6 (by omega) (by omega)
  exact ⟨t, rfl, h2 (by simp [hasName])⟩

theorem fun_read {x : Nd} (h : isN x) (hk : x.k = 2) (rest : List PT) : showT x ≠ [] ∧ Q 10 nil0 0 (showT x ++ rest) (yes x rest) := by
  obtain ⟨k, t, n, kids⟩ := x
  simp only at hk
  subst hk
  rw [isN] at h
  obtain ⟨h1, h2, h3, h4, h5, h6, h7, h8, h9⟩ := h
  rw [isN_go] at h9
  obtain rfl := h6 (by omega) (by omega)
  have ht := h2 (by simp [hasName])
  have hl : 1 ≤ kids.length := by unfold kidsOK at h1; omega
  obtain ⟨ps, b, rfl⟩ : ∃ ps b, kids = ps ++ [b] := ⟨kids.dropLast, kids.getLast (by intro e; rw [e] at hl; simp at hl), (List.dropLast_concat_getLast _).symm⟩
  have hb := h9 ps.length b (by simp)
  have hbk : b.k = 4 := by
    have := hb.1
    unfold fitsK at this
    rw [if_neg (by decide), if_pos rfl, if_pos (by simp)] at this
    exact this
  have hB := (rs_all b hb.2).b hbk
  have hps : ∀ p ∈ ps, ∃ s, p = ⟨3, s, 0, []⟩ ∧ nameB s = true := fun p hp => by
    obtain ⟨j, hj, hj'⟩ := List.getElem_of_mem hp
    have := h9 j p (by rw [List.getElem?_append_left hj, List.getElem?_eq_getElem hj, hj'])
    refine param_of this.2 ?_
    have h0 := this.1
    unfold fitsK at h0
    rw [if_neg (by decide), if_pos rfl, if_neg (by simp; omega)] at h0
    exact h0
  have hsh : showT ⟨2, t, 0, ps ++ [b]⟩ = [wt W.function_, wt t] ++ roundT (ps.map info) ++ showT b ++ [wt W.end_] := by
    rw [showT_eq]
    unfold comb
    rw [if_neg (by decide), if_pos rfl]
    simp [info]
  refine ⟨by rw [hsh]; simp, ?_⟩
  cases ps with
  | nil =>
    have e : showT ⟨2, t, 0, [] ++ [b]⟩ ++ rest = wt W.function_ :: wt t :: st S.lp :: st S.rp :: (showT b ++ wt W.end_ :: rest) := by rw [hsh]; simp [roundT]
    rw [e]
    exact Q10none ht (hB _ (.inl (tx_w _ _)))
  | cons p ps =>
    have e : showT ⟨2, t, 0, (p :: ps) ++ [b]⟩ ++ rest = wt W.function_ :: wt t :: st S.lp :: (commaT ((p :: ps).map info) ++ st S.rp :: (showT b ++ wt W.end_ :: rest)) := by rw [hsh]; simp [roundT]
    rw [e]
    have hne : tx (commaT ((p :: ps).map info) ++ st S.rp :: (showT b ++ wt W.end_ :: rest)) ≠ S.rp := by
      obtain ⟨s, rfl, hs⟩ := hps p (by simp)
      cases ps with
      | nil => simp only [List.map_cons, List.map_nil, commaT, info, showT_eq, comb]; exact name_no hs (.inr (by decide))
      | cons q ps => simp only [List.map_cons, commaT, info, showT_eq, comb]; exact name_no hs (.inr (by decide))
    exact Q10some ht hne (params_read (p :: ps) [] t _ (by simp) (by rw [tx_s]; decide) hps) (hB _ (.inl (tx_w _ _)))

theorem funs_read : ∀ (fs acc : List Nd), (∀ g ∈ fs, isN g ∧ g.k = 2) → Q 12 (nd 1 acc) 0 (allT (fs.map info)) (yes (nd 1 (acc ++ fs)) [])
  | [], acc, _ => by rw [List.append_nil]; exact Q12end
  | g :: fs, acc, h => by
    have ih := funs_read fs (acc ++ [g]) (fun q hq => h q (by simp [hq]))
    have hg := h g (by simp)
    have e : allT ((g :: fs).map info) = showT g ++ allT (fs.map info) := by simp [allT, info]
    obtain ⟨h1, h2⟩ := fun_read hg.1 hg.2 (allT (fs.map info))
    rw [e, show acc ++ g :: fs = acc ++ [g] ++ fs by simp]
    exact Q12go (by simp [h1]) h2 ih

/-- What is written of a program is read as the same. -/
theorem unit_read {x : Nd} (h : isN x) (hk : x.k = 1) : Q 12 (nd 1 []) 0 (showT x) (yes x []) := by
  obtain ⟨k, t, n, kids⟩ := x
  simp only at hk
  subst hk
  rw [isN] at h
  obtain ⟨h1, h2, h3, h4, h5, h6, h7, h8, h9⟩ := h
  rw [isN_go] at h9
  obtain rfl := h6 (by omega) (by omega)
  obtain rfl := h3 (by simp [hasName]) (by omega)
  have e : showT ⟨1, [], 0, kids⟩ = allT (kids.map info) := by rw [showT_eq]; rfl
  rw [e]
  refine funs_read kids [] (fun g hg => ?_)
  obtain ⟨j, hj, hj'⟩ := List.getElem_of_mem hg
  have := h9 j g (by rw [List.getElem?_eq_getElem hj, hj'])
  exact ⟨this.2, this.1⟩

end Go.Proofs.YtbdkiimggggndaaGreatDoor
