/- Of programs, in plain words: what is read is a node of a program, and is written no longer than it was: the readings. -/
import Derived.Test.YtbofdfdmikhanaaGreatDoorJ10
namespace Go.Proofs.YtbofdfdmikhanaaGreatDoor
open Go

def sumC : List Nd → Nat
  | [] => 0
  | x :: l => cost (showT x) + 2 + sumC l
def sumS : List Nd → Nat
  | [] => 0
  | x :: l => cost (showT x) + sumS l
theorem sumC_app : ∀ a b : List Nd, sumC (a ++ b) = sumC a + sumC b
  | [], b => by simp [sumC]
  | p :: a, b => by rw [List.cons_append, sumC, sumC, sumC_app a b]; omega
theorem sumS_app : ∀ a b : List Nd, sumS (a ++ b) = sumS a + sumS b
  | [], b => by simp [sumS]
  | p :: a, b => by rw [List.cons_append, sumS, sumS, sumS_app a b]; omega
theorem cost_comma : ∀ us : List Nd, us ≠ [] → cost (commaT (us.map info)) + 2 = sumC us
  | [], h => absurd rfl h
  | [x], _ => by simp [commaT, sumC, info]
  | x :: y :: l, _ => by
    have ih := cost_comma (y :: l) (by simp)
    have e : commaT ((x :: y :: l).map info) = showT x ++ st S.cm :: commaT ((y :: l).map info) := by simp [commaT, info]
    rw [e, cost_app, cost_s, sumC, ← ih]
    simp
    omega
theorem cost_round (us : List Nd) (h : us ≠ []) : cost (roundT (us.map info)) = 2 + sumC us := by
  have e : roundT (us.map info) = st S.lp :: (commaT (us.map info) ++ [st S.rp]) := by
    unfold roundT
    rw [if_neg (by simpa using h)]
  rw [e, cost_s, cost_app, cost_s, cost_nil, ← cost_comma us h]
  simp <;> omega
theorem cost_round0 : cost (roundT (([] : List Nd).map info)) = 4 := by
  show cost [st S.lp, st S.rp] = 4
  rw [cost_s, cost_s, cost_nil]; rfl
theorem cost_all : ∀ us : List Nd, cost (allT (us.map info)) = sumS us
  | [] => rfl
  | x :: l => by
    have e : allT ((x :: l).map info) = showT x ++ allT (l.map info) := by simp [allT, info]
    rw [e, cost_app, cost_all l, sumS]

def Sound (tag : Nat) (x : Nd) (a : Nat) (l : List PT) (n : Nd) (l1 : List PT) : Prop :=
  match tag with
  | 0 => a ≤ 6 → okE n ∧ allV l1 ∧ cost (atT a (info n)) + cost l1 ≤ cost l
  | 1 => okE n ∧ allV l1 ∧ cost (atT 6 (info n)) + cost l1 ≤ cost l
  | 2 => a ≤ 5 → okE x → okE n ∧ allV l1 ∧ cost (atT a (info n)) + cost l1 ≤ cost (atT (if a = 2 then 3 else a) (info x)) + cost l
  | 3 => okE n ∧ allV l1 ∧ cost (atT 7 (info n)) + cost l1 ≤ cost l
  | 4 => okE x → okE n ∧ allV l1 ∧ cost (atT 7 (info n)) + cost l1 ≤ cost (atT 7 (info x)) + cost l
  | 5 => okE x → okE n ∧ allV l1 ∧ bindsN n = 7 ∧ cost (showT n) + cost l1 ≤ cost (atT 7 (info x)) + cost l ∧ (tx l = S.lb → n.k = 20 ∧ chainC n = chainC x) ∧ (tx l ≠ S.lb → n.k = 21 ∧ chainC n = (chainC x).map (· + 1))
  | 6 => ∀ ks, x = nd 21 ks → ∃ us, us ≠ [] ∧ n = nd 21 (ks ++ us) ∧ (∀ z ∈ us, okE z) ∧ allV l1 ∧ sumC us + cost l1 ≤ cost l
  | 7 => ∀ ks, x = nd 4 ks → ∃ us, n = nd 4 (ks ++ us) ∧ (∀ s ∈ us, isN s ∧ statK s.k) ∧ allV l1 ∧ sumS us + cost l1 ≤ cost l
  | 8 => isN n ∧ statK n.k ∧ allV l1 ∧ cost (showT n) + cost l1 ≤ cost l
  | 9 => okE x → bindsN x = 7 → chainC x = some a → isN n ∧ statK n.k ∧ allV l1 ∧ cost (showT n) + cost l1 ≤ cost (showT x) + cost l + 2
  | 10 => isN n ∧ n.k = 2 ∧ allV l1 ∧ cost (showT n) + cost l1 ≤ cost l
  | 11 => ∃ us, us ≠ [] ∧ n.kids = x.kids ++ us ∧ (∀ p ∈ us, ∃ s, p = ⟨3, s, 0, []⟩ ∧ nameB s = true) ∧ allV l1 ∧ sumC us + cost l1 ≤ cost l + 2
  | 12 => ∀ fs, x = nd 1 fs → ∃ us, n = nd 1 (fs ++ us) ∧ (∀ g ∈ us, isN g ∧ g.k = 2) ∧ sumS us + cost l1 ≤ cost l
  | _ => True

theorem okE_binds7 {k : Int} {t : List UInt8} {n : Int} {kids : List Nd} (h : k ≠ 22 ∧ k ≠ 23 ∧ k ≠ 24 ∧ k ≠ 25) : bindsN ⟨k, t, n, kids⟩ = 7 := binds7 _ _ _ h.1 h.2.1 h.2.2.1 h.2.2.2

theorem sound5 {x y : Nd} {l : List PT} {l1 : List PT} (hx : okE x) (hy : okE y) (hv : allV l1) (h : tx l = S.lb) (hc : cost (showT y) + 4 + cost l1 ≤ cost l) : Sound 5 x 0 l (nd 20 [x, y]) l1 := by
  intro _
  refine ⟨mkE (by unfold kidsOK; simp) (by omega) (by decide) (by decide) (fun c => by omega) (fun c => by omega) (fun _ _ => rfl) (fun z hz => by simp at hz; rcases hz with rfl | rfl <;> assumption), hv, okE_binds7 (by decide), ?_, fun _ => ⟨rfl, ?_⟩, fun c => absurd h c⟩
  · show cost (showT ⟨20, [], 0, [x, y]⟩) + cost l1 ≤ _
    rw [show_index, cost_app, cost_s, cost_app, cost_s, cost_nil]
    simp
    omega
  · show chainC ⟨20, [], 0, [x, y]⟩ = _
    rw [chainC, if_neg (by decide), if_pos rfl, chainC.go]
theorem sound5c {x : Nd} {us : List Nd} {l : List PT} {l1 : List PT} (hx : okE x) (hy : ∀ z ∈ us, okE z) (hv : allV l1) (h : tx l ≠ S.lb) (hc : cost (roundT (us.map info)) + cost l1 ≤ cost l) : Sound 5 x 0 l (nd 21 (x :: us)) l1 := by
  intro _
  refine ⟨mkE (by unfold kidsOK; simp) (by omega) (by decide) (by decide) (fun c => by omega) (fun c => by omega) (fun _ _ => rfl) (fun z hz => by simp at hz; rcases hz with rfl | hz; exact hx; exact hy z hz), hv, okE_binds7 (by decide), ?_, fun c => absurd c h, fun _ => ⟨rfl, ?_⟩⟩
  · show cost (showT ⟨21, [], 0, x :: us⟩) + cost l1 ≤ _
    rw [show_call, cost_app]
    omega
  · show chainC ⟨21, [], 0, x :: us⟩ = _
    rw [chainC, if_neg (by decide), if_neg (by decide), if_pos rfl, chainC.go]

theorem sound_expr (f : Nat) (ih : ∀ tag x a l n l1, P f tag x a l = some (.inr (n, l1)) → allV l → Sound tag x a l n l1) :
    ∀ tag x a l n l1, tag ≤ 6 → P (f + 1) tag x a l = some (.inr (n, l1)) → allV l → Sound tag x a l n l1 := by
  intro tag x a l n l1 ht h hv
  match tag, ht, h with
  | 0, _, h =>
    intro ha
    rw [P] at h
    by_cases c : 5 < a
    · rw [if_pos c] at h
      have ea : a = 6 := by omega
      rw [ea]
      exact ih 1 _ _ _ _ _ h hv
    · rw [if_neg c] at h
      obtain ⟨m, k, h1, h2⟩ := on_inv h
      obtain ⟨o1, v1, c1⟩ := ih 0 _ _ _ _ _ h1 hv (by omega)
      obtain ⟨o2, v2, c2⟩ := ih 2 _ _ _ _ _ h2 v1 (by omega) o1
      refine ⟨o2, v2, ?_⟩
      have : cost (atT (if a = 2 then 3 else a) (info m)) ≤ cost (atT (a + 1) (info m)) := at_mono (by split <;> omega) m
      omega
  | 1, _, h =>
    rw [P] at h
    have un : ∀ k : Int, (k = 23 ∨ k = 24 ∨ k = 25) → ∀ s : List UInt8, tx l = s → s ≠ [] → (P f 1 (nd 0 []) 0 l.tail).on (fun x l => .ok (nd k [x]) l) = some (.inr (n, l1)) → (∀ y, showT ⟨k, [], 0, [y]⟩ = wt s :: atT 6 (info y) ∨ showT ⟨k, [], 0, [y]⟩ = st s :: atT 6 (info y)) → Sound 1 x a l n l1 := fun k hk s hs hne h hsh => by
      obtain ⟨m, q, h1, h2⟩ := on_inv h
      cases h2
      obtain ⟨p1, p2⟩ := pass_of hs hne
      obtain ⟨o1, v1, c1⟩ := ih 1 _ _ _ _ _ h1 (p2 hv)
      refine ⟨mkE (by unfold kidsOK; simp; omega) (by omega) (by omega) (by omega) (fun c => by omega) (fun c => by omega) (fun _ _ => rfl) (fun z hz => by simp at hz; rw [hz]; exact o1), v1, ?_⟩
      have hb : bindsN (nd k [m]) = 6 := by
        unfold bindsN nd
        simp only
        rw [if_neg (by omega), if_pos hk]
      rw [at_eq (by omega)]
      show cost (showT ⟨k, [], 0, [m]⟩) + _ ≤ _
      rcases hsh m with e | e <;> rw [e]
      · rw [cost_w]; omega
      · rw [cost_s]; omega
    by_cases e1 : tx l = S.mi
    · rw [if_pos e1] at h
      exact un 24 (by omega) S.mi e1 (by decide) h (fun y => .inr (show_neg _ _ y))
    rw [if_neg e1] at h
    by_cases e2 : tx l = W.not_
    · rw [if_pos e2] at h
      exact un 23 (by omega) W.not_ e2 (by decide) h (fun y => .inl (show_not _ _ y))
    rw [if_neg e2] at h
    by_cases e3 : tx l = S.hs
    · rw [if_pos e3] at h
      exact un 25 (by omega) S.hs e3 (by decide) h (fun y => .inr (show_len _ _ y))
    rw [if_neg e3] at h
    obtain ⟨m, q, h1, h2⟩ := on_inv h
    obtain ⟨o1, v1, c1⟩ := ih 3 _ _ _ _ _ h1 hv
    obtain ⟨o2, v2, c2⟩ := ih 4 _ _ _ _ _ h2 v1 o1
    refine ⟨o2, v2, ?_⟩
    have := at_mono (show 6 ≤ 7 by omega) n
    omega
  | 2, _, h =>
    intro ha hx
    rw [P] at h
    have stop : PR.ok x l = some (.inr (n, l1)) → okE n ∧ allV l1 ∧ cost (atT a (info n)) + cost l1 ≤ cost (atT (if a = 2 then 3 else a) (info x)) + cost l := fun e => by
      cases e
      refine ⟨hx, hv, ?_⟩
      have : cost (atT a (info x)) ≤ cost (atT (if a = 2 then 3 else a) (info x)) := at_mono (by split <;> omega) x
      omega
    cases ho : opAt (tx l) with
    | none => rw [ho] at h; exact stop h
    | some p =>
      obtain ⟨o, k⟩ := p
      rw [ho] at h
      simp only at h
      by_cases c : k = a
      · subst c
        rw [if_pos rfl] at h
        obtain ⟨y, q, h1, h2⟩ := on_inv h
        obtain ⟨hof, hne⟩ := op_of_at ho
        obtain ⟨p1, p2⟩ := pass_of rfl hne
        obtain ⟨o1, v1, c1⟩ := ih 0 _ _ _ _ _ h1 (p2 hv) (by omega)
        have hlv : lvlN o = k := by unfold lvlN; rw [hof]; rfl
        have hb : bindsN ⟨22, [], o, [x, y]⟩ = k := by
          unfold bindsN
          simp only
          rw [if_pos trivial, hof]; rfl
        have hN : okE ⟨22, [], o, [x, y]⟩ := mkE (by unfold kidsOK; simp) (by omega) (by decide) (by decide) (fun c => by omega) (fun _ => by rw [hof]; rfl) (fun c => absurd rfl c) (fun z hz => by simp at hz; rcases hz with rfl | rfl <;> assumption)
        have hcost : cost (showT ⟨22, [], o, [x, y]⟩) + cost q ≤ cost (atT (if k = 2 then 3 else k) (info x)) + cost l := by
          rw [show_op, hlv, cost_app, cost_op hof]
          omega
        by_cases c2 : k = 2
        · rw [if_pos c2] at h2
          cases h2
          refine ⟨hN, v1, ?_⟩
          rw [at_eq (by omega)]
          exact hcost
        · rw [if_neg c2] at h2
          obtain ⟨o2, v2, c3⟩ := ih 2 _ _ _ _ _ h2 v1 ha hN
          refine ⟨o2, v2, ?_⟩
          rw [if_neg c2] at c3 ⊢
          rw [if_neg c2] at hcost
          rw [at_eq (x := ⟨22, [], o, [x, y]⟩) (by omega)] at c3
          omega
      · rw [if_neg c] at h
        exact stop h
  | 3, _, h =>
    cases l with
    | nil => rw [P] at h; cases h
    | cons t r =>
      rw [P] at h
      have hv0 := hv t (by simp)
      have hvr : allV r := fun q hq => hv q (by simp [hq])
      by_cases e2 : t.1 = 2
      · rw [if_pos e2] at h
        cases h
        obtain ⟨t1, t2⟩ := t
        simp only at e2
        subst e2
        obtain ⟨d1, d2⟩ := num_of_valid hv0
        refine ⟨mkE (by unfold kidsOK; simp) (by omega) (by decide) (by decide) (fun _ => by show (0 : Int) ≤ numOf t2 ∧ numOf t2 ≤ 9223372036854775807; unfold numOf; omega) (fun c => by omega) (fun _ c => absurd rfl c) (fun z hz => by simp at hz), hvr, ?_⟩
        rw [at_eq (by rw [okE_binds7 (by decide)]; omega), showT_eq]
        show cost [(2, digitsN (numOf t2).toNat)] + _ ≤ _
        have : (numOf t2).toNat = numV t2 := by unfold numOf; omega
        rw [this]
        unfold digitsN
        rw [d1]
        show cost [(2, t2)] + cost _ ≤ cost ((2, t2) :: _)
        simp only [cost]
        omega
      rw [if_neg e2] at h
      by_cases e3 : t.1 = 3
      · rw [if_pos e3] at h
        cases h
        obtain ⟨t1, t2⟩ := t
        simp only at e3
        subst e3
        refine ⟨mkText (text_of_valid hv0), hvr, ?_⟩
        rw [at_eq (by rw [okE_binds7 (by decide)]; omega), showT_eq]
        show cost [(3, t2)] + cost _ ≤ cost ((3, t2) :: _)
        simp only [cost]
        omega
      rw [if_neg e3] at h
      have word : ∀ (s : List UInt8) (k : Int), tx (t :: r) = s → s ≠ [] → (k = 15 ∨ k = 16 ∨ k = 17) → (showT ⟨k, [], 0, []⟩ = [wt s]) → PR.ok (nd k []) r = some (.inr (n, l1)) → Sound 3 x a (t :: r) n l1 := fun s k hs hne hk hsh e => by
        cases e
        obtain ⟨p1, p2⟩ := pass_of hs hne
        refine ⟨mkE (by unfold kidsOK; simp; omega) (by omega) (by omega) (by omega) (fun c => by omega) (fun c => by omega) (fun _ _ => rfl) (fun z hz => by simp at hz), hvr, ?_⟩
        rw [at_eq (by rw [show nd k [] = ⟨k, [], 0, []⟩ from rfl, okE_binds7 (by omega)]; omega)]
        show cost (showT ⟨k, [], 0, []⟩) + _ ≤ _
        rw [hsh, cost_w, cost_nil, p1]
        simp
      by_cases s1 : tx (t :: r) = S.lp
      · rw [if_pos s1] at h
        obtain ⟨m, q, h1, h2⟩ := on_inv h
        obtain ⟨n1, n2⟩ := need_inv h2
        cases n2
        obtain ⟨p1, p2⟩ := pass_of s1 (by decide)
        obtain ⟨p3, p4⟩ := pass_of n1 (by decide)
        obtain ⟨o1, v1, c1⟩ := ih 0 _ _ _ _ _ h1 hvr (by omega)
        refine ⟨o1, p4 v1, ?_⟩
        have := at_le 7 n
        have := at_le 0 n
        simp at p1 p3
        omega
      rw [if_neg s1] at h
      by_cases s2 : tx (t :: r) = W.nil_
      · rw [if_pos s2] at h; exact word _ 15 s2 (by decide) (by omega) (by rw [showT_eq]; rfl) h
      rw [if_neg s2] at h
      by_cases s3 : tx (t :: r) = W.true_
      · rw [if_pos s3] at h; exact word _ 16 s3 (by decide) (by omega) (by rw [showT_eq]; rfl) h
      rw [if_neg s3] at h
      by_cases s4 : tx (t :: r) = W.false_
      · rw [if_pos s4] at h; exact word _ 17 s4 (by decide) (by omega) (by rw [showT_eq]; rfl) h
      rw [if_neg s4] at h
      by_cases s5 : tx (t :: r) = S.lc
      · rw [if_pos s5] at h
        obtain ⟨n1, n2⟩ := need_inv h
        cases n2
        obtain ⟨p1, p2⟩ := pass_of s5 (by decide)
        obtain ⟨p3, p4⟩ := pass_of n1 (by decide)
        refine ⟨mkE (by unfold kidsOK; simp) (by omega) (by decide) (by decide) (fun c => by omega) (fun c => by omega) (fun _ _ => rfl) (fun z hz => by simp at hz), p4 hvr, ?_⟩
        rw [at_eq (by rw [show nd 19 [] = ⟨19, [], 0, []⟩ from rfl, okE_binds7 (by decide)]; omega)]
        have e : showT (nd 19 []) = [st S.lc, st S.rc] := by show showT ⟨19, [], 0, []⟩ = _; rw [showT_eq]; rfl
        rw [e, cost_s, cost_s, cost_nil]
        simp at p1 p3 ⊢
        omega
      rw [if_neg s5] at h
      by_cases s6 : tx (t :: r) = W.next_
      · rw [if_pos s6] at h
        obtain ⟨n1, n2⟩ := need_inv h
        obtain ⟨m, q, h1, h2⟩ := on_inv n2
        obtain ⟨n3, n4⟩ := need_inv h2
        obtain ⟨m2, q2, h3, h4⟩ := on_inv n4
        obtain ⟨n5, n6⟩ := need_inv h4
        cases n6
        obtain ⟨p1, p2⟩ := pass_of s6 (by decide)
        obtain ⟨p3, p4⟩ := pass_of n1 (by decide)
        obtain ⟨p5, p6⟩ := pass_of n3 (by decide)
        obtain ⟨p7, p8⟩ := pass_of n5 (by decide)
        obtain ⟨o1, v1, c1⟩ := ih 0 _ _ _ _ _ h1 (p4 hvr) (by omega)
        obtain ⟨o2, v2, c2⟩ := ih 0 _ _ _ _ _ h3 (p6 v1) (by omega)
        refine ⟨mkE (by unfold kidsOK; simp) (by omega) (by decide) (by decide) (fun c => by omega) (fun c => by omega) (fun _ _ => rfl) (fun z hz => by simp at hz; rcases hz with rfl | rfl <;> assumption), p8 v2, ?_⟩
        rw [at_eq (by rw [show nd 26 [m, m2] = ⟨26, [], 0, [m, m2]⟩ from rfl, okE_binds7 (by decide)]; omega)]
        show cost (showT ⟨26, [], 0, [m, m2]⟩) + _ ≤ _
        have := at_le 0 m
        have := at_le 0 m2
        rw [show_next, cost_w, cost_s, cost_app, cost_s, cost_app, cost_s, cost_nil]
        simp at p1 p3 p5 p7 ⊢
        omega
      rw [if_neg s6] at h
      obtain ⟨n1, n2⟩ := needName_inv h
      cases n2
      have hne : tx (t :: r) ≠ [] := fun e => by rw [e] at n1; revert n1; decide
      obtain ⟨p1, p2⟩ := pass hne
      refine ⟨mkName n1, hvr, ?_⟩
      rw [at_eq (by rw [okE_binds7 (by decide)]; omega), showT_eq]
      show cost [wt (tx (t :: r))] + _ ≤ _
      rw [cost_w, cost_nil]
      simp at p1 ⊢
      omega
  | 4, _, h =>
    intro hx
    rw [P] at h
    by_cases c : tx l = S.lb ∨ tx l = S.lp
    · rw [if_pos c] at h
      obtain ⟨m, q, h1, h2⟩ := on_inv h
      obtain ⟨o1, v1, b1, c1, _, _⟩ := ih 5 _ _ _ _ _ h1 hv hx
      obtain ⟨o2, v2, c2⟩ := ih 4 _ _ _ _ _ h2 v1 o1
      refine ⟨o2, v2, ?_⟩
      rw [at_eq (x := m) (by omega)] at c2
      omega
    · rw [if_neg c] at h
      cases h
      exact ⟨hx, hv, Nat.le_refl _⟩
  | 5, _, h =>
    intro hx
    rw [P] at h
    by_cases c : tx l = S.lb
    · rw [if_pos c] at h
      obtain ⟨m, q, h1, h2⟩ := on_inv h
      obtain ⟨n1, n2⟩ := need_inv h2
      cases n2
      obtain ⟨p1, p2⟩ := pass_of c (by decide)
      obtain ⟨p3, p4⟩ := pass_of n1 (by decide)
      obtain ⟨o1, v1, c1⟩ := ih 0 _ _ _ _ _ h1 (p2 hv) (by omega)
      have := at_le 0 m
      exact sound5 hx o1 (p4 v1) c (by simp at p1 p3; omega) hx
    · rw [if_neg c] at h
      obtain ⟨n1, n2⟩ := need_inv h
      obtain ⟨p1, p2⟩ := pass_of n1 (by decide)
      by_cases c2 : tx l.tail = S.rp
      · rw [if_pos c2] at n2
        cases n2
        obtain ⟨p3, p4⟩ := pass_of c2 (by decide)
        exact sound5c (us := []) hx (fun z hz => by simp at hz) (p4 (p2 hv)) c (by rw [cost_round0]; simp at p1 p3; omega) hx
      · rw [if_neg c2] at n2
        obtain ⟨us, u1, u2, u3, u4, u5⟩ := ih 6 _ _ _ _ _ n2 (p2 hv) [x] rfl
        subst u2
        exact sound5c (us := us) hx u3 u4 c (by rw [cost_round us u1]; simp at p1; omega) hx
  | 6, _, h =>
    intro ks hks
    subst hks
    rw [P] at h
    obtain ⟨m, q, h1, h2⟩ := on_inv h
    obtain ⟨o1, v1, c1⟩ := ih 0 _ _ _ _ _ h1 hv (by omega)
    have := at_le 0 m
    by_cases c : tx q = S.cm
    · rw [if_pos c] at h2
      obtain ⟨p1, p2⟩ := pass_of c (by decide)
      obtain ⟨us, u1, u2, u3, u4, u5⟩ := ih 6 _ _ _ _ _ h2 (p2 v1) _ rfl
      refine ⟨m :: us, by simp, by rw [u2]; simp [nd], fun z hz => ?_, u4, ?_⟩
      · simp at hz
        rcases hz with rfl | hz
        · exact o1
        · exact u3 z hz
      · rw [sumC]
        simp at p1
        omega
    · rw [if_neg c] at h2
      obtain ⟨n1, n2⟩ := need_inv h2
      cases n2
      obtain ⟨p1, p2⟩ := pass_of n1 (by decide)
      refine ⟨[m], by simp, rfl, fun z hz => by simp at hz; rw [hz]; exact o1, p2 v1, ?_⟩
      rw [sumC, sumC]
      simp at p1
      omega

end Go.Proofs.YtbofdfdmikhanaaGreatDoor
