/- Of programs, in plain words: the text of a node, piece by piece. -/
import Derived.Test.YtbdkiimggggndaaGreatDoorJ07
namespace Go.Proofs.YtbdkiimggggndaaGreatDoor
open Go

theorem text_app : ∀ (a b : List PT), a ≠ [] → b ≠ [] → textT (a ++ b) = textT a ++ 32 :: textT b
  | [], _, h, _ => absurd rfl h
  | [p], b, _, hb => by
    cases b with
    | nil => exact absurd rfl hb
    | cons q l => rfl
  | p :: q :: a, b, _, hb => by
    have ih := text_app (q :: a) b (by simp) hb
    show bytesOf p ++ 32 :: textT (q :: a ++ b) = _
    rw [ih]
    simp [textT]
theorem text_w (s : List UInt8) {l : List PT} (h : l ≠ []) : textT (wt s :: l) = s ++ 32 :: textT l := by
  cases l with
  | nil => exact absurd rfl h
  | cons q l => rw [textT]; unfold bytesOf; rw [if_neg (by show ¬ (1 : Int) = 3; decide)]
theorem text_s (s : List UInt8) {l : List PT} (h : l ≠ []) : textT (st s :: l) = s ++ 32 :: textT l := by
  cases l with
  | nil => exact absurd rfl h
  | cons q l => rw [textT]; unfold bytesOf; rw [if_neg (by show ¬ (4 : Int) = 3; decide)]
theorem text_w1 (s : List UInt8) : textT [wt s] = s := by rw [textT]; unfold bytesOf; rw [if_neg (by show ¬ (1 : Int) = 3; decide)]
theorem text_s1 (s : List UInt8) : textT [st s] = s := by rw [textT]; unfold bytesOf; rw [if_neg (by show ¬ (4 : Int) = 3; decide)]
theorem text_op {o : Int} {s : List UInt8} {k : Nat} (ho : opOf o = some (s, k)) {l : List PT} (h : l ≠ []) : textT (opT o :: l) = s ++ 32 :: textT l := by
  unfold opT
  rw [ho]
  simp only
  by_cases c : o = 20 ∨ o = 21
  · rw [if_pos c]; exact text_w s h
  · rw [if_neg c]; exact text_s s h

/-- A node's text; where it must bind so closely; a block's, a blank behind. -/
def textN (x : Nd) : List UInt8 := textT (showT x)
def atN (least : Nat) (x : Nd) : List UInt8 := if bindsN x < least then [40, 32] ++ textN x ++ [32, 41] else textN x
def linesN (x : Nd) : List UInt8 := if x.kids = [] then [] else textN x ++ [32]
def joinN (sep : List UInt8) : List Nd → List UInt8
  | [] => []
  | [x] => textN x
  | x :: y :: l => textN x ++ sep ++ joinN sep (y :: l)
def roundN (l : List Nd) : List UInt8 := if l = [] then [40, 32, 41] else [40, 32] ++ joinN [32, 44, 32] l ++ [32, 41]

theorem text_par {ts : List PT} (h : ts ≠ []) : textT (parT ts) = [40, 32] ++ textT ts ++ [32, 41] := by
  unfold parT
  rw [text_s _ (by simp), text_app _ _ h (by simp), text_s1]
  simp
theorem text_at {x : Nd} (h : showT x ≠ []) (n : Nat) : textT (atT n (info x)) = atN n x := by
  unfold atT atN info
  simp only
  split
  · exact text_par h
  · rfl
theorem at_ne {x : Nd} (h : showT x ≠ []) (n : Nat) : atT n (info x) ≠ [] := by
  unfold atT info
  simp only
  split
  · simp [parT]
  · exact h
theorem comma_ne : ∀ {l : List Nd}, l ≠ [] → (∀ x ∈ l, showT x ≠ []) → commaT (l.map info) ≠ []
  | [], h, _ => absurd rfl h
  | [x], _, h => h x (by simp)
  | x :: y :: l, _, h => by simp [commaT]
theorem text_comma : ∀ (l : List Nd), (∀ x ∈ l, showT x ≠ []) → textT (commaT (l.map info)) = joinN [32, 44, 32] l
  | [], _ => rfl
  | [x], _ => rfl
  | x :: y :: l, h => by
    have hl : ∀ z ∈ y :: l, showT z ≠ [] := fun z hz => h z (by simp at hz ⊢; exact .inr hz)
    have ih := text_comma (y :: l) hl
    have e : commaT ((x :: y :: l).map info) = showT x ++ st S.cm :: commaT ((y :: l).map info) := by simp [commaT, info]
    rw [e, text_app _ _ (h x (by simp)) (by simp), text_s _ (comma_ne (by simp) hl), ih, joinN]
    simp [textN]
theorem round_ne (l : List Nd) : roundT (l.map info) ≠ [] := by
  unfold roundT
  split <;> simp
theorem text_round (l : List Nd) (h : ∀ x ∈ l, showT x ≠ []) : textT (roundT (l.map info)) = roundN l := by
  cases l with
  | nil => rfl
  | cons x l =>
    have e : roundT ((x :: l).map info) = st S.lp :: (commaT ((x :: l).map info) ++ [st S.rp]) := by simp [roundT]
    rw [e, text_s _ (by simp), text_app _ _ (comma_ne (by simp) h) (by simp), text_s1, text_comma _ h]
    unfold roundN
    rw [if_neg (by simp)]
    simp
theorem text_all : ∀ (l : List Nd), (∀ x ∈ l, showT x ≠ []) → textT (allT (l.map info)) = joinN [32] l
  | [], _ => rfl
  | [x], _ => by
    have e : allT ([x].map info) = showT x := by simp [allT, info]
    rw [e]; rfl
  | x :: y :: l, h => by
    have ih := text_all (y :: l) (fun z hz => h z (by simp at hz ⊢; exact .inr hz))
    have e : allT ((x :: y :: l).map info) = showT x ++ allT ((y :: l).map info) := by simp [allT, info]
    have hne : allT ((y :: l).map info) ≠ [] := by
      have : showT y ≠ [] := h y (by simp)
      simp [allT, info, this]
    rw [e, text_app _ _ (h x (by simp)) hne, ih, joinN]
    simp [textN]

/-- Something is written of every node but of an empty block and an empty program. -/
theorem show_ne (x : Nd) (h : isN x) (hk : x.k ≠ 1) (hk4 : x.k ≠ 4) : showT x ≠ [] := by
  obtain ⟨k, t, n, kids⟩ := x
  simp only at hk hk4
  have hN := h
  rw [isN] at h
  obtain ⟨h1, _⟩ := h
  unfold kidsOK at h1
  have hexpr : exprK k → showT ⟨k, t, n, kids⟩ ≠ [] := fun he e => by
    have hr := re_all _ (isE_of _ hN he)
    have q1 := hr.whole (rest := []) ⟨by decide, by decide⟩ (fun o k e => by revert e; show opAt [] = _ → _; intro e; cases e)
    rw [e] at q1
    obtain ⟨r, hr1, hr2⟩ : ∃ r, Q 0 nil0 0 ([] ++ []) r ∧ ∀ n l, r ≠ .inr (n, l) := by
      refine ⟨.inl [], ?_, fun n l c => by cases c⟩
      have n3 : Q 3 nil0 0 [] (.inl []) := ⟨1, rfl⟩
      have n1 : Q 1 nil0 0 [] (.inl []) := ⟨2, rfl⟩
      have go : ∀ d a, a + d = 6 → Q 0 nil0 a [] (.inl []) := fun d => by
        induction d with
        | zero =>
          intro a ha
          exact Q0u (by omega) n1
        | succ d ih =>
          intro a ha
          obtain ⟨f, hf⟩ := ih (a + 1) (by omega)
          refine ⟨f + 1, ?_⟩
          rw [P, if_neg (by omega), hf]
          rfl
      exact go 6 0 (by omega)
    obtain ⟨f, hf⟩ := q1
    obtain ⟨g, hg⟩ := hr1
    have a1 := P_mono (show f ≤ f + g by omega) hf
    have a2 := P_mono (show g ≤ f + g by omega) hg
    rw [a1] at a2
    exact hr2 _ _ (Option.some.inj a2).symm
  by_cases he : exprK k
  · exact hexpr he
  · unfold exprK at he
    have hcase : k = 2 ∨ k = 3 ∨ k = 5 ∨ k = 6 ∨ k = 7 ∨ k = 8 ∨ k = 9 ∨ k = 10 ∨ k = 11 ∨ k = 12 := by omega
    by_cases hs : statK k
    · intro e
      have h2 := ((rs_all _ hN).s hs).1 []
      rw [e] at h2
      have n8 : Q 8 nil0 0 [] (.inl []) := ⟨1, rfl⟩
      obtain ⟨f, hf⟩ := h2
      obtain ⟨g, hg⟩ := n8
      have a1 := P_mono (show f ≤ f + g by omega) hf
      have a2 := P_mono (show g ≤ f + g by omega) hg
      rw [List.nil_append] at a1
      rw [a1] at a2
      cases a2
    · unfold statK at hs
      have : k = 2 ∨ k = 3 := by omega
      rcases this with rfl | rfl
      · exact (fun_read hN rfl []).1
      · rw [showT_eq]
        show [wt t] ≠ []
        simp

theorem text_local (t : List UInt8) (n : Int) {y : Nd} (hy : showT y ≠ []) : textN ⟨5, t, n, [y]⟩ = W.local_ ++ [32] ++ t ++ [32, 61, 32] ++ textN y ++ [32, 59] := by
  unfold textN
  rw [show_local]
  simp only [List.cons_append, List.nil_append]
  rw [text_w _ (by simp), text_w _ (by simp), text_s _ (by simp), text_app _ _ hy (by simp), text_s1]
  simp
theorem text_set (t : List UInt8) (n : Int) {y z : Nd} (hy : showT y ≠ []) (hz : showT z ≠ []) : textN ⟨6, t, n, [y, z]⟩ = textN y ++ [32, 61, 32] ++ textN z ++ [32, 59] := by
  unfold textN
  rw [show_set, text_app _ _ hy (by simp), text_s _ (by simp), text_app _ _ hz (by simp), text_s1]
  simp
theorem text_do (t : List UInt8) (n : Int) {y : Nd} (hy : showT y ≠ []) : textN ⟨7, t, n, [y]⟩ = textN y ++ [32, 59] := by
  unfold textN
  rw [show_do, text_app _ _ hy (by simp), text_s1]
theorem text_return (t : List UInt8) (n : Int) {y : Nd} (hy : showT y ≠ []) : textN ⟨11, t, n, [y]⟩ = W.return_ ++ [32] ++ textN y ++ [32, 59] := by
  unfold textN
  rw [show_return, text_w _ (by simp), text_app _ _ hy (by simp), text_s1]
  simp
theorem text_emit (t : List UInt8) (n : Int) {y : Nd} (hy : showT y ≠ []) : textN ⟨12, t, n, [y]⟩ = W.emit_ ++ [32] ++ textN y ++ [32, 59] := by
  unfold textN
  rw [show_emit, text_w _ (by simp), text_app _ _ hy (by simp), text_s1]
  simp
theorem text_index (t : List UInt8) (n : Int) {y z : Nd} (hy : showT y ≠ []) (hz : showT z ≠ []) : textN ⟨20, t, n, [y, z]⟩ = atN 7 y ++ [32, 91, 32] ++ textN z ++ [32, 93] := by
  unfold textN
  rw [show_index, text_app _ _ (at_ne hy 7) (by simp), text_at hy, text_s _ (by simp), text_app _ _ hz (by simp), text_s1]
  simp
theorem text_call (t : List UInt8) (n : Int) {y : Nd} {l : List Nd} (hy : showT y ≠ []) (hl : ∀ x ∈ l, showT x ≠ []) : textN ⟨21, t, n, y :: l⟩ = atN 7 y ++ [32] ++ roundN l := by
  unfold textN
  rw [show_call, text_app _ _ (at_ne hy 7) (round_ne l), text_at hy, text_round l hl]
  simp
theorem text_next (t : List UInt8) (n : Int) {y z : Nd} (hy : showT y ≠ []) (hz : showT z ≠ []) : textN ⟨26, t, n, [y, z]⟩ = W.next_ ++ [32] ++ roundN [y, z] := by
  unfold textN
  rw [show_next, text_w _ (by simp), text_s _ (by simp), text_app _ _ hy (by simp), text_s _ (by simp), text_app _ _ hz (by simp), text_s1]
  simp [roundN, joinN, textN]
theorem text_not (t : List UInt8) (n : Int) {y : Nd} (hy : showT y ≠ []) : textN ⟨23, t, n, [y]⟩ = W.not_ ++ [32] ++ atN 6 y := by
  unfold textN
  rw [show_not, text_w _ (at_ne hy 6), text_at hy]
  simp
theorem text_neg (t : List UInt8) (n : Int) {y : Nd} (hy : showT y ≠ []) : textN ⟨24, t, n, [y]⟩ = [45, 32] ++ atN 6 y := by
  unfold textN
  rw [show_neg, text_s _ (at_ne hy 6), text_at hy]
  simp
theorem text_len_ (t : List UInt8) (n : Int) {y : Nd} (hy : showT y ≠ []) : textN ⟨25, t, n, [y]⟩ = [35, 32] ++ atN 6 y := by
  unfold textN
  rw [show_len, text_s _ (at_ne hy 6), text_at hy]
  simp
theorem text_opn (t : List UInt8) (n : Int) {y z : Nd} {s : List UInt8} {k : Nat} (ho : opOf n = some (s, k)) (hy : showT y ≠ []) (hz : showT z ≠ []) : textN ⟨22, t, n, [y, z]⟩ = atN (if k = 2 then 3 else k) y ++ [32] ++ s ++ [32] ++ atN (k + 1) z := by
  have hlv : lvlN n = k := by unfold lvlN; rw [ho]; rfl
  unfold textN
  rw [show_op, hlv, text_app _ _ (at_ne hy _) (by simp), text_at hy, text_op ho (at_ne hz _), text_at hz]
  simp

theorem lines_text {b : Nd} (hb : b.k = 4) (h : ∀ x ∈ b.kids, showT x ≠ []) {l : List PT} (hl : l ≠ []) : textT (showT b ++ l) = linesN b ++ textT l := by
  obtain ⟨k, t, n, kids⟩ := b
  simp only at hb h
  subst hb
  have e : showT ⟨4, t, n, kids⟩ = allT (kids.map info) := by rw [showT_eq]; rfl
  unfold linesN textN
  simp only
  cases kids with
  | nil => rw [e]; simp [allT]
  | cons x l2 =>
    rw [if_neg (by simp)]
    have hne : showT ⟨4, t, n, x :: l2⟩ ≠ [] := by
      rw [e]
      have : showT x ≠ [] := h x (by simp)
      simp [allT, info, this]
    rw [text_app _ _ hne hl]
    simp
theorem text_if2 (t : List UInt8) (n : Int) {y b : Nd} (hy : showT y ≠ []) (hb : b.k = 4) (h : ∀ x ∈ b.kids, showT x ≠ []) : textN ⟨8, t, n, [y, b]⟩ = W.if_ ++ [32] ++ textN y ++ [32] ++ W.then_ ++ [32] ++ linesN b ++ W.end_ := by
  unfold textN
  rw [show_if2, text_w _ (by simp), text_app _ _ hy (by simp), text_w _ (by simp), lines_text hb h (by simp), text_w1]
  simp
theorem text_if3 (t : List UInt8) (n : Int) {y b d : Nd} (hy : showT y ≠ []) (hb : b.k = 4) (h : ∀ x ∈ b.kids, showT x ≠ []) (hd : d.k = 4) (h' : ∀ x ∈ d.kids, showT x ≠ []) : textN ⟨8, t, n, [y, b, d]⟩ = W.if_ ++ [32] ++ textN y ++ [32] ++ W.then_ ++ [32] ++ linesN b ++ W.else_ ++ [32] ++ linesN d ++ W.end_ := by
  unfold textN
  rw [show_if3, text_w _ (by simp), text_app _ _ hy (by simp), text_w _ (by simp), lines_text hb h (by simp), show wt W.else_ :: showT d ++ [wt W.end_] = wt W.else_ :: (showT d ++ [wt W.end_]) from rfl, text_w _ (by simp), lines_text hd h' (by simp), text_w1]
  simp
theorem text_while (t : List UInt8) (n : Int) {y b : Nd} (hy : showT y ≠ []) (hb : b.k = 4) (h : ∀ x ∈ b.kids, showT x ≠ []) : textN ⟨9, t, n, [y, b]⟩ = W.while_ ++ [32] ++ textN y ++ [32] ++ W.do_ ++ [32] ++ linesN b ++ W.end_ := by
  unfold textN
  rw [show_while, text_w _ (by simp), text_app _ _ hy (by simp), text_w _ (by simp), lines_text hb h (by simp), text_w1]
  simp
theorem text_for (t : List UInt8) (n : Int) {y z b : Nd} (hy : showT y ≠ []) (hz : showT z ≠ []) (hb : b.k = 4) (h : ∀ x ∈ b.kids, showT x ≠ []) : textN ⟨10, t, n, [y, z, b]⟩ = W.for_ ++ [32] ++ t ++ [32, 61, 32] ++ textN y ++ [32, 44, 32] ++ textN z ++ [32] ++ W.do_ ++ [32] ++ linesN b ++ W.end_ := by
  unfold textN
  rw [show_for]
  simp only [List.cons_append, List.nil_append]
  rw [text_w _ (by simp), text_w _ (by simp), text_s _ (by simp), text_app _ _ hy (by simp), text_s _ (by simp), text_app _ _ hz (by simp), text_w _ (by simp), lines_text hb h (by simp), text_w1]
  simp
theorem text_fun (t : List UInt8) (n : Int) {ps : List Nd} {b : Nd} (hp : ∀ x ∈ ps, showT x ≠ []) (hb : b.k = 4) (h : ∀ x ∈ b.kids, showT x ≠ []) : textN ⟨2, t, n, ps ++ [b]⟩ = W.function_ ++ [32] ++ t ++ [32] ++ roundN ps ++ [32] ++ linesN b ++ W.end_ := by
  have hsh : showT ⟨2, t, n, ps ++ [b]⟩ = wt W.function_ :: wt t :: (roundT (ps.map info) ++ (showT b ++ [wt W.end_])) := by
    rw [showT_eq]
    unfold comb
    rw [if_neg (by decide), if_pos rfl]
    simp [info]
  unfold textN
  rw [hsh, text_w _ (by simp), text_w _ (by simp), text_app _ _ (round_ne ps) (by simp), text_round ps hp, lines_text hb h (by simp), text_w1]
  simp

end Go.Proofs.YtbdkiimggggndaaGreatDoor
