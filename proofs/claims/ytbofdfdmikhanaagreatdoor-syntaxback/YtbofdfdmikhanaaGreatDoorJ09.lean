/- Of programs, in plain words: statements, blocks, functions, programs. Of programs, in plain words: functions, and programs. -/
import Derived.Test.YtbofdfdmikhanaaGreatDoorJ08
namespace Go.Proofs.YtbofdfdmikhanaaGreatDoor
open Go

theorem round_read {y : Nd} {l : List Nd} (hl : ∀ z ∈ l, Re z) (rest : List PT) : (tx (roundT (l.map info) ++ rest) = S.lp) ∧ Q 5 y 0 (roundT (l.map info) ++ rest) (yes (nd 21 (y :: l)) rest) := by
  cases l with
  | nil => exact ⟨tx_s _ _, Q5none⟩
  | cons z l =>
    have e : roundT ((z :: l).map info) ++ rest = st S.lp :: (commaT ((z :: l).map info) ++ st S.rp :: rest) := by simp [roundT]
    rw [e]
    refine ⟨tx_s _ _, Q5args ?_ (args_read (z :: l) [y] rest (by simp) hl)⟩
    have e2 : ∃ q, commaT ((z :: l).map info) ++ st S.rp :: rest = showT z ++ q := by
      cases l with
      | nil => exact ⟨st S.rp :: rest, by simp [commaT, info]⟩
      | cons z2 l => exact ⟨st S.cm :: (commaT ((z2 :: l).map info) ++ st S.rp :: rest), by simp [commaT, info]⟩
    obtain ⟨q, e2⟩ := e2
    rw [e2]
    exact (hl z (by simp)).h q

theorem chain_kind {y : Nd} {c : Nat} (h : chainC y = some c) : bindsN y = 7 ∧ exprK y.k := by
  obtain ⟨k, t, n, kids⟩ := y
  rw [chainC] at h
  have hk : k = 18 ∨ k = 20 ∨ k = 21 := by
    by_cases a : k = 18
    · exact .inl a
    · rw [if_neg a] at h
      by_cases b : k = 20
      · exact .inr (.inl b)
      · rw [if_neg b] at h
        by_cases d : k = 21
        · exact .inr (.inr d)
        · rw [if_neg d] at h; cases h
  exact ⟨binds7 _ _ _ (by omega) (by omega) (by omega) (by omega), by show 13 ≤ k ∧ k ≤ 26; omega⟩

theorem at7 {y : Nd} (h : bindsN y = 7) : atT 7 (info y) = showT y := by
  unfold atT info
  simp only
  rw [if_neg (by omega)]

theorem chain_read (p : Nd) : isN p → ∀ c, chainC p = some c → ∃ s L, showT p = wt s :: L ∧ nameB s = true ∧ ∀ a rest r, Q 9 p (a + c) rest r → Q 9 ⟨18, s, 0, []⟩ a (L ++ rest) r := by
  refine nd_ind (m := fun p => isN p → ∀ c, chainC p = some c → ∃ s L, showT p = wt s :: L ∧ nameB s = true ∧ ∀ a rest r, Q 9 p (a + c) rest r → Q 9 ⟨18, s, 0, []⟩ a (L ++ rest) r) (fun k t n kids ih h c hc => ?_) p
  have hE := isE_of _ h (chain_kind hc).2
  have hg : ∀ y ∈ kids, Re y := by
    rw [isE] at hE
    exact fun y hy => re_all y ((isE_go kids).1 hE.2 y hy)
  rw [isN] at h
  obtain ⟨h1, h2, h3, h4, h5, h6, h7, h8, h9⟩ := h
  rw [isN_go] at h9
  simp only [hasName] at h2 h3
  rw [chainC] at hc
  by_cases k18 : k = 18
  · subst k18
    rw [if_pos rfl] at hc
    cases hc
    have hl : kids.length = 0 := by unfold kidsOK at h1; omega
    obtain rfl := List.length_eq_zero_iff.1 hl
    obtain rfl := h6 (by omega) (by omega)
    exact ⟨t, [], by rw [showT_eq]; rfl, h2 (by omega), fun a rest r hr => hr⟩
  rw [if_neg k18] at hc
  by_cases k20 : k = 20
  · subst k20
    rw [if_pos rfl] at hc
    have hl : kids.length = 2 := by unfold kidsOK at h1; omega
    obtain rfl := h6 (by omega) (by omega)
    obtain rfl := h3 (by omega) (by omega)
    match kids, hl, hg, ih, h9, hc with
    | [y, z], _, hg, ih, h9, hc =>
      rw [chainC.go] at hc
      obtain ⟨s, L, e1, e2, e3⟩ := ih y (by simp) (h9 0 y (by simp)).2 c hc
      refine ⟨s, L ++ st S.lb :: (showT z ++ [st S.rb]), ?_, e2, fun a rest r hr => ?_⟩
      · rw [show_index, at7 (chain_kind hc).1, e1]; rfl
      · have e : L ++ st S.lb :: (showT z ++ [st S.rb]) ++ rest = L ++ (st S.lb :: (showT z ++ st S.rb :: rest)) := by simp
        rw [e]
        refine e3 a _ r (Q9index (tx_s _ _) (Q5index ((hg z (by simp)).whole (stops_s (by decide) (by decide)) (lvB_s 0 (by decide)))) hr)
  rw [if_neg k20] at hc
  by_cases k21 : k = 21
  · subst k21
    rw [if_pos rfl] at hc
    obtain rfl := h6 (by omega) (by omega)
    obtain rfl := h3 (by omega) (by omega)
    match kids, hg, ih, h9, hc with
    | [], _, _, _, hc => rw [chainC.go] at hc; cases hc
    | y :: l, hg, ih, h9, hc =>
      rw [chainC.go] at hc
      cases hy : chainC y with
      | none => rw [hy] at hc; cases hc
      | some d =>
        rw [hy] at hc
        simp at hc
        subst hc
        obtain ⟨s, L, e1, e2, e3⟩ := ih y (by simp) (h9 0 y (by simp)).2 d hy
        refine ⟨s, L ++ roundT (l.map info), ?_, e2, fun a rest r hr => ?_⟩
        · rw [show_call, at7 (chain_kind hy).1, e1]; rfl
        · obtain ⟨q1, q2⟩ := round_read (y := y) (l := l) (fun z hz => hg z (by simp [hz])) rest
          rw [List.append_assoc]
          exact e3 a _ r (Q9call q1 q2 hr)
  · rw [if_neg k21] at hc; cases hc

/-- What is to be shown of a statement, and of a block. -/
structure Rs (x : Nd) : Prop where
  s : statK x.k → (∀ rest, Q 8 nil0 0 (showT x ++ rest) (yes x rest)) ∧ ∀ rest, tx (showT x ++ rest) ≠ W.end_ ∧ tx (showT x ++ rest) ≠ W.else_
  b : x.k = 4 → ∀ rest, (tx rest = W.end_ ∨ tx rest = W.else_) → Q 7 (nd 4 []) 0 (showT x ++ rest) (yes x rest)

theorem block_read : ∀ (ks acc : List Nd) (rest : List PT), (tx rest = W.end_ ∨ tx rest = W.else_) → (∀ s ∈ ks, Rs s ∧ statK s.k) → Q 7 (nd 4 acc) 0 (allT (ks.map info) ++ rest) (yes (nd 4 (acc ++ ks)) rest)
  | [], acc, rest, hr, _ => by rw [List.append_nil]; exact Q7end hr
  | s :: ks, acc, rest, hr, h => by
    have ih := block_read ks (acc ++ [s]) rest hr (fun q hq => h q (by simp [hq]))
    obtain ⟨h1, h2⟩ := (h s (by simp)).1.s (h s (by simp)).2
    have e : allT ((s :: ks).map info) ++ rest = showT s ++ (allT (ks.map info) ++ rest) := by simp [allT, info]
    rw [e, show acc ++ s :: ks = acc ++ [s] ++ ks by simp]
    exact Q7go (h2 _).1 (h2 _).2 (h1 _) ih

theorem show_local (t : List UInt8) (n : Int) (y : Nd) : showT ⟨5, t, n, [y]⟩ = [wt W.local_, wt t, st S.eq] ++ showT y ++ [st S.sc] := by rw [showT_eq]; rfl
theorem show_set (t : List UInt8) (n : Int) (y z : Nd) : showT ⟨6, t, n, [y, z]⟩ = showT y ++ st S.eq :: (showT z ++ [st S.sc]) := by rw [showT_eq]; rfl
theorem show_do (t : List UInt8) (n : Int) (y : Nd) : showT ⟨7, t, n, [y]⟩ = showT y ++ [st S.sc] := by rw [showT_eq]; rfl
theorem show_if2 (t : List UInt8) (n : Int) (y z : Nd) : showT ⟨8, t, n, [y, z]⟩ = wt W.if_ :: (showT y ++ wt W.then_ :: (showT z ++ [wt W.end_])) := by rw [showT_eq]; rfl
theorem show_if3 (t : List UInt8) (n : Int) (y z v : Nd) : showT ⟨8, t, n, [y, z, v]⟩ = wt W.if_ :: (showT y ++ wt W.then_ :: (showT z ++ (wt W.else_ :: showT v ++ [wt W.end_]))) := by rw [showT_eq]; rfl
theorem show_while (t : List UInt8) (n : Int) (y z : Nd) : showT ⟨9, t, n, [y, z]⟩ = wt W.while_ :: (showT y ++ wt W.do_ :: (showT z ++ [wt W.end_])) := by rw [showT_eq]; rfl
theorem show_for (t : List UInt8) (n : Int) (y z v : Nd) : showT ⟨10, t, n, [y, z, v]⟩ = [wt W.for_, wt t, st S.eq] ++ showT y ++ st S.cm :: (showT z ++ wt W.do_ :: (showT v ++ [wt W.end_])) := by rw [showT_eq]; rfl
theorem show_return (t : List UInt8) (n : Int) (y : Nd) : showT ⟨11, t, n, [y]⟩ = wt W.return_ :: (showT y ++ [st S.sc]) := by rw [showT_eq]; rfl
theorem show_emit (t : List UInt8) (n : Int) (y : Nd) : showT ⟨12, t, n, [y]⟩ = wt W.emit_ :: (showT y ++ [st S.sc]) := by rw [showT_eq]; rfl

theorem rs_all (x : Nd) : isN x → Rs x := by
  refine nd_ind (m := fun x => isN x → Rs x) (fun k t n kids ih h => ?_) x
  rw [isN] at h
  obtain ⟨h1, h2, h3, h4, h5, h6, h7, h8, h9⟩ := h
  rw [isN_go] at h9
  simp only [hasName] at h2 h3
  have hx : ∀ j y, kids[j]? = some y → exprK y.k → Re y := fun j y hy he => re_all y (isE_of y (h9 j y hy).2 he)
  have hs : ∀ j y, kids[j]? = some y → Rs y := fun j y hy => ih y (List.mem_of_getElem? hy) (h9 j y hy).2
  have ss : ∀ {l : List PT}, stops (st S.sc :: l) := stops_s (by decide) (by decide)
  have ls : ∀ {l : List PT}, lvB 0 (st S.sc :: l) := lvB_s 0 (by decide)
  refine ⟨fun hk => ?_, fun hk rest hr => ?_⟩
  · simp only [statK] at hk
    unfold kidsOK at h1
    have hk' : k = 5 ∨ k = 6 ∨ k = 7 ∨ k = 8 ∨ k = 9 ∨ k = 10 ∨ k = 11 ∨ k = 12 := by omega
    rcases hk' with rfl | rfl | rfl | rfl | rfl | rfl | rfl | rfl
    · have hl : kids.length = 1 := by omega
      obtain rfl := h6 (by omega) (by omega)
      match kids, hl, hx, h9 with
      | [y], _, hx, h9 =>
        have hy := hx 0 y rfl (h9 0 y rfl).1
        refine ⟨fun rest => ?_, fun rest => ?_⟩
        · have e : showT ⟨5, t, 0, [y]⟩ ++ rest = wt W.local_ :: wt t :: st S.eq :: (showT y ++ st S.sc :: rest) := by rw [show_local]; simp
          rw [e]
          exact Q8local (h2 (by omega)) (hy.whole ss ls)
        · rw [show_local]; simp only [List.cons_append]; rw [tx_w]; decide
    · have hl : kids.length = 2 := by omega
      obtain rfl := h6 (by omega) (by omega)
      obtain rfl := h3 (by omega) (by omega)
      match kids, hl, hx, h9, h7 with
      | [y, z], _, hx, h9, h7 =>
        have hc := h7 rfl
        simp at hc
        obtain ⟨s, L, e1, e2, e3⟩ := chain_read y (h9 0 y rfl).2 0 hc
        have hz := hx 1 z rfl (h9 1 z rfl).1
        refine ⟨fun rest => ?_, fun rest => ?_⟩
        · have e : showT ⟨6, [], 0, [y, z]⟩ ++ rest = wt s :: (L ++ (st S.eq :: (showT z ++ st S.sc :: rest))) := by rw [show_set, e1]; simp
          rw [e]
          exact Q8simple e2 (e3 0 _ _ (Q9set (hz.whole ss ls)))
        · rw [show_set, e1]; simp only [List.cons_append]; rw [tx_w]
          exact ⟨name_no e2 (.inl (by decide)), name_no e2 (.inl (by decide))⟩
    · have hl : kids.length = 1 := by omega
      obtain rfl := h6 (by omega) (by omega)
      obtain rfl := h3 (by omega) (by omega)
      match kids, hl, h9, h8 with
      | [y], _, h9, h8 =>
        obtain ⟨hc, hk21⟩ := h8 rfl
        simp at hc hk21
        cases hq : chainC y with
        | none => rw [hq] at hc; cases hc
        | some c =>
          have hc0 : c ≠ 0 := by
            obtain ⟨ky, ty, ny, kidsy⟩ := y
            simp only at hk21
            subst hk21
            rw [chainC, if_neg (by decide), if_neg (by decide), if_pos rfl] at hq
            cases hgo : chainC.go kidsy with
            | none => rw [hgo] at hq; cases hq
            | some d => rw [hgo] at hq; simp at hq; omega
          obtain ⟨s, L, e1, e2, e3⟩ := chain_read y (h9 0 y rfl).2 c hq
          refine ⟨fun rest => ?_, fun rest => ?_⟩
          · have e : showT ⟨7, [], 0, [y]⟩ ++ rest = wt s :: (L ++ (st S.sc :: rest)) := by rw [show_do, e1]; simp
            rw [e]
            exact Q8simple e2 (e3 0 _ _ (Q9do (by rw [tx_s]; decide) (by rw [tx_s]; decide) (by omega) hk21))
          · rw [show_do, e1]; simp only [List.cons_append]; rw [tx_w]
            exact ⟨name_no e2 (.inl (by decide)), name_no e2 (.inl (by decide))⟩
    · obtain rfl := h6 (by omega) (by omega)
      obtain rfl := h3 (by omega) (by omega)
      have hl : kids.length = 2 ∨ kids.length = 3 := by omega
      match kids, hl, hx, h9, hs with
      | [y, z], _, hx, h9, hs =>
        have hy := hx 0 y rfl (h9 0 y rfl).1
        have hz := (hs 1 z rfl).b (h9 1 z rfl).1
        refine ⟨fun rest => ?_, fun rest => ?_⟩
        · have e : showT ⟨8, [], 0, [y, z]⟩ ++ rest = wt W.if_ :: (showT y ++ wt W.then_ :: (showT z ++ wt W.end_ :: rest)) := by rw [show_if2]; simp
          rw [e]
          exact Q8if (hy.whole (stops_w (by decide) (by decide)) (lvB_w 0 (by decide))) (hz _ (.inl (tx_w _ _)))
        · rw [show_if2]; simp only [List.cons_append]; rw [tx_w]; decide
      | [y, z, v], _, hx, h9, hs =>
        have hy := hx 0 y rfl (h9 0 y rfl).1
        have hz := (hs 1 z rfl).b (h9 1 z rfl).1
        have hv := (hs 2 v rfl).b (h9 2 v rfl).1
        refine ⟨fun rest => ?_, fun rest => ?_⟩
        · have e : showT ⟨8, [], 0, [y, z, v]⟩ ++ rest = wt W.if_ :: (showT y ++ wt W.then_ :: (showT z ++ wt W.else_ :: (showT v ++ wt W.end_ :: rest))) := by rw [show_if3]; simp
          rw [e]
          exact Q8else (hy.whole (stops_w (by decide) (by decide)) (lvB_w 0 (by decide))) (hz _ (.inr (tx_w _ _))) (hv _ (.inl (tx_w _ _)))
        · rw [show_if3]; simp only [List.cons_append]; rw [tx_w]; decide
    · obtain rfl := h6 (by omega) (by omega)
      obtain rfl := h3 (by omega) (by omega)
      have hl : kids.length = 2 := by omega
      match kids, hl, hx, h9, hs with
      | [y, z], _, hx, h9, hs =>
        have hy := hx 0 y rfl (h9 0 y rfl).1
        have hz := (hs 1 z rfl).b (h9 1 z rfl).1
        refine ⟨fun rest => ?_, fun rest => ?_⟩
        · have e : showT ⟨9, [], 0, [y, z]⟩ ++ rest = wt W.while_ :: (showT y ++ wt W.do_ :: (showT z ++ wt W.end_ :: rest)) := by rw [show_while]; simp
          rw [e]
          exact Q8while (hy.whole (stops_w (by decide) (by decide)) (lvB_w 0 (by decide))) (hz _ (.inl (tx_w _ _)))
        · rw [show_while]; simp only [List.cons_append]; rw [tx_w]; decide
    · obtain rfl := h6 (by omega) (by omega)
      have hl : kids.length = 3 := by omega
      match kids, hl, hx, h9, hs with
      | [y, z, v], _, hx, h9, hs =>
        have hy := hx 0 y rfl (h9 0 y rfl).1
        have hz := hx 1 z rfl (h9 1 z rfl).1
        have hv := (hs 2 v rfl).b (h9 2 v rfl).1
        refine ⟨fun rest => ?_, fun rest => ?_⟩
        · have e : showT ⟨10, t, 0, [y, z, v]⟩ ++ rest = wt W.for_ :: wt t :: st S.eq :: (showT y ++ st S.cm :: (showT z ++ wt W.do_ :: (showT v ++ wt W.end_ :: rest))) := by rw [show_for]; simp
          rw [e]
          exact Q8for (h2 (by omega)) (hy.whole (stops_s (by decide) (by decide)) (lvB_s 0 (by decide))) (hz.whole (stops_w (by decide) (by decide)) (lvB_w 0 (by decide))) (hv _ (.inl (tx_w _ _)))
        · rw [show_for]; simp only [List.cons_append]; rw [tx_w]; decide
    · obtain rfl := h6 (by omega) (by omega)
      obtain rfl := h3 (by omega) (by omega)
      have hl : kids.length = 1 := by omega
      match kids, hl, hx, h9 with
      | [y], _, hx, h9 =>
        have hy := hx 0 y rfl (h9 0 y rfl).1
        refine ⟨fun rest => ?_, fun rest => ?_⟩
        · have e : showT ⟨11, [], 0, [y]⟩ ++ rest = wt W.return_ :: (showT y ++ st S.sc :: rest) := by rw [show_return]; simp
          rw [e]
          exact Q8return (hy.whole ss ls)
        · rw [show_return]; simp only [List.cons_append]; rw [tx_w]; decide
    · obtain rfl := h6 (by omega) (by omega)
      obtain rfl := h3 (by omega) (by omega)
      have hl : kids.length = 1 := by omega
      match kids, hl, hx, h9 with
      | [y], _, hx, h9 =>
        have hy := hx 0 y rfl (h9 0 y rfl).1
        refine ⟨fun rest => ?_, fun rest => ?_⟩
        · have e : showT ⟨12, [], 0, [y]⟩ ++ rest = wt W.emit_ :: (showT y ++ st S.sc :: rest) := by rw [show_emit]; simp
          rw [e]
          exact Q8emit (hy.whole ss ls)
        · rw [show_emit]; simp only [List.cons_append]; rw [tx_w]; decide
  · simp only at hk
    subst hk
    obtain rfl := h6 (by omega) (by omega)
    obtain rfl := h3 (by omega) (by omega)
    have e : showT ⟨4, [], 0, kids⟩ = allT (kids.map info) := by rw [showT_eq]; rfl
    rw [e]
    refine block_read kids [] rest hr (fun s hmem => ?_)
    obtain ⟨j, hj, hj'⟩ := List.getElem_of_mem hmem
    have hj2 : kids[j]? = some s := by rw [List.getElem?_eq_getElem hj, hj']
    exact ⟨hs j s hj2, (h9 j s hj2).1⟩

end Go.Proofs.YtbofdfdmikhanaaGreatDoor
namespace Go.Proofs.YtbofdfdmikhanaaGreatDoor
open Go

theorem Q11last {x : Nd} {s : List UInt8} {l : List PT} (hs : nameB s = true) (h : tx l ≠ S.cm) : Q 11 x 0 (wt s :: l) (yes ⟨2, x.t, 0, x.kids ++ [⟨3, s, 0, []⟩]⟩ l) := by
  refine ⟨1, ?_⟩
  rw [P, needName_w hs, if_neg h]
theorem Q11more {x : Nd} {s : List UInt8} {l : List PT} {r : List PT ⊕ (Nd × List PT)} (hs : nameB s = true) (h : Q 11 ⟨2, x.t, 0, x.kids ++ [⟨3, s, 0, []⟩]⟩ 0 l r) : Q 11 x 0 (wt s :: st S.cm :: l) r := by
  obtain ⟨f, h⟩ := h
  refine ⟨f + 1, ?_⟩
  rw [P, needName_w hs, tx_s, if_pos rfl]
  exact h
theorem Q10none {s : List UInt8} {b : Nd} {l l1 : List PT} (hs : nameB s = true) (h : Q 7 (nd 4 []) 0 l (yes b (wt W.end_ :: l1))) : Q 10 nil0 0 (wt W.function_ :: wt s :: st S.lp :: st S.rp :: l) (yes ⟨2, s, 0, [b]⟩ l1) := by
  obtain ⟨f, h⟩ := h
  refine ⟨f + 1, ?_⟩
  rw [P, need_w, needName_w hs, need_s, tx_s, if_pos rfl, List.tail_cons, h, on_yes, need_w]
theorem Q10some {s : List UInt8} {b n : Nd} {l l1 l2 : List PT} (hs : nameB s = true) (hr : tx l ≠ S.rp) (h : Q 11 ⟨2, s, 0, []⟩ 0 l (yes n (st S.rp :: l1))) (h2 : Q 7 (nd 4 []) 0 l1 (yes b (wt W.end_ :: l2))) : Q 10 nil0 0 (wt W.function_ :: wt s :: st S.lp :: l) (yes ⟨2, s, 0, n.kids ++ [b]⟩ l2) := by
  obtain ⟨f1, h⟩ := h
  obtain ⟨f2, h2⟩ := h2
  refine ⟨f1 + f2 + 1, ?_⟩
  rw [P, need_w, needName_w hs, need_s, if_neg hr, P_mono (by omega) h, on_yes, need_s, P_mono (by omega) h2, on_yes, need_w]
theorem Q12end {x : Nd} : Q 12 x 0 [] (yes x []) := ⟨1, by rw [P, if_pos rfl]⟩
theorem Q12go {ks : List Nd} {g : Nd} {l l1 : List PT} {r : List PT ⊕ (Nd × List PT)} (hl : l ≠ []) (h1 : Q 10 nil0 0 l (yes g l1)) (h2 : Q 12 (nd 1 (ks ++ [g])) 0 l1 r) : Q 12 (nd 1 ks) 0 l r := by
  obtain ⟨f1, h1⟩ := h1
  obtain ⟨f2, h2⟩ := h2
  refine ⟨f1 + f2 + 1, ?_⟩
  rw [P, if_neg hl, P_mono (by omega) h1, on_yes]
  exact P_mono (by omega) h2

theorem params_read : ∀ (ps acc : List Nd) (t : List UInt8) (rest : List PT), ps ≠ [] → tx rest ≠ S.cm → (∀ p ∈ ps, ∃ s, p = ⟨3, s, 0, []⟩ ∧ nameB s = true) → Q 11 ⟨2, t, 0, acc⟩ 0 (commaT (ps.map info) ++ rest) (yes ⟨2, t, 0, acc ++ ps⟩ rest)
  | [], _, _, _, h, _, _ => absurd rfl h
  | [p], acc, t, rest, _, hr, h => by
    obtain ⟨s, rfl, hs⟩ := h p (by simp)
    have e : commaT ([(⟨3, s, 0, []⟩ : Nd)].map info) ++ rest = wt s :: rest := by simp [commaT, info, showT_eq, comb]
    rw [e]
    exact Q11last hs hr
  | p :: q :: ps, acc, t, rest, _, hr, h => by
    obtain ⟨s, rfl, hs⟩ := h p (by simp)
    have ih := params_read (q :: ps) (acc ++ [⟨3, s, 0, []⟩]) t rest (by simp) hr (fun z hz => h z (by simp at hz ⊢; exact .inr hz))
    have e : commaT (((⟨3, s, 0, []⟩ : Nd) :: q :: ps).map info) ++ rest = wt s :: st S.cm :: (commaT ((q :: ps).map info) ++ rest) := by simp [commaT, info, showT_eq, comb]
    rw [e, show acc ++ ⟨3, s, 0, []⟩ :: q :: ps = acc ++ [⟨3, s, 0, []⟩] ++ q :: ps by simp]
    exact Q11more hs ih

theorem param_of {p : Nd} (h : isN p) (hk : p.k = 3) : ∃ s, p = ⟨3, s, 0, []⟩ ∧ nameB s = true := by
  obtain ⟨k, t, n, kids⟩ := p
  simp only at hk
  subst hk
  rw [isN] at h
  obtain ⟨h1, h2, h3, h4, h5, h6, h7, h8, h9⟩ := h
  have hl : kids.length = 0 := by unfold kidsOK at h1; omega
  obtain rfl := List.length_eq_zero_iff.1 hl
  obtain rfl := h6 (by omega) (by omega)
  exact ⟨t, rfl, h2 (by simp [hasName])⟩

theorem fun_read {x : Nd} (h : isN x) (hk : x.k = 2) (rest : List PT) : showT x ≠ [] ∧ Q 10 nil0 0 (showT x ++ rest) (yes x rest) := by
  obtain ⟨k, t, n, kids⟩ := x
  simp only at hk
  subst hk
  rw [isN] at h
  obtain ⟨h1, h2, h3, h4, h5, h6, h7, h8, h9⟩ := h
  rw [isN_go] at h9
  obtain rfl := h6 (by omega) (by omega)
  have ht := h2 (by simp [hasName])
  have hl : 1 ≤ kids.length := by unfold kidsOK at h1; omega
  obtain ⟨ps, b, rfl⟩ : ∃ ps b, kids = ps ++ [b] := ⟨kids.dropLast, kids.getLast (by intro e; rw [e] at hl; simp at hl), (List.dropLast_concat_getLast _).symm⟩
  have hb := h9 ps.length b (by simp)
  have hbk : b.k = 4 := by
    have := hb.1
    unfold fitsK at this
    rw [if_neg (by decide), if_pos rfl, if_pos (by simp)] at this
    exact this
  have hB := (rs_all b hb.2).b hbk
  have hps : ∀ p ∈ ps, ∃ s, p = ⟨3, s, 0, []⟩ ∧ nameB s = true := fun p hp => by
    obtain ⟨j, hj, hj'⟩ := List.getElem_of_mem hp
    have := h9 j p (by rw [List.getElem?_append_left hj, List.getElem?_eq_getElem hj, hj'])
    refine param_of this.2 ?_
    have h0 := this.1
    unfold fitsK at h0
    rw [if_neg (by decide), if_pos rfl, if_neg (by simp; omega)] at h0
    exact h0
  have hsh : showT ⟨2, t, 0, ps ++ [b]⟩ = [wt W.function_, wt t] ++ roundT (ps.map info) ++ showT b ++ [wt W.end_] := by
    rw [showT_eq]
    unfold comb
    rw [if_neg (by decide), if_pos rfl]
    simp [info]
  refine ⟨by rw [hsh]; simp, ?_⟩
  cases ps with
  | nil =>
    have e : showT ⟨2, t, 0, [] ++ [b]⟩ ++ rest = wt W.function_ :: wt t :: st S.lp :: st S.rp :: (showT b ++ wt W.end_ :: rest) := by rw [hsh]; simp [roundT]
    rw [e]
    exact Q10none ht (hB _ (.inl (tx_w _ _)))
  | cons p ps =>
    have e : showT ⟨2, t, 0, (p :: ps) ++ [b]⟩ ++ rest = wt W.function_ :: wt t :: st S.lp :: (commaT ((p :: ps).map info) ++ st S.rp :: (showT b ++ wt W.end_ :: rest)) := by rw [hsh]; simp [roundT]
    rw [e]
    have hne : tx (commaT ((p :: ps).map info) ++ st S.rp :: (showT b ++ wt W.end_ :: rest)) ≠ S.rp := by
      obtain ⟨s, rfl, hs⟩ := hps p (by simp)
      cases ps with
      | nil => simp only [List.map_cons, List.map_nil, commaT, info, showT_eq, comb]; exact name_no hs (.inr (by decide))
      | cons q ps => simp only [List.map_cons, commaT, info, showT_eq, comb]; exact name_no hs (.inr (by decide))
    exact Q10some ht hne (params_read (p :: ps) [] t _ (by simp) (by rw [tx_s]; decide) hps) (hB _ (.inl (tx_w _ _)))

theorem funs_read : ∀ (fs acc : List Nd), (∀ g ∈ fs, isN g ∧ g.k = 2) → Q 12 (nd 1 acc) 0 (allT (fs.map info)) (yes (nd 1 (acc ++ fs)) [])
  | [], acc, _ => by rw [List.append_nil]; exact Q12end
  | g :: fs, acc, h => by
    have ih := funs_read fs (acc ++ [g]) (fun q hq => h q (by simp [hq]))
    have hg := h g (by simp)
    have e : allT ((g :: fs).map info) = showT g ++ allT (fs.map info) := by simp [allT, info]
    obtain ⟨h1, h2⟩ := fun_read hg.1 hg.2 (allT (fs.map info))
    rw [e, show acc ++ g :: fs = acc ++ [g] ++ fs by simp]
    exact Q12go (by simp [h1]) h2 ih

/-- What is written of a program is read as the same. -/
theorem unit_read {x : Nd} (h : isN x) (hk : x.k = 1) : Q 12 (nd 1 []) 0 (showT x) (yes x []) := by
  obtain ⟨k, t, n, kids⟩ := x
  simp only at hk
  subst hk
  rw [isN] at h
  obtain ⟨h1, h2, h3, h4, h5, h6, h7, h8, h9⟩ := h
  rw [isN_go] at h9
  obtain rfl := h6 (by omega) (by omega)
  obtain rfl := h3 (by simp [hasName]) (by omega)
  have e : showT ⟨1, [], 0, kids⟩ = allT (kids.map info) := by rw [showT_eq]; rfl
  rw [e]
  refine funs_read kids [] (fun g hg => ?_)
  obtain ⟨j, hj, hj'⟩ := List.getElem_of_mem hg
  have := h9 j g (by rw [List.getElem?_eq_getElem hj, hj'])
  exact ⟨this.2, this.1⟩

end Go.Proofs.YtbofdfdmikhanaaGreatDoor
