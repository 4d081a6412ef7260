/- Of programs, in plain words: what is read is a node of a program, and is written no longer than it was: statements and programs. -/
import Derived.Test.YtbofdfdmikhanaaGreatDoorJ11
namespace Go.Proofs.YtbofdfdmikhanaaGreatDoor
open Go

theorem mkN {k : Int} {t : List UInt8} {kids : List Nd} (hk : kidsOK k kids.length) (hn : hasName k → nameB t = true) (hnn : ¬ hasName k → t = []) (h22 : k ≠ 22 ∧ k ≠ 13 ∧ k ≠ 14) (h6 : k = 6 → kids.head?.bind chainC = some 0)
    (h7 : k = 7 → (kids.head?.bind chainC).isSome = true ∧ kids.head?.map (fun x => x.k) = some 21) (hgo : ∀ j y, kids[j]? = some y → fitsK k kids.length j y.k ∧ isN y) : isN ⟨k, t, 0, kids⟩ := by
  rw [isN]
  refine ⟨hk, hn, fun c _ => hnn c, ⟨fun c => absurd c h22.1, fun c => absurd c h22.2.2⟩, fun c => absurd c h22.2.1, fun _ _ => rfl, h6, h7, ?_⟩
  rw [isN_go]
  intro j y hy
  rw [Nat.zero_add]
  exact hgo j y hy

theorem go1 {k : Int} {y : Nd} (h : fitsK k 1 0 y.k ∧ isN y) : ∀ j z, [y][j]? = some z → fitsK k [y].length j z.k ∧ isN z
  | 0, z, e => by cases e; exact h
  | j + 1, z, e => by simp at e
theorem go2 {k : Int} {y v : Nd} (h : fitsK k 2 0 y.k ∧ isN y) (h2 : fitsK k 2 1 v.k ∧ isN v) : ∀ j z, [y, v][j]? = some z → fitsK k [y, v].length j z.k ∧ isN z
  | 0, z, e => by cases e; exact h
  | 1, z, e => by cases e; exact h2
  | j + 2, z, e => by simp at e
theorem go3 {k : Int} {y v u : Nd} (h : fitsK k 3 0 y.k ∧ isN y) (h2 : fitsK k 3 1 v.k ∧ isN v) (h3 : fitsK k 3 2 u.k ∧ isN u) : ∀ j z, [y, v, u][j]? = some z → fitsK k [y, v, u].length j z.k ∧ isN z
  | 0, z, e => by cases e; exact h
  | 1, z, e => by cases e; exact h2
  | 2, z, e => by cases e; exact h3
  | j + 3, z, e => by simp at e

theorem mkBlock {us : List Nd} (h : ∀ s ∈ us, isN s ∧ statK s.k) : isN (nd 4 us) := by
  refine mkN (by unfold kidsOK; simp) (fun c => by simp only [hasName] at c; omega) (fun _ => rfl) (by decide) (fun c => by omega) (fun c => by omega) (fun j y hy => ?_)
  have := h y (List.mem_of_getElem? hy)
  exact ⟨by unfold fitsK; rw [if_neg (by decide), if_neg (by decide), if_pos rfl]; exact this.2, this.1⟩
theorem cost_block (us : List Nd) : cost (showT (nd 4 us)) = sumS us := by
  have e : showT (nd 4 us) = allT (us.map info) := by show showT ⟨4, [], 0, us⟩ = _; rw [showT_eq]; rfl
  rw [e, cost_all]

theorem e0 {m : Nd} : cost (atT 0 (info m)) = cost (showT m) := by rw [at_eq (Nat.zero_le _)]

theorem sound_stat (f : Nat) (ih : ∀ tag x a l n l1, P f tag x a l = some (.inr (n, l1)) → allV l → Sound tag x a l n l1) :
    ∀ tag x a l n l1, 7 ≤ tag → P (f + 1) tag x a l = some (.inr (n, l1)) → allV l → Sound tag x a l n l1 := by
  intro tag x a l n l1 ht h hv
  have ex : ∀ {l n l1}, P f 0 (nd 0 []) 0 l = some (.inr (n, l1)) → allV l → okE n ∧ allV l1 ∧ cost (showT n) + cost l1 ≤ cost l := fun h hv => by
    obtain ⟨o1, v1, c1⟩ := ih 0 _ _ _ _ _ h hv (by omega)
    rw [e0] at c1
    exact ⟨o1, v1, c1⟩
  have bl : ∀ {l n l1}, P f 7 (nd 4 []) 0 l = some (.inr (n, l1)) → allV l → isN n ∧ n.k = 4 ∧ allV l1 ∧ cost (showT n) + cost l1 ≤ cost l := fun h hv => by
    obtain ⟨us, u1, u2, u3, u4⟩ := ih 7 _ _ _ _ _ h hv [] rfl
    subst u1
    exact ⟨mkBlock u2, rfl, u3, by rw [List.nil_append, cost_block]; exact u4⟩
  have nameNe : ∀ {l}, nameB (tx l) = true → tx l ≠ [] := fun h e => by rw [e] at h; revert h; decide
  match tag, ht, h with
  | 7, _, h =>
    intro ks hks
    subst hks
    rw [P] at h
    by_cases c : tx l = W.end_ ∨ tx l = W.else_
    · rw [if_pos c] at h
      cases h
      exact ⟨[], by simp, fun s hs => by simp at hs, hv, by simp [sumS]⟩
    · rw [if_neg c] at h
      obtain ⟨m, q, h1, h2⟩ := on_inv h
      obtain ⟨i1, i2, v1, c1⟩ := ih 8 _ _ _ _ _ h1 hv
      obtain ⟨us, u1, u2, u3, u4⟩ := ih 7 _ _ _ _ _ h2 v1 _ rfl
      refine ⟨m :: us, by rw [u1]; simp [nd], fun s hs => ?_, u3, by rw [sumS]; omega⟩
      simp at hs
      rcases hs with rfl | hs
      · exact ⟨i1, i2⟩
      · exact u2 s hs
  | 8, _, h =>
    rw [P] at h
    by_cases w1 : tx l = W.local_
    · rw [if_pos w1] at h
      obtain ⟨n1, n2⟩ := needName_inv h
      obtain ⟨n3, n4⟩ := need_inv n2
      obtain ⟨m, q, h1, h2⟩ := on_inv n4
      obtain ⟨n5, n6⟩ := need_inv h2
      cases n6
      obtain ⟨p1, p2⟩ := pass_of w1 (by decide)
      obtain ⟨p3, p4⟩ := pass (nameNe n1)
      obtain ⟨p5, p6⟩ := pass_of n3 (by decide)
      obtain ⟨p7, p8⟩ := pass_of n5 (by decide)
      obtain ⟨o1, v1, c1⟩ := ex h1 (p6 (p4 (p2 hv)))
      refine ⟨mkN (by unfold kidsOK; simp) (fun _ => n1) (fun c => absurd (by simp [hasName]) c) (by decide) (fun c => by omega) (fun c => by omega) (go1 ⟨fits_e (by decide) _ _ _ o1.2, o1.1⟩), by show (5 : Int) ≤ 5 ∧ (5 : Int) ≤ 12; omega, p8 v1, ?_⟩
      rw [show_local]
      simp only [List.cons_append, List.nil_append]
      rw [cost_w, cost_w, cost_s, cost_app, cost_s, cost_nil]
      simp at p1 p5 p7 ⊢
      omega
    rw [if_neg w1] at h
    by_cases w2 : tx l = W.if_
    · rw [if_pos w2] at h
      obtain ⟨m, q, h1, h2⟩ := on_inv h
      obtain ⟨n1, n2⟩ := need_inv h2
      obtain ⟨b, q2, h3, h4⟩ := on_inv n2
      obtain ⟨p1, p2⟩ := pass_of w2 (by decide)
      obtain ⟨p3, p4⟩ := pass_of n1 (by decide)
      obtain ⟨o1, v1, c1⟩ := ex h1 (p2 hv)
      obtain ⟨b1, b2, b3, b4⟩ := bl h3 (p4 v1)
      by_cases w : tx q2 = W.else_
      · rw [if_pos w] at h4
        obtain ⟨d, q3, h5, h6⟩ := on_inv h4
        obtain ⟨n3, n4⟩ := need_inv h6
        cases n4
        obtain ⟨p5, p6⟩ := pass_of w (by decide)
        obtain ⟨p7, p8⟩ := pass_of n3 (by decide)
        obtain ⟨d1, d2, d3, d4⟩ := bl h5 (p6 b3)
        refine ⟨mkN (by unfold kidsOK; simp) (fun c => by simp only [hasName] at c; omega) (fun _ => rfl) (by decide) (fun c => by omega) (fun c => by omega) (go3 ⟨by unfold fitsK; simp; exact o1.2, o1.1⟩ ⟨by unfold fitsK; simp; exact b2, b1⟩ ⟨by unfold fitsK; simp; exact d2, d1⟩), by show (5 : Int) ≤ 8 ∧ (8 : Int) ≤ 12; omega, p8 d3, ?_⟩
        show cost (showT ⟨8, [], 0, [m, b, d]⟩) + _ ≤ _
        rw [show_if3, cost_w, cost_app, cost_w, cost_app, List.cons_append, cost_w, cost_app, cost_w, cost_nil]
        simp at p1 p3 p5 p7 ⊢
        omega
      · rw [if_neg w] at h4
        obtain ⟨n3, n4⟩ := need_inv h4
        cases n4
        obtain ⟨p7, p8⟩ := pass_of n3 (by decide)
        refine ⟨mkN (by unfold kidsOK; simp) (fun c => by simp only [hasName] at c; omega) (fun _ => rfl) (by decide) (fun c => by omega) (fun c => by omega) (go2 ⟨by unfold fitsK; simp; exact o1.2, o1.1⟩ ⟨by unfold fitsK; simp; exact b2, b1⟩), by show (5 : Int) ≤ 8 ∧ (8 : Int) ≤ 12; omega, p8 b3, ?_⟩
        show cost (showT ⟨8, [], 0, [m, b]⟩) + _ ≤ _
        rw [show_if2, cost_w, cost_app, cost_w, cost_app, cost_w, cost_nil]
        simp at p1 p3 p7 ⊢
        omega
    rw [if_neg w2] at h
    by_cases w3 : tx l = W.while_
    · rw [if_pos w3] at h
      obtain ⟨m, q, h1, h2⟩ := on_inv h
      obtain ⟨n1, n2⟩ := need_inv h2
      obtain ⟨b, q2, h3, h4⟩ := on_inv n2
      obtain ⟨n3, n4⟩ := need_inv h4
      cases n4
      obtain ⟨p1, p2⟩ := pass_of w3 (by decide)
      obtain ⟨p3, p4⟩ := pass_of n1 (by decide)
      obtain ⟨p7, p8⟩ := pass_of n3 (by decide)
      obtain ⟨o1, v1, c1⟩ := ex h1 (p2 hv)
      obtain ⟨b1, b2, b3, b4⟩ := bl h3 (p4 v1)
      refine ⟨mkN (by unfold kidsOK; simp) (fun c => by simp only [hasName] at c; omega) (fun _ => rfl) (by decide) (fun c => by omega) (fun c => by omega) (go2 ⟨by unfold fitsK; simp; exact o1.2, o1.1⟩ ⟨by unfold fitsK; simp; exact b2, b1⟩), by show (5 : Int) ≤ 9 ∧ (9 : Int) ≤ 12; omega, p8 b3, ?_⟩
      show cost (showT ⟨9, [], 0, [m, b]⟩) + _ ≤ _
      rw [show_while, cost_w, cost_app, cost_w, cost_app, cost_w, cost_nil]
      simp at p1 p3 p7 ⊢
      omega
    rw [if_neg w3] at h
    by_cases w4 : tx l = W.for_
    · rw [if_pos w4] at h
      obtain ⟨n1, n2⟩ := needName_inv h
      obtain ⟨n3, n4⟩ := need_inv n2
      obtain ⟨m, q, h1, h2⟩ := on_inv n4
      obtain ⟨n5, n6⟩ := need_inv h2
      obtain ⟨m2, q2, h3, h4⟩ := on_inv n6
      obtain ⟨n7, n8⟩ := need_inv h4
      obtain ⟨b, q3, h5, h6⟩ := on_inv n8
      obtain ⟨n9, n10⟩ := need_inv h6
      cases n10
      obtain ⟨p1, p2⟩ := pass_of w4 (by decide)
      obtain ⟨p3, p4⟩ := pass (nameNe n1)
      obtain ⟨p5, p6⟩ := pass_of n3 (by decide)
      obtain ⟨p7, p8⟩ := pass_of n5 (by decide)
      obtain ⟨p9, p10⟩ := pass_of n7 (by decide)
      obtain ⟨p11, p12⟩ := pass_of n9 (by decide)
      obtain ⟨o1, v1, c1⟩ := ex h1 (p6 (p4 (p2 hv)))
      obtain ⟨o2, v2, c2⟩ := ex h3 (p8 v1)
      obtain ⟨b1, b2, b3, b4⟩ := bl h5 (p10 v2)
      refine ⟨mkN (by unfold kidsOK; simp) (fun _ => n1) (fun c => absurd (by simp [hasName]) c) (by decide) (fun c => by omega) (fun c => by omega) (go3 ⟨by unfold fitsK; simp; exact o1.2, o1.1⟩ ⟨by unfold fitsK; simp; exact o2.2, o2.1⟩ ⟨by unfold fitsK; simp; exact b2, b1⟩), by show (5 : Int) ≤ 10 ∧ (10 : Int) ≤ 12; omega, p12 b3, ?_⟩
      rw [show_for]
      simp only [List.cons_append, List.nil_append]
      rw [cost_w, cost_w, cost_s, cost_app, cost_s, cost_app, cost_w, cost_app, cost_w, cost_nil]
      simp at p1 p5 p7 p9 p11 ⊢
      omega
    rw [if_neg w4] at h
    by_cases w5 : tx l = W.return_
    · rw [if_pos w5] at h
      obtain ⟨m, q, h1, h2⟩ := on_inv h
      obtain ⟨n1, n2⟩ := need_inv h2
      cases n2
      obtain ⟨p1, p2⟩ := pass_of w5 (by decide)
      obtain ⟨p3, p4⟩ := pass_of n1 (by decide)
      obtain ⟨o1, v1, c1⟩ := ex h1 (p2 hv)
      refine ⟨mkN (by unfold kidsOK; simp) (fun c => by simp only [hasName] at c; omega) (fun _ => rfl) (by decide) (fun c => by omega) (fun c => by omega) (go1 ⟨fits_e (by decide) _ _ _ o1.2, o1.1⟩), by show (5 : Int) ≤ 11 ∧ (11 : Int) ≤ 12; omega, p4 v1, ?_⟩
      show cost (showT ⟨11, [], 0, [m]⟩) + _ ≤ _
      rw [show_return, cost_w, cost_app, cost_s, cost_nil]
      simp at p1 p3 ⊢
      omega
    rw [if_neg w5] at h
    by_cases w6 : tx l = W.emit_
    · rw [if_pos w6] at h
      obtain ⟨m, q, h1, h2⟩ := on_inv h
      obtain ⟨n1, n2⟩ := need_inv h2
      cases n2
      obtain ⟨p1, p2⟩ := pass_of w6 (by decide)
      obtain ⟨p3, p4⟩ := pass_of n1 (by decide)
      obtain ⟨o1, v1, c1⟩ := ex h1 (p2 hv)
      refine ⟨mkN (by unfold kidsOK; simp) (fun c => by simp only [hasName] at c; omega) (fun _ => rfl) (by decide) (fun c => by omega) (fun c => by omega) (go1 ⟨fits_e (by decide) _ _ _ o1.2, o1.1⟩), by show (5 : Int) ≤ 12 ∧ (12 : Int) ≤ 12; omega, p4 v1, ?_⟩
      show cost (showT ⟨12, [], 0, [m]⟩) + _ ≤ _
      rw [show_emit, cost_w, cost_app, cost_s, cost_nil]
      simp at p1 p3 ⊢
      omega
    rw [if_neg w6] at h
    obtain ⟨n1, n2⟩ := needName_inv h
    obtain ⟨m, q, h1, h2⟩ := on_inv n2
    obtain ⟨n3, n4⟩ := need_inv h2
    cases n4
    obtain ⟨p1, p2⟩ := pass (nameNe n1)
    obtain ⟨p3, p4⟩ := pass_of n3 (by decide)
    obtain ⟨i1, i2, v1, c1⟩ := ih 9 _ _ _ _ _ h1 (p2 hv) (mkName n1) (okE_binds7 (by decide)) (by rw [chainC, if_pos rfl])
    refine ⟨i1, i2, p4 v1, ?_⟩
    have e : showT ⟨18, tx l, 0, []⟩ = [wt (tx l)] := by rw [showT_eq]; rfl
    rw [e, cost_w, cost_nil] at c1
    simp at p3
    omega
  | 9, _, h =>
    intro hx hb hch
    rw [P] at h
    by_cases c1 : tx l = S.lb
    · rw [if_pos c1] at h
      obtain ⟨m, q, h1, h2⟩ := on_inv h
      obtain ⟨o1, v1, b1, k1, k2, _⟩ := ih 5 _ _ _ _ _ h1 hv hx
      obtain ⟨i1, i2, v2, k3⟩ := ih 9 _ _ _ _ _ h2 v1 o1 b1 (by rw [(k2 c1).2]; exact hch)
      rw [at_eq (x := x) (by omega)] at k1
      exact ⟨i1, i2, v2, by omega⟩
    rw [if_neg c1] at h
    by_cases c2 : tx l = S.lp
    · rw [if_pos c2] at h
      obtain ⟨m, q, h1, h2⟩ := on_inv h
      obtain ⟨o1, v1, b1, k1, _, k2⟩ := ih 5 _ _ _ _ _ h1 hv hx
      obtain ⟨i1, i2, v2, k3⟩ := ih 9 _ _ _ _ _ h2 v1 o1 b1 (by rw [(k2 c1).2, hch]; rfl)
      rw [at_eq (x := x) (by omega)] at k1
      exact ⟨i1, i2, v2, by omega⟩
    rw [if_neg c2] at h
    by_cases c3 : a = 0
    · rw [if_pos c3] at h
      obtain ⟨n1, n2⟩ := need_inv h
      obtain ⟨m, q, h1, h2⟩ := on_inv n2
      cases h2
      obtain ⟨p1, p2⟩ := pass_of n1 (by decide)
      obtain ⟨o1, v1, k1⟩ := ex h1 (p2 hv)
      refine ⟨mkN (by unfold kidsOK; simp) (fun c => by simp only [hasName] at c; omega) (fun _ => rfl) (by decide) (fun _ => by simp [hch, c3]) (fun c => by omega) (go2 ⟨fits_e (by decide) _ _ _ hx.2, hx.1⟩ ⟨fits_e (by decide) _ _ _ o1.2, o1.1⟩), by show (5 : Int) ≤ 6 ∧ (6 : Int) ≤ 12; omega, v1, ?_⟩
      show cost (showT ⟨6, [], 0, [x, m]⟩) + _ ≤ _
      rw [show_set, cost_app, cost_s, cost_app, cost_s, cost_nil]
      simp at p1 ⊢
      omega
    rw [if_neg c3] at h
    by_cases c4 : x.k = 21
    · rw [if_pos c4] at h
      cases h
      refine ⟨mkN (by unfold kidsOK; simp) (fun c => by simp only [hasName] at c; omega) (fun _ => rfl) (by decide) (fun c => by omega) (fun _ => ⟨by simp [hch], by simp [c4]⟩) (go1 ⟨fits_e (by decide) _ _ _ hx.2, hx.1⟩), by show (5 : Int) ≤ 7 ∧ (7 : Int) ≤ 12; omega, hv, ?_⟩
      show cost (showT ⟨7, [], 0, [x]⟩) + _ ≤ _
      rw [show_do, cost_app, cost_s, cost_nil]
      simp
      omega
    · rw [if_neg c4] at h; cases h
  | 10, _, h =>
    rw [P] at h
    obtain ⟨n1, n2⟩ := need_inv h
    obtain ⟨n3, n4⟩ := needName_inv n2
    obtain ⟨n5, n6⟩ := need_inv n4
    obtain ⟨p1, p2⟩ := pass_of n1 (by decide)
    obtain ⟨p3, p4⟩ := pass (nameNe n3)
    obtain ⟨p5, p6⟩ := pass_of n5 (by decide)
    have mk : ∀ (us : List Nd) (b : Nd), (∀ p ∈ us, ∃ s, p = (⟨3, s, 0, []⟩ : Nd) ∧ nameB s = true) → isN b → b.k = 4 → isN ⟨2, tx l.tail, 0, us ++ [b]⟩ := fun us b hu hb1 hb2 => by
      refine mkN (by unfold kidsOK; simp) (fun _ => n3) (fun c => absurd (by simp [hasName]) c) (by decide) (fun c => by omega) (fun c => by omega) (fun j y hy => ?_)
      by_cases e : j < us.length
      · rw [List.getElem?_append_left e] at hy
        obtain ⟨s, rfl, hs⟩ := hu y (List.mem_of_getElem? hy)
        refine ⟨by unfold fitsK; rw [if_neg (by decide), if_pos rfl, if_neg (by simp; omega)], ?_⟩
        exact mkN (by unfold kidsOK; simp) (fun _ => hs) (fun c => absurd (by simp [hasName]) c) (by decide) (fun c => by omega) (fun c => by omega) (fun j y hy => by simp at hy)
      · rw [List.getElem?_append_right (by omega)] at hy
        have e2 : j - us.length = 0 := by
          by_cases z : j - us.length = 0
          · exact z
          · rw [List.getElem?_eq_none (by simp; omega)] at hy; cases hy
        rw [e2] at hy
        simp at hy
        subst hy
        exact ⟨by unfold fitsK; rw [if_neg (by decide), if_pos rfl, if_pos (by simp; omega)]; exact hb2, hb1⟩
    have sh : ∀ (us : List Nd) (b : Nd), cost (showT ⟨2, tx l.tail, 0, us ++ [b]⟩) = 9 + ((tx l.tail).length + 1) + cost (roundT (us.map info)) + cost (showT b) + 4 := fun us b => by
      have hsh : showT ⟨2, tx l.tail, 0, us ++ [b]⟩ = [wt W.function_, wt (tx l.tail)] ++ roundT (us.map info) ++ showT b ++ [wt W.end_] := by
        rw [showT_eq]
        unfold comb
        rw [if_neg (by decide), if_pos rfl]
        simp [info]
      rw [hsh, cost_app, cost_app, cost_app, cost_w, cost_w, cost_w, cost_nil]
      simp
    by_cases c : tx l.tail.tail.tail = S.rp
    · rw [if_pos c] at n6
      obtain ⟨b, q, h1, h2⟩ := on_inv n6
      obtain ⟨n7, n8⟩ := need_inv h2
      cases n8
      obtain ⟨p7, p8⟩ := pass_of c (by decide)
      obtain ⟨p9, p10⟩ := pass_of n7 (by decide)
      obtain ⟨b1, b2, b3, b4⟩ := bl h1 (p8 (p6 (p4 (p2 hv))))
      refine ⟨mk [] b (fun p hp => by simp at hp) b1 b2, rfl, p10 b3, ?_⟩
      have := sh [] b
      rw [List.nil_append] at this
      rw [this, cost_round0]
      simp at p1 p5 p7 p9
      omega
    · rw [if_neg c] at n6
      obtain ⟨m, q, h1, h2⟩ := on_inv n6
      obtain ⟨n7, n8⟩ := need_inv h2
      obtain ⟨b, q2, h3, h4⟩ := on_inv n8
      obtain ⟨n9, n10⟩ := need_inv h4
      cases n10
      obtain ⟨us, u1, u2, u3, u4, u5⟩ := ih 11 _ _ _ _ _ h1 (p6 (p4 (p2 hv)))
      obtain ⟨p7, p8⟩ := pass_of n7 (by decide)
      obtain ⟨p9, p10⟩ := pass_of n9 (by decide)
      obtain ⟨b1, b2, b3, b4⟩ := bl h3 (p8 u4)
      have e : m.kids = us := by rw [u2]; simp
      rw [e]
      refine ⟨mk us b u3 b1 b2, rfl, p10 b3, ?_⟩
      rw [sh, cost_round us u1]
      simp at p1 p5 p7 p9
      omega
  | 11, _, h =>
    rw [P] at h
    obtain ⟨n1, n2⟩ := needName_inv h
    obtain ⟨p1, p2⟩ := pass (nameNe n1)
    have hc : cost (showT ⟨3, tx l, 0, []⟩) = (tx l).length + 1 := by
      have e : showT ⟨3, tx l, 0, []⟩ = [wt (tx l)] := by rw [showT_eq]; rfl
      rw [e, cost_w, cost_nil]
    by_cases c : tx l.tail = S.cm
    · rw [if_pos c] at n2
      obtain ⟨p3, p4⟩ := pass_of c (by decide)
      obtain ⟨us, u1, u2, u3, u4, u5⟩ := ih 11 _ _ _ _ _ n2 (p4 (p2 hv))
      refine ⟨⟨3, tx l, 0, []⟩ :: us, by simp, by rw [u2]; simp, fun p hp => ?_, u4, ?_⟩
      · simp at hp
        rcases hp with rfl | hp
        · exact ⟨tx l, rfl, n1⟩
        · exact u3 p hp
      · rw [sumC, hc]
        simp at p3
        omega
    · rw [if_neg c] at n2
      cases n2
      refine ⟨[⟨3, tx l, 0, []⟩], by simp, rfl, fun p hp => by simp at hp; exact ⟨tx l, hp, n1⟩, p2 hv, ?_⟩
      rw [sumC, sumC, hc]
      omega
  | 12, _, h =>
    intro fs hfs
    subst hfs
    rw [P] at h
    by_cases c : l = []
    · rw [if_pos c] at h
      cases h
      exact ⟨[], by simp, fun g hg => by simp at hg, by simp [sumS]⟩
    · rw [if_neg c] at h
      obtain ⟨m, q, h1, h2⟩ := on_inv h
      obtain ⟨i1, i2, v1, c1⟩ := ih 10 _ _ _ _ _ h1 hv
      obtain ⟨us, u1, u2, u3⟩ := ih 12 _ _ _ _ _ h2 v1 _ rfl
      refine ⟨m :: us, by rw [u1]; simp [nd], fun g hg => ?_, by rw [sumS]; omega⟩
      simp at hg
      rcases hg with rfl | hg
      · exact ⟨i1, i2⟩
      · exact u2 g hg
  | n + 13, _, _ => exact trivial

theorem sound_all : ∀ (f tag : Nat) (x : Nd) (a : Nat) (l : List PT) (n : Nd) (l1 : List PT), P f tag x a l = some (.inr (n, l1)) → allV l → Sound tag x a l n l1
  | 0, _, _, _, _, _, _, h, _ => by cases h
  | f + 1, tag, x, a, l, n, l1, h, hv => by
    by_cases c : tag ≤ 6
    · exact sound_expr f (sound_all f) tag x a l n l1 c h hv
    · exact sound_stat f (sound_all f) tag x a l n l1 (by omega) h hv

/-- What is read as a program is one, and is written no longer than its tokens, a blank behind each. -/
theorem unit_sound {l : List PT} {n : Nd} {l1 : List PT} (h : Q 12 (nd 1 []) 0 l (yes n l1)) (hv : allV l) : isN n ∧ n.k = 1 ∧ (textT (showT n)).length ≤ cost l := by
  obtain ⟨f, h⟩ := h
  obtain ⟨us, u1, u2, u3⟩ := sound_all f 12 _ _ _ _ _ h hv [] rfl
  subst u1
  rw [List.nil_append]
  refine ⟨mkN (by unfold kidsOK; simp) (fun c => by simp only [hasName] at c; omega) (fun _ => rfl) (by decide) (fun c => by omega) (fun c => by omega) (fun j y hy => ?_), rfl, ?_⟩
  · have := u2 y (List.mem_of_getElem? hy)
    exact ⟨by unfold fitsK; rw [if_pos rfl]; exact this.2, this.1⟩
  · have e : showT (nd 1 us) = allT (us.map info) := by show showT ⟨1, [], 0, us⟩ = _; rw [showT_eq]; rfl
    have := text_len (showT (nd 1 us))
    rw [e, cost_all] at this
    rw [e]
    omega

end Go.Proofs.YtbofdfdmikhanaaGreatDoor
