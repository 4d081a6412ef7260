/- Of programs, in plain words: what is read is a node of a program, and is written no longer than it was: statements and programs. Of programs, in plain words: every row of tokens is read to an end; tokens of a text are what they are alone. Of tokens that are ones: their kinds, and how the program asks for a word. The program's reader: what its methods answer, by what is read. -/
import Derived.Test.YtnnppenlfocgiaaGreatDoorK06
import Derived.Test.YtnnppenlfocgiaaGreatDoorK07
import Derived.Deep.LoopGhost
import Derived.Deep.RegionLaw
namespace Go.Proofs.YtnnppenlfocgiaaGreatDoor
open Go

theorem mkN {k : Int} {t : List UInt8} {kids : List Nd} (hk : kidsOK k kids.length) (hn : hasName k → nameB t = true) (hnn : ¬ hasName k → t = []) (h22 : k ≠ 22 ∧ k ≠ 13 ∧ k ≠ 14) (h6 : k = 6 → kids.head?.bind chainC = some 0)
    (h7 : k = 7 → (kids.head?.bind chainC).isSome = true ∧ kids.head?.map (fun x => x.k) = some 21) (hgo : ∀ j y, kids[j]? = some y → fitsK k kids.length j y.k ∧ isN y) : isN ⟨k, t, 0, kids⟩ := by
  rw [isN]
  refine ⟨hk, hn, fun c _ => hnn c, ⟨fun c => absurd c h22.1, fun c => absurd c h22.2.2⟩, fun c => absurd c h22.2.1, fun _ _ => rfl, h6, h7, ?_⟩
  rw [isN_go]
  intro j y hy
  rw [Nat.zero_add]
  exact hgo j y hy

theorem go1 {k : Int} {y : Nd} (h : fitsK k 1 0 y.k ∧ isN y) : ∀ j z, [y][j]? = some z → fitsK k [y].length j z.k ∧ isN z
  | 0, z, e => by cases e; exact h
  | j + 1, z, e => by simp at e
theorem go2 {k : Int} {y v : Nd} (h : fitsK k 2 0 y.k ∧ isN y) (h2 : fitsK k 2 1 v.k ∧ isN v) : ∀ j z, [y, v][j]? = some z → fitsK k [y, v].length j z.k ∧ isN z
  | 0, z, e => by cases e; exact h
  | 1, z, e => by cases e; exact h2
  | j + 2, z, e => by simp at e
theorem go3 {k : Int} {y v u : Nd} (h : fitsK k 3 0 y.k ∧ isN y) (h2 : fitsK k 3 1 v.k ∧ isN v) (h3 : fitsK k 3 2 u.k ∧ isN u) : ∀ j z, [y, v, u][j]? = some z → fitsK k [y, v, u].length j z.k ∧ isN z
  | 0, z, e => by cases e; exact h
  | 1, z, e => by cases e; exact h2
  | 2, z, e => by cases e; exact h3
  | j + 3, z, e => by simp at e

theorem mkBlock {us : List Nd} (h : ∀ s ∈ us, isN s ∧ statK s.k) : isN (nd 4 us) := by
  refine mkN (by unfold kidsOK; simp) (fun c => by simp only [hasName] at c; omega) (fun _ => rfl) (by decide) (fun c => by omega) (fun c => by omega) (fun j y hy => ?_)
  have := h y (List.mem_of_getElem? hy)
  exact ⟨by unfold fitsK; rw [if_neg (by decide), if_neg (by decide), if_pos rfl]; exact this.2, this.1⟩
theorem cost_block (us : List Nd) : cost (showT (nd 4 us)) = sumS us := by
  have e : showT (nd 4 us) = allT (us.map info) := by show showT ⟨4, [], 0, us⟩ = _; rw [showT_eq]; rfl
  rw [e, cost_all]

theorem e0 {m : Nd} : cost (atT 0 (info m)) = cost (showT m) := by rw [at_eq (Nat.zero_le _)]

theorem sound_stat (f : Nat) (ih : ∀ tag x a l n l1, P f tag x a l = some (.inr (n, l1)) → allV l → Sound tag x a l n l1) :
    ∀ tag x a l n l1, 7 ≤ tag → P (f + 1) tag x a l = some (.inr (n, l1)) → allV l → Sound tag x a l n l1 := by
  intro tag x a l n l1 ht h hv
  have ex : ∀ {l n l1}, P f 0 (nd 0 []) 0 l = some (.inr (n, l1)) → allV l → okE n ∧ allV l1 ∧ cost (showT n) + cost l1 ≤ cost l := fun h hv => by
    obtain ⟨o1, v1, c1⟩ := ih 0 _ _ _ _ _ h hv (by omega)
    rw [e0] at c1
    exact ⟨o1, v1, c1⟩
  have bl : ∀ {l n l1}, P f 7 (nd 4 []) 0 l = some (.inr (n, l1)) → allV l → isN n ∧ n.k = 4 ∧ allV l1 ∧ cost (showT n) + cost l1 ≤ cost l := fun h hv => by
    obtain ⟨us, u1, u2, u3, u4⟩ := ih 7 _ _ _ _ _ h hv [] rfl
    subst u1
    exact ⟨mkBlock u2, rfl, u3, by rw [List.nil_append, cost_block]; exact u4⟩
  have nameNe : ∀ {l}, nameB (tx l) = true → tx l ≠ [] := fun h e => by rw [e] at h; revert h; decide
  match tag, ht, h with
  | 7, _, h =>
    intro ks hks
    subst hks
    rw [P] at h
    by_cases c : tx l = W.end_ ∨ tx l = W.else_
    · rw [if_pos c] at h
      cases h
      exact ⟨[], by simp, fun s hs => by simp at hs, hv, by simp [sumS]⟩
    · rw [if_neg c] at h
      obtain ⟨m, q, h1, h2⟩ := on_inv h
      obtain ⟨i1, i2, v1, c1⟩ := ih 8 _ _ _ _ _ h1 hv
      obtain ⟨us, u1, u2, u3, u4⟩ := ih 7 _ _ _ _ _ h2 v1 _ rfl
      refine ⟨m :: us, by rw [u1]; simp [nd], fun s hs => ?_, u3, by rw [sumS]; omega⟩
      simp at hs
      rcases hs with rfl | hs
      · exact ⟨i1, i2⟩
      · exact u2 s hs
  | 8, _, h =>
    rw [P] at h
    by_cases w1 : tx l = W.local_
    · rw [if_pos w1] at h
      obtain ⟨n1, n2⟩ := needName_inv h
      obtain ⟨n3, n4⟩ := need_inv n2
      obtain ⟨m, q, h1, h2⟩ := on_inv n4
      obtain ⟨n5, n6⟩ := need_inv h2
      cases n6
      obtain ⟨p1, p2⟩ := pass_of w1 (by decide)
      obtain ⟨p3, p4⟩ := pass (nameNe n1)
      obtain ⟨p5, p6⟩ := pass_of n3 (by decide)
      obtain ⟨p7, p8⟩ := pass_of n5 (by decide)
      obtain ⟨o1, v1, c1⟩ := ex h1 (p6 (p4 (p2 hv)))
      refine ⟨mkN (by unfold kidsOK; simp) (fun _ => n1) (fun c => absurd (by simp [hasName]) c) (by decide) (fun c => by omega) (fun c => by omega) (go1 ⟨fits_e (by decide) _ _ _ o1.2, o1.1⟩), by show (5 : Int) ≤ 5 ∧ (5 : Int) ≤ 12; omega, p8 v1, ?_⟩
      rw [show_local]
      simp only [List.cons_append, List.nil_append]
      rw [cost_w, cost_w, cost_s, cost_app, cost_s, cost_nil]
      simp at p1 p5 p7 ⊢
      omega
    rw [if_neg w1] at h
    by_cases w2 : tx l = W.if_
    · rw [if_pos w2] at h
      obtain ⟨m, q, h1, h2⟩ := on_inv h
      obtain ⟨n1, n2⟩ := need_inv h2
      obtain ⟨b, q2, h3, h4⟩ := on_inv n2
      obtain ⟨p1, p2⟩ := pass_of w2 (by decide)
      obtain ⟨p3, p4⟩ := pass_of n1 (by decide)
      obtain ⟨o1, v1, c1⟩ := ex h1 (p2 hv)
      obtain ⟨b1, b2, b3, b4⟩ := bl h3 (p4 v1)
      by_cases w : tx q2 = W.else_
      · rw [if_pos w] at h4
        obtain ⟨d, q3, h5, h6⟩ := on_inv h4
        obtain ⟨n3, n4⟩ := need_inv h6
        cases n4
        obtain ⟨p5, p6⟩ := pass_of w (by decide)
        obtain ⟨p7, p8⟩ := pass_of n3 (by decide)
        obtain ⟨d1, d2, d3, d4⟩ := bl h5 (p6 b3)
        refine ⟨mkN (by unfold kidsOK; simp) (fun c => by simp only [hasName] at c; omega) (fun _ => rfl) (by decide) (fun c => by omega) (fun c => by omega) (go3 ⟨by unfold fitsK; simp; exact o1.2, o1.1⟩ ⟨by unfold fitsK; simp; exact b2, b1⟩ ⟨by unfold fitsK; simp; exact d2, d1⟩), by show (5 : Int) ≤ 8 ∧ (8 : Int) ≤ 12; omega, p8 d3, ?_⟩
        show cost (showT ⟨8, [], 0, [m, b, d]⟩) + _ ≤ _
        rw [show_if3, cost_w, cost_app, cost_w, cost_app, List.cons_append, cost_w, cost_app, cost_w, cost_nil]
        simp at p1 p3 p5 p7 ⊢
        omega
      · rw [if_neg w] at h4
        obtain ⟨n3, n4⟩ := need_inv h4
        cases n4
        obtain ⟨p7, p8⟩ := pass_of n3 (by decide)
        refine ⟨mkN (by unfold kidsOK; simp) (fun c => by simp only [hasName] at c; omega) (fun _ => rfl) (by decide) (fun c => by omega) (fun c => by omega) (go2 ⟨by unfold fitsK; simp; exact o1.2, o1.1⟩ ⟨by unfold fitsK; simp; exact b2, b1⟩), by show (5 : Int) ≤ 8 ∧ (8 : Int) ≤ 12; omega, p8 b3, ?_⟩
        show cost (showT ⟨8, [], 0, [m, b]⟩) + _ ≤ _
        rw [show_if2, cost_w, cost_app, cost_w, cost_app, cost_w, cost_nil]
        simp at p1 p3 p7 ⊢
        omega
    rw [if_neg w2] at h
    by_cases w3 : tx l = W.while_
    · rw [if_pos w3] at h
      obtain ⟨m, q, h1, h2⟩ := on_inv h
      obtain ⟨n1, n2⟩ := need_inv h2
      obtain ⟨b, q2, h3, h4⟩ := on_inv n2
      obtain ⟨n3, n4⟩ := need_inv h4
      cases n4
      obtain ⟨p1, p2⟩ := pass_of w3 (by decide)
      obtain ⟨p3, p4⟩ := pass_of n1 (by decide)
      obtain ⟨p7, p8⟩ := pass_of n3 (by decide)
      obtain ⟨o1, v1, c1⟩ := ex h1 (p2 hv)
      obtain ⟨b1, b2, b3, b4⟩ := bl h3 (p4 v1)
      refine ⟨mkN (by unfold kidsOK; simp) (fun c => by simp only [hasName] at c; omega) (fun _ => rfl) (by decide) (fun c => by omega) (fun c => by omega) (go2 ⟨by unfold fitsK; simp; exact o1.2, o1.1⟩ ⟨by unfold fitsK; simp; exact b2, b1⟩), by show (5 : Int) ≤ 9 ∧ (9 : Int) ≤ 12; omega, p8 b3, ?_⟩
      show cost (showT ⟨9, [], 0, [m, b]⟩) + _ ≤ _
      rw [show_while, cost_w, cost_app, cost_w, cost_app, cost_w, cost_nil]
      simp at p1 p3 p7 ⊢
      omega
    rw [if_neg w3] at h
    by_cases w4 : tx l = W.for_
    · rw [if_pos w4] at h
      obtain ⟨n1, n2⟩ := needName_inv h
      obtain ⟨n3, n4⟩ := need_inv n2
      obtain ⟨m, q, h1, h2⟩ := on_inv n4
      obtain ⟨n5, n6⟩ := need_inv h2
      obtain ⟨m2, q2, h3, h4⟩ := on_inv n6
      obtain ⟨n7, n8⟩ := need_inv h4
      obtain ⟨b, q3, h5, h6⟩ := on_inv n8
      obtain ⟨n9, n10⟩ := need_inv h6
      cases n10
      obtain ⟨p1, p2⟩ := pass_of w4 (by decide)
      obtain ⟨p3, p4⟩ := pass (nameNe n1)
      obtain ⟨p5, p6⟩ := pass_of n3 (by decide)
      obtain ⟨p7, p8⟩ := pass_of n5 (by decide)
      obtain ⟨p9, p10⟩ := pass_of n7 (by decide)
      obtain ⟨p11, p12⟩ := pass_of n9 (by decide)
      obtain ⟨o1, v1, c1⟩ := ex h1 (p6 (p4 (p2 hv)))
      obtain ⟨o2, v2, c2⟩ := ex h3 (p8 v1)
      obtain ⟨b1, b2, b3, b4⟩ := bl h5 (p10 v2)
      refine ⟨mkN (by unfold kidsOK; simp) (fun _ => n1) (fun c => absurd (by simp [hasName]) c) (by decide) (fun c => by omega) (fun c => by omega) (go3 ⟨by unfold fitsK; simp; exact o1.2, o1.1⟩ ⟨by unfold fitsK; simp; exact o2.2, o2.1⟩ ⟨by unfold fitsK; simp; exact b2, b1⟩), by show (5 : Int) ≤ 10 ∧ (10 : Int) ≤ 12; omega, p12 b3, ?_⟩
      rw [show_for]
      simp only [List.cons_append, List.nil_append]
      rw [cost_w, cost_w, cost_s, cost_app, cost_s, cost_app, cost_w, cost_app, cost_w, cost_nil]
      simp at p1 p5 p7 p9 p11 ⊢
      omega
    rw [if_neg w4] at h
    by_cases w5 : tx l = W.return_
    · rw [if_pos w5] at h
      obtain ⟨m, q, h1, h2⟩ := on_inv h
      obtain ⟨n1, n2⟩ := need_inv h2
      cases n2
      obtain ⟨p1, p2⟩ := pass_of w5 (by decide)
      obtain ⟨p3, p4⟩ := pass_of n1 (by decide)
      obtain ⟨o1, v1, c1⟩ := ex h1 (p2 hv)
      refine ⟨mkN (by unfold kidsOK; simp) (fun c => by simp only [hasName] at c; omega) (fun _ => rfl) (by decide) (fun c => by omega) (fun c => by omega) (go1 ⟨fits_e (by decide) _ _ _ o1.2, o1.1⟩), by show (5 : Int) ≤ 11 ∧ (11 : Int) ≤ 12; omega, p4 v1, ?_⟩
      show cost (showT ⟨11, [], 0, [m]⟩) + _ ≤ _
      rw [show_return, cost_w, cost_app, cost_s, cost_nil]
      simp at p1 p3 ⊢
      omega
    rw [if_neg w5] at h
    by_cases w6 : tx l = W.emit_
    · rw [if_pos w6] at h
      obtain ⟨m, q, h1, h2⟩ := on_inv h
      obtain ⟨n1, n2⟩ := need_inv h2
      cases n2
      obtain ⟨p1, p2⟩ := pass_of w6 (by decide)
      obtain ⟨p3, p4⟩ := pass_of n1 (by decide)
      obtain ⟨o1, v1, c1⟩ := ex h1 (p2 hv)
      refine ⟨mkN (by unfold kidsOK; simp) (fun c => by simp only [hasName] at c; omega) (fun _ => rfl) (by decide) (fun c => by omega) (fun c => by omega) (go1 ⟨fits_e (by decide) _ _ _ o1.2, o1.1⟩), by show (5 : Int) ≤ 12 ∧ (12 : Int) ≤ 12; omega, p4 v1, ?_⟩
      show cost (showT ⟨12, [], 0, [m]⟩) + _ ≤ _
      rw [show_emit, cost_w, cost_app, cost_s, cost_nil]
      simp at p1 p3 ⊢
      omega
    rw [if_neg w6] at h
    obtain ⟨n1, n2⟩ := needName_inv h
    obtain ⟨m, q, h1, h2⟩ := on_inv n2
    obtain ⟨n3, n4⟩ := need_inv h2
    cases n4
    obtain ⟨p1, p2⟩ := pass (nameNe n1)
    obtain ⟨p3, p4⟩ := pass_of n3 (by decide)
    obtain ⟨i1, i2, v1, c1⟩ := ih 9 _ _ _ _ _ h1 (p2 hv) (mkName n1) (okE_binds7 (by decide)) (by rw [chainC, if_pos rfl])
    refine ⟨i1, i2, p4 v1, ?_⟩
    have e : showT ⟨18, tx l, 0, []⟩ = [wt (tx l)] := by rw [showT_eq]; rfl
    rw [e, cost_w, cost_nil] at c1
    simp at p3
    omega
  | 9, _, h =>
    intro hx hb hch
    rw [P] at h
    by_cases c1 : tx l = S.lb
    · rw [if_pos c1] at h
      obtain ⟨m, q, h1, h2⟩ := on_inv h
      obtain ⟨o1, v1, b1, k1, k2, _⟩ := ih 5 _ _ _ _ _ h1 hv hx
      obtain ⟨i1, i2, v2, k3⟩ := ih 9 _ _ _ _ _ h2 v1 o1 b1 (by rw [(k2 c1).2]; exact hch)
      rw [at_eq (x := x) (by omega)] at k1
      exact ⟨i1, i2, v2, by omega⟩
    rw [if_neg c1] at h
    by_cases c2 : tx l = S.lp
    · rw [if_pos c2] at h
      obtain ⟨m, q, h1, h2⟩ := on_inv h
      obtain ⟨o1, v1, b1, k1, _, k2⟩ := ih 5 _ _ _ _ _ h1 hv hx
      obtain ⟨i1, i2, v2, k3⟩ := ih 9 _ _ _ _ _ h2 v1 o1 b1 (by rw [(k2 c1).2, hch]; rfl)
      rw [at_eq (x := x) (by omega)] at k1
      exact ⟨i1, i2, v2, by omega⟩
    rw [if_neg c2] at h
    by_cases c3 : a = 0
    · rw [if_pos c3] at h
      obtain ⟨n1, n2⟩ := need_inv h
      obtain ⟨m, q, h1, h2⟩ := on_inv n2
      cases h2
      obtain ⟨p1, p2⟩ := pass_of n1 (by decide)
      obtain ⟨o1, v1, k1⟩ := ex h1 (p2 hv)
      refine ⟨mkN (by unfold kidsOK; simp) (fun c => by simp only [hasName] at c; omega) (fun _ => rfl) (by decide) (fun _ => by simp [hch, c3]) (fun c => by omega) (go2 ⟨fits_e (by decide) _ _ _ hx.2, hx.1⟩ ⟨fits_e (by decide) _ _ _ o1.2, o1.1⟩), by show (5 : Int) ≤ 6 ∧ (6 : Int) ≤ 12; omega, v1, ?_⟩
      show cost (showT ⟨6, [], 0, [x, m]⟩) + _ ≤ _
      rw [show_set, cost_app, cost_s, cost_app, cost_s, cost_nil]
      simp at p1 ⊢
      omega
    rw [if_neg c3] at h
    by_cases c4 : x.k = 21
    · rw [if_pos c4] at h
      cases h
      refine ⟨mkN (by unfold kidsOK; simp) (fun c => by simp only [hasName] at c; omega) (fun _ => rfl) (by decide) (fun c => by omega) (fun _ => ⟨by simp [hch], by simp [c4]⟩) (go1 ⟨fits_e (by decide) _ _ _ hx.2, hx.1⟩), by show (5 : Int) ≤ 7 ∧ (7 : Int) ≤ 12; omega, hv, ?_⟩
      show cost (showT ⟨7, [], 0, [x]⟩) + _ ≤ _
      rw [show_do, cost_app, cost_s, cost_nil]
      simp
      omega
    · rw [if_neg c4] at h; cases h
  | 10, _, h =>
    rw [P] at h
    obtain ⟨n1, n2⟩ := need_inv h
    obtain ⟨n3, n4⟩ := needName_inv n2
    obtain ⟨n5, n6⟩ := need_inv n4
    obtain ⟨p1, p2⟩ := pass_of n1 (by decide)
    obtain ⟨p3, p4⟩ := pass (nameNe n3)
    obtain ⟨p5, p6⟩ := pass_of n5 (by decide)
    have mk : ∀ (us : List Nd) (b : Nd), (∀ p ∈ us, ∃ s, p = (⟨3, s, 0, []⟩ : Nd) ∧ nameB s = true) → isN b → b.k = 4 → isN ⟨2, tx l.tail, 0, us ++ [b]⟩ := fun us b hu hb1 hb2 => by
      refine mkN (by unfold kidsOK; simp) (fun _ => n3) (fun c => absurd (by simp [hasName]) c) (by decide) (fun c => by omega) (fun c => by omega) (fun j y hy => ?_)
      by_cases e : j < us.length
      · rw [List.getElem?_append_left e] at hy
        obtain ⟨s, rfl, hs⟩ := hu y (List.mem_of_getElem? hy)
        refine ⟨by unfold fitsK; rw [if_neg (by decide), if_pos rfl, if_neg (by simp; omega)], ?_⟩
        exact mkN (by unfold kidsOK; simp) (fun _ => hs) (fun c => absurd (by simp [hasName]) c) (by decide) (fun c => by omega) (fun c => by omega) (fun j y hy => by simp at hy)
      · rw [List.getElem?_append_right (by omega)] at hy
        have e2 : j - us.length = 0 := by
          by_cases z : j - us.length = 0
          · exact z
          · rw [List.getElem?_eq_none (by simp; omega)] at hy; cases hy
        rw [e2] at hy
        simp at hy
        subst hy
        exact ⟨by unfold fitsK; rw [if_neg (by decide), if_pos rfl, if_pos (by simp; omega)]; exact hb2, hb1⟩
    have sh : ∀ (us : List Nd) (b : Nd), cost (showT ⟨2, tx l.tail, 0, us ++ [b]⟩) = 9 + ((tx l.tail).length + 1) + cost (roundT (us.map info)) + cost (showT b) + 4 := fun us b => by
      have hsh : showT ⟨2, tx l.tail, 0, us ++ [b]⟩ = [wt W.function_, wt (tx l.tail)] ++ roundT (us.map info) ++ showT b ++ [wt W.end_] := by
        rw [showT_eq]
        unfold comb
        rw [if_neg (by decide), if_pos rfl]
        simp [info]
      rw [hsh, cost_app, cost_app, cost_app, cost_w, cost_w, cost_w, cost_nil]
      simp
    by_cases c : tx l.tail.tail.tail = S.rp
    · rw [if_pos c] at n6
      obtain ⟨b, q, h1, h2⟩ := on_inv n6
      obtain ⟨n7, n8⟩ := need_inv h2
      cases n8
      obtain ⟨p7, p8⟩ := pass_of c (by decide)
      obtain ⟨p9, p10⟩ := pass_of n7 (by decide)
      obtain ⟨b1, b2, b3, b4⟩ := bl h1 (p8 (p6 (p4 (p2 hv))))
      refine ⟨mk [] b (fun p hp => by simp at hp) b1 b2, rfl, p10 b3, ?_⟩
      have := sh [] b
      rw [List.nil_append] at this
      rw [this, cost_round0]
      simp at p1 p5 p7 p9
      omega
    · rw [if_neg c] at n6
      obtain ⟨m, q, h1, h2⟩ := on_inv n6
      obtain ⟨n7, n8⟩ := need_inv h2
      obtain ⟨b, q2, h3, h4⟩ := on_inv n8
      obtain ⟨n9, n10⟩ := need_inv h4
      cases n10
      obtain ⟨us, u1, u2, u3, u4, u5⟩ := ih 11 _ _ _ _ _ h1 (p6 (p4 (p2 hv)))
      obtain ⟨p7, p8⟩ := pass_of n7 (by decide)
      obtain ⟨p9, p10⟩ := pass_of n9 (by decide)
      obtain ⟨b1, b2, b3, b4⟩ := bl h3 (p8 u4)
      have e : m.kids = us := by rw [u2]; simp
      rw [e]
      refine ⟨mk us b u3 b1 b2, rfl, p10 b3, ?_⟩
      rw [sh, cost_round us u1]
      simp at p1 p5 p7 p9
      omega
  | 11, _, h =>
    rw [P] at h
    obtain ⟨n1, n2⟩ := needName_inv h
    obtain ⟨p1, p2⟩ := pass (nameNe n1)
    have hc : cost (showT ⟨3, tx l, 0, []⟩) = (tx l).length + 1 := by
      have e : showT ⟨3, tx l, 0, []⟩ = [wt (tx l)] := by rw [showT_eq]; rfl
      rw [e, cost_w, cost_nil]
    by_cases c : tx l.tail = S.cm
    · rw [if_pos c] at n2
      obtain ⟨p3, p4⟩ := pass_of c (by decide)
      obtain ⟨us, u1, u2, u3, u4, u5⟩ := ih 11 _ _ _ _ _ n2 (p4 (p2 hv))
      refine ⟨⟨3, tx l, 0, []⟩ :: us, by simp, by rw [u2]; simp, fun p hp => ?_, u4, ?_⟩
      · simp at hp
        rcases hp with rfl | hp
        · exact ⟨tx l, rfl, n1⟩
        · exact u3 p hp
      · rw [sumC, hc]
        simp at p3
        omega
    · rw [if_neg c] at n2
      cases n2
      refine ⟨[⟨3, tx l, 0, []⟩], by simp, rfl, fun p hp => by simp at hp; exact ⟨tx l, hp, n1⟩, p2 hv, ?_⟩
      rw [sumC, sumC, hc]
      omega
  | 12, _, h =>
    intro fs hfs
    subst hfs
    rw [P] at h
    by_cases c : l = []
    · rw [if_pos c] at h
      cases h
      exact ⟨[], by simp, fun g hg => by simp at hg, by simp [sumS]⟩
    · rw [if_neg c] at h
      obtain ⟨m, q, h1, h2⟩ := on_inv h
      obtain ⟨i1, i2, v1, c1⟩ := ih 10 _ _ _ _ _ h1 hv
      obtain ⟨us, u1, u2, u3⟩ := ih 12 _ _ _ _ _ h2 v1 _ rfl
      refine ⟨m :: us, by rw [u1]; simp [nd], fun g hg => ?_, by rw [sumS]; omega⟩
      simp at hg
      rcases hg with rfl | hg
      · exact ⟨i1, i2⟩
      · exact u2 g hg
  | n + 13, _, _ => exact trivial

theorem sound_all : ∀ (f tag : Nat) (x : Nd) (a : Nat) (l : List PT) (n : Nd) (l1 : List PT), P f tag x a l = some (.inr (n, l1)) → allV l → Sound tag x a l n l1
  | 0, _, _, _, _, _, _, h, _ => by cases h
  | f + 1, tag, x, a, l, n, l1, h, hv => by
    by_cases c : tag ≤ 6
    · exact sound_expr f (sound_all f) tag x a l n l1 c h hv
    · exact sound_stat f (sound_all f) tag x a l n l1 (by omega) h hv

/-- What is read as a program is one, and is written no longer than its tokens, a blank behind each. -/
theorem unit_sound {l : List PT} {n : Nd} {l1 : List PT} (h : Q 12 (nd 1 []) 0 l (yes n l1)) (hv : allV l) : isN n ∧ n.k = 1 ∧ (textT (showT n)).length ≤ cost l := by
  obtain ⟨f, h⟩ := h
  obtain ⟨us, u1, u2, u3⟩ := sound_all f 12 _ _ _ _ _ h hv [] rfl
  subst u1
  rw [List.nil_append]
  refine ⟨mkN (by unfold kidsOK; simp) (fun c => by simp only [hasName] at c; omega) (fun _ => rfl) (by decide) (fun c => by omega) (fun c => by omega) (fun j y hy => ?_), rfl, ?_⟩
  · have := u2 y (List.mem_of_getElem? hy)
    exact ⟨by unfold fitsK; rw [if_pos rfl]; exact this.2, this.1⟩
  · have e : showT (nd 1 us) = allT (us.map info) := by show showT ⟨1, [], 0, us⟩ = _; rw [showT_eq]; rfl
    have := text_len (showT (nd 1 us))
    rw [e, cost_all] at this
    rw [e]
    omega

end Go.Proofs.YtnnppenlfocgiaaGreatDoor
namespace Go.Proofs.YtnnppenlfocgiaaGreatDoor
open Go

/-- It comes to an end, and fewer tokens than that are left. -/
def Tot (y : PR) (b : Nat) : Prop := ∃ r, y = some r ∧ ∀ n l1, r = .inr (n, l1) → l1.length < b
theorem Tot.mono {y : PR} {b c : Nat} (h : Tot y b) (hbc : b ≤ c) : Tot y c := by
  obtain ⟨r, h1, h2⟩ := h
  exact ⟨r, h1, fun n l1 e => by have := h2 n l1 e; omega⟩
theorem on_tot {x : PR} {g : Nd → List PT → PR} {b c : Nat} (h : Tot x c) (hg : ∀ n l, l.length < c → Tot (g n l) b) : Tot (x.on g) b := by
  obtain ⟨r, rfl, h2⟩ := h
  rcases r with l | ⟨n, l⟩
  · exact ⟨.inl l, rfl, fun n l1 e => by cases e⟩
  · exact hg n l (h2 n l rfl)
theorem ok_tot {n : Nd} {l : List PT} {b : Nat} (h : l.length < b) : Tot (.ok n l) b := ⟨_, rfl, fun m l1 e => by cases e; exact h⟩
theorem no_tot {l : List PT} {b : Nat} : Tot (.no l) b := ⟨_, rfl, fun m l1 e => by cases e⟩
theorem tail_lt {l : List PT} (h : tx l ≠ []) : l.tail.length + 1 = l.length := by
  cases l with
  | nil => exact absurd rfl h
  | cons p l => rfl
theorem need_tot {s : List UInt8} {l : List PT} {g : List PT → PR} {b : Nat} (hs : s ≠ []) (hg : l.tail.length + 1 = l.length → Tot (g l.tail) b) : Tot (need s l g) b := by
  unfold need
  split
  · rename_i c; exact hg (tail_lt (by rw [c]; exact hs))
  · exact no_tot
theorem needName_tot {l : List PT} {g : List UInt8 → List PT → PR} {b : Nat} (hg : l.tail.length + 1 = l.length → Tot (g (tx l) l.tail) b) : Tot (needName l g) b := by
  unfold needName
  split
  · rename_i c; exact hg (tail_lt (fun e => by rw [e] at c; revert c; decide))
  · exact no_tot
theorem ite_tot {c : Prop} [Decidable c] {x y : PR} {b : Nat} (h1 : c → Tot x b) (h2 : ¬ c → Tot y b) : Tot (if c then x else y) b := by
  split
  · exact h1 (by assumption)
  · exact h2 (by assumption)

def rank (tag a : Nat) : Nat :=
  match tag with
  | 0 => 4 + (6 - a)
  | 1 => 3
  | 4 => 2
  | 6 => 11
  | 7 => 2
  | 9 => 2
  | 12 => 2
  | _ => 1
def room (tag : Nat) (l : List PT) : Nat :=
  match tag with
  | 2 | 4 | 7 | 9 | 12 => l.length + 1
  | _ => l.length

theorem tot_all : ∀ (f tag : Nat) (x : Nd) (a : Nat) (l : List PT), tag ≤ 12 → 16 * l.length + rank tag a ≤ f → Tot (P f tag x a l) (room tag l)
  | 0, tag, x, a, l, _, h => by
    exfalso
    have : 1 ≤ rank tag a := by unfold rank; split <;> omega
    omega
  | f + 1, tag, x, a, l, ht, h => by
    have E : ∀ (q : List PT), q.length < l.length → Tot (P f 0 (nd 0 []) 0 q) q.length := fun q hq => tot_all f 0 _ 0 q (by omega) (by simp only [rank]; omega)
    have go : ∀ (t : Nat) (y : Nd) (c : Nat) (q : List PT), t ≤ 12 → q.length < l.length → Tot (P f t y c q) (room t q) := fun t y c q h1 hq => tot_all f t y c q h1 (by
      have : rank t c ≤ 11 := by unfold rank; split <;> omega
      omega)
    match tag, ht, h with
    | 0, _, h =>
      rw [P]
      simp only [rank] at h
      refine ite_tot (fun c => tot_all f 1 _ _ l (by omega) (by simp only [rank]; omega)) (fun c => ?_)
      refine on_tot (tot_all f 0 _ (a + 1) l (by omega) (by simp only [rank]; omega)) (fun n q hq => ?_)
      simp only [room] at hq ⊢
      exact (go 2 n a q (by omega) hq).mono (by simp only [room]; omega)
    | 1, _, h =>
      rw [P]
      simp only [rank] at h
      have un : ∀ (s : List UInt8) (k : Int), s ≠ [] → tx l = s → Tot ((P f 1 (nd 0 []) 0 l.tail).on fun x l => .ok (nd k [x]) l) (room 1 l) := fun s k hs e => by
        have hl := tail_lt (l := l) (by rw [e]; exact hs)
        refine on_tot (go 1 _ 0 l.tail (by omega) (by omega)) (fun n q hq => ok_tot ?_)
        simp only [room] at hq ⊢
        omega
      refine ite_tot (un _ _ (by decide)) (fun _ => ite_tot (un _ _ (by decide)) (fun _ => ite_tot (un _ _ (by decide)) (fun _ => ?_)))
      refine on_tot (tot_all f 3 _ 0 l (by omega) (by simp only [rank]; omega)) (fun n q hq => ?_)
      simp only [room] at hq ⊢
      exact (go 4 n 0 q (by omega) hq).mono (by simp only [room]; omega)
    | 2, _, h =>
      rw [P]
      cases ho : opAt (tx l) with
      | none => exact ok_tot (by simp only [room]; omega)
      | some p =>
        obtain ⟨o, k⟩ := p
        simp only
        refine ite_tot (fun c => ?_) (fun _ => ok_tot (by simp only [room]; omega))
        have hl := tail_lt (op_of_at ho).2
        refine on_tot (go 0 _ (a + 1) l.tail (by omega) (by omega)) (fun n q hq => ?_)
        simp only [room] at hq ⊢
        exact ite_tot (fun _ => ok_tot (by omega)) (fun _ => (go 2 _ a q (by omega) (by omega)).mono (by simp only [room]; omega))
    | 3, _, h =>
      cases l with
      | nil => rw [P]; exact no_tot
      | cons t r =>
        rw [P]
        have hr : ∀ {q : List PT} {n : Nd}, q.length ≤ r.length → Tot (.ok n q) (room 3 (t :: r)) := fun hq => ok_tot (by simp only [room, List.length_cons]; omega)
        refine ite_tot (fun _ => hr (Nat.le_refl _)) (fun _ => ite_tot (fun _ => hr (Nat.le_refl _)) (fun _ => ite_tot (fun _ => ?_) (fun _ => ite_tot (fun _ => hr (Nat.le_refl _)) (fun _ => ite_tot (fun _ => hr (Nat.le_refl _)) (fun _ => ite_tot (fun _ => hr (Nat.le_refl _)) (fun _ => ite_tot (fun _ => ?_) (fun _ => ite_tot (fun _ => ?_) (fun _ => ?_))))))))
        · refine on_tot (E r (by simp)) (fun n q hq => need_tot (by decide) (fun hl => hr (by omega)))
        · exact need_tot (by decide) (fun hl => hr (by omega))
        · refine need_tot (by decide) (fun hl => on_tot (E _ (by rw [List.length_cons]; omega)) (fun n q hq => need_tot (by decide) (fun hl2 => on_tot (E _ (by rw [List.length_cons]; omega)) (fun n2 q2 hq2 => need_tot (by decide) (fun hl3 => hr (by omega))))))
        · exact needName_tot (fun hl => hr (by simp))
    | 4, _, h =>
      rw [P]
      simp only [rank] at h
      refine ite_tot (fun c => ?_) (fun _ => ok_tot (by simp only [room]; omega))
      refine on_tot (tot_all f 5 _ 0 l (by omega) (by simp only [rank]; omega)) (fun n q hq => ?_)
      simp only [room] at hq ⊢
      exact (go 4 n 0 q (by omega) hq).mono (by simp only [room]; omega)
    | 5, _, h =>
      rw [P]
      refine ite_tot (fun c => ?_) (fun _ => need_tot (by decide) (fun hl => ite_tot (fun c2 => ?_) (fun _ => ?_)))
      · have hl := tail_lt (l := l) (by rw [c]; decide)
        exact on_tot (E _ (by omega)) (fun n q hq => need_tot (by decide) (fun hl2 => ok_tot (by simp only [room]; omega)))
      · have hl2 := tail_lt (l := l.tail) (by rw [c2]; decide)
        exact ok_tot (by simp only [room]; omega)
      · exact (go 6 _ 0 l.tail (by omega) (by omega)).mono (by simp only [room]; omega)
    | 6, _, h =>
      rw [P]
      simp only [rank] at h
      refine on_tot (tot_all f 0 _ 0 l (by omega) (by simp only [rank]; omega)) (fun n q hq => ?_)
      simp only [room] at hq ⊢
      refine ite_tot (fun c => ?_) (fun _ => need_tot (by decide) (fun hl => ok_tot (by omega)))
      have hl := tail_lt (l := q) (by rw [c]; decide)
      exact (go 6 _ 0 q.tail (by omega) (by omega)).mono (by simp only [room]; omega)
    | 7, _, h =>
      rw [P]
      simp only [rank] at h
      refine ite_tot (fun _ => ok_tot (by simp only [room]; omega)) (fun _ => ?_)
      refine on_tot (tot_all f 8 _ 0 l (by omega) (by simp only [rank]; omega)) (fun n q hq => ?_)
      simp only [room] at hq ⊢
      exact (go 7 _ 0 q (by omega) hq).mono (by simp only [room]; omega)
    | 8, _, h =>
      rw [P]
      have B : ∀ (q : List PT), q.length < l.length → Tot (P f 7 (nd 4 []) 0 q) (q.length + 1) := fun q hq => go 7 _ 0 q (by omega) hq
      refine ite_tot (fun c => ?_) (fun _ => ite_tot (fun c => ?_) (fun _ => ite_tot (fun c => ?_) (fun _ => ite_tot (fun c => ?_) (fun _ => ite_tot (fun c => ?_) (fun _ => ite_tot (fun c => ?_) (fun _ => ?_))))))
      · have hl := tail_lt (l := l) (by rw [c]; decide)
        exact needName_tot (fun h1 => need_tot (by decide) (fun h2 => on_tot (E _ (by omega)) (fun n q hq => need_tot (by decide) (fun h3 => ok_tot (by simp only [room]; omega)))))
      · have hl := tail_lt (l := l) (by rw [c]; decide)
        exact on_tot (E _ (by omega)) (fun n q hq => need_tot (by decide) (fun h2 => on_tot (B _ (by omega)) (fun b q2 hq2 => ite_tot (fun c2 => on_tot (B _ (by have := tail_lt (l := q2) (by rw [c2]; decide); omega)) (fun d q3 hq3 => need_tot (by decide) (fun h3 => ok_tot (by have := tail_lt (l := q2) (by rw [c2]; decide); simp only [room]; omega)))) (fun _ => need_tot (by decide) (fun h3 => ok_tot (by simp only [room]; omega))))))
      · have hl := tail_lt (l := l) (by rw [c]; decide)
        exact on_tot (E _ (by omega)) (fun n q hq => need_tot (by decide) (fun h2 => on_tot (B _ (by omega)) (fun b q2 hq2 => need_tot (by decide) (fun h3 => ok_tot (by simp only [room]; omega)))))
      · have hl := tail_lt (l := l) (by rw [c]; decide)
        exact needName_tot (fun h1 => need_tot (by decide) (fun h2 => on_tot (E _ (by omega)) (fun n q hq => need_tot (by decide) (fun h3 => on_tot (E _ (by omega)) (fun n2 q2 hq2 => need_tot (by decide) (fun h4 => on_tot (B _ (by omega)) (fun b q3 hq3 => need_tot (by decide) (fun h5 => ok_tot (by simp only [room]; omega)))))))))
      · have hl := tail_lt (l := l) (by rw [c]; decide)
        exact on_tot (E _ (by omega)) (fun n q hq => need_tot (by decide) (fun h2 => ok_tot (by simp only [room]; omega)))
      · have hl := tail_lt (l := l) (by rw [c]; decide)
        exact on_tot (E _ (by omega)) (fun n q hq => need_tot (by decide) (fun h2 => ok_tot (by simp only [room]; omega)))
      · exact needName_tot (fun h1 => on_tot (go 9 _ 0 l.tail (by omega) (by omega)) (fun n q hq => need_tot (by decide) (fun h2 => ok_tot (by simp only [room] at hq ⊢; omega))))
    | 9, _, h =>
      rw [P]
      simp only [rank] at h
      have five : ∀ c, Tot ((P f 5 x 0 l).on fun n l => P f 9 n c l) (room 9 l) := fun c => by
        refine on_tot (tot_all f 5 _ 0 l (by omega) (by simp only [rank]; omega)) (fun n q hq => ?_)
        simp only [room] at hq ⊢
        exact (go 9 n c q (by omega) hq).mono (by simp only [room]; omega)
      refine ite_tot (fun _ => five a) (fun _ => ite_tot (fun _ => five (a + 1)) (fun _ => ite_tot (fun _ => ?_) (fun _ => ite_tot (fun _ => ok_tot (by simp only [room]; omega)) (fun _ => no_tot))))
      exact need_tot (by decide) (fun hl => on_tot (E _ (by omega)) (fun n q hq => ok_tot (by simp only [room]; omega)))
    | 10, _, h =>
      rw [P]
      have B : ∀ (q : List PT), q.length < l.length → Tot (P f 7 (nd 4 []) 0 q) (q.length + 1) := fun q hq => go 7 _ 0 q (by omega) hq
      refine need_tot (by decide) (fun h1 => needName_tot (fun h2 => need_tot (by decide) (fun h3 => ite_tot (fun c => ?_) (fun _ => ?_))))
      · have hl := tail_lt (l := l.tail.tail.tail) (by rw [c]; decide)
        exact on_tot (B _ (by omega)) (fun b q hq => need_tot (by decide) (fun h4 => ok_tot (by simp only [room]; omega)))
      · exact on_tot (go 11 _ 0 _ (by omega) (by omega)) (fun m q hq => need_tot (by decide) (fun h4 => on_tot (B _ (by simp only [room] at hq; omega)) (fun b q2 hq2 => need_tot (by decide) (fun h5 => ok_tot (by simp only [room] at hq ⊢; omega)))))
    | 11, _, h =>
      rw [P]
      refine needName_tot (fun h1 => ite_tot (fun c => ?_) (fun _ => ok_tot (by simp only [room]; omega)))
      have hl := tail_lt (l := l.tail) (by rw [c]; decide)
      exact (go 11 _ 0 l.tail.tail (by omega) (by omega)).mono (by simp only [room]; omega)
    | 12, _, h =>
      rw [P]
      simp only [rank] at h
      refine ite_tot (fun _ => ok_tot (by simp only [room]; omega)) (fun _ => ?_)
      refine on_tot (tot_all f 10 _ 0 l (by omega) (by simp only [rank]; omega)) (fun n q hq => ?_)
      simp only [room] at hq ⊢
      exact (go 12 _ 0 q (by omega) hq).mono (by simp only [room]; omega)

theorem Q_det {tag : Nat} {x : Nd} {a : Nat} {l : List PT} {r r' : List PT ⊕ (Nd × List PT)} (h : Q tag x a l r) (h' : Q tag x a l r') : r = r' := by
  obtain ⟨f, h⟩ := h
  obtain ⟨g, h'⟩ := h'
  have e1 := P_mono (show f ≤ f + g by omega) h
  have e2 := P_mono (show g ≤ f + g by omega) h'
  rw [e1] at e2
  exact Option.some.inj e2
theorem runN_self {p : UInt8 → Bool} (l : List UInt8) : runN p (l.take (runN p l)) = runN p l := by
  have hn := runN_le p l
  have hl : (l.take (runN p l)).length = runN p l := by rw [List.length_take]; omega
  refine runN_eq p _ _ (by omega) (fun i d hi hd => ?_) (fun d hd => ?_)
  · rw [List.getElem?_take_of_lt hi] at hd
    exact runN_all p l i hi d hd
  · rw [List.getElem?_eq_none (by omega)] at hd; cases hd
theorem tok_alone {l : List UInt8} {k : Int} {t : List UInt8} {n : Nat} (h : tokR l = .tok k t n) : tokR (l.take n) = .tok k t n := by
  have hs := tok_size h
  cases l with
  | nil => simp [tokR] at h
  | cons c q =>
    obtain ⟨m, rfl⟩ : ∃ m, n = m + 1 := ⟨n - 1, by omega⟩
    have e0 : (c :: q).take (m + 1) = c :: q.take m := by simp
    have et : ((c :: q).take (m + 1)).take (m + 1) = (c :: q).take (m + 1) := by rw [List.take_take, Nat.min_self]
    unfold tokR at h
    simp only at h
    split at h
    · rename_i hc
      split at h
      · cases h
      · rename_i h16
        have hr := runN_self (p := rowB) (c :: q)
        obtain ⟨h1, h2, h3⟩ := TokR.inj h
        subst h1 h2
        rw [h3] at hr h16
        rw [h3]
        rw [e0] at hr et ⊢
        unfold tokR
        simp only
        rw [if_pos hc, hr, if_neg h16, et]
    split at h
    · rename_i hl hc
      split at h
      · rename_i hz
        have hr := runN_self (p := rowB) (c :: q)
        obtain ⟨h1, h2, h3⟩ := TokR.inj h
        subst h1 h2
        rw [h3] at hr hz
        rw [h3]
        rw [e0] at hr et hz ⊢
        unfold tokR
        simp only
        rw [if_neg hl, if_pos hc, hr, et, if_pos hz]
      · cases h
    split at h
    · rename_i hl hd hc
      split at h
      · rename_i hq
        split at h
        · cases h
        · rename_i h300
          obtain ⟨h1, h2, h3⟩ := TokR.inj h
          obtain rfl : m = runN txtB q + 1 := by omega
          subst h1 h2
          clear h3
          have hlt : runN txtB q < q.length := by
            by_cases hh : runN txtB q < q.length
            · exact hh
            · rw [List.getElem?_eq_none (by omega)] at hq; cases hq
          have hq1 : q.take (runN txtB q + 1) = q.take (runN txtB q) ++ 34 :: [] := by
            rw [List.take_add_one, hq]; rfl
          have hr := runN_again (p := txtB) (l := q) (r := []) (c := 34) (by decide)
          rw [e0, hq1]
          unfold tokR
          simp only
          rw [if_neg hl, if_neg hd, if_pos hc, hr, getElem?_take_at (by omega), if_pos rfl, if_neg h300, take_again (by omega)]
      · cases h
    · rename_i hl hd hc
      split at h
      · cases h
      · rename_i hz
        obtain ⟨h1, h2, h3⟩ := TokR.inj h
        subst h1 h2
        rw [h3]
        have hsg : signN ((c :: q).take (m + 1)) = m + 1 := by
          rw [e0]
          unfold signN at h3 ⊢
          simp only at h3 ⊢
          split at h3
          · rename_i h2
            obtain rfl : m = 1 := by omega
            cases q with
            | nil => simp at hs
            | cons d q =>
              have : sign2 (c :: (d :: q).take 1) = sign2 (c :: d :: q) := by simp [sign2]
              rw [this, if_pos h2]
          · split at h3
            · rename_i h2
              obtain rfl : m = 0 := by omega
              have : sign2 (c :: q.take 0) = false := by simp [sign2]
              rw [this, if_neg (by simp), if_pos h2]
            · omega
        rw [e0] at hsg et ⊢
        unfold tokR
        simp only
        rw [if_neg hl, if_neg hd, if_neg hc, hsg, et]
        rfl
theorem gap_alone {l : List UInt8} {k : Int} {t : List UInt8} {n : Nat} (h0 : gap1 l = 0) (h : tokR l = .tok k t n) : gap1 (l.take n) = 0 := by
  have hs := tok_size h
  cases l with
  | nil => simp [tokR] at h
  | cons c q =>
    obtain ⟨m, rfl⟩ : ∃ m, n = m + 1 := ⟨n - 1, by omega⟩
    have e0 : (c :: q).take (m + 1) = c :: q.take m := by simp
    rw [e0]
    unfold gap1 at h0 ⊢
    simp only at h0 ⊢
    split at h0
    · omega
    · rename_i h1
      rw [if_neg h1]
      split at h0
      · rename_i h2
        have : 0 < runN noteB (c :: q) := by
          have : ¬ c.toNat = 10 := by omega
          simp [runN, noteB, this]
        omega
      · rename_i h2
        rw [if_neg]
        rintro ⟨h3, h4⟩
        cases q with
        | nil => simp at h4
        | cons d q =>
          cases m with
          | zero => simp at h4
          | succ m => exact h2 ⟨h3, by simpa using h4⟩

/-- The tokens of a text are what they are alone, and take no more than twice its bytes. -/
theorem scan_valid : ∀ (m : Nat) (l : List UInt8) (a : Nat) (ts : List Tok), l.length ≤ m → scanR a l = .toks ts → allV (ts.map (fun t => (t.k, t.t))) ∧ cost (ts.map (fun t => (t.k, t.t))) ≤ 2 * l.length
  | 0, l, a, ts, hm, h => by
    obtain rfl : l = [] := List.eq_nil_of_length_eq_zero (by omega)
    rw [scanR_nil] at h
    cases h
    exact ⟨allV_nil, by simp [cost]⟩
  | m + 1, l, a, ts, hm, h => by
    by_cases h0 : l = []
    · subst h0
      rw [scanR_nil] at h
      cases h
      exact ⟨allV_nil, by simp [cost]⟩
    by_cases h1 : gap1 l = 0
    · cases ht : tokR l using TokR.byCases with
      | bad e => rw [scanR_bad h0 h1 ht] at h; cases h
      | tok k t n =>
        have hs := tok_size ht
        rw [scanR_tok h0 h1 ht] at h
        cases hq : scanR (a + n) (l.drop n) using ScanR.byCases with
        | bad e p => rw [hq] at h; cases h
        | toks us =>
          rw [hq] at h
          cases h
          obtain ⟨ih1, ih2⟩ := scan_valid m (l.drop n) _ us (by simp; omega) hq
          have hb : bytesOf (k, t) = l.take n := by
            unfold bytesOf
            simp only
            exact (tok_again ht []).2
          have hl : (l.take n).length = n := by rw [List.length_take]; omega
          have hv : valid (k, t) := by
            unfold valid
            rw [hb, hl]
            exact ⟨tok_alone ht, gap_alone h1 ht⟩
          have e : ([(⟨k, t, a⟩ : Tok)] ++ us).map (fun t => (t.k, t.t)) = (k, t) :: us.map (fun t => (t.k, t.t)) := by simp
          rw [e]
          refine ⟨allV_cons hv ih1, ?_⟩
          rw [cost, hb, hl]
          simp at ih2
          omega
    · have h2 := gap1_le l
      rw [scanR_gap h1] at h
      obtain ⟨ih1, ih2⟩ := scan_valid m (l.drop (gap1 l)) _ ts (by simp; omega) h
      refine ⟨ih1, ?_⟩
      simp at ih2
      omega

end Go.Proofs.YtnnppenlfocgiaaGreatDoor
namespace Go.Proofs.YtnnppenlfocgiaaGreatDoor
open Go

theorem all_run {p : UInt8 → Bool} {l : List UInt8} (h : runN p l = l.length) : l.all p = true := by
  rw [List.all_eq_true]
  intro x hx
  obtain ⟨i, hi⟩ := List.getElem?_of_mem hx
  exact runN_all p l i (by have := (List.getElem?_eq_some_iff.1 hi).1; omega) x hi
/-- What a token may be. -/
theorem kinds_of_valid {k : Int} {t : List UInt8} (h : valid (k, t)) :
    (k = 1 ∧ t.length ≤ 16 ∧ t.all rowB = true ∧ ∃ c r, t = c :: r ∧ letB c = true) ∨ (k = 2 ∧ ∃ c r, t = c :: r ∧ digB c = true) ∨ k = 3 ∨ (k = 4 ∧ ∃ c r, t = c :: r ∧ letB c = false ∧ digB c = false) := by
  by_cases h3 : k = 3
  · exact .inr (.inr (.inl h3))
  have hb : bytesOf (k, t) = t := by unfold bytesOf; rw [if_neg h3]
  have h1 := h.1
  rw [hb] at h1
  simp only at h1
  cases t with
  | nil => simp [tokR] at h1
  | cons c r =>
    unfold tokR at h1
    simp only at h1
    split at h1
    · rename_i hc
      split at h1
      · cases h1
      · rename_i h16
        obtain ⟨e1, _, e3⟩ := TokR.inj h1
        exact .inl ⟨e1.symm, by rw [← e3]; omega, all_run e3, c, r, rfl, hc⟩
    split at h1
    · rename_i hc
      split at h1
      · exact .inr (.inl ⟨(TokR.inj h1).1.symm, c, r, rfl, hc⟩)
      · cases h1
    split at h1
    · split at h1
      · split at h1
        · cases h1
        · exact absurd (TokR.inj h1).1.symm h3
      · cases h1
    rename_i a1 a2 _
    split at h1
    · cases h1
    · exact .inr (.inr (.inr ⟨(TokR.inj h1).1.symm, c, r, rfl, by simpa using a1, by simpa using a2⟩))

/-- What the token here says, to the program. -/
def wdl : List PT → List UInt8
  | [] => []
  | p :: _ => if p.1 = 3 then [] else p.2
def plainS (s : List UInt8) : Prop := ∃ c r, s = c :: r ∧ digB c = false
theorem wdl_tx {l : List PT} (hv : allV l) {s : List UInt8} (hs : plainS s) : wdl l = s ↔ tx l = s := by
  obtain ⟨c, r, rfl, hc⟩ := hs
  cases l with
  | nil => simp [wdl, tx]
  | cons p l =>
    obtain ⟨k, t⟩ := p
    have := kinds_of_valid (hv (k, t) (by simp))
    unfold wdl tx
    simp only
    by_cases h3 : k = 3
    · simp [h3]
    · rw [if_neg h3]
      by_cases h2 : k = 2
      · rw [if_pos (.inl h2)]
        rcases this with ⟨h, _⟩ | ⟨_, c', r', rfl, hd⟩ | h | ⟨h, _⟩
        · omega
        · constructor
          · intro e
            have : c' = c := by simpa using (List.cons.inj e).1
            rw [this, hc] at hd
            cases hd
          · intro e; cases e
        · omega
        · omega
      · rw [if_neg (by omega)]
theorem name_is {k : Int} {t : List UInt8} {l : List PT} (hv : valid (k, t)) : nameB (tx ((k, t) :: l)) = true ↔ k = 1 ∧ reserved.contains t = false := by
  have hk := kinds_of_valid hv
  unfold tx
  simp only
  by_cases h23 : k = 2 ∨ k = 3
  · rw [if_pos h23]
    constructor
    · intro h; exact absurd h (by decide)
    · rintro ⟨h, _⟩; omega
  · rw [if_neg h23]
    rcases hk with ⟨h, h16, ha, c, r, rfl, hc⟩ | ⟨h, _⟩ | h | ⟨h, c, r, rfl, hc, _⟩
    · unfold nameB
      simp only [Bool.and_eq_true, Bool.not_eq_true', decide_eq_true_eq]
      constructor
      · rintro ⟨_, h⟩; exact ⟨by assumption, h⟩
      · rintro ⟨_, hr⟩
        exact ⟨⟨⟨⟨by simp, h16⟩, by simpa using hc⟩, ha⟩, hr⟩
    · omega
    · omega
    · constructor
      · intro hn
        unfold nameB at hn
        simp [hc] at hn
      · rintro ⟨h1, _⟩; omega
end Go.Proofs.YtnnppenlfocgiaaGreatDoor
namespace Go.Proofs.YtnnppenlfocgiaaGreatDoor
open Go.RowKit
open Go

abbrev PRes : Type := List PT ⊕ (Nd × List PT)
abbrev ndv (n : Nd) (b : Option Addr) (cap : Nat) : Value := .agg #[.int .i64 n.k, sk n.t, .int .i64 n.n, .slice b n.kids.length cap]
abbrev nbx (n : Nd) (b : Option Addr) (cap : Nat) : Obj := .cells #[.int .i64 n.k, sk n.t, .int .i64 n.n, .slice b n.kids.length cap] 24
abbrev zbx : Obj := .cells #[.int .i64 0, .string ⟨#[]⟩, .int .i64 0, .slice none 0 0] 24
/-- Four cells. -/
structure In4 (W : World) (B : Nat) (a b c d : Value) : Prop where
  c0 : W.cell? ⟨B, 0, none⟩ = some a
  c1 : W.cell? ⟨B, 1, none⟩ = some b
  c2 : W.cell? ⟨B, 2, none⟩ = some c
  c3 : W.cell? ⟨B, 3, none⟩ = some d
  f0 : W.frozen? ⟨B, 0, none⟩ = false
  f1 : W.frozen? ⟨B, 1, none⟩ = false
  f2 : W.frozen? ⟨B, 2, none⟩ = false
  f3 : W.frozen? ⟨B, 3, none⟩ = false
theorem in4 {W : World} {B : Nat} {a b c d : Value} (h : W.heap[B]? = some (.cells #[a, b, c, d] 24)) : In4 W B a b c d := ⟨cell_block h rfl, cell_block h rfl, cell_block h rfl, cell_block h rfl, frozen_block h, frozen_block h, frozen_block h, frozen_block h⟩
structure In4A (W : World) (B : Nat) (a b c d : Value) : Prop where
  c0 : ∀ o, (W.alloc o).cell? ⟨B, 0, none⟩ = some a
  c1 : ∀ o, (W.alloc o).cell? ⟨B, 1, none⟩ = some b
  c2 : ∀ o, (W.alloc o).cell? ⟨B, 2, none⟩ = some c
  c3 : ∀ o, (W.alloc o).cell? ⟨B, 3, none⟩ = some d
  f0 : ∀ o, (W.alloc o).frozen? ⟨B, 0, none⟩ = false
  f1 : ∀ o, (W.alloc o).frozen? ⟨B, 1, none⟩ = false
  f2 : ∀ o, (W.alloc o).frozen? ⟨B, 2, none⟩ = false
  f3 : ∀ o, (W.alloc o).frozen? ⟨B, 3, none⟩ = false
theorem in4a {W : World} {B : Nat} {a b c d : Value} (h : W.heap[B]? = some (.cells #[a, b, c, d] 24)) : In4A W B a b c d :=
  ⟨fun o => (in4 (block_alloc o h)).c0, fun o => (in4 (block_alloc o h)).c1, fun o => (in4 (block_alloc o h)).c2, fun o => (in4 (block_alloc o h)).c3, fun o => (in4 (block_alloc o h)).f0, fun o => (in4 (block_alloc o h)).f1, fun o => (in4 (block_alloc o h)).f2, fun o => (in4 (block_alloc o h)).f3⟩
abbrev put4 (W : World) (B : Nat) (a b c d : Value) : World := (((W.setCell ⟨B, 0, none⟩ a).setCell ⟨B, 1, none⟩ b).setCell ⟨B, 2, none⟩ c).setCell ⟨B, 3, none⟩ d
theorem put4_same {W : World} {B : Nat} {a b c d : Value} (a' b' c' d' : Value) (h : W.heap[B]? = some (.cells #[a, b, c, d] 24)) : (put4 W B a' b' c' d').heap[B]? = some (.cells #[a', b', c', d'] 24) := set_block _ (set_block _ (set_block _ (set_block _ h)))
theorem put4_keeps {S : Nat → Prop} {w W : World} (h : Keeps S w W) (B : Nat) (a b c d : Value) (hB : w.heap.size ≤ B) : Keeps S w (put4 W B a b c d) :=
  (((h.set B 0 a (fun h => by omega)).set B 1 b (fun h => by omega)).set B 2 c (fun h => by omega)).set B 3 d (fun h => by omega)
theorem put4_other {W : World} {B C : Nat} (a b c d : Value) (h : C ≠ B) : (put4 W B a b c d).heap[C]? = W.heap[C]? := (set1_other _ _ h).trans ((set1_other _ _ h).trans ((set1_other _ _ h).trans (set1_other _ _ h)))
theorem put4_self (W : World) (B : Nat) (a b c d : Value) : Keeps (fun k => k = B) W (put4 W B a b c d) :=
  ((((Keeps.refl (fun k => k = B) W).set B 0 a (fun _ => rfl)).set B 1 b (fun _ => rfl)).set B 2 c (fun _ => rfl)).set B 3 d (fun _ => rfl)
theorem NdV.put4 {S : Nat → Prop} {W : World} {x : Nd} {v : Value} (h : NdV S W x v) (B : Nat) (a b c d : Value) (hB : ∀ g, S g → g ≠ B) : NdV S (put4 W B a b c d) x v := h.keep (put4_self W B a b c d) (fun g hg _ => hB g hg)
theorem Rd.put4 {W : World} {B : Nat} {ts : List Tok} {i : Nat} (h : Rd W B ts i) (C : Nat) (a b c d : Value) (hC : B < C) : Rd (put4 W C a b c d) B ts i := h.keep (put4_self W C a b c d) (fun g hg => by omega)

/-- A reader that may go on. -/
structure Ctx (w : World) (B : Nat) (ts : List Tok) (i : Nat) : Prop where
  V : allV (ts.map pt)
  R : Rd w B ts i
theorem Ctx.below {w u : World} {B : Nat} {ts : List Tok} {i : Nat} (h : Ctx w B ts i) (hb : Below w.heap.size w u) : Ctx u B ts i := ⟨h.V, h.R.below hb⟩
theorem Ctx.on {w u : World} {B : Nat} {ts : List Tok} {i j : Nat} (h : Ctx w B ts i) (hR : Rd u B ts j) : Ctx u B ts j := ⟨h.V, hR⟩
theorem allV_rest {ts : List Tok} (h : allV (ts.map pt)) (i : Nat) : allV (rest ts i) := fun p hp => h p (by
  unfold rest at hp
  obtain ⟨x, hx, rfl⟩ := List.mem_map.1 hp
  exact List.mem_map.2 ⟨x, List.mem_of_mem_drop hx, rfl⟩)
theorem wd_rest (ts : List Tok) (i : Nat) : wd ts i = wdl (rest ts i) := by
  unfold wd
  cases h : ts[i]? with
  | none => rw [rest_end (List.getElem?_eq_none_iff.1 h)]; rfl
  | some x => rw [rest_cons h]; rfl
theorem Ctx.is {w : World} {B : Nat} {ts : List Tok} {i : Nat} (h : Ctx w B ts i) {s : List UInt8} (hs : plainS s) : wd ts i = s ↔ tx (rest ts i) = s := by
  rw [wd_rest]
  exact wdl_tx (allV_rest h.V i) hs
theorem tx_lt {ts : List Tok} {i : Nat} {s : List UInt8} (h : tx (rest ts i) = s) (hs : s ≠ []) : i < ts.length := by
  rcases Nat.lt_or_ge i ts.length with h' | h'
  · exact h'
  · rw [rest_end h'] at h
    exact absurd h.symm hs
theorem rest_tail (ts : List Tok) (i : Nat) : (rest ts i).tail = rest ts (i + 1) := by
  unfold rest
  rw [← List.map_tail, List.tail_drop]
theorem plain_ne {s : List UInt8} (h : plainS s) : s ≠ [] := by
  obtain ⟨c, r, rfl, _⟩ := h
  simp

abbrev no : Nat → Prop := fun _ => False
/-- What a method does. -/
def PAns (S : Nat → Prop) (w : World) (B : Nat) (ts : List Tok) (r : PRes) (e : Ending) (w' : World) : Prop :=
  match r with
  | .inl l => ∃ i, rest ts i = l ∧ i ≤ ts.length ∧ e = .panicked (pan (gv ts i)) ∧ Keeps (fun k => k = B) w w'
  | .inr (n, l) => ∃ i b cap, rest ts i = l ∧ e = .returned (ndv n b cap) ∧ NdV (fun g => S g ∨ w.heap.size ≤ g) w' n (ndv n b cap) ∧ Rd w' B ts i ∧ Keeps (fun k => k = B) w w'

/-- Two nodes, one behind the other in a new block, are a node's kids; it stands in a box. -/
theorem pair_box {D : Nat → Prop} {w2 : World} {t : Nat} {x y : Nd} {b b1 : Option Addr} {cap cap1 : Nat} {a0 a1 a2 a3 : Value} (k n : Int) (hx : NdV D w2 x (ndv x b cap)) (hy : NdV D w2 y (ndv y b1 cap1)) (hD : ∀ g, D g → g ≠ t) (hnew : D w2.heap.size) (g : w2.heap[t]? = some (.cells #[a0, a1, a2, a3] 24)) {W : World}
    (hW : put4 (w2.alloc (.cells #[.int .i64 x.k, sk x.t, .int .i64 x.n, .slice b x.kids.length cap, .int .i64 y.k, sk y.t, .int .i64 y.n, .slice b1 y.kids.length cap1] 24)) t (.int .i64 k) (sk []) (.int .i64 n) (.slice (some ⟨w2.heap.size, 0, none⟩) 2 2) = W) :
    NdV D W ⟨k, [], n, [x, y]⟩ (ndv ⟨k, [], n, [x, y]⟩ (some ⟨w2.heap.size, 0, none⟩) 2) ∧ W.heap[t]? = some (nbx ⟨k, [], n, [x, y]⟩ (some ⟨w2.heap.size, 0, none⟩) 2) ∧ Keeps (fun q => q = t) w2 W := by
  subst hW
  have hb := ext_alloc (Below.refl w2.heap.size w2) (.cells #[.int .i64 x.k, sk x.t, .int .i64 x.n, .slice b x.kids.length cap, .int .i64 y.k, sk y.t, .int .i64 y.n, .slice b1 y.kids.length cap1] 24)
  refine ⟨?_, put4_same _ _ _ _ (block_alloc _ g), (Keeps.of_below hb).trans (put4_self _ _ _ _ _ _)⟩
  refine NdV.put4 ?_ _ _ _ _ _ hD
  refine (Row.two hnew ?_ ?_ (alloc_new w2 _)).node k [] n
  · exact (hx.weak (S' := fun q => D q ∧ q ≠ w2.heap.size) (fun g hg hlt => ⟨hg, by omega⟩)).below hb
  · exact (hy.weak (S' := fun q => D q ∧ q ≠ w2.heap.size) (fun g hg hlt => ⟨hg, by omega⟩)).below hb
theorem one_box {D : Nat → Prop} {w2 : World} {t : Nat} {x : Nd} {b : Option Addr} {cap : Nat} {a0 a1 a2 a3 : Value} (k n : Int) (hx : NdV D w2 x (ndv x b cap)) (hD : ∀ g, D g → g ≠ t) (hnew : D w2.heap.size) (g : w2.heap[t]? = some (.cells #[a0, a1, a2, a3] 24)) {W : World}
    (hW : put4 (w2.alloc (nbx x b cap)) t (.int .i64 k) (sk []) (.int .i64 n) (.slice (some ⟨w2.heap.size, 0, none⟩) 1 1) = W) :
    Row D W (.slice (some ⟨w2.heap.size, 0, none⟩) 1 1) [x] ∧ W.heap[t]? = some (nbx ⟨k, [], n, [x]⟩ (some ⟨w2.heap.size, 0, none⟩) 1) ∧ Keeps (fun q => q = t) w2 W := by
  subst hW
  have hb := ext_alloc (Below.refl w2.heap.size w2) (nbx x b cap)
  refine ⟨?_, put4_same _ _ _ _ (block_alloc _ g), (Keeps.of_below hb).trans (put4_self _ _ _ _ _ _)⟩
  refine Row.keep ?_ (put4_self _ _ _ _ _ _) (fun g hg _ => hD g hg)
  exact Row.one hnew ((hx.weak (S' := fun q => D q ∧ q ≠ w2.heap.size) (fun g hg hlt => ⟨hg, by omega⟩)).below hb) (alloc_new w2 _)
theorem Keeps.box {S : Nat → Prop} {W W' : World} {t : Nat} {o : Obj} (hk : Keeps S W W') (g : W.heap[t]? = some o) (hn : ¬ S t) : W'.heap[t]? = some o := (hk.block t (block_lt g) hn).trans g
theorem cells_of (y : Nd) (b : Option Addr) (cap : Nat) {W : World} {g : Nat} (h : W.heap[g]? = some (nbx y b cap)) : ∀ j u, [Value.int .i64 y.k, sk y.t, .int .i64 y.n, .slice b y.kids.length cap][j]? = some u → W.cell? ((⟨g, 0, none⟩ : Addr).add j) = some u := World.news_of_block (cs := #[.int .i64 y.k, sk y.t, .int .i64 y.n, .slice b y.kids.length cap]) h
/-- One kid more, in the row and in the box. -/
theorem kids_step {D : Nat → Prop} {lo : Nat} {W w3 : World} {t : Nat} {A0 A1 A2 : Value} {ks : List Nd} {b : Option Addr} {cap : Nat} {y : Nd} {b1 : Option Addr} {cap1 : Nat} {xs : List Value} {g cap3 : Nat}
    (ho : W.ownsRow 0 24 4 (.slice b ks.length cap) ks.length xs) (hs : ∀ q, Value.ownBlock (.slice b ks.length cap) = some q → D q) (hn : ∀ j y, ks[j]? = some y → NdAt (fun g => D g ∧ some g ≠ Value.ownBlock (.slice b ks.length cap)) W y (fun i => if i < 4 then xs[j * 4 + i]? else none))
    (hy : NdV (fun q => D q ∧ some q ≠ Value.ownBlock (.slice b ks.length cap)) W y (ndv y b1 cap1)) (hD : ∀ q, D q → q ≠ t) (hnew : ∀ q, W.heap.size ≤ q → D q) (hlo : ∀ q, Value.ownBlock (.slice b ks.length cap) = some q → lo ≤ q) (hlo2 : lo ≤ W.heap.size)
    (hb : W.heap[t]? = some (.cells #[A0, A1, A2, .slice b ks.length cap] 24))
    (hown : w3.ownsRow 0 24 4 (.slice (some ⟨g, 0, none⟩) (ks.length + 1) cap3) (ks.length + 1) (xs ++ [.int .i64 y.k, sk y.t, .int .i64 y.n, .slice b1 y.kids.length cap1])) (hgrow : W.grownBy w3 (Value.ownBlock (.slice b ks.length cap))) (hat : Value.ownBlock (.slice b ks.length cap) = some g ∨ g = W.heap.size) {W4 : World}
    (hW4 : w3.setCell ⟨t, 3, none⟩ (.slice (some ⟨g, 0, none⟩) (ks.length + 1) cap3) = W4) :
    Row D W4 (.slice (some ⟨g, 0, none⟩) (ks ++ [y]).length cap3) (ks ++ [y]) ∧ W4.heap[t]? = some (.cells #[A0, A1, A2, .slice (some ⟨g, 0, none⟩) (ks ++ [y]).length cap3] 24) ∧ Keeps (fun q => q = t ∨ some q = Value.ownBlock (.slice b ks.length cap)) W W4 ∧ (∀ q, Value.ownBlock (.slice (some ⟨g, 0, none⟩) (ks ++ [y]).length cap3) = some q → lo ≤ q) := by
  subst hW4
  have hne : ¬ some t = Value.ownBlock (.slice b ks.length cap) := fun e => hD t (hs t e.symm) rfl
  have hset : Keeps (fun q => q = t) w3 (w3.setCell ⟨t, 3, none⟩ (.slice (some ⟨g, 0, none⟩) (ks.length + 1) cap3)) := (Keeps.refl _ _).set t 3 _ (fun _ => rfl)
  have el : (ks ++ [y]).length = ks.length + 1 := by simp
  rw [el]
  refine ⟨?_, set_block _ ((hgrow.block t (block_lt hb) hne).trans hb), ?_, fun q e => ?_⟩
  · exact (Row.snoc ho hs hn hy hown hgrow hat hnew).keep hset (fun q hq _ => hD q hq)
  · exact ((Keeps.grown hgrow).mono (fun q _ h => .inr h)).then hset (fun q _ h => .inl h)
  · have e3 : g = q := by simpa [Value.ownBlock] using e
    subst e3
    rcases hat with e | e
    · exact hlo g e
    · omega
/-- The answer's box. -/
theorem close_ret {D : Nat → Prop} {w : World} {B : Nat} {ts : List Tok} {N : Nd} {b : Option Addr} {cap : Nat} {l : List PT} {j : Nat} {W : World} {t : Nat} (hj : rest ts j = l) (hN : NdV (fun g => (D g ∨ w.heap.size ≤ g) ∧ g ≠ t) W N (ndv N b cap)) (hR : Rd W B ts j) (hk : Keeps (fun k => k = B) w W) (ht : w.heap.size ≤ t) (hB : B < w.heap.size) :
    PAns D w B ts (.inr (N, l)) (.returned (ndv N b cap)) (put4 W t (.int .i64 N.k) (sk N.t) (.int .i64 N.n) (.slice b N.kids.length cap)) :=
  ⟨j, b, cap, hj, rfl, (hN.put4 _ _ _ _ _ (fun g hg => hg.2)).weak (fun g hg _ => hg.1), hR.put4 _ _ _ _ _ (by omega), put4_keeps hk _ _ _ _ _ ht⟩
theorem close_pan {D : Nat → Prop} {w : World} {B : Nat} {ts : List Tok} {l : List PT} {j : Nat} {W : World} (hj : rest ts j = l) (hle : j ≤ ts.length) (hk : Keeps (fun k => k = B) w W) : PAns D w B ts (.inl l) (.panicked (pan (gv ts j))) W := ⟨j, hj, hle, rfl, hk⟩

/-- Words that come, or do not. -/
theorem Ctx.takes_no {w : World} {B : Nat} {ts : List Tok} {i : Nat} (h : Ctx w B ts i) {s : List UInt8} (hs : plainS s) (hc : ¬ tx (rest ts i) = s) (u : World) (hb : Below w.heap.size w u) : Calls Tryz.prog 85 #[.pointer (some ⟨B, 0, none⟩), sk s] u fun e w' => e = .returned (.bool false) ∧ Below u.heap.size u w' :=
  YtnnppenlfocgiaaGreatDoor.takes_no B ts i s (fun c => hc ((h.is hs).1 c)) u (h.R.below hb)
theorem Ctx.takes_yes {w : World} {B : Nat} {ts : List Tok} {i : Nat} (h : Ctx w B ts i) {s : List UInt8} (hs : plainS s) (hc : tx (rest ts i) = s) (u : World) (hb : Below w.heap.size w u) : Calls Tryz.prog 85 #[.pointer (some ⟨B, 0, none⟩), sk s] u fun e w' => e = .returned (.bool true) ∧ Rd w' B ts (i + 1) ∧ Keeps (fun k => k = B) u w' :=
  YtnnppenlfocgiaaGreatDoor.takes_yes B ts i s ((h.is hs).2 hc) (tx_lt hc (plain_ne hs)) u (h.R.below hb)
theorem Ctx.wants_no {w : World} {B : Nat} {ts : List Tok} {i : Nat} (h : Ctx w B ts i) {s : List UInt8} (hs : plainS s) (hc : ¬ tx (rest ts i) = s) (u : World) (hb : Below w.heap.size w u) : Calls Tryz.prog 82 #[.pointer (some ⟨B, 0, none⟩), .slice (some ⟨u.heap.size, 0, none⟩) 1 1] (u.alloc (.cells #[sk s] 9)) fun e w' => e = .panicked (pan (gv ts i)) ∧ Below u.heap.size u w' := by
  refine (YtnnppenlfocgiaaGreatDoor.wants_no B ts i s (fun c => hc ((h.is hs).1 c)) u.heap.size 1 _ (h.R.below (ext_alloc hb _)) (alloc_new u _)).mono ?_
  rintro e w1 ⟨rfl, hb1⟩
  exact ⟨rfl, ext_trans (ext_alloc (Below.refl _ _) _) hb1⟩
theorem Ctx.wants_yes {w : World} {B : Nat} {ts : List Tok} {i : Nat} (h : Ctx w B ts i) {s : List UInt8} (hs : plainS s) (hc : tx (rest ts i) = s) (u : World) (hb : Below w.heap.size w u) : Calls Tryz.prog 82 #[.pointer (some ⟨B, 0, none⟩), .slice (some ⟨u.heap.size, 0, none⟩) 1 1] (u.alloc (.cells #[sk s] 9)) fun e w' => e = .returned (.tuple #[]) ∧ Rd w' B ts (i + 1) ∧ Keeps (fun k => k = B) u w' := by
  refine (YtnnppenlfocgiaaGreatDoor.wants_yes B ts i s ((h.is hs).2 hc) (tx_lt hc (plain_ne hs)) u.heap.size 1 _ (h.R.below (ext_alloc hb _)) (alloc_new u _)).mono ?_
  rintro e w1 ⟨rfl, hR, hk⟩
  exact ⟨rfl, hR, (Keeps.of_below (ext_alloc (Below.refl _ _) _)).trans hk⟩

/-- The contracts, by how much is at hand. -/
def RowC (f : Nat) : Prop := ∀ (a : Nat) (r : PRes) (B : Nat) (ts : List Tok) (i : Nat) (w : World), a ≤ 6 → Ctx w B ts i → P f 0 nil0 a (rest ts i) = some r → Calls Tryz.prog 135 #[.pointer (some ⟨B, 0, none⟩), .int .i64 ((a + 1 : Nat) : Int)] w (PAns no w B ts r)
def ExprC (f : Nat) : Prop := ∀ (r : PRes) (B : Nat) (ts : List Tok) (i : Nat) (w : World), Ctx w B ts i → P f 0 nil0 0 (rest ts i) = some r → Calls Tryz.prog 130 #[.pointer (some ⟨B, 0, none⟩)] w (PAns no w B ts r)
theorem res154 {tm : Array Value} {W : World} {B : Nat} {a b c d : Value} (h : tm[2]?.getD undef = .pointer (some ⟨B, 0, none⟩)) (hx : W.heap[B]? = some (.cells #[a, b, c, d] 24)) : (results Tryz.f130 tm).run Tryz.prog W = .ok (.agg #[a, b, c, d]) W := by
  obtain ⟨c0, c1, c2, c3, _, _, _, _⟩ := in4 hx
  simp [results, Tryz.results130, go_sem, h, c0, c1, c2, c3]
set_option maxRecDepth 20000 in
set_option maxHeartbeats 1000000 in
theorem expr_of (f : Nat) (hRow : RowC f) : ExprC f := by
  intro r B ts i w hC hP
  have hE := hRow 0 r B ts i (w.alloc zbx) (by omega) (hC.below (ext_alloc (Below.refl _ _) _)) hP
  have h0 := alloc_new w zbx
  have hBw : B ≠ w.heap.size := by have := hC.R.lt; omega
  clear hRow hP
  cases r with
  | inl l =>
    go_enter Tryz.func130, Tryz.ntmps130
    go_wp2_with (go_at_call 135; refine hE.mono ?_; rintro e w1 ⟨j, hj, hle, rfl, hk⟩)
    exact ⟨rfl, j, hj, hle, rfl, (Keeps.of_below (ext_alloc (Below.refl _ _) _)).trans hk⟩
  | inr p =>
    obtain ⟨n, l⟩ := p
    go_enter Tryz.func130, Tryz.ntmps130
    go_wp2_with (go_at_call 135; refine hE.mono ?_; rintro e w1 ⟨j, b, cap, hj, rfl, hN, hR, hk⟩; have h1 := (hk.block _ (block_lt h0) (fun e => hBw e.symm)).trans h0; obtain ⟨c0, c1, c2, c3, f0, f1, f2, f3⟩ := in4 h1)
    refine bodyPost_ret (res154 rfl (put4_same _ _ _ _ h1)) rfl ⟨j, b, cap, hj, rfl, ?_, hR.put4 _ _ _ _ _ hC.R.lt, put4_keeps ((Keeps.of_below (ext_alloc (Below.refl _ _) _)).trans hk) _ _ _ _ _ (Nat.le_refl _)⟩
    exact (hN.put4 _ _ _ _ _ (fun g hg => by simp at hg; omega)).weak (fun g hg _ => by simp at hg; exact .inr (by omega))
end Go.Proofs.YtnnppenlfocgiaaGreatDoor
