/- The document's Is, of every node. Texts that are put together; how closely a node binds; nodes' texts with something between. In parentheses; a block's statements; a node where it must bind so closely. The document's Show: leaves, programs, next. -/
import Derived.Test.YtbdkiimggggndaaGreatDoorJ25
import Derived.Test.YtbdkiimggggndaaGreatDoorJ27
import Derived.Test.YtbdkiimggggndaaGreatDoorJ28
import Derived.Test.YtbdkiimggggndaaGreatDoorJ29
import Derived.Test.YtbdkiimggggndaaGreatDoorJ30
import Derived.Test.YtbdkiimggggndaaGreatDoorJ31
import Derived.Test.YtbdkiimggggndaaGreatDoorJ32
import Derived.Test.YtbdkiimggggndaaGreatDoorJ36
import Derived.Test.YtbdkiimggggndaaGreatDoorJ33
import Derived.Test.YtbdkiimggggndaaGreatDoorJ34
import Derived.Test.YtbdkiimggggndaaGreatDoorJ08
import Derived.Test.YtbdkiimggggndaaGreatDoorJ15
import Derived.Test.YtbdkiimggggndaaGreatDoorJ35
namespace Go.Proofs.YtbdkiimggggndaaGreatDoor
open Go.RowKit
open Go

theorem beq_no {k j : Int} (h : k ≠ j) : (k == j) = false := by simpa using h
theorem qbase (y : Nd) (c : Bool) (S : Nat → Prop) (yb : Option Addr) (yc : Nat) (w : World) (hV : NdV S w y (ndv y yb yc)) : ∀ u : World, Below w.heap.size w u → Calls Tryz.prog 50 #[ndv y yb yc, .bool c] u fun e w' => (∃ m1 m2 m3, e = .returned (.agg #[.int .i64 (baseK c y), m1, m2, m3])) ∧ Below u.heap.size u w' := fun u hb =>
  (base_any y c S yb yc u (hV.below hb)).mono fun e w' ⟨⟨m, b', cap', he, hm⟩, hb'⟩ => ⟨⟨sk m.t, .int .i64 m.n, .slice b' m.kids.length cap', by rw [he, ← hm]⟩, hb'⟩

theorem is_step (k : Int) (t : List UInt8) (o : Int) (ks : List Nd) (ih : ∀ y ∈ ks, IsC y) : IsC ⟨k, t, o, ks⟩ := by
  intro S b cap w hok hn
  obtain ⟨hcap, hkids⟩ := ndv_parts hn
  rw [okN] at hok
  obtain ⟨hok1, hok2, hok3, hok5, hok4⟩ := hok
  rw [okN_go] at hok4
  have hlen : ks.length ≤ 9000000000000000000 := by omega
  have hC : CntC k (cntR k).1 (cntR k).2.1 (cntR k).2.2.1 (cntR k).2.2.2 := fun u => counts_any k u
  have key : ∀ {v : Bool}, isD ⟨k, t, o, ks⟩ = v → IsR ⟨k, t, o, ks⟩ b cap w v → Calls Tryz.prog 22 #[ndv ⟨k, t, o, ks⟩ b cap] w fun e w' => e = .returned (.bool (isD ⟨k, t, o, ks⟩)) ∧ Below w.heap.size w w' := fun {v} hv h => by rw [hv]; exact h
  have hck := cnt_kids k ks.length
  have hcn := cnt_name k
  obtain ⟨c, hcnt⟩ : ∃ c, cntR k = c := ⟨_, rfl⟩
  rw [hcnt] at hC hck hcn
  obtain ⟨l, m, nm, ok⟩ := c
  simp only at hC hck hcn
  by_cases hA : ¬ kidsOK k ks.length
  · have hD : isD ⟨k, t, o, ks⟩ = false := no_head fun h => hA h.1
    refine key hD ?_
    rw [hck] at hA
    cases ok with
    | false => exact is_a1 ⟨k, t, o, ks⟩ b cap w l m nm hC
    | true =>
      by_cases h1 : (ks.length : Int) < l
      · exact is_a2 ⟨k, t, o, ks⟩ b cap w l m nm hC h1
      · exact is_a3 ⟨k, t, o, ks⟩ b cap w l m nm hC h1 (by have := hA; simp [h1] at this; omega) (by have := hA; simp [h1] at this; show m < (ks.length : Int); omega)
  replace hA : kidsOK k ks.length := Classical.not_not.1 hA
  obtain ⟨rfl, h1, h23⟩ := hck.1 hA
  have h1' : decide ((ks.length : Int) < l) = false := decide_eq_false h1
  have h3' : ¬ m < 0 → decide (0 ≤ m) = true ∧ decide (m < (ks.length : Int)) = false := fun h => ⟨by simp; omega, by simp; omega⟩
  have h2' : m < 0 → decide (0 ≤ m) = false := fun h => by simp; omega
  by_cases hnm : hasName k
  · obtain ⟨k14, k22, k13, k6, k7⟩ := name_kinds hnm
    have n14 : k ≠ 14 := by simpa using k14
    have n22 : k ≠ 22 := by simpa using k22
    have n13 : k ≠ 13 := by simpa using k13
    have n6 : k ≠ 6 := by simpa using k6
    have n7 : k ≠ 7 := by simpa using k7
    obtain rfl : nm = true := hcn.2 hnm
    have qN := fun u => rname_any ⟨t.toArray⟩ u
    cases e1 : nameB t
    · have hD : isD ⟨k, t, o, ks⟩ = false := no_head fun h => by have := h.2.1 hnm; rw [e1] at this; cases this
      simp only [e1] at qN
      refine key hD ?_
      by_cases hm : m < 0
      · exact is_namM_name k t o ks b cap w l m hC k14 k22 k13 k6 k7 h1' (h2' hm) qN
      · exact is_namP_name k t o ks b cap w l m hC k14 k22 k13 k6 k7 h1' (h3' hm).1 (h3' hm).2 qN
    simp only [e1] at qN
    by_cases e2 : o = 0
    · subst e2
      have hH : HD k t 0 ks := ⟨hA, fun _ => e1, fun h => absurd hnm h, ⟨fun h => absurd h n22, fun h => absurd h n14⟩, fun h => absurd h n13, fun _ _ => rfl, fun h => absurd h n6, fun h => absurd h n7⟩
      by_cases hm : m < 0
      · exact is_namM_loop k t ks b cap S w l m hC k14 k22 k13 k6 k7 h1' (h2' hm) qN hkids ih hok4 hlen _ (head_yes hH) head_no
      · exact is_namP_loop k t ks b cap S w l m hC k14 k22 k13 k6 k7 h1' (h3' hm).1 (h3' hm).2 qN hkids ih hok4 hlen _ (head_yes hH) head_no
    · have hD : isD ⟨k, t, o, ks⟩ = false := no_head fun h => e2 (h.2.2.2.2.2.1 n22 n13)
      refine key hD ?_
      by_cases hm : m < 0
      · exact is_namM_zero k t o ks b cap w l m hC k14 k22 k13 k6 k7 h1' (h2' hm) qN (beq_no e2)
      · exact is_namP_zero k t o ks b cap w l m hC k14 k22 k13 k6 k7 h1' (h3' hm).1 (h3' hm).2 qN (beq_no e2)
  obtain rfl : nm = false := by
    cases nm with
    | false => rfl
    | true => exact absurd (hcn.1 rfl) hnm
  by_cases k14 : k = 14
  · subst k14
    have hm : ¬ m < 0 := by simp [cntR] at hcnt; omega
    have qN := fun u => quot_any ⟨t.toArray⟩ (by show t.toArray.size ≤ _; simp; omega) u
    cases e1 : quotB t
    · simp only [e1] at qN
      exact key (no_head fun h => by have := h.2.2.2.1.2 rfl; rw [e1] at this; cases this) (is_txt_quot t o ks b cap w l m hC h1' (h3' hm).1 (h3' hm).2 qN)
    simp only [e1] at qN
    by_cases e2 : o = 0
    · subst e2
      exact is_txt_loop t ks b cap S w l m hC h1' (h3' hm).1 (h3' hm).2 qN hkids ih hok4 hlen _ (head_yes ⟨hA, fun h => absurd h hnm, fun _ h => absurd rfl h, ⟨fun h => absurd h (by decide), fun _ => e1⟩, fun h => absurd h (by decide), fun _ _ => rfl, fun h => absurd h (by decide), fun h => absurd h (by decide)⟩) head_no
    · exact key (no_head fun h => e2 (h.2.2.2.2.2.1 (by decide) (by decide))) (is_txt_zero t o ks b cap w l m hC h1' (h3' hm).1 (h3' hm).2 qN (beq_no e2))
  have n14 : k ≠ 14 := k14
  by_cases e1 : t = []
  case neg =>
    have hT : (t == []) = false := by simpa using e1
    refine key (no_head fun h => e1 (h.2.2.1 hnm n14)) ?_
    by_cases k22 : k = 22
    · subst k22
      have hm : ¬ m < 0 := by simp [cntR] at hcnt; omega
      exact is_op_empty t o ks b cap w l m hC h1' (h3' hm).1 (h3' hm).2 hT
    by_cases k13 : k = 13
    · subst k13
      have hm : ¬ m < 0 := by simp [cntR] at hcnt; omega
      exact is_int_empty t o ks b cap w l m hC h1' (h3' hm).1 (h3' hm).2 hT
    by_cases k6 : k = 6
    · subst k6
      have hm : ¬ m < 0 := by simp [cntR] at hcnt; omega
      exact is_set_empty t o ks b cap w l m hC h1' (h3' hm).1 (h3' hm).2 hT
    by_cases k7 : k = 7
    · subst k7
      have hm : ¬ m < 0 := by simp [cntR] at hcnt; omega
      exact is_do_empty t o ks b cap w l m hC h1' (h3' hm).1 (h3' hm).2 hT
    by_cases hm : m < 0
    · exact is_othM_empty k t o ks b cap w l m hC (beq_no n14) (beq_no k22) (beq_no k13) (beq_no k6) (beq_no k7) h1' (h2' hm) hT
    · exact is_othP_empty k t o ks b cap w l m hC (beq_no n14) (beq_no k22) (beq_no k13) (beq_no k6) (beq_no k7) h1' (h3' hm).1 (h3' hm).2 hT
  subst e1
  by_cases k22 : k = 22
  · subst k22
    have hm : ¬ m < 0 := by simp [cntR] at hcnt; omega
    have qS := fun u => signOf_any o u
    cases e2 : opOf o with
    | none =>
      simp only [soV, e2] at qS
      exact key (no_head fun h => by have := h.2.2.2.1.1 rfl; rw [e2] at this; cases this) (is_op_sign o ks b cap w l m hC h1' (h3' hm).1 (h3' hm).2 qS)
    | some p =>
      obtain ⟨s, lv⟩ := p
      obtain ⟨x, os, rfl⟩ := sign_ne e2
      simp only [soV, e2] at qS
      exact is_op_loop o ks b cap S w l m hC h1' (h3' hm).1 (h3' hm).2 x os lv qS hkids ih hok4 hlen _ (head_yes ⟨hA, fun h => absurd h hnm, fun _ _ => rfl, ⟨fun _ => by rw [e2]; rfl, fun h => absurd h (by decide)⟩, fun h => absurd h (by decide), fun h => absurd rfl h, fun h => absurd h (by decide), fun h => absurd h (by decide)⟩) head_no
  by_cases k13 : k = 13
  · subst k13
    have hm : ¬ m < 0 := by simp [cntR] at hcnt; omega
    by_cases e2 : o < 0
    · exact key (no_head fun h => by have := (h.2.2.2.2.1 rfl).1; omega) (is_int_pos o ks b cap w l m hC h1' (h3' hm).1 (h3' hm).2 (decide_eq_true e2))
    · exact is_int_loop o ks b cap S w l m hC h1' (h3' hm).1 (h3' hm).2 (decide_eq_false e2) hkids ih hok4 hlen _ (head_yes ⟨hA, fun h => absurd h hnm, fun _ _ => rfl, ⟨fun h => absurd h (by decide), fun h => absurd h (by decide)⟩, fun _ => ⟨by omega, hok3⟩, fun _ h => absurd rfl h, fun h => absurd h (by decide), fun h => absurd h (by decide)⟩) head_no
  by_cases e2 : ¬ o = 0
  · refine key (no_head fun h => e2 (h.2.2.2.2.2.1 k22 k13)) ?_
    by_cases k6 : k = 6
    · subst k6
      have hm : ¬ m < 0 := by simp [cntR] at hcnt; omega
      exact is_set_zero o ks b cap w l m hC h1' (h3' hm).1 (h3' hm).2 (beq_no e2)
    by_cases k7 : k = 7
    · subst k7
      have hm : ¬ m < 0 := by simp [cntR] at hcnt; omega
      exact is_do_zero o ks b cap w l m hC h1' (h3' hm).1 (h3' hm).2 (beq_no e2)
    by_cases hm : m < 0
    · exact is_othM_zero k o ks b cap w l m hC (beq_no n14) (beq_no k22) (beq_no k13) (beq_no k6) (beq_no k7) h1' (h2' hm) (beq_no e2)
    · exact is_othP_zero k o ks b cap w l m hC (beq_no n14) (beq_no k22) (beq_no k13) (beq_no k6) (beq_no k7) h1' (h3' hm).1 (h3' hm).2 (beq_no e2)
  obtain rfl : o = 0 := Classical.not_not.1 e2
  by_cases k6 : k = 6
  · subst k6
    have hm : ¬ m < 0 := by simp [cntR] at hcnt; omega
    have h2 : ks.length = 2 := by simpa [kidsOK] using hA
    obtain ⟨y, ks', rfl⟩ : ∃ y l, ks = y :: l := by
      cases ks with
      | nil => simp at h2
      | cons y l => exact ⟨y, l, rfl⟩
    rcases hkids with h | ⟨g, off, rfl, hSg, hkd⟩
    · cases h
    obtain ⟨yb, yc, v0, v1, v2, v3, hyV⟩ := ndAt_val (hkd 0 y rfl)
    simp only [Nat.zero_mul, Nat.add_zero] at v0 v1 v2 v3
    have hl0 : (0 : Int) < ((y :: ks').length : Int) := by rw [h2]; decide
    have hb := base_chain0 y
    have qB := qbase y false S yb yc w hyV
    cases e3 : (baseK false y == 18)
    · exact key (no_head fun h => by have := h.2.2.2.2.2.2.1 rfl; simp at this; rw [← hb] at this; simp [this] at e3) (is_set_base0 (y :: ks') cap w y yb yc g off v0 v1 v2 v3 (World.block_lt_of_cell? _ _ v0) hl0 l m hC h1' (h3' hm).1 (h3' hm).2 _ e3 qB)
    · exact is_set_loop (y :: ks') cap S w y yb yc g off v0 v1 v2 v3 (World.block_lt_of_cell? _ _ v0) hl0 l m hC h1' (h3' hm).1 (h3' hm).2 _ e3 qB hkd ih hok4 hlen _ (head_yes ⟨hA, fun h => absurd h hnm, fun _ _ => rfl, ⟨fun h => absurd h (by decide), fun h => absurd h (by decide)⟩, fun h => absurd h (by decide), fun _ _ => rfl, fun _ => by simpa using hb.1 (by simpa using e3), fun h => absurd h (by decide)⟩) head_no
  by_cases k7 : k = 7
  · subst k7
    have hm : ¬ m < 0 := by simp [cntR] at hcnt; omega
    have h2 : ks.length = 1 := by simpa [kidsOK] using hA
    obtain ⟨y, ks', rfl⟩ : ∃ y l, ks = y :: l := by
      cases ks with
      | nil => simp at h2
      | cons y l => exact ⟨y, l, rfl⟩
    rcases hkids with h | ⟨g, off, rfl, hSg, hkd⟩
    · cases h
    obtain ⟨yb, yc, v0, v1, v2, v3, hyV⟩ := ndAt_val (hkd 0 y rfl)
    simp only [Nat.zero_mul, Nat.add_zero] at v0 v1 v2 v3
    have hl0 : (0 : Int) < ((y :: ks').length : Int) := by rw [h2]; decide
    have hb := base_chain1 y
    have qB := qbase y true S yb yc w hyV
    cases e4 : (y.k == 21)
    · exact key (no_head fun h => by have := (h.2.2.2.2.2.2.2 rfl).2; simp at this; simp [this] at e4) (is_do_kid21 (y :: ks') cap w y yb yc g off v0 v1 v2 v3 (World.block_lt_of_cell? _ _ v0) hl0 l m hC h1' (h3' hm).1 (h3' hm).2 e4)
    cases e3 : (baseK true y == 18)
    · exact key (no_head fun h => by have := (h.2.2.2.2.2.2.2 rfl).1; simp at this; rw [← hb] at this; simp [this] at e3) (is_do_base1 (y :: ks') cap w y yb yc g off v0 v1 v2 v3 (World.block_lt_of_cell? _ _ v0) hl0 l m hC h1' (h3' hm).1 (h3' hm).2 e4 _ e3 qB)
    · exact is_do_loop (y :: ks') cap S w y yb yc g off v0 v1 v2 v3 (World.block_lt_of_cell? _ _ v0) hl0 l m hC h1' (h3' hm).1 (h3' hm).2 e4 _ e3 qB hkd ih hok4 hlen _ (head_yes ⟨hA, fun h => absurd h hnm, fun _ _ => rfl, ⟨fun h => absurd h (by decide), fun h => absurd h (by decide)⟩, fun h => absurd h (by decide), fun _ _ => rfl, fun h => absurd h (by decide), fun _ => ⟨by simpa using hb.1 (by simpa using e3), by simpa using e4⟩⟩) head_no
  have hH : HD k [] 0 ks := ⟨hA, fun h => absurd h hnm, fun _ _ => rfl, ⟨fun h => absurd h k22, fun h => absurd h n14⟩, fun h => absurd h k13, fun _ _ => rfl, fun h => absurd h k6, fun h => absurd h k7⟩
  by_cases hm : m < 0
  · exact is_othM_loop k ks b cap S w l m hC (beq_no n14) (beq_no k22) (beq_no k13) (beq_no k6) (beq_no k7) h1' (h2' hm) hkids ih hok4 hlen _ (head_yes hH) head_no
  · exact is_othP_loop k ks b cap S w l m hC (beq_no n14) (beq_no k22) (beq_no k13) (beq_no k6) (beq_no k7) h1' (h3' hm).1 (h3' hm).2 hkids ih hok4 hlen _ (head_yes hH) head_no
/-- The document's Is. -/
theorem is_any (n : Nd) : IsC n := nd_ind is_step n
end Go.Proofs.YtbdkiimggggndaaGreatDoor
namespace Go.Proofs.YtbdkiimggggndaaGreatDoor
open Go.RowKit
open Go

theorem sk_app (a b : List UInt8) : Value.string (⟨a.toArray⟩ ++ ⟨b.toArray⟩) = sk (a ++ b) := congrArg Value.string (WideShapes.bytes_inj (by simp))

set_option maxRecDepth 20000 in
set_option maxHeartbeats 1000000 in
theorem rbinds_any (n : Nd) (hn : n.k = 22 → (opOf n.n).isSome = true) (b : Option Addr) (cap : Nat) (w : World) : Calls Tryz.prog 86 #[ndv n b cap] w fun e w' => e = .returned (.int .i64 (bindsN n : Nat)) ∧ Below w.heap.size w w' := by
  have g0 := alloc_new w (nbx n b cap)
  have hb0 := ext_alloc (Below.refl w.heap.size w) (nbx n b cap)
  unfold bindsN
  by_cases h22 : n.k = 22
  · obtain ⟨⟨s, k⟩, hp⟩ := Option.isSome_iff_exists.1 (hn h22)
    rw [if_pos h22, hp]
    have hS := signOf_any n.n
    simp only [soV, hp] at hS
    have h22' : (n.k == 22) = true := by simpa using h22
    clear h22 hn
    go_enter Tryz.func86, Tryz.ntmps86
    go_wp2_with (go_at_call 49; refine (hS _).mono ?_; rintro e w1 ⟨rfl, hb1⟩)
    go_ret
    exact ⟨rfl, ext_trans (ext_alloc (Below.refl _ _) _) hb1⟩
  · rw [if_neg h22]
    have h22' : (n.k == 22) = false := by simpa using h22
    clear h22 hn
    by_cases h6 : n.k = 23 ∨ n.k = 24 ∨ n.k = 25
    · rw [if_pos h6]
      cases e1 : (n.k == 23)
      · cases e2 : (n.k == 24)
        · cases e3 : (n.k == 25)
          · simp at e1 e2 e3; omega
          · clear h6
            go_enter Tryz.func86, Tryz.ntmps86
            go_wp2
            go_ret
            exact ⟨rfl, ext_alloc (Below.refl _ _) _⟩
        · clear h6
          go_enter Tryz.func86, Tryz.ntmps86
          go_wp2
          go_ret
          exact ⟨rfl, ext_alloc (Below.refl _ _) _⟩
      · clear h6
        go_enter Tryz.func86, Tryz.ntmps86
        go_wp2
        go_ret
        exact ⟨rfl, ext_alloc (Below.refl _ _) _⟩
    · rw [if_neg h6]
      have e1 : (n.k == 23) = false := by simp; omega
      have e2 : (n.k == 24) = false := by simp; omega
      have e3 : (n.k == 25) = false := by simp; omega
      clear h6
      go_enter Tryz.func86, Tryz.ntmps86
      go_wp2
      go_ret
      exact ⟨rfl, ext_alloc (Below.refl _ _) _⟩

/-- A node's text, as Show tells it. -/
abbrev ShowC (n : Nd) : Prop := ∀ (S : Nat → Prop) (b : Option Addr) (cap : Nat) (w : World), NdV S w n (ndv n b cap) → Calls Tryz.prog 23 #[ndv n b cap] w fun e w' => e = .returned (sk (textN n)) ∧ Below w.heap.size w w'

theorem join_next (sep : List UInt8) : ∀ (l : List Nd) (j : Nat) (y : Nd), l[j]? = some y → joinN sep (l.take (j + 1)) = (if j = 0 then [] else joinN sep (l.take j) ++ sep) ++ textN y
  | [], j, y, h => by simp at h
  | x :: l, 0, y, h => by
    simp at h
    subst h
    simp [joinN]
  | [x], j + 1, y, h => by simp at h
  | x :: z :: l, j + 1, y, h => by
    have ih := join_next sep (z :: l) j y (by simpa using h)
    have e1 : (x :: z :: l).take (j + 1 + 1) = x :: z :: l.take j := by simp
    have e2 : (z :: l).take (j + 1) = z :: l.take j := by simp
    rw [e1, joinN, ← e2, ih, if_neg (show ¬ j + 1 = 0 by omega)]
    cases j with
    | zero => simp [joinN]
    | succ i =>
      have e3 : (x :: z :: l).take (i + 1 + 1) = x :: z :: l.take i := by simp
      have e4 : (z :: l).take (i + 1) = z :: l.take i := by simp
      rw [if_neg (show ¬ i + 1 = 0 by omega), e3, joinN, ← e4]
      simp
theorem join_len (sep : List UInt8) (hs : sep.length ≤ 3) : ∀ (l : List Nd), (∀ y ∈ l, (textN y).length ≤ 10000000) → (joinN sep l).length ≤ 10000003 * l.length
  | [], _ => by simp [joinN]
  | [x], h => by have := h x (by simp); simp [joinN]; omega
  | x :: y :: l, h => by
    have h1 := h x (by simp)
    have h2 := join_len sep hs (y :: l) (fun z hz => h z (by simp at hz ⊢; exact .inr hz))
    rw [joinN]
    simp only [List.length_append, List.length_cons] at h2 ⊢
    omega

set_option maxRecDepth 20000 in
set_option maxHeartbeats 2000000 in
theorem joined_of (sep : List UInt8) (hs : sep.length ≤ 3) (l : List Nd) (hl : ∀ y ∈ l, ShowC y) (ht : ∀ y ∈ l, (textN y).length ≤ 10000000) (hL : l.length ≤ 100000) (S : Nat → Prop) (b : Option Addr) (cap : Nat) (w : World) (hk : KA S w b cap l) : Calls Tryz.prog 52 #[.slice b l.length cap, sk sep] w fun e w' => e = .returned (sk (joinN sep l)) ∧ Below w.heap.size w w' := by
  obtain ⟨R, hR⟩ : ∃ R, joinN sep l = R := ⟨_, rfl⟩
  rw [hR]
  replace hR : Hid _ := hR
  obtain ⟨L, hLe⟩ : ∃ L, l.length = L := ⟨_, rfl⟩
  rw [hLe] at hL ⊢
  replace hLe : Hid _ := hLe
  replace hl : Hid _ := hl
  replace ht : Hid _ := ht
  replace hk : Hid _ := hk
  go_enter Tryz.func52, Tryz.ntmps52
  go_wp2
  go_loopw [5, 6] (fun s ix wr => ∃ (j : Nat) (x : List UInt8), j ≤ L ∧ ix = .int .i64 (j : Nat) ∧ s = sk x ∧ Hid (x = joinN sep (l.take j)) ∧ Below w.heap.size w wr) (fun _ ix _ => L - (intOf ix).toNat)
  case atStart => exact ⟨0, [], by omega, rfl, rfl, by rw [List.take_zero]; exact rfl, Below.refl _ _⟩
  case round =>
    obtain ⟨j, x, hj, rfl, rfl, hx, hbw⟩ := hrel
    by_cases hlt : j < L
    · have hlt' : (j : Int) < (L : Int) := by omega
      obtain ⟨y, hy⟩ : ∃ y, l[j]? = some y := ⟨_, List.getElem?_eq_getElem (show j < l.length by have := hLe.out; omega)⟩
      obtain ⟨g, off, b', cap', rfl, v0, v1, v2, v3, hyV⟩ := KA.at hk.out hy
      have c0 : wr.cell? ⟨g, off + j * 4, none⟩ = some (.int .i64 y.k) := cellB hbw v0
      have c1 := cellB hbw v1
      have c2 := cellB hbw v2
      have c3 := cellB hbw v3
      have hcall := hl.out y (List.mem_of_getElem? hy) S b' cap' wr (hyV.below hbw)
      have hn := join_next sep l j y hy
      have hx1 : x.length ≤ 10000003 * 100000 := by
        have h1 := join_len sep hs (l.take j) (fun z hz => ht.out z (List.mem_of_mem_take hz))
        rw [hx.out]
        have h2 : (l.take j).length ≤ 100000 := by rw [List.length_take]; have := hLe.out; omega
        have h3 : 10000003 * (l.take j).length ≤ 10000003 * 100000 := Nat.mul_le_mul_left _ h2
        omega
      have hy1 := ht.out y (List.mem_of_getElem? hy)
      rw [← hx.out] at hn
      obtain ⟨Y, hY⟩ : ∃ Y, textN y = Y := ⟨_, rfl⟩
      rw [hY] at hcall hn hy1
      clear v0 v1 v2 v3 hyV hy hY
      by_cases h0 : j = 0
      · subst h0
        rw [if_pos rfl] at hn
        have hX : Hid (x = []) := by rw [hx.out]; exact rfl
        simp only [Nat.zero_mul, Nat.add_zero] at c0 c1 c2 c3
        replace hn : Hid _ := hn
        go_wp2_with (go_at_call 23; refine hcall.mono ?_; rintro e w1 ⟨rfl, hb1⟩)
        go_roundw
        case rel => exact ⟨1, x ++ Y, by omega, by go_num, sk_app _ _, by rw [hX.out]; exact hn.out.symm, ext_trans hbw hb1⟩
        case measure => simp [intOf]; omega
      · rw [if_neg h0] at hn
        have h0' : (0 : Int) < (j : Int) := by omega
        replace hn : Hid _ := hn
        go_wp2_with (go_at_call 23; refine hcall.mono ?_; rintro e w1 ⟨rfl, hb1⟩)
        go_roundw
        case rel => exact ⟨j + 1, x ++ sep ++ Y, by omega, by go_num, congrArg Value.string (WideShapes.bytes_inj (by simp)), hn.out.symm, ext_trans hbw hb1⟩
        case measure => simp [intOf]; omega
    · have hge : ¬ (j : Int) < (L : Int) := by omega
      have e : x = R := by
        rw [hx.out, ← hR.out, List.take_of_length_le (by have := hLe.out; omega)]
      subst e
      go_wp2
      go_ret
      exact ⟨rfl, hbw⟩
end Go.Proofs.YtbdkiimggggndaaGreatDoor
namespace Go.Proofs.YtbdkiimggggndaaGreatDoor
open Go.RowKit
open Go

theorem ret_sk {a : ByteArray} {b : List UInt8} (h : a.data.toList = b) : Ending.returned (.string a) = .returned (sk b) := by
  subst h
  exact congrArg (fun s => Ending.returned (Value.string s)) (WideShapes.bytes_inj (by simp))
theorem add_ex (A B : ByteArray) (n m : Nat) (ha : A.size ≤ n) (hb : B.size ≤ m) (h : n + m ≤ 9000000000000000) : ∃ C : ByteArray, (∀ wx, (Op.stringOp .add A B).run Tryz.prog wx = .ok (.string C) wx) ∧ C.data.toList = A.data.toList ++ B.data.toList ∧ C.size ≤ n + m :=
  ⟨A ++ B, fun wx => run_string_add_sum (P := Tryz.prog) (w := wx) A B (by omega), by simp, by rw [ByteArray.size_append]; omega⟩
theorem join_len2 {sep : List UInt8} (hs : sep.length ≤ 3) {l : List Nd} (ht : ∀ y ∈ l, (textN y).length ≤ 10000000) (hL : l.length ≤ 100000) : (joinN sep l).length ≤ 10000003 * 100000 := by
  have h1 := join_len sep hs l ht
  have h3 : 10000003 * l.length ≤ 10000003 * 100000 := Nat.mul_le_mul_left _ hL
  omega
theorem round_lenN {l : List Nd} (ht : ∀ y ∈ l, (textN y).length ≤ 10000000) (hL : l.length ≤ 100000) : (roundN l).length ≤ 10000003 * 100000 + 4 := by
  have := join_len2 (sep := [32, 44, 32]) (by decide) ht hL
  unfold roundN
  split
  · simp
  · simp; omega

set_option maxRecDepth 20000 in
set_option maxHeartbeats 1000000 in
theorem round_of (l : List Nd) (hl : ∀ y ∈ l, ShowC y) (ht : ∀ y ∈ l, (textN y).length ≤ 10000000) (hL : l.length ≤ 100000) (S : Nat → Prop) (b : Option Addr) (cap : Nat) (w : World) (hk : KA S w b cap l) : Calls Tryz.prog 53 #[.slice b l.length cap] w fun e w' => e = .returned (sk (roundN l)) ∧ Below w.heap.size w w' := by
  by_cases h0 : l = []
  · have h0' : ((l.length : Int) == 0) = true := by rw [h0]; rfl
    have e : roundN l = [40, 32, 41] := by rw [h0]; rfl
    rw [e]
    clear h0 hk
    go_enter Tryz.func53, Tryz.ntmps53
    go_wp2
    go_ret
    exact ⟨rfl, Below.refl _ _⟩
  · have h0' : ((l.length : Int) == 0) = false := by
      have := List.length_pos_iff.2 h0
      simp; omega
    have hJ := joined_of [32, 44, 32] (by decide) l hl ht hL S b cap w hk
    have hb := join_len2 (sep := [32, 44, 32]) (by decide) ht hL
    have e : roundN l = [40, 32] ++ joinN [32, 44, 32] l ++ [32, 41] := by unfold roundN; rw [if_neg h0]
    rw [e]
    obtain ⟨J, hJe⟩ : ∃ J, joinN [32, 44, 32] l = J := ⟨_, rfl⟩
    rw [hJe] at hJ hb ⊢
    clear h0 hk hl ht hJe e
    go_enter Tryz.func53, Tryz.ntmps53
    go_wp2_with (go_at_call 52; refine hJ.mono ?_; rintro e w1 ⟨rfl, hb1⟩)
    go_ret
    exact ⟨ret_sk (by simp), hb1⟩

set_option maxRecDepth 20000 in
set_option maxHeartbeats 1000000 in
theorem lines_of (t : List UInt8) (o : Int) (l : List Nd) (hs : ∀ y ∈ l, showT y ≠ []) (hl : ∀ y ∈ l, ShowC y) (ht : ∀ y ∈ l, (textN y).length ≤ 10000000) (hL : l.length ≤ 100000) (S : Nat → Prop) (b : Option Addr) (cap : Nat) (w : World) (hn : NdV S w ⟨4, t, o, l⟩ (ndv ⟨4, t, o, l⟩ b cap)) : Calls Tryz.prog 54 #[ndv ⟨4, t, o, l⟩ b cap] w fun e w' => e = .returned (sk (linesN ⟨4, t, o, l⟩)) ∧ Below w.heap.size w w' := by
  have hk := KA.of hn
  have hb0 := ext_alloc (Below.refl w.heap.size w) (nbx ⟨4, t, o, l⟩ b cap)
  have hk1 := KA.of (hn.below hb0)
  unfold linesN
  by_cases h0 : l = []
  · have h0' : ((l.length : Int) == 0) = true := by rw [h0]; rfl
    rw [if_pos h0]
    clear h0 hk hk1
    go_enter Tryz.func54, Tryz.ntmps54
    go_wp2
    go_ret
    exact ⟨rfl, hb0⟩
  · have h0' : ((l.length : Int) == 0) = false := by
      have := List.length_pos_iff.2 h0
      simp; omega
    have hJ := joined_of [32] (by decide) l hl ht hL S b cap _ hk1
    have hb := join_len2 (sep := [32]) (by decide) ht hL
    have e : textN ⟨4, t, o, l⟩ = joinN [32] l := by
      unfold textN
      rw [showT_eq]
      exact text_all l hs
    rw [if_neg h0, e]
    obtain ⟨J, hJe⟩ : ∃ J, joinN [32] l = J := ⟨_, rfl⟩
    rw [hJe] at hJ hb ⊢
    dsimp only [nbx] at hb0 hJ
    clear h0 hk hk1 hl ht hJe e hs hn
    go_enter Tryz.func54, Tryz.ntmps54
    go_wp2_with (go_at_call 52; refine hJ.mono ?_; rintro e w1 ⟨rfl, hb1⟩)
    go_ret
    exact ⟨ret_sk (by simp), ext_trans hb0 hb1⟩

set_option maxRecDepth 20000 in
set_option maxHeartbeats 1000000 in
theorem at_of (n : Nd) (hn : n.k = 22 → (opOf n.n).isSome = true) (hS : ShowC n) (ht : (textN n).length ≤ 10000000) (m : Nat) (S : Nat → Prop) (b : Option Addr) (cap : Nat) (w : World) (hV : NdV S w n (ndv n b cap)) : Calls Tryz.prog 56 #[ndv n b cap, .int .i64 (m : Nat)] w fun e w' => e = .returned (sk (atN m n)) ∧ Below w.heap.size w w' := by
  have hb0 := ext_alloc (Below.refl w.heap.size w) (nbx n b cap)
  have g0 := alloc_new w (nbx n b cap)
  have hC := hS S b cap _ (hV.below hb0)
  have hB := fun u => rbinds_any n hn b cap u
  unfold atN
  obtain ⟨X, hX⟩ : ∃ X, textN n = X := ⟨_, rfl⟩
  obtain ⟨k, hk⟩ : ∃ k, bindsN n = k := ⟨_, rfl⟩
  rw [hX] at hC ht ⊢
  simp only [hk] at hB ⊢
  clear hn hS hX hk hV
  by_cases hlt : k < m
  · rw [if_pos hlt]
    have hlt' : (k : Int) < (m : Int) := by omega
    go_enter Tryz.func56, Tryz.ntmps56
    go_wp2_with (first | (go_at_call 23; refine hC.mono ?_; rintro e w1 ⟨rfl, hb1⟩; have g1 := block_below hb1 g0; obtain ⟨c0, c1, c2, c3, _, _, _, _⟩ := in4 g1) | (go_at_call 86; refine (hB _).mono ?_; rintro e w2 ⟨rfl, hb2⟩))
    go_ret
    exact ⟨ret_sk (by simp), ext_trans (ext_trans hb0 hb1) hb2⟩
  · rw [if_neg hlt]
    have hlt' : ¬ (k : Int) < (m : Int) := by omega
    go_enter Tryz.func56, Tryz.ntmps56
    go_wp2_with (first | (go_at_call 23; refine hC.mono ?_; rintro e w1 ⟨rfl, hb1⟩; have g1 := block_below hb1 g0; obtain ⟨c0, c1, c2, c3, _, _, _, _⟩ := in4 g1) | (go_at_call 86; refine (hB _).mono ?_; rintro e w2 ⟨rfl, hb2⟩))
    go_ret
    exact ⟨rfl, ext_trans (ext_trans hb0 hb1) hb2⟩
theorem at_lenN {n : Nd} (ht : (textN n).length ≤ 10000000) (m : Nat) : (atN m n).length ≤ 10000004 := by
  unfold atN
  split
  · simp; omega
  · omega
theorem lines_lenN {n : Nd} (ht : (textN n).length ≤ 10000000) : (linesN n).length ≤ 10000001 := by
  unfold linesN
  split
  · simp
  · simp; omega
end Go.Proofs.YtbdkiimggggndaaGreatDoor
namespace Go.Proofs.YtbdkiimggggndaaGreatDoor
open Go.RowKit
open Go

theorem text_name (k : Int) (hk : k = 3 ∨ k = 18) (t : List UInt8) (o : Int) (ks : List Nd) : textN ⟨k, t, o, ks⟩ = t := by
  unfold textN
  rw [showT_eq]
  unfold comb
  rw [if_neg (by omega), if_neg (by omega), if_pos hk, text_w1]
set_option maxRecDepth 20000 in
set_option maxHeartbeats 1000000 in
theorem show_3 (t : List UInt8) (o : Int) (ks : List Nd) : ShowC ⟨3, t, o, ks⟩ := by
  intro S b cap w hN
  rw [text_name 3 (.inl rfl)]
  clear hN
  go_enter Tryz.func23, Tryz.ntmps23
  go_wp2
  go_ret
  exact ⟨rfl, ext_alloc (Below.refl _ _) _⟩
set_option maxRecDepth 20000 in
set_option maxHeartbeats 1000000 in
theorem show_18 (t : List UInt8) (o : Int) (ks : List Nd) : ShowC ⟨18, t, o, ks⟩ := by
  intro S b cap w hN
  rw [text_name 18 (.inr rfl)]
  clear hN
  go_enter Tryz.func23, Tryz.ntmps23
  go_wp2
  go_ret
  exact ⟨rfl, ext_alloc (Below.refl _ _) _⟩
set_option maxRecDepth 20000 in
set_option maxHeartbeats 1000000 in
theorem show_13 (t : List UInt8) (o : Int) (ho : 0 ≤ o) (ho' : o ≤ 9223372036854775807) (ks : List Nd) : ShowC ⟨13, t, o, ks⟩ := by
  intro S b cap w hN
  have e : textN ⟨13, t, o, ks⟩ = Lib.itoa o := by
    unfold textN
    rw [showT_eq]
    unfold comb
    rw [if_neg (by omega), if_neg (by omega), if_neg (by omega), if_pos rfl]
    show bytesOf (2, digitsN o.toNat) = _
    unfold bytesOf
    rw [if_neg (by show ¬ (2 : Int) = 3; decide), Dg.itoa_dec, if_neg (by omega), show o.natAbs = o.toNat by omega]
    rfl
  rw [e]
  have hD := fun u => Dg.digits_any o u (by omega) ho'
  obtain ⟨T, hT⟩ : ∃ T, Lib.itoa o = T := ⟨_, rfl⟩
  simp only [hT] at hD ⊢
  clear hN e
  go_enter Tryz.func23, Tryz.ntmps23
  go_wp2_with (go_at_call 55; refine (hD _).mono ?_; rintro e w1 ⟨rfl, hb1⟩)
  go_ret
  exact ⟨rfl, ext_trans (ext_alloc (Below.refl _ _) _) hb1⟩
set_option maxRecDepth 20000 in
set_option maxHeartbeats 1000000 in
theorem show_14 (t : List UInt8) (lt : t.length ≤ 1000000000000) (o : Int) (ks : List Nd) : ShowC ⟨14, t, o, ks⟩ := by
  intro S b cap w hN
  have e : textN ⟨14, t, o, ks⟩ = 34 :: (t ++ [34]) := by
    unfold textN
    rw [showT_eq]
    unfold comb
    rw [if_neg (by omega), if_neg (by omega), if_neg (by omega), if_neg (by omega), if_pos rfl]
    rfl
  rw [e]
  clear hN e
  go_enter Tryz.func23, Tryz.ntmps23
  go_wp2
  go_ret
  exact ⟨ret_sk (by simp), ext_alloc (Below.refl _ _) _⟩
set_option maxRecDepth 20000 in
set_option maxHeartbeats 1000000 in
theorem show_15 (t : List UInt8) (o : Int) (ks : List Nd) : ShowC ⟨15, t, o, ks⟩ := by
  intro S b cap w hN
  have e : textN ⟨15, t, o, ks⟩ = [110, 105, 108] := by unfold textN; rw [showT_eq]; rfl
  rw [e]
  clear hN e
  go_enter Tryz.func23, Tryz.ntmps23
  go_wp2
  go_ret
  exact ⟨rfl, ext_alloc (Below.refl _ _) _⟩
set_option maxRecDepth 20000 in
set_option maxHeartbeats 1000000 in
theorem show_16 (t : List UInt8) (o : Int) (ks : List Nd) : ShowC ⟨16, t, o, ks⟩ := by
  intro S b cap w hN
  have e : textN ⟨16, t, o, ks⟩ = [116, 114, 117, 101] := by unfold textN; rw [showT_eq]; rfl
  rw [e]
  clear hN e
  go_enter Tryz.func23, Tryz.ntmps23
  go_wp2
  go_ret
  exact ⟨rfl, ext_alloc (Below.refl _ _) _⟩
set_option maxRecDepth 20000 in
set_option maxHeartbeats 1000000 in
theorem show_17 (t : List UInt8) (o : Int) (ks : List Nd) : ShowC ⟨17, t, o, ks⟩ := by
  intro S b cap w hN
  have e : textN ⟨17, t, o, ks⟩ = [102, 97, 108, 115, 101] := by unfold textN; rw [showT_eq]; rfl
  rw [e]
  clear hN e
  go_enter Tryz.func23, Tryz.ntmps23
  go_wp2
  go_ret
  exact ⟨rfl, ext_alloc (Below.refl _ _) _⟩
set_option maxRecDepth 20000 in
set_option maxHeartbeats 1000000 in
theorem show_19 (t : List UInt8) (o : Int) (ks : List Nd) : ShowC ⟨19, t, o, ks⟩ := by
  intro S b cap w hN
  have e : textN ⟨19, t, o, ks⟩ = [123, 32, 125] := by unfold textN; rw [showT_eq]; rfl
  rw [e]
  clear hN e
  go_enter Tryz.func23, Tryz.ntmps23
  go_wp2
  go_ret
  exact ⟨rfl, ext_alloc (Below.refl _ _) _⟩
set_option maxRecDepth 20000 in
set_option maxHeartbeats 1000000 in
theorem show_1 (t : List UInt8) (o : Int) (ks : List Nd) (hs : ∀ y ∈ ks, showT y ≠ []) (hl : ∀ y ∈ ks, ShowC y) (ht : ∀ y ∈ ks, (textN y).length ≤ 10000000) (hL : ks.length ≤ 100000) : ShowC ⟨1, t, o, ks⟩ := by
  intro S b cap w hN
  have e : textN ⟨1, t, o, ks⟩ = joinN [32] ks := by unfold textN; rw [showT_eq]; exact text_all ks hs
  rw [e]
  have hb0 := ext_alloc (Below.refl w.heap.size w) (nbx ⟨1, t, o, ks⟩ b cap)
  have hJ := joined_of [32] (by decide) ks hl ht hL S b cap _ (KA.of (hN.below hb0))
  obtain ⟨J, hJe⟩ : ∃ J, joinN [32] ks = J := ⟨_, rfl⟩
  rw [hJe] at hJ ⊢
  dsimp only [nbx] at hb0 hJ
  clear hN hs hl ht e hJe
  go_enter Tryz.func23, Tryz.ntmps23
  go_wp2_with (go_at_call 52; refine hJ.mono ?_; rintro e w1 ⟨rfl, hb1⟩)
  go_ret
  exact ⟨rfl, ext_trans hb0 hb1⟩
set_option maxRecDepth 20000 in
set_option maxHeartbeats 1000000 in
theorem show_26 (t : List UInt8) (o : Int) (y z : Nd) (hy : ShowC y) (ly : (textN y).length ≤ 10000000) (ny : showT y ≠ []) (hz : ShowC z) (lz : (textN z).length ≤ 10000000) (nz : showT z ≠ []) : ShowC ⟨26, t, o, [y, z]⟩ := by
  intro S b cap w hN
  rw [text_next t o ny nz]
  have hb0 := ext_alloc (Below.refl w.heap.size w) (nbx ⟨26, t, o, [y, z]⟩ b cap)
  have h2 : ∀ x ∈ [y, z], (textN x).length ≤ 10000000 := fun x hx => by simp at hx; rcases hx with rfl | rfl; exact ly; exact lz
  have hJ := round_of [y, z] (fun x hx => by simp at hx; rcases hx with rfl | rfl; exact hy; exact hz) h2 (by simp) S b cap _ (KA.of (hN.below hb0))
  have hl := round_lenN h2 (by simp)
  obtain ⟨J, hJe⟩ : ∃ J, roundN [y, z] = J := ⟨_, rfl⟩
  rw [hJe] at hJ hl ⊢
  dsimp only [nbx] at hb0 hJ
  replace hb0 : Below w.heap.size w (w.alloc (.cells #[.int .i64 26, sk t, .int .i64 o, .slice b 2 cap] 24)) := hb0
  replace hJ : Calls Tryz.prog 53 #[.slice b 2 cap] (w.alloc (.cells #[.int .i64 26, sk t, .int .i64 o, .slice b 2 cap] 24)) _ := hJ
  show Calls Tryz.prog 23 #[.agg #[.int .i64 26, sk t, .int .i64 o, .slice b 2 cap]] w _
  clear hN h2 hJe
  go_enter Tryz.func23, Tryz.ntmps23
  go_wp2_with (go_at_call 53; refine hJ.mono ?_; rintro e w1 ⟨rfl, hb1⟩)
  go_ret
  exact ⟨ret_sk (by simp), ext_trans hb0 hb1⟩
end Go.Proofs.YtbdkiimggggndaaGreatDoor
