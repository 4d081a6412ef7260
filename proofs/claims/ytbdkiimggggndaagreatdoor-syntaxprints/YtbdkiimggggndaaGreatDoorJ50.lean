/- The document's Show, of every node that is one. The document's Print; the law. -/
import Derived.Test.YtbdkiimggggndaaGreatDoorJ37
import Derived.Test.YtbdkiimggggndaaGreatDoorJ38
import Derived.Test.YtbdkiimggggndaaGreatDoorJ39
import Derived.Test.YtbdkiimggggndaaGreatDoorJ40
import Derived.Test.YtbdkiimggggndaaGreatDoorJ41
import Derived.Test.YtbdkiimggggndaaGreatDoorJ42
import Derived.Test.YtbdkiimggggndaaGreatDoorJ43
import Derived.Test.YtbdkiimggggndaaGreatDoorJ44
import Derived.Test.YtbdkiimggggndaaGreatDoorJ45
import Derived.Test.YtbdkiimggggndaaGreatDoorJ46
import Derived.Test.YtbdkiimggggndaaGreatDoorJ47
import Derived.Test.YtbdkiimggggndaaGreatDoorJ48
import Derived.Test.YtbdkiimggggndaaGreatDoorJ49
import Derived.Test.YtbdkiimggggndaaGreatDoorJ26
namespace Go.Proofs.YtbdkiimggggndaaGreatDoor
open Go.RowKit
open Go

theorem many_kids : ∀ (l : List Nd), l.length ≤ manyN.go l ∧ ∀ x ∈ l, manyN x ≤ manyN.go l
  | [] => by simp [manyN.go]
  | x :: l => by
    have ih := many_kids l
    have h1 : 1 ≤ manyN x := by obtain ⟨k, t, n, kids⟩ := x; rw [manyN]; omega
    rw [manyN.go]
    refine ⟨by simp; omega, fun y hy => ?_⟩
    rcases List.mem_cons.1 hy with rfl | hy
    · omega
    · have := ih.2 y hy; omega
abbrev LinesC (n : Nd) : Prop := ∀ (S : Nat → Prop) (b' : Option Addr) (c' : Nat) (u : World), NdV S u n (ndv n b' c') → Calls Tryz.prog 54 #[ndv n b' c'] u fun e w' => e = .returned (sk (linesN n)) ∧ Below u.heap.size u w'
theorem twoK {l : List Nd} (h : l.length = 2) : ∃ y z, l = [y, z] := by
  match l, h with
  | [y, z], _ => exact ⟨y, z, rfl⟩
theorem threeK {l : List Nd} (h : l.length = 3) : ∃ y z x, l = [y, z, x] := by
  match l, h with
  | [y, z, x], _ => exact ⟨y, z, x, rfl⟩
theorem fit_e {k : Int} {len j : Nat} {kk : Int} (h : k ≠ 1 ∧ k ≠ 2 ∧ k ≠ 4 ∧ k ≠ 8 ∧ k ≠ 9 ∧ k ≠ 10) (hf : fitsK k len j kk) : exprK kk := by
  unfold fitsK at hf
  rw [if_neg (by omega), if_neg (by omega), if_neg (by omega), if_neg (by omega), if_neg (by omega)] at hf
  exact hf
/-- What the document writes of a node. -/
def PC (n : Nd) : Prop := isN n → manyN n ≤ 600 → (n.k ≠ 4 → ShowC n) ∧ (n.k = 4 → LinesC n)

theorem pc_step (k : Int) (t : List UInt8) (o : Int) (ks : List Nd) (ih : ∀ y ∈ ks, PC y) : PC ⟨k, t, o, ks⟩ := by
  intro hN hM
  obtain ⟨hH, hK⟩ := (isN_head k t o ks).1 hN
  obtain ⟨h1, h2, h3, ⟨h4, h4'⟩, h5, h6, h7, h8⟩ := hH
  rw [manyN] at hM
  have hm := many_kids ks
  have hL : ks.length ≤ 600 := by omega
  have kid : ∀ y ∈ ks, isN y ∧ manyN y ≤ 600 := fun y hy => by
    obtain ⟨j, hj⟩ := List.getElem?_of_mem hy
    have := hK j y hj
    rw [Bool.and_eq_true, isD_iff] at this
    exact ⟨this.2, by have := hm.2 y hy; omega⟩
  have fit : ∀ j y, ks[j]? = some y → fitsK k ks.length j y.k := fun j y hj => by
    have := hK j y hj
    rw [Bool.and_eq_true, fitsKB_iff] at this
    exact this.1
  have len : ∀ y ∈ ks, (textN y).length ≤ 10000000 := fun y hy => text_le (kid y hy).1 (kid y hy).2
  have sh : ∀ y ∈ ks, y.k ≠ 4 → ShowC y := fun y hy h => (ih y hy (kid y hy).1 (kid y hy).2).1 h
  have li : ∀ y ∈ ks, y.k = 4 → LinesC y := fun y hy h => (ih y hy (kid y hy).1 (kid y hy).2).2 h
  have ne : ∀ y ∈ ks, y.k ≠ 1 → y.k ≠ 4 → showT y ≠ [] := fun y hy a b => show_ne y (kid y hy).1 a b
  have opo : ∀ y ∈ ks, y.k = 22 → (opOf y.n).isSome = true := fun y hy h => by
    obtain ⟨a, b, c, d⟩ := y
    have := ((isN_head a b c d).1 (kid _ hy).1).1.2.2.2.1.1
    exact this h
  have blk : ∀ y ∈ ks, y.k = 4 → ∀ q ∈ y.kids, showT q ≠ [] := fun y hy h4 q hq => by
    obtain ⟨a, b, c, d⟩ := y
    simp only at h4 hq
    subst h4
    obtain ⟨j, hj⟩ := List.getElem?_of_mem hq
    have := ((isN_head 4 b c d).1 (kid _ hy).1).2 j q hj
    rw [Bool.and_eq_true, fitsKB_iff, isD_iff] at this
    have hs : statK q.k := by have h := this.1; unfold fitsK at h; rw [if_neg (by decide), if_neg (by decide), if_pos rfl] at h; exact h
    unfold statK at hs
    exact show_ne q this.2 (by omega) (by omega)
  have lt : t.length ≤ 1000000000000 := by
    by_cases hn : hasName k
    · have := h2 hn
      simp only [nameB, Bool.and_eq_true, decide_eq_true_eq] at this
      omega
    · by_cases h14 : k = 14
      · have := h4' h14
        simp only [quotB, Bool.and_eq_true, decide_eq_true_eq] at this
        omega
      · rw [h3 hn h14]; simp
  -- an expression among the kids
  have ex : ∀ y ∈ ks, exprK y.k → y.k ≠ 1 ∧ y.k ≠ 4 := fun y _ h => by unfold exprK at h; omega
  refine ⟨fun hk4 => ?_, fun hk4 => ?_⟩
  · simp only at hk4
    have E : ∀ y ∈ ks, exprK y.k → ShowC y ∧ (textN y).length ≤ 10000000 ∧ showT y ≠ [] ∧ (y.k = 22 → (opOf y.n).isSome = true) := fun y hy h => ⟨sh y hy (ex y hy h).2, len y hy, ne y hy (ex y hy h).1 (ex y hy h).2, opo y hy⟩
    have Bk : ∀ y ∈ ks, y.k = 4 → LinesC y ∧ (textN y).length ≤ 10000000 ∧ y.k = 4 ∧ ∀ q ∈ y.kids, showT q ≠ [] := fun y hy h => ⟨li y hy h, len y hy, h, blk y hy h⟩
    unfold kidsOK at h1
    rcases h1 with rfl | rfl | ⟨rfl, hl⟩ | ⟨hk, hl⟩ | ⟨hk, hl⟩ | ⟨rfl, hl⟩ | ⟨hk, hl⟩ | ⟨rfl, hl⟩ | ⟨rfl, hl⟩
    · have f2 : ∀ y ∈ ks, y.k = 2 := fun y hy => by
        obtain ⟨j, hj⟩ := List.getElem?_of_mem hy
        have h := fit j y hj
        unfold fitsK at h; rw [if_pos rfl] at h; exact h
      exact show_1 t o ks (fun y hy => ne y hy (by rw [f2 y hy]; decide) (by rw [f2 y hy]; decide)) (fun y hy => sh y hy (by rw [f2 y hy]; decide)) len (by omega)
    · exact absurd rfl hk4
    · obtain ⟨ps, z, rfl⟩ : ∃ ps z, ks = ps ++ [z] := ⟨ks.dropLast, ks.getLast (by intro e; subst e; simp at hl), (List.dropLast_concat_getLast _).symm⟩
      have fz : z.k = 4 := by
        have h := fit ps.length z (by simp)
        unfold fitsK at h; rw [if_neg (by decide), if_pos rfl, if_pos (by simp)] at h; exact h
      have fp : ∀ y ∈ ps, y.k = 3 := fun y hy => by
        obtain ⟨j, hj⟩ := List.getElem?_of_mem hy
        have hlt := (List.getElem?_eq_some_iff.1 hj).1
        have h := fit j y (by rw [List.getElem?_append_left hlt]; exact hj)
        unfold fitsK at h; rw [if_neg (by decide), if_pos rfl, if_neg (by simp; omega)] at h; exact h
      have pm : ∀ y ∈ ps, y ∈ ps ++ [z] := fun y hy => by simp [hy]
      obtain ⟨b1, b2, b3, b4⟩ := Bk z (by simp) fz
      exact show_2 t o ps z lt (fun y hy => sh y (pm y hy) (by rw [fp y hy]; decide)) (fun y hy => len y (pm y hy)) (fun y hy => ne y (pm y hy) (by rw [fp y hy]; decide) (by rw [fp y hy]; decide)) (by simp at hL; omega) b1 b2 b3 b4
    · rcases hk with rfl | rfl | rfl | rfl | rfl | rfl | rfl | rfl
      · exact show_3 t o ks
      · exact show_18 t o ks
      · exact show_13 t o (h5 rfl).1 (h5 rfl).2 ks
      · exact show_14 t lt o ks
      · exact show_15 t o ks
      · exact show_16 t o ks
      · exact show_17 t o ks
      · exact show_19 t o ks
    · obtain ⟨y, rfl⟩ := List.length_eq_one_iff.1 hl
      have hy : exprK y.k := fit_e (by omega) (fit 0 y rfl)
      obtain ⟨a1, a2, a3, a4⟩ := E y (by simp) hy
      rcases hk with rfl | rfl | rfl | rfl | rfl | rfl | rfl
      · exact show_5 t o y lt a1 a2 a3
      · exact show_7 t o y lt a1 a2 a3
      · exact show_11 t o y lt a1 a2 a3
      · exact show_12 t o y lt a1 a2 a3
      · exact show_23 t o y lt a1 a2 a3 a4
      · exact show_24 t o y lt a1 a2 a3 a4
      · exact show_25 t o y lt a1 a2 a3 a4
    · obtain ⟨y, z, x, rfl⟩ := threeK hl
      have hy : exprK y.k := by have h := fit 0 y rfl; unfold fitsK at h; rw [if_neg (by decide), if_neg (by decide), if_neg (by decide), if_neg (by decide), if_pos rfl, if_neg (by decide)] at h; exact h
      have hz : exprK z.k := by have h := fit 1 z rfl; unfold fitsK at h; rw [if_neg (by decide), if_neg (by decide), if_neg (by decide), if_neg (by decide), if_pos rfl, if_neg (by decide)] at h; exact h
      have hx : x.k = 4 := by have h := fit 2 x rfl; unfold fitsK at h; rw [if_neg (by decide), if_neg (by decide), if_neg (by decide), if_neg (by decide), if_pos rfl, if_pos rfl] at h; exact h
      obtain ⟨a1, a2, a3, a4⟩ := E y (by simp) hy
      obtain ⟨c1, c2, c3, c4⟩ := E z (by simp) hz
      obtain ⟨b1, b2, b3, b4⟩ := Bk x (by simp) hx
      exact show_10 t o y z x lt a1 a2 a3 c1 c2 c3 b1 b2 b3 b4
    · obtain ⟨y, z, rfl⟩ := twoK hl
      by_cases h9 : k = 9
      · subst h9
        have hy : exprK y.k := by have h := fit 0 y rfl; unfold fitsK at h; rw [if_neg (by decide), if_neg (by decide), if_neg (by decide), if_pos (by decide), if_neg (by decide)] at h; exact h
        have hz : z.k = 4 := by have h := fit 1 z rfl; unfold fitsK at h; rw [if_neg (by decide), if_neg (by decide), if_neg (by decide), if_pos (by decide), if_pos (by decide)] at h; exact h
        obtain ⟨a1, a2, a3, a4⟩ := E y (by simp) hy
        obtain ⟨b1, b2, b3, b4⟩ := Bk z (by simp) hz
        exact show_9 t o y z lt a1 a2 a3 b1 b2 b3 b4
      have hy : exprK y.k := fit_e (by omega) (fit 0 y rfl)
      have hz : exprK z.k := fit_e (by omega) (fit 1 z rfl)
      obtain ⟨a1, a2, a3, a4⟩ := E y (by simp) hy
      obtain ⟨c1, c2, c3, c4⟩ := E z (by simp) hz
      rcases hk with rfl | rfl | rfl | rfl | rfl
      · exact show_6 t o y z lt a1 a2 a3 c1 c2 c3
      · exact absurd rfl h9
      · exact show_20 t o y z lt a1 a2 a3 a4 c1 c2 c3
      · obtain ⟨⟨os, lv⟩, hp⟩ := Option.isSome_iff_exists.1 (h4 rfl)
        have hq : os.length ≤ 3 ∧ lv ≤ 5 := by
          unfold opOf at hp
          obtain ⟨q, hq, e⟩ := Option.map_eq_some_iff.1 hp
          have all : ∀ q ∈ opsL, q.1.length ≤ 3 ∧ q.2.2 ≤ 5 := by decide
          have := all q (List.mem_of_find?_eq_some hq)
          cases e
          exact this
        have hc : lv = 0 ∨ lv = 1 ∨ lv = 2 ∨ lv = 3 ∨ lv = 4 ∨ lv = 5 := by omega
        rcases hc with rfl | rfl | rfl | rfl | rfl | rfl
        · exact show_22_0 t o y z os hp hq.1 a1 a2 a3 a4 c1 c2 c3 c4
        · exact show_22_1 t o y z os hp hq.1 a1 a2 a3 a4 c1 c2 c3 c4
        · exact show_22_2 t o y z os hp hq.1 a1 a2 a3 a4 c1 c2 c3 c4
        · exact show_22_3 t o y z os hp hq.1 a1 a2 a3 a4 c1 c2 c3 c4
        · exact show_22_4 t o y z os hp hq.1 a1 a2 a3 a4 c1 c2 c3 c4
        · exact show_22_5 t o y z os hp hq.1 a1 a2 a3 a4 c1 c2 c3 c4
      · exact show_26 t o y z a1 a2 a3 c1 c2 c3
    · rcases hl with hl | hl
      · obtain ⟨y, z, rfl⟩ := twoK hl
        have hy : exprK y.k := by have h := fit 0 y rfl; unfold fitsK at h; rw [if_neg (by decide), if_neg (by decide), if_neg (by decide), if_pos (by decide), if_neg (by decide)] at h; exact h
        have hz : z.k = 4 := by have h := fit 1 z rfl; unfold fitsK at h; rw [if_neg (by decide), if_neg (by decide), if_neg (by decide), if_pos (by decide), if_pos (by decide)] at h; exact h
        obtain ⟨a1, a2, a3, a4⟩ := E y (by simp) hy
        obtain ⟨b1, b2, b3, b4⟩ := Bk z (by simp) hz
        exact show_8 t o y z lt a1 a2 a3 b1 b2 b3 b4
      · obtain ⟨y, z, x, rfl⟩ := threeK hl
        have hy : exprK y.k := by have h := fit 0 y rfl; unfold fitsK at h; rw [if_neg (by decide), if_neg (by decide), if_neg (by decide), if_pos (by decide), if_neg (by decide)] at h; exact h
        have hz : z.k = 4 := by have h := fit 1 z rfl; unfold fitsK at h; rw [if_neg (by decide), if_neg (by decide), if_neg (by decide), if_pos (by decide), if_pos (by decide)] at h; exact h
        have hx : x.k = 4 := by have h := fit 2 x rfl; unfold fitsK at h; rw [if_neg (by decide), if_neg (by decide), if_neg (by decide), if_pos (by decide), if_pos (by decide)] at h; exact h
        obtain ⟨a1, a2, a3, a4⟩ := E y (by simp) hy
        obtain ⟨b1, b2, b3, b4⟩ := Bk z (by simp) hz
        obtain ⟨d1, d2, d3, d4⟩ := Bk x (by simp) hx
        exact show_83 t o y z x lt a1 a2 a3 b1 b2 b3 b4 d1 d2 d3 d4
    · obtain ⟨y, l, rfl⟩ : ∃ y l, ks = y :: l := by
        cases ks with
        | nil => simp at hl
        | cons y l => exact ⟨y, l, rfl⟩
      have all : ∀ x ∈ y :: l, exprK x.k := fun x hx => by
        obtain ⟨j, hj⟩ := List.getElem?_of_mem hx
        exact fit_e (by omega) (fit j x hj)
      obtain ⟨a1, a2, a3, a4⟩ := E y (by simp) (all y (by simp))
      exact show_21 t o y l a1 a2 a3 a4 (fun x hx => (E x (by simp [hx]) (all x (by simp [hx]))).1) (fun x hx => len x (by simp [hx])) (fun x hx => (E x (by simp [hx]) (all x (by simp [hx]))).2.2.1) (by simp at hL; omega)
  · simp only at hk4
    subst hk4
    have st : ∀ y ∈ ks, statK y.k := fun y hy => by
      obtain ⟨j, hj⟩ := List.getElem?_of_mem hy
      have h := fit j y hj
      unfold fitsK at h; rw [if_neg (by decide), if_neg (by decide), if_pos rfl] at h; exact h
    have st2 : ∀ y ∈ ks, y.k ≠ 1 ∧ y.k ≠ 4 := fun y hy => by have := st y hy; unfold statK at this; omega
    intro S b c u hV
    exact lines_of t o ks (fun y hy => ne y hy (st2 y hy).1 (st2 y hy).2) (fun y hy => sh y hy (st2 y hy).2) len (by omega) S b c u hV
theorem pc_any (n : Nd) : PC n := nd_ind pc_step n
end Go.Proofs.YtbdkiimggggndaaGreatDoor
namespace Go.Proofs.YtbdkiimggggndaaGreatDoor
open Go.RowKit
open Go

set_option maxRecDepth 20000 in
set_option maxHeartbeats 1000000 in
theorem rprint_big (n : Nd) (hf : fitB n = false) (S : Nat → Prop) (b : Option Addr) (cap : Nat) (w : World) (hN : NdV S w n (ndv n b cap)) : Calls Tryz.prog 11 #[ndv n b cap] w fun e w' => e = .returned (.tuple #[sk [], .int .i64 1]) ∧ Below w.heap.size w w' := by
  have hb0 := ext_alloc (Below.refl w.heap.size w) (nbx n b cap)
  have hFt := rfits_any S n b cap _ (hN.below hb0)
  rw [hf] at hFt
  clear hf hN
  dsimp only [nbx] at hb0 hFt
  go_enter Tryz.func11, Tryz.ntmps11
  go_wp2_with (go_at_call 17; refine hFt.mono ?_; rintro e w1 ⟨rfl, hb1⟩)
  go_ret2
  exact ⟨rfl, ext_trans hb0 hb1⟩
set_option maxRecDepth 20000 in
set_option maxHeartbeats 1000000 in
theorem rprint_kind (n : Nd) (hf : fitB n = true) (hk : ¬ n.k = 1) (S : Nat → Prop) (b : Option Addr) (cap : Nat) (w : World) (hN : NdV S w n (ndv n b cap)) : Calls Tryz.prog 11 #[ndv n b cap] w fun e w' => e = .returned (.tuple #[sk [], .int .i64 2]) ∧ Below w.heap.size w w' := by
  have hb0 := ext_alloc (Below.refl w.heap.size w) (nbx n b cap)
  have g0 := alloc_new w (nbx n b cap)
  have hFt := rfits_any S n b cap _ (hN.below hb0)
  rw [hf] at hFt
  have hk' : (n.k != 1) = true := by simpa using hk
  clear hf hN hk
  dsimp only [nbx] at hb0 hFt g0
  go_enter Tryz.func11, Tryz.ntmps11
  go_wp2_with (go_at_call 17; refine hFt.mono ?_; rintro e w1 ⟨rfl, hb1⟩; have g1 := block_below hb1 g0; obtain ⟨c0, c1, c2, c3, f0, f1, f2, f3⟩ := in4 g1)
  go_ret2
  exact ⟨rfl, ext_trans hb0 hb1⟩
set_option maxRecDepth 20000 in
set_option maxHeartbeats 1000000 in
theorem rprint_form (n : Nd) (hf : fitB n = true) (hok : okN n) (hk : n.k = 1) (hn : ¬ isN n) (S : Nat → Prop) (b : Option Addr) (cap : Nat) (w : World) (hN : NdV S w n (ndv n b cap)) : Calls Tryz.prog 11 #[ndv n b cap] w fun e w' => e = .returned (.tuple #[sk [], .int .i64 2]) ∧ Below w.heap.size w w' := by
  have hb0 := ext_alloc (Below.refl w.heap.size w) (nbx n b cap)
  have g0 := alloc_new w (nbx n b cap)
  have hFt := rfits_any S n b cap _ (hN.below hb0)
  rw [hf] at hFt
  have hI := fun u (hb : Below w.heap.size w u) => is_any n S b cap u hok (hN.below hb)
  rw [isD_false hn] at hI
  have hk' : (n.k != 1) = false := by simpa using hk
  clear hf hN hk hn hok
  dsimp only [nbx] at hb0 hFt g0
  go_enter Tryz.func11, Tryz.ntmps11
  go_wp2_with (first | (go_at_call 17; refine hFt.mono ?_; rintro e w1 ⟨rfl, hb1⟩; have g1 := block_below hb1 g0; obtain ⟨c0, c1, c2, c3, f0, f1, f2, f3⟩ := in4 g1; have hb1w := ext_trans hb0 hb1) | (go_at_call 22; refine (hI _ hb1w).mono ?_; rintro e w2 ⟨rfl, hb2⟩))
  go_ret2
  exact ⟨rfl, ext_trans hb1w hb2⟩
set_option maxRecDepth 20000 in
set_option maxHeartbeats 1000000 in
theorem rprint_yes (n : Nd) (hf : fitB n = true) (hok : okN n) (hk : n.k = 1) (hn : isN n) (S : Nat → Prop) (b : Option Addr) (cap : Nat) (w : World) (hN : NdV S w n (ndv n b cap)) : Calls Tryz.prog 11 #[ndv n b cap] w fun e w' => e = .returned (.tuple #[sk (if 4000 < (textT (showT n)).length then [] else textT (showT n)), .int .i64 (if 4000 < (textT (showT n)).length then 1 else 0)]) ∧ Below w.heap.size w w' := by
  have hb0 := ext_alloc (Below.refl w.heap.size w) (nbx n b cap)
  have g0 := alloc_new w (nbx n b cap)
  have hm : manyN n ≤ 600 := by have := hf; unfold fitB at this; exact (of_decide_eq_true this).2
  have hFt := rfits_any S n b cap _ (hN.below hb0)
  rw [hf] at hFt
  have hI := fun u (hb : Below w.heap.size w u) => is_any n S b cap u hok (hN.below hb)
  rw [isD_true hn] at hI
  have hS := fun u (hb : Below w.heap.size w u) => ((pc_any n hn hm).1 (by rw [hk]; decide)) S b cap u (hN.below hb)
  have hl := text_le hn hm
  have hk' : (n.k != 1) = false := by simpa using hk
  unfold textN at hS
  obtain ⟨T, hT⟩ : ∃ T, textT (showT n) = T := ⟨_, rfl⟩
  simp only [hT] at hS hl ⊢
  clear hf hN hk hn hok hm hT
  dsimp only [nbx] at hb0 hFt g0
  by_cases h4 : 4000 < T.length
  · rw [if_pos h4, if_pos h4]
    have h4' : (4000 : Int) < (T.length : Int) := by omega
    go_enter Tryz.func11, Tryz.ntmps11
    go_wp2_with (first | (go_at_call 17; refine hFt.mono ?_; rintro e w1 ⟨rfl, hb1⟩; have g1 := block_below hb1 g0; obtain ⟨c0, c1, c2, c3, f0, f1, f2, f3⟩ := in4 g1; have hb1w := ext_trans hb0 hb1) | (go_at_call 22; refine (hI _ hb1w).mono ?_; rintro e w2 ⟨rfl, hb2⟩; have g2 := block_below hb2 g1; obtain ⟨c0, c1, c2, c3, f0, f1, f2, f3⟩ := in4 g2; have hb2w := ext_trans hb1w hb2) | (go_at_call 23; refine (hS _ hb2w).mono ?_; rintro e w3 ⟨rfl, hb3⟩))
    go_ret2
    exact ⟨rfl, ext_trans hb2w hb3⟩
  · rw [if_neg h4, if_neg h4]
    have h4' : ¬ (4000 : Int) < (T.length : Int) := by omega
    go_enter Tryz.func11, Tryz.ntmps11
    go_wp2_with (first | (go_at_call 17; refine hFt.mono ?_; rintro e w1 ⟨rfl, hb1⟩; have g1 := block_below hb1 g0; obtain ⟨c0, c1, c2, c3, f0, f1, f2, f3⟩ := in4 g1; have hb1w := ext_trans hb0 hb1) | (go_at_call 22; refine (hI _ hb1w).mono ?_; rintro e w2 ⟨rfl, hb2⟩; have g2 := block_below hb2 g1; obtain ⟨c0, c1, c2, c3, f0, f1, f2, f3⟩ := in4 g2; have hb2w := ext_trans hb1w hb2) | (go_at_call 23; refine (hS _ hb2w).mono ?_; rintro e w3 ⟨rfl, hb3⟩))
    go_ret2
    exact ⟨rfl, ext_trans hb2w hb3⟩

set_option maxRecDepth 20000 in
set_option maxHeartbeats 1000000 in
/-- Both answer one thing. -/
theorem prints_of (n : Nd) (s : List UInt8) (c : Int) (b : Option Addr) (cap : Nat) (w : World)
    (h1 : ∀ u, Below w.heap.size w u → Calls Tryz.prog 10 #[ndv n b cap] u fun e w' => e = .returned (.tuple #[sk s, .int .i64 c]) ∧ Below u.heap.size u w')
    (h2 : ∀ u, Below w.heap.size w u → Calls Tryz.prog 11 #[ndv n b cap] u fun e w' => e = .returned (.tuple #[sk s, .int .i64 c]) ∧ Below u.heap.size u w') : Calls Tryz.prog 4 #[ndv n b cap] w fun e w' => e = .returned (.bool true) ∧ Below w.heap.size w w' := by
  have hb0 := ext_alloc (Below.refl w.heap.size w) (nbx n b cap)
  have g0 := alloc_new w (nbx n b cap)
  dsimp only [nbx] at hb0 g0
  go_enter Tryz.func4, Tryz.ntmps4
  go_wp2_with (first | (go_at_call 10; refine (h1 _ hb0).mono ?_; rintro e w1 ⟨rfl, hb1⟩; have g1 := block_below hb1 g0; obtain ⟨c0, c1, c2, c3, f0, f1, f2, f3⟩ := in4 g1; have hb1w := ext_trans hb0 hb1) | (go_at_call 11; refine (h2 _ hb1w).mono ?_; rintro e w2 ⟨rfl, hb2⟩))
  go_ret
  exact ⟨by simp, ext_trans hb1w hb2⟩

/-- The law. -/
theorem prints_any (n : Nd) (hok : fitB n = true → okN n) (S : Nat → Prop) (b : Option Addr) (cap : Nat) (w : World) (hE : ErrV w) (hsp : SpTab w) (hp : Lib.TabIs Tryz.prog w "internal/strconv.uint64pow10" .u64 Lib.pow10Tab) (hN : NdV S w n (ndv n b cap)) : Calls Tryz.prog 4 #[ndv n b cap] w fun e w' => e = .returned (.bool true) ∧ Below w.heap.size w w' := by
  cases hf : fitB n with
  | false => exact prints_of n [] 1 b cap w (fun u hb => print_big n hf S b cap u (hN.below hb)) (fun u hb => rprint_big n hf S b cap u (hN.below hb))
  | true =>
    have hm : manyN n ≤ 600 := by have := hf; unfold fitB at this; exact (of_decide_eq_true this).2
    by_cases hu : isK 1 n
    · exact prints_of n _ _ b cap w (fun u hb => print_yes n hf hu S b cap u (hE.on hb) (hsp.below hb) (Go.Joins.tab_stays (g := 5) (by kernel_rfl) hp hb (Nat.le_refl _)) (hN.below hb) (text_le hu.1 hm)) (fun u hb => rprint_yes n hf (hok hf) hu.2 hu.1 S b cap u (hN.below hb))
    · refine prints_of n [] 2 b cap w (fun u hb => print_form n hf hu (hok hf) S b cap u (hE.on hb) (hsp.below hb) (hN.below hb)) (fun u hb => ?_)
      by_cases hk : n.k = 1
      · exact rprint_form n hf (hok hf) hk (fun h => hu ⟨h, hk⟩) S b cap u (hN.below hb)
      · exact rprint_kind n hf hk S b cap u (hN.below hb)
end Go.Proofs.YtbdkiimggggndaaGreatDoor
