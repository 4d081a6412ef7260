/- The document's reader: a statement, a block, whole; a function. The program's reader: all of it, by what is at hand. The program's reader: what a deferred call makes of what was thrown. -/
import Derived.Test.YtbofdfdmikhanaaGreatDoorJ26
import Derived.Test.YtbofdfdmikhanaaGreatDoorJ27
import Derived.Test.YtbofdfdmikhanaaGreatDoorJ34
import Derived.Test.YtbofdfdmikhanaaGreatDoorJ14
import Derived.Defers
import Derived.Recover
namespace Go.Proofs.YtbofdfdmikhanaaGreatDoor
open Go.RowKit
open Go

theorem dstat_of (f : Nat) (hE : DRow f) (hK : DBlk f) (hX : DSim f) : DSt (f + 1) := by
  intro r Fin g B ts i w hF hR hP
  rw [P, ite_on] at hP
  by_cases a0 : tx (rest ts i) = W.local_
  · rw [if_pos a0] at hP
    simp only [on_on, need_on, needName_on, ok_on, rest_tail] at hP
    exact st_local f hE r Fin g B ts i w hF hR a0 hP
  rw [if_neg a0, ite_on] at hP
  by_cases a1 : tx (rest ts i) = W.if_
  · rw [if_pos a1] at hP
    simp only [on_on, need_on, ite_on, ok_on, rest_tail] at hP
    exact st_if f hE hK r Fin g B ts i w hF hR a0 a1 hP
  rw [if_neg a1, ite_on] at hP
  by_cases a2 : tx (rest ts i) = W.while_
  · rw [if_pos a2] at hP
    simp only [on_on, need_on, ok_on, rest_tail] at hP
    exact st_while f hE hK r Fin g B ts i w hF hR a0 a1 a2 hP
  rw [if_neg a2, ite_on] at hP
  by_cases a3 : tx (rest ts i) = W.for_
  · rw [if_pos a3] at hP
    simp only [on_on, need_on, needName_on, ok_on, rest_tail] at hP
    exact st_for f hE hK r Fin g B ts i w hF hR a0 a1 a2 a3 hP
  rw [if_neg a3, ite_on] at hP
  by_cases a4 : tx (rest ts i) = W.return_
  · rw [if_pos a4] at hP
    simp only [on_on, need_on, ok_on, rest_tail] at hP
    exact st_return f hE r Fin g B ts i w hF hR a0 a1 a2 a3 a4 hP
  rw [if_neg a4, ite_on] at hP
  by_cases a5 : tx (rest ts i) = W.emit_
  · rw [if_pos a5] at hP
    simp only [on_on, need_on, ok_on, rest_tail] at hP
    exact st_emit f hE r Fin g B ts i w hF hR a0 a1 a2 a3 a4 a5 hP
  rw [if_neg a5] at hP
  simp only [on_on, need_on, needName_on, ok_on] at hP
  exact st_simple f hX r Fin g B ts i w hF hR a0 a1 a2 a3 a4 a5 hP
theorem dst_all (f : Nat) : f ≤ 90000 → ∀ k, k ≤ f → DSt k := by
  induction f with
  | zero =>
    intro _ k hk
    obtain rfl : k = 0 := by omega
    exact fun _ _ _ _ _ _ _ _ _ h => by cases h
  | succ f ih =>
    intro hf k hk
    have ih' := ih (by omega)
    by_cases h : k ≤ f
    · exact ih' k h
    obtain rfl : k = f + 1 := by omega
    have hD := dexp_of f (by omega)
    exact dstat_of f (hD f (Nat.le_refl _)).row (dblock_of f (by omega) (fun m hm => ih' m (by omega))) (dsim_of f (by omega) (fun m hm => (hD m (by omega)).beh) (fun m hm => (hD m (by omega)).row))
theorem dblk_all (f : Nat) (hf : f ≤ 90000) : DBlk f := dblock_of f hf (fun k hk => dst_all f hf k (by omega))
theorem res16 {tm : Array Value} {W : World} {B : Nat} {a b c d : Value} (h : tm[2]?.getD undef = .pointer (some ⟨B, 0, none⟩)) (hx : W.heap[B]? = some (.cells #[a, b, c, d] 24)) : (results Tryz.f16 tm).run Tryz.prog W = .ok (.agg #[a, b, c, d]) W := by
  obtain ⟨c0, c1, c2, c3, _, _, _, _⟩ := in4 hx
  simp [results, Tryz.results16, go_sem, h, c0, c1, c2, c3]
theorem need_pos {s : List UInt8} {l : List PT} {g : List PT → PR} (h : tx l = s) : need s l g = g l.tail := by
  unfold need
  rw [if_pos h]
def DFun (f : Nat) : Prop := ∀ (r : PRes) (Fin : Nat → Prop) (g : Nd → List PT → PR) (B : Nat) (ts : List Tok) (i : Nat) (w : World), FinOK ts Fin r → Dr w B ts i false → (P f 10 nil0 0 (rest ts i)).on g = some r → Calls Tryz.prog 16 #[.pointer (some ⟨B, 0, none⟩)] w (NA no w B ts Fin r g)
/-- What follows behind the parameters. -/
def funK (f : Nat) (s : List UInt8) (g : Nd → List PT → PR) (ks : List Nd) (l : List PT) : PR := need S.rp l fun l => (P f 7 (nd 4 []) 0 l).on fun b l => need W.end_ l fun l => g ⟨2, s, 0, ks ++ [b]⟩ l
/-- Between two parameters. -/
def FpI (f t : Nat) (w : World) (B : Nat) (ts : List Tok) (Fin : Nat → Prop) (r : PRes) (s : List UInt8) (g : Nd → List PT → PR) (m : Nat) (mv : Value) (wr : World) : Prop :=
  ∃ (ks : List Nd) (b : Option Addr) (cap j : Nat) (bad more : Bool) (k : Nat), mv = .bool more ∧ NS w B t ts wr ⟨2, s, 0, ks⟩ b cap j bad ∧ k ≤ m ∧ (more = true → 1 ≤ m) ∧ ks.length + m ≤ f + 2 ∧ ((bad = true ∧ Fin j) ∨ (bad = false ∧ if more then (P k 11 ⟨2, s, 0, ks⟩ 0 (rest ts j)).on (fun n l => funK f s g n.kids l) = some r else funK f s g ks (rest ts j) = some r))
set_option maxRecDepth 20000 in
set_option maxHeartbeats 2000000 in
theorem dfun_of (f : Nat) (hf : f ≤ 90000) (hK : DBlk f) : DFun (f + 1) := by
  intro r Fin g B ts i w hF hR hP
  obtain ⟨i0, hi0, hz0, hz1, hz2⟩ := info_parts info24
  rw [P] at hP
  simp only [need_on, needName_on, ite_on, on_on, ok_on] at hP
  have hBw := hR.lt
  have hb0 : Below w.heap.size w (w.alloc zbx) := ext_alloc (Below.refl _ _) _
  have h2 := alloc_new w zbx
  have hM := must_any (s := W.function_) (by decide) hF (.inr ⟨rfl, hP⟩) _ (hR.below hb0)
  clear hP
  go_enter Tryz.func16, Tryz.ntmps16
  go_wp2_with (first | (go_at_call 30; refine hM.mono ?_; rintro e w1 ⟨rfl, j1, bad1, hR1, hk1, hFl1⟩) | (go_at_call 31; refine (rnm_any hF hFl1 _ hR1).mono ?_; rintro e w2 ⟨s, j2, bad2, rfl, hR2, hk2, hFl2⟩; refine Hid.out ?_))
  have hkA := hk1.trans hk2
  have z2 := hkA.box h2 (by omega)
  have hzA := block_lt z2
  have hb3 := ext_alloc (Below.refl w2.heap.size w2) (nbx ⟨2, s, 0, []⟩ none 0)
  have hS : NS w B w2.heap.size ts (w2.alloc (nbx ⟨2, s, 0, []⟩ none 0)) ⟨2, s, 0, []⟩ none 0 j2 bad2 := ⟨alloc_new _ _, block_below hb3 z2, Row.nil _ _, hR2.below hb3, ((Keeps.of_below hb0).trans hkA).trans (Keeps.of_below hb3), hzA, hBw⟩
  clear hM hR1 hR2 hk1 hk2 hkA hFl1 hb3 z2 h2
  refine Lib.hid ?_
  go_wp2_with (go_at_call 30; refine Hid.out ?_)
  obtain ⟨W3, hW3⟩ : ∃ W, w2.alloc (nbx ⟨2, s, 0, []⟩ none 0) = W := ⟨_, rfl⟩
  obtain ⟨t, ht⟩ : ∃ m, w2.heap.size = m := ⟨_, rfl⟩
  rw [hW3, ht] at hS
  replace hW3 : w2.alloc (.cells #[.int .i64 2, .string ⟨s.toArray⟩, .int .i64 0, .slice none 0 0] 24) = W3 := hW3
  rw [hW3, ht]
  rw [ht] at hzA
  clear hW3 ht
  refine Lib.hid ?_
  refine (hS.must (s := S.lp) (by decide) hF hFl2).mono ?_
  rintro e w5 ⟨rfl, j5, bad5, hS5, hFl5⟩
  have hT := text_any B ts j5 bad5 w5 hS5.R
  clear hS hFl2
  by_cases hrp : txd ts j5 bad5 = S.rp
  · obtain ⟨rfl, hi5⟩ := txd_lt hrp (by decide)
    rw [hrp] at hT
    have hFl6 : Fl ts Fin r j5 false (fun l => funK f s g [] l) := by
      rcases hFl5 with ⟨h, _⟩ | ⟨_, h⟩
      · cases h
      · refine .inr ⟨rfl, ?_⟩
        dsimp only at h
        rw [if_pos (show tx (rest ts j5) = S.rp from hrp)] at h
        unfold funK
        dsimp only
        rw [need_pos (show tx (rest ts j5) = S.rp from hrp)]
        exact h
    obtain ⟨ks, hks⟩ : ∃ l : List Nd, [] = l := ⟨_, rfl⟩
    have hl0 : ks.length ≤ 100000 := by rw [← hks]; simp
    go_wp2_with (go_at_call 32; refine hT.mono ?_; rintro e w6 ⟨rfl, hb6⟩; have hS7 := hS5.below hb6; refine Hid.out ?_)
    rw [hks] at hS7 hFl6
    unfold funK at hFl6
    clear hks hFl5 hS5 hT hrp
    refine Lib.hid ?_
    go_wp2_with (first | (go_at_call 30; refine (hS7.must (s := S.rp) (by decide) hF hFl6).mono ?_; rintro e w3 ⟨rfl, j3, bad3, hS3, hFl3⟩) | (go_at_call 34; refine (hS3.block hK hF _ hFl3).mono ?_; rintro e w4 ⟨y, by1, cy, j4, bad4, rfl, hS4, hy4, hFl4⟩; refine Hid.out ?_))
    have hb5 := ext_alloc (ext_alloc (Below.refl w4.heap.size w4) (nbx y by1 cy)) (nbx y by1 cy)
    have hnew := alloc_new (w4.alloc (nbx y by1 cy)) (nbx y by1 cy)
    rw [World.size_alloc] at hnew
    have hS5 := hS4.below hb5
    have hy5 := hy4.below hb5
    obtain ⟨c0, c1, c2, c3, f0, f1, f2, f3⟩ := in4 hS4.g
    obtain ⟨x0, x1, x2, x3, y0, y1, y2, y3⟩ := in4a hS4.g
    refine Lib.hid ?_
    go_wp2_with (at_builtin; refine Hid.out ?_)
    obtain ⟨Wq, hWq⟩ : ∃ V, (w4.alloc (nbx y by1 cy)).alloc (nbx y by1 cy) = V := ⟨_, rfl⟩
    rw [hWq] at hnew hS5 hy5
    replace hWq : (w4.alloc (.cells #[.int .i64 y.k, .string ⟨y.t.toArray⟩, .int .i64 y.n, .slice by1 y.kids.length cy] 24)).alloc (.cells #[.int .i64 y.k, .string ⟨y.t.toArray⟩, .int .i64 y.n, .slice by1 y.kids.length cy] 24) = Wq := hWq
    rw [hWq]
    obtain ⟨xs, ho, hn⟩ := hS5.ready
    dsimp only at ho hn hy5
    have q35 := hS5.g
    have htl := hS5.lt
    have hne3 : some t ≠ Value.ownBlock (.slice none ks.length 0) := fun e => by have := (hS5.own _ e.symm).1; omega
    have hn1 : ks.length + 1 ≤ maxLen := by unfold maxLen; omega
    have hb1 : (ks.length + 1) * 56 ≤ 140737488355328 := by omega
    clear hWq hb5 c0 c1 c2 c3 f0 f1 f2 f3 x0 x1 x2 x3 y0 y1 y2 y3
    refine Lib.hid ?_
    go_wp2_with (first | (at_builtin; refine wpList_append_lies _ (by rfl) _ _ _ (by rfl) 0 24 i0 _ 4 56 Tryz.underlying22 hi0 hz0 hz1 hz2 rfl (by omega) (.slice none ks.length 0) ks.length _ (by rfl) ho ⟨w4.heap.size + 1, 0, none⟩ 1 1 _ (by rfl) (by rfl) (cells_of y by1 cy hnew) (by simp [Value.oneCell']) (by omega) hn1 hb1 (Nat.zero_le _) _ rfl ?_; intro g3 cap3 w5 hown1 hgrow hat1 hlt1; have p3w := (hgrow.block _ (block_lt q35) hne3).trans q35; obtain ⟨c0, c1, c2, c3, f0, f1, f2, f3⟩ := in4 p3w) | (go_at_call 30; refine Hid.out ?_))
    obtain ⟨W6, hW6⟩ : ∃ W, w5.setCell ⟨t, 3, none⟩ (.slice (some ⟨g3, 0, none⟩) (ks.length + 1) cap3) = W := ⟨_, rfl⟩
    have hS6 := hS5.app ho hn hy5 hown1 hgrow hat1 hW6
    rw [hW6]
    clear hW6 hown1 hgrow hat1 hlt1 ho hn hy5 hS5 q35 hnew c0 c1 c2 c3 f0 f1 f2 f3 p3w
    refine Lib.hid ?_
    refine (hS6.must (s := W.end_) (by decide) hF hFl4).mono ?_
    rintro e w9 ⟨rfl, j2, bad2, hS2, hFl2⟩
    obtain ⟨c0, c1, c2, c3, f0, f1, f2, f3⟩ := in4 hS2.g
    obtain ⟨d0, d1, d2, d3, e0, e1, e2, e3⟩ := in4 hS2.z
    go_wp2
    refine bodyPost_ret (res16 rfl (put4_same _ _ _ _ hS2.z)) rfl ?_
    rw [show ks.length + 1 = (ks ++ [y]).length by simp]
    exact hS2.close hFl2
  · have hFl6 : Fl ts Fin r j5 bad5 (fun l => (P f 11 ⟨2, s, 0, []⟩ 0 l).on (fun n l => funK f s g n.kids l)) := by
      rcases hFl5 with h | ⟨rfl, h⟩
      · exact .inl h
      · refine .inr ⟨rfl, ?_⟩
        dsimp only at h
        rw [if_neg (show ¬ tx (rest ts j5) = S.rp from hrp)] at h
        exact h
    have hI : ∀ u, Below w5.heap.size w5 u → FpI f t w B ts Fin r s g (f + 1) (.bool true) u := fun u hb => by
      refine ⟨[], none, 0, j5, bad5, true, f, rfl, hS5.below hb, by omega, by omega, by simp, ?_⟩
      rcases hFl6 with h | ⟨h1, h2⟩
      · exact .inl h
      · exact .inr ⟨h1, by rw [if_pos rfl]; exact h2⟩
    obtain ⟨tt, htt⟩ : ∃ v, txd ts j5 bad5 = v := ⟨_, rfl⟩
    rw [htt] at hT hrp
    have hne : (tt == [41]) = false := by simpa using hrp
    clear hFl5 hFl6 hS5 htt hrp
    go_wp2_with (go_at_call 32; refine hT.mono ?_; rintro e w6 ⟨rfl, hb6⟩; have hI6 := hI _ hb6)
    clear hI hT
    go_loopg [4] (f + 1) (fun k mv wr => FpI f t w B ts Fin r s g k mv wr)
    case atStart => exact hI6
    case round =>
      obtain ⟨ks, b, cap, j, bad, more, k, rfl, hS, hkm, hm1, hlen, hst⟩ := hrel
      clear hI6
      have hl0 : ks.length ≤ 100000 := by omega
      cases more with
      | false =>
        have hFl : Fl ts Fin r j bad (fun l => funK f s g ks l) := by
          rcases hst with h | ⟨h1, h2⟩
          · exact .inl h
          · exact .inr ⟨h1, by rw [if_neg (by decide)] at h2; exact h2⟩
        unfold funK at hFl
        clear hst
        go_wp2_with (first | (go_at_call 30; refine (hS.must (s := S.rp) (by decide) hF hFl).mono ?_; rintro e w3 ⟨rfl, j3, bad3, hS3, hFl3⟩) | (go_at_call 34; refine (hS3.block hK hF _ hFl3).mono ?_; rintro e w4 ⟨y, by1, cy, j4, bad4, rfl, hS4, hy4, hFl4⟩; refine Hid.out ?_))
        have hb5 := ext_alloc (ext_alloc (Below.refl w4.heap.size w4) (nbx y by1 cy)) (nbx y by1 cy)
        have hnew := alloc_new (w4.alloc (nbx y by1 cy)) (nbx y by1 cy)
        rw [World.size_alloc] at hnew
        have hS5 := hS4.below hb5
        have hy5 := hy4.below hb5
        obtain ⟨c0, c1, c2, c3, f0, f1, f2, f3⟩ := in4 hS4.g
        obtain ⟨x0, x1, x2, x3, y0, y1, y2, y3⟩ := in4a hS4.g
        refine Lib.hid ?_
        go_wp2_with (at_builtin; refine Hid.out ?_)
        obtain ⟨Wq, hWq⟩ : ∃ V, (w4.alloc (nbx y by1 cy)).alloc (nbx y by1 cy) = V := ⟨_, rfl⟩
        rw [hWq] at hnew hS5 hy5
        replace hWq : (w4.alloc (.cells #[.int .i64 y.k, .string ⟨y.t.toArray⟩, .int .i64 y.n, .slice by1 y.kids.length cy] 24)).alloc (.cells #[.int .i64 y.k, .string ⟨y.t.toArray⟩, .int .i64 y.n, .slice by1 y.kids.length cy] 24) = Wq := hWq
        rw [hWq]
        obtain ⟨xs, ho, hn⟩ := hS5.ready
        dsimp only at ho hn hy5
        have q35 := hS5.g
        have htl := hS5.lt
        have hne3 : some t ≠ Value.ownBlock (.slice b ks.length cap) := fun e => by have := (hS5.own _ e.symm).1; omega
        have hn1 : ks.length + 1 ≤ maxLen := by unfold maxLen; omega
        have hb1 : (ks.length + 1) * 56 ≤ 140737488355328 := by omega
        clear hWq hb5 c0 c1 c2 c3 f0 f1 f2 f3 x0 x1 x2 x3 y0 y1 y2 y3
        refine Lib.hid ?_
        go_wp2_with (first | (at_builtin; refine wpList_append_lies _ (by rfl) _ _ _ (by rfl) 0 24 i0 _ 4 56 Tryz.underlying22 hi0 hz0 hz1 hz2 rfl (by omega) (.slice b ks.length cap) ks.length _ (by rfl) ho ⟨w4.heap.size + 1, 0, none⟩ 1 1 _ (by rfl) (by rfl) (cells_of y by1 cy hnew) (by simp [Value.oneCell']) (by omega) hn1 hb1 (Nat.zero_le _) _ rfl ?_; intro g3 cap3 w5 hown1 hgrow hat1 hlt1; have p3w := (hgrow.block _ (block_lt q35) hne3).trans q35; obtain ⟨c0, c1, c2, c3, f0, f1, f2, f3⟩ := in4 p3w) | (go_at_call 30; refine Hid.out ?_))
        obtain ⟨W6, hW6⟩ : ∃ W, w5.setCell ⟨t, 3, none⟩ (.slice (some ⟨g3, 0, none⟩) (ks.length + 1) cap3) = W := ⟨_, rfl⟩
        have hS6 := hS5.app ho hn hy5 hown1 hgrow hat1 hW6
        rw [hW6]
        clear hW6 hown1 hgrow hat1 hlt1 ho hn hy5 hS5 q35 hnew c0 c1 c2 c3 f0 f1 f2 f3 p3w
        refine Lib.hid ?_
        refine (hS6.must (s := W.end_) (by decide) hF hFl4).mono ?_
        rintro e w9 ⟨rfl, j2, bad2, hS2, hFl2⟩
        obtain ⟨c0, c1, c2, c3, f0, f1, f2, f3⟩ := in4 hS2.g
        obtain ⟨d0, d1, d2, d3, e0, e1, e2, e3⟩ := in4 hS2.z
        go_wp2
        refine bodyPost_ret (res16 rfl (put4_same _ _ _ _ hS2.z)) rfl ?_
        rw [show ks.length + 1 = (ks ++ [y]).length by simp]
        exact hS2.close hFl2
      | true =>
        have hFl : Fl ts Fin r j bad (fun l => needName l fun s1 l => (if tx l = S.cm then P (k - 1) 11 ⟨2, s, 0, ks ++ [⟨3, s1, 0, []⟩]⟩ 0 l.tail else .ok ⟨2, s, 0, ks ++ [⟨3, s1, 0, []⟩]⟩ l).on (fun n l => funK f s g n.kids l)) := by
          rcases hst with h | ⟨h1, h2⟩
          · exact .inl h
          · rw [if_pos rfl] at h2
            cases k with
            | zero => cases h2
            | succ k =>
              rw [P, needName_on] at h2
              exact .inr ⟨h1, h2⟩
        obtain ⟨c0, c1, c2, c3, f0, f1, f2, f3⟩ := in4 hS.g
        have hm2 := hm1 rfl
        have hn1 : ks.length + 1 ≤ maxLen := by unfold maxLen; omega
        have hb1 : (ks.length + 1) * 56 ≤ 140737488355328 := by omega
        have hzt := hS.lt
        clear hst hm1
        cases gk with
        | zero => omega
        | succ m =>
        clear hm2
        go_wp2
        go_region_law (first
            | (refine step_append_lies _ (by rfl) _ _ _ (by rfl) 0 24 i0 _ 4 56 Tryz.underlying22 hi0 hz0 hz1 hz2 rfl (by omega) (.slice b ks.length cap) ks.length _ (by rfl) ho ⟨w2.heap.size, 0, none⟩ 1 1 _ (by rfl) (by rfl) (cells_of ⟨3, s1, 0, []⟩ none 0 (alloc_new w2 (nbx ⟨3, s1, 0, []⟩ none 0))) (by simp [Value.oneCell']) (by omega) hn1 hb1 (Nat.zero_le _) _ rfl ?_; intro g3 cap3 w3 hown3 hgrow hat hlt3; have p3w := (hgrow.block _ (block_lt p3) hne3).trans p3; obtain ⟨c0, c1, c2, c3, f0, f1, f2, f3⟩ := in4 p3w)
            | (go_simp; go_at_call 31; refine ((hS.below ((Below.refl _ _).drew)).name hF hFl).mono ?_; rintro e w2 ⟨s1, j1, bad1, rfl, hS1, hFl1⟩; have hSa := hS1.below (ext_alloc (Below.refl _ _) (nbx ⟨3, s1, 0, []⟩ none 0)); obtain ⟨c0, c1, c2, c3, f0, f1, f2, f3⟩ := in4 hS1.g; obtain ⟨d0, d1, d2, d3, e0, e1, e2, e3⟩ := in4a hS1.g; obtain ⟨xs, ho, hn⟩ := hSa.ready; dsimp only at ho hn; have p3 := hSa.g; have hne3 : some t ≠ Value.ownBlock (.slice b ks.length cap) := fun e => by have := (hSa.own _ e.symm).1; omega))
        all_goals
          clear c0 c1 c2 c3 f0 f1 f2 f3 d0 d1 d2 d3 e0 e1 e2 e3 p3w
          obtain ⟨W4, hW4⟩ : ∃ W4, w3.setCell ⟨t, 3, none⟩ (.slice (some ⟨g3, 0, none⟩) (ks.length + 1) cap3) = W4 := ⟨_, rfl⟩
          have hS4 := hSa.app ho hn (ndV_leaf _ _ 3 s1 0) hown3 hgrow hat hW4
          have hEt := hS4.eat S.cm (by decide)
          replace hFl1 : Hid _ := hFl1
          clear hown3 hgrow hat hlt3 ho hn p3 hS1 hSa hFl hS
          refine Lib.hid ?_
          go_wp2_with (go_at_call 33; refine hEt.mono ?_; rintro e w6 ⟨y, j6, rfl, hS6, hY⟩)
          have hFl2 := hFl1.out
          have hst : (bad1 = true ∧ Fin j6) ∨ (bad1 = false ∧ if y then (P (k - 1) 11 ⟨2, s, 0, ks ++ [⟨3, s1, 0, []⟩]⟩ 0 (rest ts j6)).on (fun n l => funK f s g n.kids l) = some r else funK f s g (ks ++ [⟨3, s1, 0, []⟩]) (rest ts j6) = some r) := by
            rcases hFl2 with ⟨h0, h1⟩ | ⟨h0, h1⟩
            · subst h0
              rcases hY with ⟨_, h, _⟩ | ⟨_, _, rfl⟩
              · cases h
              · exact .inl ⟨rfl, h1⟩
            · subst h0
              refine .inr ⟨rfl, ?_⟩
              rcases hY with ⟨rfl, _, h2, rfl⟩ | ⟨rfl, h2, rfl⟩
              · rw [if_pos h2, rest_tail] at h1
                rw [if_pos rfl]
                exact h1
              · rw [if_neg (show ¬ tx (rest ts j6) = S.cm from h2)] at h1
                rw [if_neg (by decide)]
                exact h1
          have hmm : y = true → 1 ≤ m := by
            intro e
            subst e
            rcases hY with ⟨_, h, _⟩ | ⟨h, _⟩
            · subst h
              rcases hst with ⟨h, _⟩ | ⟨_, h⟩
              · cases h
              · rw [if_pos rfl] at h
                by_cases hk0 : k - 1 = 0
                · rw [hk0] at h
                  cases h
                · omega
            · cases h
          go_roundg m
          case measure => omega
          case rel => exact ⟨ks ++ [⟨3, s1, 0, []⟩], _, _, j6, bad1, y, k - 1, rfl, hS6, by omega, hmm, by simp; omega, hst⟩
end Go.Proofs.YtbofdfdmikhanaaGreatDoor
namespace Go.Proofs.YtbofdfdmikhanaaGreatDoor
open Go.RowKit
open Go

structure AllC (f : Nat) : Prop where
  row : RowC f
  sgn : SgnC f
  sim : SimC f
  suf : SufC f
  blk : BlkC f
  st : StatC f
  fn : FunC f
theorem P_zero {tag : Nat} {x : Nd} {a : Nat} {l : List PT} {r : PRes} (h : P 0 tag x a l = some r) : False := by
  rw [P] at h
  cases h
theorem all_zero : AllC 0 where
  row := fun _ _ _ _ _ _ _ _ h => (P_zero h).elim
  sgn := fun _ _ _ _ _ _ h => (P_zero h).elim
  sim := fun _ _ _ _ _ _ h => (P_zero h).elim
  suf := fun _ _ _ _ _ _ _ _ _ _ _ _ h => (P_zero h).elim
  blk := fun _ _ _ _ _ _ h => (P_zero h).elim
  st := fun _ _ _ _ _ _ h => (P_zero h).elim
  fn := fun _ _ _ _ _ _ h => (P_zero h).elim
theorem all_of (f : Nat) : f ≤ 100000 → ∀ g, g ≤ f → AllC g := by
  induction f with
  | zero =>
    intro _ g hg
    obtain rfl : g = 0 := by omega
    exact all_zero
  | succ f ih =>
    intro hf g hg
    rcases Nat.lt_or_ge f g with h | h
    · obtain rfl : g = f + 1 := by omega
      have A := fun g hg => ih (by omega) g hg
      have Af := A f (Nat.le_refl _)
      have E := fun g hg => expr_of g (A g hg).row
      exact ⟨row_of f (fun g hg => (A g hg).row) Af.sgn, sgn_of f Af.sim (fun g hg => (A g (by omega)).suf) Af.sgn, sim_of f (E f (Nat.le_refl _)), suf_of f E, block_of (f + 1) hf (fun g hg => (A g (by omega)).st), stat_of f E (fun g hg => (A g hg).suf) Af.blk, fun_of f Af.blk⟩
    · exact ih (by omega) g h
theorem read_unit (r : PRes) (B : Nat) (ts : List Tok) (w : World) (hC : Ctx w B ts 0) (hP : P 64012 12 (nd 1 []) 0 (ts.map pt) = some r) : Calls Tryz.prog 27 #[.pointer (some ⟨B, 0, none⟩)] w (PAns no w B ts r) :=
  unit_of 64012 (by omega) (fun g hg => (all_of 64012 (by omega) g (by omega)).fn) r B ts 0 w hC hP
end Go.Proofs.YtbofdfdmikhanaaGreatDoor
namespace Go.Proofs.YtbofdfdmikhanaaGreatDoor
open Go.RowKit
open Go

theorem wp_any {c : Code} {P : Program} {a : Act} {w : World} {Q : Exit → Act → World → Prop} {R : Act → World → Prop} (h : ∀ Q' : Exit → Act → World → Prop, (∀ a' w', R a' w' → Q' .normal a' w') → c.wp P Q' a w) (hq : ∀ a' w', R a' w' → Q .normal a' w') : c.wp P Q a w := h Q hq
set_option maxRecDepth 20000 in
set_option maxHeartbeats 400000 in
theorem catch_idle (p q : Addr) (w : World) :
    CallsD Tryz.prog 26 #[.pointer (some p), .pointer (some q)] .returning w fun e u' w' => e = .returned (.tuple #[]) ∧ u' = .returning ∧ w' = w := by
  refine callsD_of_wpS Tryz.func26 rfl fun c₀ cs hu => ?_
  apply wpS_seq
  apply wpS_region
  simp [wpOpsS, go_sem, recoverD, hu, Tryz.ntmps26, Exit.thenS]
  refine wpS_of_wp ?_
  refine wp_any (R := fun a' w' => a'.defers = [] ∧ w' = w) (fun Q hQ => ?_) ?_
  · clear hu
    have hf : #[Value.pointer (some p), .pointer (some q)] ++ (Array.replicate 18 undef).setIfInBounds 4 Value.nilIface = #[.pointer (some p), .pointer (some q), undef, undef, undef, undef, .nilIface, undef, undef, undef, undef, undef, undef, undef, undef, undef, undef, undef, undef, undef] := by kernel_rfl
    rw [hf]
    clear hf
    go_wp2
  · rintro a' w' ⟨h1, rfl⟩
    cases c₀
    simp_all [bodyPostS, results, Tryz.results26]
set_option maxRecDepth 20000 in
set_option maxHeartbeats 400000 in
theorem catch_stray (b : Nat) (q : Addr) (a : Int) (A0 A1 : Value) (older : List PanicEntry) (w : World) (hc : w.heap[b]? = some (.cells #[A0, A1] 27)) :
    CallsD Tryz.prog 26 #[.pointer (some ⟨b, 0, none⟩), .pointer (some q)] (.panicking ({ v := .iface 62 (.agg #[.int .i64 a]), recovered := false } :: older)) w fun e u' w' => e = .returned (.tuple #[]) ∧ u' = .panicking ({ v := .iface 62 (.agg #[.int .i64 a]), recovered := true } :: older) ∧ w' = ((w.setCell ⟨b, 0, none⟩ (.int .i64 2)).setCell ⟨b, 1, none⟩ (.int .i64 a)).alloc (.cells #[.int .i64 a] 62) := by
  have hb := block_lt hc
  have c0 := cell_block (i := 0) hc rfl
  have c1 := cell_block (i := 1) hc rfl
  have f0 := frozen_block (i := 0) hc
  have f1 := frozen_block (i := 1) hc
  have n1 : ¬ b = w.heap.size := by omega
  have y1 : ∀ u : World, (Instr.typeAssert (.iface 62 (.agg #[.int .i64 a])) 20 62 true).run Tryz.prog u = .ok (.tuple #[.agg #[.int .i64 a], .bool true]) u := fun _ => by kernel_rfl
  have n2 : ¬ w.heap.size = b := by omega
  refine callsD_of_wpS Tryz.func26 rfl fun c₀ cs hu => ?_
  apply wpS_seq
  apply wpS_region
  simp [wpOpsS, go_sem, recoverD, hu, Tryz.ntmps26, Exit.thenS]
  refine wpS_of_wp ?_
  refine wp_any (R := fun a' w' => a'.defers = [] ∧ w' = ((w.setCell ⟨b, 0, none⟩ (.int .i64 2)).setCell ⟨b, 1, none⟩ (.int .i64 a)).alloc (.cells #[.int .i64 a] 62)) (fun Q hQ => ?_) ?_
  · clear hu
    have hf : #[Value.pointer (some ⟨b, 0, none⟩), .pointer (some q)] ++ (Array.replicate 18 undef).setIfInBounds 4 (Value.iface 62 (.agg #[.int .i64 a])) = #[.pointer (some ⟨b, 0, none⟩), .pointer (some q), undef, undef, undef, undef, .iface 62 (.agg #[.int .i64 a]), undef, undef, undef, undef, undef, undef, undef, undef, undef, undef, undef, undef, undef] := by kernel_rfl
    rw [hf]
    clear hf hc
    go_wp2
  · rintro a' w' ⟨h1, rfl⟩
    cases c₀
    simp_all [bodyPostS, results, Tryz.results26]
set_option maxRecDepth 20000 in
set_option maxHeartbeats 400000 in
theorem catch_ended (b : Nat) (q : Addr) (a : Int) (A0 A1 : Value) (older : List PanicEntry) (w : World) (hc : w.heap[b]? = some (.cells #[A0, A1] 27)) (hq : w.cell? q = some (.int .i64 a)) (hq0 : ∃ g, q = ⟨g, 0, none⟩) :
    CallsD Tryz.prog 26 #[.pointer (some ⟨b, 0, none⟩), .pointer (some q)] (.panicking ({ v := .iface 64 (.agg #[]), recovered := false } :: older)) w fun e u' w' => e = .returned (.tuple #[]) ∧ u' = .panicking ({ v := .iface 64 (.agg #[]), recovered := true } :: older) ∧ w' = ((w.setCell ⟨b, 0, none⟩ (.int .i64 2)).setCell ⟨b, 1, none⟩ (.int .i64 a)).alloc (.cells #[] 64) := by
  have hb := block_lt hc
  have c0 := cell_block (i := 0) hc rfl
  have c1 := cell_block (i := 1) hc rfl
  have f0 := frozen_block (i := 0) hc
  have f1 := frozen_block (i := 1) hc
  have n1 : ¬ b = w.heap.size := by omega
  obtain ⟨g, rfl⟩ := hq0
  have hqa := fun o => cellB (ext_alloc (Below.refl _ w) o) hq
  have y1 : ∀ u : World, (Instr.typeAssert (.iface 64 (.agg #[])) 20 62 true).run Tryz.prog u = .ok (.tuple #[.agg #[.int .i64 0], .bool false]) u := fun _ => by kernel_rfl
  have y2 : ∀ u : World, (Instr.typeAssert (.iface 64 (.agg #[])) 20 64 true).run Tryz.prog u = .ok (.tuple #[.agg #[], .bool true]) u := fun _ => by kernel_rfl
  have n2 : ¬ w.heap.size = b := by omega
  refine callsD_of_wpS Tryz.func26 rfl fun c₀ cs hu => ?_
  apply wpS_seq
  apply wpS_region
  simp [wpOpsS, go_sem, recoverD, hu, Tryz.ntmps26, Exit.thenS]
  refine wpS_of_wp ?_
  refine wp_any (R := fun a' w' => a'.defers = [] ∧ w' = ((w.setCell ⟨b, 0, none⟩ (.int .i64 2)).setCell ⟨b, 1, none⟩ (.int .i64 a)).alloc (.cells #[] 64)) (fun Q hQ => ?_) ?_
  · clear hu
    have hf : #[Value.pointer (some ⟨b, 0, none⟩), .pointer (some ⟨g, 0, none⟩)] ++ (Array.replicate 18 undef).setIfInBounds 4 (Value.iface 64 (.agg #[])) = #[.pointer (some ⟨b, 0, none⟩), .pointer (some ⟨g, 0, none⟩), undef, undef, undef, undef, .iface 64 (.agg #[]), undef, undef, undef, undef, undef, undef, undef, undef, undef, undef, undef, undef, undef] := by kernel_rfl
    rw [hf]
    clear hf hc
    go_wp2
  · rintro a' w' ⟨h1, rfl⟩
    cases c₀
    simp_all [bodyPostS, results, Tryz.results26]
end Go.Proofs.YtbofdfdmikhanaaGreatDoor
